/-
  Ti: my texts of that device in one, in a namespace of its own. Made by wip/tools/merge.py.
-/
import Derived.Test.YtkodoldkfeopdaaGreatVRow
import Derived.Test.YtkodoldkfeopdaaGreatDTimer
import Derived.Laws.BitsAllLaws
import Derived.Laws.DeepBits32
/- Rticks -/
namespace Go.Proofs.YtkodoldkfeopdaaGreat.Ti
open Go.RowKit
set_option linter.unusedVariables false
set_option maxRecDepth 100000
end Go.Proofs.YtkodoldkfeopdaaGreat.Ti
/- Rnext -/
namespace Go.Proofs.YtkodoldkfeopdaaGreat.Ti
open Go.RowKit
set_option linter.unusedVariables false
set_option maxRecDepth 100000
/-- Behind k ticks that ask for nothing. -/
def onT (t : Tm) (k : Nat) : Tm := if t.c % 2 = 0 then t else ⟨(t.a + k) % 65536, t.b, t.c⟩
theorem onT_ok {t : Tm} (h : t.ok) (k : Nat) : (onT t k).ok := by
  unfold onT
  split
  · exact h
  · exact ⟨by show (t.a + k) % 65536 < 65536; omega, h.b, h.c⟩
theorem onT_zero {t : Tm} (h : t.ok) : onT t 0 = t := by
  unfold onT
  split
  · rfl
  · have := h.a
    rw [Nat.add_zero, Nat.mod_eq_of_lt this]
/-- The next one asks just if it is the one that nextT says. -/
theorem onT_asks {t : Tm} (h : t.ok) (k : Nat) (hk : k < 65536) : asksT (onT t k) = decide (k + 1 = nextT t) := by
  have h1 := h.a
  have h2 := h.b
  unfold asksT onT nextT
  by_cases hr : t.c % 2 = 0
  · rw [if_pos hr, if_pos hr, decide_eq_false (by omega), Bool.false_and, decide_eq_false (by omega)]
  · rw [if_neg hr, if_neg hr, decide_eq_true (show t.c % 2 = 1 by omega), Bool.true_and, decide_eq_decide]
    show ((t.a + k) % 65536 + 1) % 65536 = t.b ↔ _
    omega
theorem onT_tick {t : Tm} (h : t.ok) (k : Nat) (hn : asksT (onT t k) = false) : tickT (onT t k) = onT t (k + 1) := by
  unfold asksT at hn
  unfold tickT
  by_cases hr : t.c % 2 = 0
  · have e : ∀ j, onT t j = t := fun j => if_pos hr
    rw [e, e, if_pos hr]
  · have e : ∀ j, onT t j = ⟨(t.a + j) % 65536, t.b, t.c⟩ := fun j => if_neg hr
    rw [e] at hn ⊢
    rw [e, if_neg hr]
    rw [show decide (t.c % 2 = 1) = true from decide_eq_true (by omega), Bool.true_and, decide_eq_false_iff_not] at hn
    rw [if_neg hn]
    show Tm.mk (((t.a + k) % 65536 + 1) % 65536) t.b t.c = Tm.mk ((t.a + (k + 1)) % 65536) t.b t.c
    rw [show ((t.a + k) % 65536 + 1) % 65536 = (t.a + (k + 1)) % 65536 by omega]
theorem nextT_le (t : Tm) : nextT t ≤ 65536 := by
  unfold nextT
  split <;> omega
end Go.Proofs.YtkodoldkfeopdaaGreat.Ti
/- Per -/
namespace Go.Proofs.YtkodoldkfeopdaaGreat.Ti
open Go.RowKit
set_option linter.unusedVariables false
set_option maxRecDepth 100000
theorem still {t : Tm} (h : t.c % 2 = 0) : ∀ n, ticksT t n = t ∧ countT t n = 0
  | 0 => ⟨rfl, rfl⟩
  | n + 1 => by
    obtain ⟨e1, e2⟩ := still h n
    have ha : asksT t = false := by unfold asksT; rw [decide_eq_false (by omega)]; rfl
    refine ⟨?_, ?_⟩
    · rw [ticksT, e1]
      exact if_pos h
    · rw [countT, e1, e2, ha]
      rfl
theorem nextT_run {t : Tm} (h : t.c % 2 = 1) : nextT t = (t.b + 65535 - t.a) % 65536 + 1 := if_neg (by omega)
theorem ticks_before {t : Tm} (h : t.ok) (hr : t.c % 2 = 1) : ∀ n, n < nextT t → ticksT t n = onT t n ∧ countT t n = 0
  | 0, _ => ⟨(onT_zero h).symm, rfl⟩
  | n + 1, hn => by
    obtain ⟨e1, e2⟩ := ticks_before h hr n (by omega)
    have hl := nextT_le t
    have ha : asksT (onT t n) = false := by rw [onT_asks h n (by omega)]; exact decide_eq_false (by omega)
    refine ⟨?_, ?_⟩
    · rw [ticksT, e1, onT_tick h n ha]
    · rw [countT, e1, e2, ha]
      rfl
theorem ticks_first {t : Tm} (h : t.ok) (hr : t.c % 2 = 1) : ticksT t (nextT t) = ⟨0, t.b, if t.c / 2 % 2 = 0 then t.c - 1 else t.c⟩ ∧ countT t (nextT t) = 1 := by
  have h1 := h.a
  have h2 := h.b
  have hl := nextT_le t
  have hn := nextT_run hr
  generalize hm : (t.b + 65535 - t.a) % 65536 = m at hn
  rw [hn]
  obtain ⟨e1, e2⟩ := ticks_before h hr m (by omega)
  have ha : asksT (onT t m) = true := by rw [onT_asks h m (by omega)]; exact decide_eq_true hn.symm
  have ho : onT t m = ⟨(t.a + m) % 65536, t.b, t.c⟩ := if_neg (by omega)
  refine ⟨?_, ?_⟩
  · rw [ticksT, e1, ho]
    unfold tickT
    rw [if_neg (show ¬ t.c % 2 = 0 by omega), if_pos (show ((t.a + m) % 65536 + 1) % 65536 = t.b by omega)]
  · rw [countT, e1, e2, ha]
    rfl
/-- How many ticks a round has. -/
def perT (b : Nat) : Nat := if b = 0 then 65536 else b
theorem next_zero {b c : Nat} (hb : b < 65536) (hc : c % 2 = 1) : nextT ⟨0, b, c⟩ = perT b := by
  rw [nextT_run hc]
  show (b + 65535 - 0) % 65536 + 1 = perT b
  unfold perT
  split <;> omega
theorem perT_pos (b : Nat) : 0 < perT b := by
  unfold perT
  split <;> omega
section
variable {b c : Nat} (hb : b < 65536) (hc : c < 65536) (hr : c % 2 = 1) (ha : c / 2 % 2 = 1)
include hb hc hr ha
theorem ticks_round : ∀ q, ticksT ⟨0, b, c⟩ (perT b * q) = ⟨0, b, c⟩ ∧ countT ⟨0, b, c⟩ (perT b * q) = q
  | 0 => ⟨rfl, rfl⟩
  | q + 1 => by
    obtain ⟨e1, e2⟩ := ticks_round q
    obtain ⟨f1, f2⟩ := ticks_first (t := ⟨0, b, c⟩) ⟨Nat.zero_lt_succ _, hb, hc⟩ hr
    rw [next_zero hb hr] at f1 f2
    rw [Nat.mul_succ, ticksT_add, countT_add, e1, e2]
    refine ⟨?_, ?_⟩
    · rw [f1]
      show Tm.mk 0 b (if c / 2 % 2 = 0 then c - 1 else c) = Tm.mk 0 b c
      rw [if_neg (by omega)]
    · rw [f2]
theorem ticks_rest (q r : Nat) (hq : r < perT b) : ticksT ⟨0, b, c⟩ (perT b * q + r) = ⟨r, b, c⟩ ∧ countT ⟨0, b, c⟩ (perT b * q + r) = q := by
  obtain ⟨e1, e2⟩ := ticks_round hb hc hr ha q
  obtain ⟨f1, f2⟩ := ticks_before (t := ⟨0, b, c⟩) ⟨Nat.zero_lt_succ _, hb, hc⟩ hr r (by rw [next_zero hb hr]; exact hq)
  rw [ticksT_add, countT_add, e1, e2]
  refine ⟨?_, ?_⟩
  · rw [f1]
    unfold onT
    rw [if_neg (show ¬ c % 2 = 0 by omega)]
    show Tm.mk ((0 + r) % 65536) b c = Tm.mk r b c
    have : r < 65536 := by
      unfold perT at hq
      split at hq <;> omega
    rw [Nat.zero_add, Nat.mod_eq_of_lt this]
  · rw [f2]
    rfl
theorem ticks_many (n : Nat) : ticksT ⟨0, b, c⟩ n = ⟨n % perT b, b, c⟩ ∧ countT ⟨0, b, c⟩ n = n / perT b := by
  have h := ticks_rest hb hc hr ha (n / perT b) (n % perT b) (Nat.mod_lt _ (perT_pos b))
  rwa [Nat.div_add_mod] at h
end
/-- Again and again. -/
theorem ticks_again {t : Tm} (h : t.ok) (hr : t.c % 2 = 1) (ha : t.c / 2 % 2 = 1) (n : Nat) (hn : nextT t ≤ n) : ticksT t n = ⟨(n - nextT t) % perT t.b, t.b, t.c⟩ ∧ countT t n = 1 + (n - nextT t) / perT t.b := by
  obtain ⟨e1, e2⟩ := ticks_first h hr
  rw [if_neg (show ¬ t.c / 2 % 2 = 0 by omega)] at e1
  obtain ⟨f1, f2⟩ := ticks_many h.b h.c hr ha (n - nextT t)
  have hs : n = nextT t + (n - nextT t) := by omega
  generalize n - nextT t = j at *
  subst hs
  rw [ticksT_add, countT_add, e1, e2, f1, f2]
  exact ⟨rfl, rfl⟩
/-- Once. -/
theorem ticks_once {t : Tm} (h : t.ok) (hr : t.c % 2 = 1) (ha : t.c / 2 % 2 = 0) (n : Nat) (hn : nextT t ≤ n) : ticksT t n = ⟨0, t.b, t.c - 1⟩ ∧ countT t n = 1 := by
  obtain ⟨e1, e2⟩ := ticks_first h hr
  rw [if_pos ha] at e1
  obtain ⟨f1, f2⟩ := still (t := ⟨0, t.b, t.c - 1⟩) (show (t.c - 1) % 2 = 0 by omega) (n - nextT t)
  have hs : n = nextT t + (n - nextT t) := by omega
  generalize n - nextT t = j at *
  subst hs
  rw [ticksT_add, countT_add, e1, e2, f1, f2]
  exact ⟨rfl, rfl⟩
end Go.Proofs.YtkodoldkfeopdaaGreat.Ti
/- OkSmall -/
namespace Go.Proofs.YtkodoldkfeopdaaGreat.Ti
open Go.RowKit
set_option linter.unusedVariables false
set_option maxRecDepth 100000
theorem wrapped_eq (v : Int) : IntKind.u16.wrap v = ((low16 v : Nat) : Int) := by
  rw [low16_cast]
  simp [IntKind.wrap, IntKind.bits, IntKind.signed]
theorem wrapped_any (v : Int) (w : World) (h0 : -9223372036854775808 ≤ v) (h1 : v ≤ 9223372036854775807) : Calls Tryz.prog 56 #[.int .i64 v] w fun x w' => x = .returned (.int .u16 (low16 v : Nat)) ∧ w' = w := by
  have HE := Lib.hid (wrapped_eq v)
  go_enter Tryz.func56, Tryz.ntmps56
  go_wp2
  go_ret
  exact ⟨by rw [← HE.out]; first | rfl | simp [IntKind.wrap, IntKind.bits, IntKind.signed], rfl⟩
theorem u16_and1 (c : Nat) (h : c < 65536) : bits .and .u16 (c : Int) 1 = ((c % 2 : Nat) : Int) := by
  rw [show (1 : Int) = ((1 : Nat) : Int) from rfl, u16_and_nat c 1 h (by decide), Nat.and_one_is_mod]
theorem u16_and2 (c : Nat) (h : c < 65536) : bits .and .u16 (c : Int) 2 = if c / 2 % 2 = 1 then 2 else 0 := by
  rw [show (2 : Int) = ((2 : Nat) : Int) from rfl, u16_and_nat c 2 h (by decide)]
  have e : c &&& 2 = 2 * (c / 2 % 2) := by
    apply Nat.eq_of_testBit_eq
    intro i
    rw [Nat.testBit_and]
    cases i with
    | zero => rw [Nat.testBit_zero, Nat.testBit_zero, Nat.testBit_zero]; simp
    | succ i =>
      rw [Nat.testBit_succ, Nat.testBit_succ, Nat.testBit_succ, show 2 / 2 = 1 by decide, show 2 * (c / 2 % 2) / 2 = c / 2 % 2 by omega, ← Nat.testBit_and, Nat.and_one_is_mod]
  rw [e]
  rcases Nat.mod_two_eq_zero_or_one (c / 2) with h0 | h0 <;> simp [h0]
theorem and_top (x : Nat) (hx : x < 65536) : x &&& 65534 = x - x % 2 := by
  have e := and_even x (by omega)
  have h1 : x &&& 65534 = (x &&& 65535) &&& 4294967294 := by rw [Nat.and_assoc]; rfl
  rw [h1, show x &&& 65535 = x from by rw [Nat.and_two_pow_sub_one_eq_mod x 16]; omega, e]
theorem u16_andNot1 (c : Nat) (h : c < 65536) : bits .andNot .u16 (c : Int) 1 = ((c - c % 2 : Nat) : Int) := by
  rw [show (1 : Int) = ((1 : Nat) : Int) from rfl, u16_andNot_nat c 1 h (by decide), and_top c h]
theorem runs_any (t : Tm) (w : World) (h : t.ok) : Calls Tryz.prog 55 #[tv t] w fun x w' => x = .returned (.bool (decide (t.c % 2 = 1))) ∧ Below w.heap.size w w' := by
  have hc := h.c
  unfold tv
  by_cases hr : t.c % 2 = 1
  · have d1 : bits .and .u16 (t.c : Int) 1 = 1 := by rw [u16_and1 _ hc]; omega
    have HE : Hid (decide (t.c % 2 = 1) = true) := Lib.hid (decide_eq_true hr)
    clear hr
    go_enter Tryz.func55, Tryz.ntmps55
    go_wp2
    go_ret
    exact ⟨by rw [HE.out]; rfl, (Below.refl _ _).alloc (Nat.le_refl _) _⟩
  · have d1 : bits .and .u16 (t.c : Int) 1 = 0 := by rw [u16_and1 _ hc]; omega
    have HE : Hid (decide (t.c % 2 = 1) = false) := Lib.hid (decide_eq_false hr)
    clear hr
    go_enter Tryz.func55, Tryz.ntmps55
    go_wp2
    go_ret
    exact ⟨by rw [HE.out]; rfl, (Below.refl _ _).alloc (Nat.le_refl _) _⟩
def regV (g : Nat) : List Value := [.pointer (some ⟨g, 0, none⟩), .pointer (some ⟨g, 1, none⟩), .pointer (some ⟨g, 2, none⟩)]
def regT (g : Nat) (r : Int) : Value := .pointer (if r = 0 then some ⟨g, 0, none⟩ else if r = 1 then some ⟨g, 1, none⟩ else if r = 2 then some ⟨g, 2, none⟩ else none)
set_option maxHeartbeats 1000000 in
set_option maxRecDepth 100000 in
theorem register_any (g : Nat) (r : Int) (w : World) (h0 : -9223372036854775808 ≤ r) (h1 : r ≤ 9223372036854775807) :
    Calls Tryz.prog 85 #[.pointer (some ⟨g, 0, none⟩), .int .i64 r] w fun x w' => x = .returned (regT g r) ∧ Below w.heap.size w w' := by
  go_enter Tryz.func85, Tryz.ntmps85
  go_upto_region 1 with (fail)
  refine wp_region_noPanic ?_
  refine wp_region_held_drew (S := fun X => Below w.heap.size w X) (by kernel_rfl) ((Below.refl _ _).drew) (fun hHeld => ?_)
  obtain ⟨Y0, hY0⟩ : ∃ Y, w.drew = Y := ⟨_, rfl⟩
  rw [hY0] at hHeld ⊢
  clear hY0
  refine' take_ 0 rfl (by kernel_rfl) (by kernel_rfl) (by kernel_rfl) (fun _ _ _ h => h) (by rfl) (fun wS hSw => ?_) hHeld ?_
  rotate_left
  focus (go_simp; (try with_reducible rfl); done)
  try simp only [Act.put, List.setIfInBounds_toArray, List.set_cons_zero, List.set_cons_succ]
  refine' take_ 1 rfl (by kernel_rfl) (by kernel_rfl) (by kernel_rfl) (fun _ _ _ h => h) (by rfl) (fun wS hSw => ?_) hHeld ?_
  rotate_left
  focus (go_simp; (try with_reducible rfl); done)
  try simp only [Act.put, List.setIfInBounds_toArray, List.set_cons_zero, List.set_cons_succ]
  refine' take_ 2 rfl (by kernel_rfl) (by kernel_rfl) (by kernel_rfl) (fun _ _ _ h => h) (by rfl) (fun wS hSw => ?_) hHeld ?_
  rotate_left
  focus (go_simp; (try with_reducible rfl); done)
  try simp only [Act.put, List.setIfInBounds_toArray, List.set_cons_zero, List.set_cons_succ]
  refine' take_ 3 rfl (by kernel_rfl) (by kernel_rfl) (by kernel_rfl) (fun _ _ _ h => h) (by rfl) (fun wS hSw => ?_) hHeld ?_
  rotate_left
  focus (go_simp; (try with_reducible rfl); done)
  try simp only [Act.put, List.setIfInBounds_toArray, List.set_cons_zero, List.set_cons_succ]
  refine' take_ 4 rfl (by kernel_rfl) (by kernel_rfl) (by kernel_rfl) (fun _ _ _ h => h) (by rfl) (fun wS hSw => ?_) hHeld ?_
  rotate_left
  focus (go_simp; (try with_reducible rfl); done)
  try simp only [Act.put, List.setIfInBounds_toArray, List.set_cons_zero, List.set_cons_succ]
  refine' take_ 5 rfl (by kernel_rfl) (by kernel_rfl) (by kernel_rfl) (fun _ _ _ h => h) (by rfl) (fun wS hSw => ?_) hHeld ?_
  rotate_left
  focus (go_simp; (try with_reducible rfl); done)
  try simp only [Act.put, List.setIfInBounds_toArray, List.set_cons_zero, List.set_cons_succ]
  refine' take_ 6 rfl (by kernel_rfl) (by kernel_rfl) (by kernel_rfl) (fun _ _ _ h => h) (by rfl) (fun wS hSw => ?_) hHeld ?_
  rotate_left
  focus (go_simp; (try with_reducible rfl); done)
  try simp only [Act.put, List.setIfInBounds_toArray, List.set_cons_zero, List.set_cons_succ]
  refine' take_ 7 rfl (by kernel_rfl) (by kernel_rfl) (by kernel_rfl) (fun _ _ _ h => h) (by rfl) (fun wS hSw => ?_) hHeld ?_
  rotate_left
  focus (go_simp; (try with_reducible rfl); done)
  try simp only [Act.put, List.setIfInBounds_toArray, List.set_cons_zero, List.set_cons_succ]
  refine' take_ 8 rfl (by kernel_rfl) (by kernel_rfl) (by kernel_rfl) (fun _ _ _ h => h) (by rfl) (fun wS hSw => ?_) hHeld ?_
  rotate_left
  focus (go_simp; (try with_reducible rfl); done)
  try simp only [Act.put, List.setIfInBounds_toArray, List.set_cons_zero, List.set_cons_succ]
  refine' take_ 9 rfl (by kernel_rfl) (by kernel_rfl) (by kernel_rfl) (fun _ _ _ h => h) (by rfl) (fun wS hSw => ?_) hHeld ?_
  rotate_left
  focus (go_simp; (try with_reducible rfl); done)
  try simp only [Act.put, List.setIfInBounds_toArray, List.set_cons_zero, List.set_cons_succ]
  refine only_ 10 rfl (by kernel_rfl) (by rfl) (fun K hK => ?_)
  refine wp_of_run (w' := Y0.alloc (.cells #[.pointer none, .pointer none, .pointer none] 167)) (.pointer (some ⟨Y0.heap.size, 0, none⟩)) (by kernel_rfl) ?_
  have hH1 := hHeld.alloc hHeld.size (.cells #[.pointer none, .pointer none, .pointer none] 167)
  have r1 : VRow _ Y0.heap.size 167 [.pointer none, .pointer none, .pointer none] := alloc_at Y0 (.cells #[.pointer none, .pointer none, .pointer none] 167)
  have hb := hHeld.size
  refine hK.out _ _ hH1 (fun _ => ?_)
  clear hK K
  generalize Y0.alloc (.cells #[.pointer none, .pointer none, .pointer none] 167) = Y1 at *
  generalize Y0.heap.size = b at *
  clear hHeld
  show wpAnyH _ _ _ _ _ _ _ (Act.put _ (some 5) _) _
  try simp only [Act.put, List.setIfInBounds_toArray, List.set_cons_zero, List.set_cons_succ]
  refine only_ 11 rfl (by kernel_rfl) (by rfl) (fun K hK => ?_)
  refine wp_store_v 167 _ _ rfl b rfl (regV g) rfl (by kernel_rfl) (by intro u hu; simp only [regV, List.mem_cons, List.not_mem_nil, or_false] at hu; rcases hu with rfl | rfl | rfl <;> rfl) 167 _ r1 rfl ?_
  intro Y2 HN HO HB
  have B2 := Lib.hid (hH1.trans (HB.out.mono hb))
  refine hK.out _ _ B2.out (fun _ => ?_)
  clear hK K
  have c0 := VRow.cell HN.out 0 _ rfl
  have c1 := VRow.cell HN.out 1 _ rfl
  have c2 := VRow.cell HN.out 2 _ rfl
  clear HN HO HB hH1 r1 hb
  try simp only [Act.put]
  refine wpAnyH_done (by kernel_rfl) ?_ _
  refine NoPanic.normal ?_
  by_cases r0 : r = 0
  · subst r0
    go_wp2
    go_ret
    exact ⟨rfl, B2.out⟩
  by_cases r1 : r = 1
  · subst r1
    go_wp2
    go_ret
    exact ⟨rfl, B2.out⟩
  by_cases r2 : r = 2
  · subst r2
    go_wp2
    go_ret
    exact ⟨rfl, B2.out⟩
  have HE : Hid (regT g r = .pointer none) := Lib.hid (by unfold regT; rw [if_neg r0, if_neg r1, if_neg r2])
  by_cases hn : r < 0
  · clear r0 r1 r2
    go_wp2
    go_ret
    exact ⟨by rw [HE.out]; rfl, B2.out⟩
  · have hg : 3 ≤ r := by omega
    clear r0 r1 r2
    go_wp2
    go_ret
    exact ⟨by rw [HE.out]; rfl, B2.out⟩
end Go.Proofs.YtkodoldkfeopdaaGreat.Ti
/- OkPeek -/
namespace Go.Proofs.YtkodoldkfeopdaaGreat.Ti
open Go.RowKit
set_option linter.unusedVariables false
set_option maxRecDepth 100000
set_option maxHeartbeats 400000 in
set_option maxRecDepth 100000 in
theorem peekT_any : PeekC 80 := by
  intro t rg w h hg0 hg1
  have ha := h.a
  have hb := h.b
  have hc := h.c
  unfold tv
  go_enter Tryz.func80, Tryz.ntmps80
  go_upto_region 1 with (fail)
  refine name_one (Q := fun X => Code.wp _ _ _ _ X) ?_
  intro W0 hq1 hB0 hz
  have R0 : Hid (TRow W0 w.heap.size 32 t) := Lib.hid hq1
  have B0 : Hid (Below w.heap.size w W0) := Lib.hid hB0
  clear hq1 hB0 hz
  obtain ⟨g, hg⟩ : ∃ g, w.heap.size = g := ⟨_, rfl⟩
  have LG : Hid (w.heap.size ≤ g) := Lib.hid (by omega)
  rw [hg] at R0 ⊢
  clear hg
  have KR := Lib.hid (fun W => register_any g rg W hg0 hg1)
  by_cases h0 : rg = 0
  · subst h0
    have HE : Hid (peekT t 0 = (t.a : Int)) := Lib.hid (if_pos rfl)
    replace KR : Hid (∀ W, Calls Tryz.prog 85 #[.pointer (some ⟨g, 0, none⟩), .int .i64 0] W fun x w' => x = .returned (.pointer (some ⟨g, 0, none⟩)) ∧ Below W.heap.size W w') := KR
    go_wp2_with (go_at_call 85; refine (KR.out _).mono ?_; rintro e W1 ⟨rfl, hB⟩; have R1 := Lib.hid (R0.out.below hB R0.out.lt); have B1 := Lib.hid (B0.out.trans (hB.mono B0.out.size)); clear hB; have c0 := R1.out.c0; have c1 := R1.out.c1; have c2 := R1.out.c2)
    go_ret
    exact ⟨by rw [HE.out]; rfl, B1.out⟩
  by_cases h1 : rg = 1
  · subst h1
    have HE : Hid (peekT t 1 = (t.b : Int)) := Lib.hid ((if_neg (by decide)).trans (if_pos rfl))
    replace KR : Hid (∀ W, Calls Tryz.prog 85 #[.pointer (some ⟨g, 0, none⟩), .int .i64 1] W fun x w' => x = .returned (.pointer (some ⟨g, 1, none⟩)) ∧ Below W.heap.size W w') := KR
    go_wp2_with (go_at_call 85; refine (KR.out _).mono ?_; rintro e W1 ⟨rfl, hB⟩; have R1 := Lib.hid (R0.out.below hB R0.out.lt); have B1 := Lib.hid (B0.out.trans (hB.mono B0.out.size)); clear hB; have c0 := R1.out.c0; have c1 := R1.out.c1; have c2 := R1.out.c2)
    go_ret
    exact ⟨by rw [HE.out]; rfl, B1.out⟩
  by_cases h2 : rg = 2
  · subst h2
    have HE : Hid (peekT t 2 = (t.c : Int)) := Lib.hid ((if_neg (by decide)).trans ((if_neg (by decide)).trans (if_pos rfl)))
    replace KR : Hid (∀ W, Calls Tryz.prog 85 #[.pointer (some ⟨g, 0, none⟩), .int .i64 2] W fun x w' => x = .returned (.pointer (some ⟨g, 2, none⟩)) ∧ Below W.heap.size W w') := KR
    go_wp2_with (go_at_call 85; refine (KR.out _).mono ?_; rintro e W1 ⟨rfl, hB⟩; have R1 := Lib.hid (R0.out.below hB R0.out.lt); have B1 := Lib.hid (B0.out.trans (hB.mono B0.out.size)); clear hB; have c0 := R1.out.c0; have c1 := R1.out.c1; have c2 := R1.out.c2)
    go_ret
    exact ⟨by rw [HE.out]; rfl, B1.out⟩
  · have HE : Hid (peekT t rg = 0) := Lib.hid ((if_neg h0).trans ((if_neg h1).trans (if_neg h2)))
    have KR2 : Hid (∀ W, Calls Tryz.prog 85 #[.pointer (some ⟨g, 0, none⟩), .int .i64 rg] W fun x w' => x = .returned (.pointer none) ∧ Below W.heap.size W w') := Lib.hid (fun W => by
      have := KR.out W
      unfold regT at this
      rwa [if_neg h0, if_neg h1, if_neg h2] at this)
    clear h0 h1 h2 KR
    go_wp2_with (go_at_call 85; refine (KR2.out _).mono ?_; rintro e W1 ⟨rfl, hB⟩; have R1 := Lib.hid (R0.out.below hB R0.out.lt); have B1 := Lib.hid (B0.out.trans (hB.mono B0.out.size)); clear hB; have c0 := R1.out.c0; have c1 := R1.out.c1; have c2 := R1.out.c2)
    go_ret
    exact ⟨by rw [HE.out]; rfl, B1.out⟩
set_option maxHeartbeats 400000 in
set_option maxRecDepth 100000 in
theorem writeT_any : WriteC 120 := by
  intro t rg v w h hg0 hg1 hv0 hv1
  have HL := Lib.hid (wrapped_eq v)
  have HL2 := Lib.hid (low16_cast v)
  unfold tv
  go_enter Tryz.func120, Tryz.ntmps120
  go_upto_region 1 with (fail)
  refine name_two (Q := fun X => Code.wp _ _ _ _ X) ?_
  intro W0 hq1 hq2 hB0
  have T0 := Lib.hid (Tw.new (t := t) 32 hq1 hq2 hB0)
  clear hq1 hq2 hB0
  obtain ⟨g, hg⟩ : ∃ g, w.heap.size = g := ⟨_, rfl⟩
  obtain ⟨r, hr⟩ : ∃ r, w.heap.size + 1 = r := ⟨_, rfl⟩
  rw [hr, hg] at T0 ⊢
  clear hr hg
  have KR := Lib.hid (fun W => register_any g rg W hg0 hg1)
  by_cases h0 : rg = 0
  · subst h0
    have HE : Hid (writeT t 0 v = ⟨low16 v, t.b, t.c⟩) := Lib.hid (if_pos rfl)
    replace KR : Hid (∀ W, Calls Tryz.prog 85 #[.pointer (some ⟨g, 0, none⟩), .int .i64 0] W fun x w' => x = .returned (.pointer (some ⟨g, 0, none⟩)) ∧ Below W.heap.size W w') := KR
    go_wp2_with (first
      | ((with_reducible show wpList _ _ _ (⟨none, .store 32 (.tmp 6) (.tmp 16), _, _, _, _⟩ :: _) _ _); refine wpList_store_t rfl 32 _ _ rfl r (by exact rfl) (by exact rfl) (by kernel_rfl) 32 T2.out.z ?_; intro WZ HN HO HB; have HZ := HN; have BZ := Lib.hid (T2.out.b.trans (HB.out.mono T2.out.lr)); clear HN HO HB)
      | ((with_reducible show wpList _ _ _ (⟨some 16, .load 32 (.tmp 3), _, _, _, _⟩ :: _) _ _); refine wpList_load_t (by rfl) 32 _ rfl g (by exact rfl) _ Tryz.underlying32 (by kernel_rfl) 32 T2.out.q ?_)
      | ((with_reducible show wpList _ _ _ (⟨none, .store 30 (.tmp 15) (.tmp 14), _, _, _, _⟩ :: _) _ _); refine wpList_store_c rfl 30 _ _ rfl g 0 (by exact rfl) (.int .u16 ((low16 v : Nat) : Int)) (by first | exact rfl | (rw [← HL.out]; exact rfl) | (rw [HL2.out]; exact rfl)) rfl (by kernel_rfl) 32 _ T1.out.q (show 0 < 3 by decide) ?_; intro WT2 HN HO HB; have T2 : Hid (Tw w WT2 g r 32 ⟨low16 v, t.b, t.c⟩) := Lib.hid (T1.out.setG HN.out HO.out HB.out); clear HN HO HB)
      | (go_at_call 85; refine (KR.out _).mono ?_; rintro e W1 ⟨rfl, hB⟩; have T1 := Lib.hid (T0.out.under hB); clear hB))
    exact bodyPost_ret (v := tv (⟨low16 v, t.b, t.c⟩)) (results_c Tryz.results120 _ _ _ _ _ rfl (run_loadVar_t WZ r 32 _ Tryz.underlying32 (by kernel_rfl) 32 HZ.out)) rfl ⟨by first | (rw [HE.out]; done) | (rw [HE.out]; rfl), BZ.out⟩
  by_cases h1 : rg = 1
  · subst h1
    have HE : Hid (writeT t 1 v = ⟨t.a, low16 v, t.c⟩) := Lib.hid ((if_neg (by decide)).trans (if_pos rfl))
    replace KR : Hid (∀ W, Calls Tryz.prog 85 #[.pointer (some ⟨g, 0, none⟩), .int .i64 1] W fun x w' => x = .returned (.pointer (some ⟨g, 1, none⟩)) ∧ Below W.heap.size W w') := KR
    go_wp2_with (first
      | ((with_reducible show wpList _ _ _ (⟨none, .store 32 (.tmp 6) (.tmp 16), _, _, _, _⟩ :: _) _ _); refine wpList_store_t rfl 32 _ _ rfl r (by exact rfl) (by exact rfl) (by kernel_rfl) 32 T2.out.z ?_; intro WZ HN HO HB; have HZ := HN; have BZ := Lib.hid (T2.out.b.trans (HB.out.mono T2.out.lr)); clear HN HO HB)
      | ((with_reducible show wpList _ _ _ (⟨some 16, .load 32 (.tmp 3), _, _, _, _⟩ :: _) _ _); refine wpList_load_t (by rfl) 32 _ rfl g (by exact rfl) _ Tryz.underlying32 (by kernel_rfl) 32 T2.out.q ?_)
      | ((with_reducible show wpList _ _ _ (⟨none, .store 30 (.tmp 15) (.tmp 14), _, _, _, _⟩ :: _) _ _); refine wpList_store_c rfl 30 _ _ rfl g 1 (by exact rfl) (.int .u16 ((low16 v : Nat) : Int)) (by first | exact rfl | (rw [← HL.out]; exact rfl) | (rw [HL2.out]; exact rfl)) rfl (by kernel_rfl) 32 _ T1.out.q (show 1 < 3 by decide) ?_; intro WT2 HN HO HB; have T2 : Hid (Tw w WT2 g r 32 ⟨t.a, low16 v, t.c⟩) := Lib.hid (T1.out.setG HN.out HO.out HB.out); clear HN HO HB)
      | (go_at_call 85; refine (KR.out _).mono ?_; rintro e W1 ⟨rfl, hB⟩; have T1 := Lib.hid (T0.out.under hB); clear hB))
    exact bodyPost_ret (v := tv (⟨t.a, low16 v, t.c⟩)) (results_c Tryz.results120 _ _ _ _ _ rfl (run_loadVar_t WZ r 32 _ Tryz.underlying32 (by kernel_rfl) 32 HZ.out)) rfl ⟨by first | (rw [HE.out]; done) | (rw [HE.out]; rfl), BZ.out⟩
  by_cases h2 : rg = 2
  · subst h2
    have HE : Hid (writeT t 2 v = ⟨t.a, t.b, low16 v⟩) := Lib.hid ((if_neg (by decide)).trans ((if_neg (by decide)).trans (if_pos rfl)))
    replace KR : Hid (∀ W, Calls Tryz.prog 85 #[.pointer (some ⟨g, 0, none⟩), .int .i64 2] W fun x w' => x = .returned (.pointer (some ⟨g, 2, none⟩)) ∧ Below W.heap.size W w') := KR
    go_wp2_with (first
      | ((with_reducible show wpList _ _ _ (⟨none, .store 32 (.tmp 6) (.tmp 16), _, _, _, _⟩ :: _) _ _); refine wpList_store_t rfl 32 _ _ rfl r (by exact rfl) (by exact rfl) (by kernel_rfl) 32 T2.out.z ?_; intro WZ HN HO HB; have HZ := HN; have BZ := Lib.hid (T2.out.b.trans (HB.out.mono T2.out.lr)); clear HN HO HB)
      | ((with_reducible show wpList _ _ _ (⟨some 16, .load 32 (.tmp 3), _, _, _, _⟩ :: _) _ _); refine wpList_load_t (by rfl) 32 _ rfl g (by exact rfl) _ Tryz.underlying32 (by kernel_rfl) 32 T2.out.q ?_)
      | ((with_reducible show wpList _ _ _ (⟨none, .store 30 (.tmp 15) (.tmp 14), _, _, _, _⟩ :: _) _ _); refine wpList_store_c rfl 30 _ _ rfl g 2 (by exact rfl) (.int .u16 ((low16 v : Nat) : Int)) (by first | exact rfl | (rw [← HL.out]; exact rfl) | (rw [HL2.out]; exact rfl)) rfl (by kernel_rfl) 32 _ T1.out.q (show 2 < 3 by decide) ?_; intro WT2 HN HO HB; have T2 : Hid (Tw w WT2 g r 32 ⟨t.a, t.b, low16 v⟩) := Lib.hid (T1.out.setG HN.out HO.out HB.out); clear HN HO HB)
      | (go_at_call 85; refine (KR.out _).mono ?_; rintro e W1 ⟨rfl, hB⟩; have T1 := Lib.hid (T0.out.under hB); clear hB))
    exact bodyPost_ret (v := tv (⟨t.a, t.b, low16 v⟩)) (results_c Tryz.results120 _ _ _ _ _ rfl (run_loadVar_t WZ r 32 _ Tryz.underlying32 (by kernel_rfl) 32 HZ.out)) rfl ⟨by first | (rw [HE.out]; done) | (rw [HE.out]; rfl), BZ.out⟩
  · have HE : Hid (writeT t rg v = t) := Lib.hid ((if_neg h0).trans ((if_neg h1).trans (if_neg h2)))
    have KR2 : Hid (∀ W, Calls Tryz.prog 85 #[.pointer (some ⟨g, 0, none⟩), .int .i64 rg] W fun x w' => x = .returned (.pointer none) ∧ Below W.heap.size W w') := Lib.hid (fun W => by
      have := KR.out W
      unfold regT at this
      rwa [if_neg h0, if_neg h1, if_neg h2] at this)
    clear h0 h1 h2 KR
    go_wp2_with (first
      | ((with_reducible show wpList _ _ _ (⟨none, .store 32 (.tmp 6) (.tmp 16), _, _, _, _⟩ :: _) _ _); refine wpList_store_t rfl 32 _ _ rfl r (by exact rfl) (by exact rfl) (by kernel_rfl) 32 T1.out.z ?_; intro WZ HN HO HB; have HZ := HN; have BZ := Lib.hid (T1.out.b.trans (HB.out.mono T1.out.lr)); clear HN HO HB)
      | ((with_reducible show wpList _ _ _ (⟨some 16, .load 32 (.tmp 3), _, _, _, _⟩ :: _) _ _); refine wpList_load_t (by rfl) 32 _ rfl g (by exact rfl) _ Tryz.underlying32 (by kernel_rfl) 32 T1.out.q ?_)
      | (go_at_call 85; refine (KR2.out _).mono ?_; rintro e W1 ⟨rfl, hB⟩; have T1 := Lib.hid (T0.out.under hB); clear hB))
    exact bodyPost_ret (v := tv (t)) (results_c Tryz.results120 _ _ _ _ _ rfl (run_loadVar_t WZ r 32 _ Tryz.underlying32 (by kernel_rfl) 32 HZ.out)) rfl ⟨by first | (rw [HE.out]; done) | (rw [HE.out]; rfl), BZ.out⟩
end Go.Proofs.YtkodoldkfeopdaaGreat.Ti
/- OkTick -/
namespace Go.Proofs.YtkodoldkfeopdaaGreat.Ti
open Go.RowKit
set_option linter.unusedVariables false
set_option maxRecDepth 100000
theorem low_inc (a : Nat) : low16 ((a : Int) + 1) = (a + 1) % 65536 := by unfold low16; omega
set_option maxHeartbeats 1000000 in
set_option maxRecDepth 100000 in
theorem tickT_any : TickC 34 := by
  intro t w h
  have ha := h.a
  have hb := h.b
  have hc := h.c
  have KR := Lib.hid (fun W => runs_any t W h)
  have KW := Lib.hid (fun W => wrapped_any ((t.a : Int) + 1) W (by omega) (by omega))
  rw [low_inc] at KW
  unfold tv at KR
  unfold tv
  go_enter Tryz.func34, Tryz.ntmps34
  go_upto_region 1 with (fail)
  refine name_two (Q := fun X => Code.wp _ _ _ _ X) ?_
  intro W0 hq1 hq2 hB0
  have T0 := Lib.hid (Tw.new (t := t) 32 hq1 hq2 hB0)
  clear hq1 hq2 hB0
  obtain ⟨g, hg⟩ : ∃ g, w.heap.size = g := ⟨_, rfl⟩
  obtain ⟨r, hr⟩ : ∃ r, w.heap.size + 1 = r := ⟨_, rfl⟩
  rw [hr, hg] at T0 ⊢
  clear hr hg
  by_cases hr : t.c % 2 = 0
  · have HE : Hid (tickT t = t) := Lib.hid (if_pos hr)
    have HA : Hid (asksT t = false) := Lib.hid (by unfold asksT; rw [decide_eq_false (by omega)]; rfl)
    rw [decide_eq_false (show ¬ t.c % 2 = 1 by omega)] at KR
    clear hr KW
    go_wp2_with (first
      | ((with_reducible show wpList _ _ _ (⟨none, .store 32 (.tmp 2) (.tmp 7), _, _, _, _⟩ :: _) _ _); refine wpList_store_t rfl 32 _ _ rfl r (by exact rfl) (by exact rfl) (by kernel_rfl) 32 T1.out.z ?_; intro WZ HN HO HB; have HZ := HN; have BZ := Lib.hid (T1.out.b.trans (HB.out.mono T1.out.lr)); clear HN HO HB)
      | (go_at_call 55; refine (KR.out _).mono ?_; rintro e WA ⟨rfl, hB⟩; have T1 := Lib.hid (T0.out.under hB); have c0 := T1.out.q.c0; clear hB)
      | ((with_reducible show wpList _ _ _ (⟨some 4, .load 32 (.tmp 1), _, _, _, _⟩ :: _) _ _); refine wpList_load_t (by rfl) 32 _ rfl g (by exact rfl) _ Tryz.underlying32 (by kernel_rfl) 32 T0.out.q ?_)
      | ((with_reducible show wpList _ _ _ (⟨some 7, .load 32 (.tmp 1), _, _, _, _⟩ :: _) _ _); refine wpList_load_t (by rfl) 32 _ rfl g (by exact rfl) _ Tryz.underlying32 (by kernel_rfl) 32 T1.out.q ?_))
    exact bodyPost_ret (v := .tuple #[tv (t), .bool false]) (results_ct Tryz.results34 _ _ _ _ _ _ rfl (run_loadVar_t WZ r 32 _ Tryz.underlying32 (by kernel_rfl) 32 HZ.out) rfl) rfl ⟨by first | (rw [HE.out, HA.out]; done) | (rw [HE.out, HA.out]; rfl), BZ.out⟩
  rw [decide_eq_true (show t.c % 2 = 1 by omega)] at KR
  have d1 : t.c % 2 = 1 := by omega
  obtain ⟨n, hn⟩ : ∃ n, (t.a + 1) % 65536 = n := ⟨_, rfl⟩
  rw [hn] at KW
  by_cases hq : n = t.b
  · have hne : ((n : Int) != (t.b : Int)) = false := by simp [hq]
    have HA : Hid (asksT t = true) := Lib.hid (by unfold asksT; rw [decide_eq_true (by omega), decide_eq_true (by omega)]; rfl)
    by_cases hag : t.c / 2 % 2 = 0
    · have HE : Hid (tickT t = ⟨0, t.b, t.c - 1⟩) := Lib.hid ((if_neg hr).trans ((if_pos (hn.trans hq)).trans (by rw [if_pos hag])))
      have d2 : bits .and .u16 (t.c : Int) 2 = 0 := by rw [u16_and2 _ hc, if_neg (by omega)]
      have HC : Hid (bits .andNot .u16 (t.c : Int) 1 = ((t.c - 1 : Nat) : Int)) := Lib.hid (by rw [u16_andNot1 _ hc, d1])
      clear hag hq hr hn d1
      go_wp2_with (first
        | ((with_reducible show wpList _ _ _ (⟨none, .store 32 (.tmp 2) (.tmp 29), _, _, _, _⟩ :: _) _ _); refine wpList_store_t rfl 32 _ _ rfl r (by exact rfl) (by exact rfl) (by kernel_rfl) 32 T4.out.z ?_; intro WZ HN HO HB; have HZ := HN; have BZ := Lib.hid (T4.out.b.trans (HB.out.mono T4.out.lr)); clear HN HO HB)
        | ((with_reducible show wpList _ _ _ (⟨some 29, .load 32 (.tmp 1), _, _, _, _⟩ :: _) _ _); refine wpList_load_t (by rfl) 32 _ rfl g (by exact rfl) _ Tryz.underlying32 (by kernel_rfl) 32 T4.out.q ?_)
        | ((with_reducible show wpList _ _ _ (⟨none, .store 30 (.tmp 28) (.tmp 27), _, _, _, _⟩ :: _) _ _); refine wpList_store_c rfl 30 _ _ rfl g 2 (by exact rfl) (.int .u16 ((t.c - 1 : Nat) : Int)) (by first | exact rfl | (rw [← HC.out]; exact rfl)) rfl (by kernel_rfl) 32 _ T3.out.q (show 2 < 3 by decide) ?_; intro WT4 HN HO HB; have T4 : Hid (Tw w WT4 g r 32 ⟨0, t.b, t.c - 1⟩) := Lib.hid (T3.out.setG HN.out HO.out HB.out); clear HN HO HB)
        | ((with_reducible show wpList _ _ _ (⟨none, .store 30 (.tmp 20) _, _, _, _, _⟩ :: _) _ _); refine wpList_store_c rfl 30 _ _ rfl g 0 (by exact rfl) (.int .u16 ((0 : Nat) : Int)) (by exact rfl) rfl (by kernel_rfl) 32 _ T2.out.q (show 0 < 3 by decide) ?_; intro WT3 HN HO HB; have T3 : Hid (Tw w WT3 g r 32 ⟨0, t.b, t.c⟩) := Lib.hid (T2.out.setG HN.out HO.out HB.out); clear HN HO HB; have e2 := T3.out.q.c2)
        | ((with_reducible show wpList _ _ _ (⟨none, .store 30 (.tmp 13) (.tmp 12), _, _, _, _⟩ :: _) _ _); refine wpList_store_c rfl 30 _ _ rfl g 0 (by exact rfl) (.int .u16 (n : Int)) (by exact rfl) rfl (by kernel_rfl) 32 _ T1.out.q (show 0 < 3 by decide) ?_; intro WT2 HN HO HB; have T2 : Hid (Tw w WT2 g r 32 ⟨n, t.b, t.c⟩) := Lib.hid (T1.out.setG HN.out HO.out HB.out); clear HN HO HB; have e0 := T2.out.q.c0; have e1 := T2.out.q.c1)
        | (go_at_call 56; refine (KW.out _).mono ?_; rintro e WB ⟨rfl, rfl⟩)
        | (go_at_call 55; refine (KR.out _).mono ?_; rintro e WA ⟨rfl, hB⟩; have T1 := Lib.hid (T0.out.under hB); have c0 := T1.out.q.c0; clear hB)
        | ((with_reducible show wpList _ _ _ (⟨some 4, .load 32 (.tmp 1), _, _, _, _⟩ :: _) _ _); refine wpList_load_t (by rfl) 32 _ rfl g (by exact rfl) _ Tryz.underlying32 (by kernel_rfl) 32 T0.out.q ?_))
      exact bodyPost_ret (v := .tuple #[tv (⟨0, t.b, t.c - 1⟩), .bool true]) (results_ct Tryz.results34 _ _ _ _ _ _ rfl (run_loadVar_t WZ r 32 _ Tryz.underlying32 (by kernel_rfl) 32 HZ.out) rfl) rfl ⟨by first | (rw [HE.out, HA.out]; done) | (rw [HE.out, HA.out]; rfl), BZ.out⟩
    · have HE : Hid (tickT t = ⟨0, t.b, t.c⟩) := Lib.hid ((if_neg hr).trans ((if_pos (hn.trans hq)).trans (by rw [if_neg hag])))
      have d2 : bits .and .u16 (t.c : Int) 2 = 2 := by rw [u16_and2 _ hc, if_pos (by omega)]
      clear hag hq hr hn d1
      go_wp2_with (first
        | ((with_reducible show wpList _ _ _ (⟨none, .store 32 (.tmp 2) (.tmp 29), _, _, _, _⟩ :: _) _ _); refine wpList_store_t rfl 32 _ _ rfl r (by exact rfl) (by exact rfl) (by kernel_rfl) 32 T3.out.z ?_; intro WZ HN HO HB; have HZ := HN; have BZ := Lib.hid (T3.out.b.trans (HB.out.mono T3.out.lr)); clear HN HO HB)
        | ((with_reducible show wpList _ _ _ (⟨some 29, .load 32 (.tmp 1), _, _, _, _⟩ :: _) _ _); refine wpList_load_t (by rfl) 32 _ rfl g (by exact rfl) _ Tryz.underlying32 (by kernel_rfl) 32 T3.out.q ?_)
        | ((with_reducible show wpList _ _ _ (⟨none, .store 30 (.tmp 20) _, _, _, _, _⟩ :: _) _ _); refine wpList_store_c rfl 30 _ _ rfl g 0 (by exact rfl) (.int .u16 ((0 : Nat) : Int)) (by exact rfl) rfl (by kernel_rfl) 32 _ T2.out.q (show 0 < 3 by decide) ?_; intro WT3 HN HO HB; have T3 : Hid (Tw w WT3 g r 32 ⟨0, t.b, t.c⟩) := Lib.hid (T2.out.setG HN.out HO.out HB.out); clear HN HO HB; have e2 := T3.out.q.c2)
        | ((with_reducible show wpList _ _ _ (⟨none, .store 30 (.tmp 13) (.tmp 12), _, _, _, _⟩ :: _) _ _); refine wpList_store_c rfl 30 _ _ rfl g 0 (by exact rfl) (.int .u16 (n : Int)) (by exact rfl) rfl (by kernel_rfl) 32 _ T1.out.q (show 0 < 3 by decide) ?_; intro WT2 HN HO HB; have T2 : Hid (Tw w WT2 g r 32 ⟨n, t.b, t.c⟩) := Lib.hid (T1.out.setG HN.out HO.out HB.out); clear HN HO HB; have e0 := T2.out.q.c0; have e1 := T2.out.q.c1)
        | (go_at_call 56; refine (KW.out _).mono ?_; rintro e WB ⟨rfl, rfl⟩)
        | (go_at_call 55; refine (KR.out _).mono ?_; rintro e WA ⟨rfl, hB⟩; have T1 := Lib.hid (T0.out.under hB); have c0 := T1.out.q.c0; clear hB)
        | ((with_reducible show wpList _ _ _ (⟨some 4, .load 32 (.tmp 1), _, _, _, _⟩ :: _) _ _); refine wpList_load_t (by rfl) 32 _ rfl g (by exact rfl) _ Tryz.underlying32 (by kernel_rfl) 32 T0.out.q ?_))
      exact bodyPost_ret (v := .tuple #[tv (⟨0, t.b, t.c⟩), .bool true]) (results_ct Tryz.results34 _ _ _ _ _ _ rfl (run_loadVar_t WZ r 32 _ Tryz.underlying32 (by kernel_rfl) 32 HZ.out) rfl) rfl ⟨by first | (rw [HE.out, HA.out]; done) | (rw [HE.out, HA.out]; rfl), BZ.out⟩
  · have hne : ((n : Int) != (t.b : Int)) = true := by simp; omega
    have HA : Hid (asksT t = false) := Lib.hid (by unfold asksT; rw [decide_eq_true (by omega), decide_eq_false (by omega)]; rfl)
    have HE : Hid (tickT t = ⟨n, t.b, t.c⟩) := Lib.hid ((if_neg hr).trans ((if_neg (by rw [hn]; exact hq)).trans (by rw [hn])))
    clear hq hr hn d1
    go_wp2_with (first
      | ((with_reducible show wpList _ _ _ (⟨none, .store 32 (.tmp 2) (.tmp 19), _, _, _, _⟩ :: _) _ _); refine wpList_store_t rfl 32 _ _ rfl r (by exact rfl) (by exact rfl) (by kernel_rfl) 32 T2.out.z ?_; intro WZ HN HO HB; have HZ := HN; have BZ := Lib.hid (T2.out.b.trans (HB.out.mono T2.out.lr)); clear HN HO HB)
      | ((with_reducible show wpList _ _ _ (⟨some 19, .load 32 (.tmp 1), _, _, _, _⟩ :: _) _ _); refine wpList_load_t (by rfl) 32 _ rfl g (by exact rfl) _ Tryz.underlying32 (by kernel_rfl) 32 T2.out.q ?_)
      | ((with_reducible show wpList _ _ _ (⟨none, .store 30 (.tmp 13) (.tmp 12), _, _, _, _⟩ :: _) _ _); refine wpList_store_c rfl 30 _ _ rfl g 0 (by exact rfl) (.int .u16 (n : Int)) (by exact rfl) rfl (by kernel_rfl) 32 _ T1.out.q (show 0 < 3 by decide) ?_; intro WT2 HN HO HB; have T2 : Hid (Tw w WT2 g r 32 ⟨n, t.b, t.c⟩) := Lib.hid (T1.out.setG HN.out HO.out HB.out); clear HN HO HB; have e0 := T2.out.q.c0; have e1 := T2.out.q.c1)
      | (go_at_call 56; refine (KW.out _).mono ?_; rintro e WB ⟨rfl, rfl⟩)
      | (go_at_call 55; refine (KR.out _).mono ?_; rintro e WA ⟨rfl, hB⟩; have T1 := Lib.hid (T0.out.under hB); have c0 := T1.out.q.c0; clear hB)
      | ((with_reducible show wpList _ _ _ (⟨some 4, .load 32 (.tmp 1), _, _, _, _⟩ :: _) _ _); refine wpList_load_t (by rfl) 32 _ rfl g (by exact rfl) _ Tryz.underlying32 (by kernel_rfl) 32 T0.out.q ?_))
    exact bodyPost_ret (v := .tuple #[tv (⟨n, t.b, t.c⟩), .bool false]) (results_ct Tryz.results34 _ _ _ _ _ _ rfl (run_loadVar_t WZ r 32 _ Tryz.underlying32 (by kernel_rfl) 32 HZ.out) rfl) rfl ⟨by first | (rw [HE.out, HA.out]; done) | (rw [HE.out, HA.out]; rfl), BZ.out⟩
theorem low_gap {t : Tm} (h : t.ok) : low16 ((t.b : Int) - (t.a : Int) - 1) = (t.b + 65535 - t.a) % 65536 := by
  have ha := h.a
  have hb := h.b
  unfold low16
  omega
end Go.Proofs.YtkodoldkfeopdaaGreat.Ti
/- OkRound -/
namespace Go.Proofs.YtkodoldkfeopdaaGreat.Ti
open Go.RowKit
set_option linter.unusedVariables false
set_option maxRecDepth 100000
/-- What the closure shares with its function: the timer (g), what is left (l), how often it asked (k); and the result (r). -/
structure Ts (w W : World) (g r l k : Nat) (t : Tm) (n a : Nat) : Prop where
  q : TRow W g 32 t
  z : TRow W r 32 ⟨0, 0, 0⟩
  vl : VRow W l 3 [.int .i64 (n : Int)]
  vk : VRow W k 3 [.int .i64 (a : Int)]
  b : Below w.heap.size w W
  lg : w.heap.size ≤ g
  lr : w.heap.size ≤ r
  ll : w.heap.size ≤ l
  lk : w.heap.size ≤ k
  gr : g ≠ r
  gl : g ≠ l
  gk : g ≠ k
  rl : r ≠ l
  rk : r ≠ k
  lkn : l ≠ k
section
variable {w W W' : World} {g r l k : Nat} {t u : Tm} {n m a c : Nat}
theorem _root_.Go.Proofs.YtkodoldkfeopdaaGreat.VRow.off {W W' : World} {g r : Nat} {ty : TypeId} {cs : List Value} (h : VRow W g ty cs) (ho : ∀ j, j ≠ r → W'.heap[j]? = W.heap[j]?) (hr : g ≠ r) : VRow W' g ty cs := (ho g hr).trans h
theorem Ts.under (h : Ts w W g r l k t n a) (hb : Below W.heap.size W W') : Ts w W' g r l k t n a := ⟨h.q.below hb h.q.lt, h.z.below hb h.z.lt, h.vl.below hb h.vl.lt, h.vk.below hb h.vk.lt, h.b.trans (hb.mono h.b.size), h.lg, h.lr, h.ll, h.lk, h.gr, h.gl, h.gk, h.rl, h.rk, h.lkn⟩
theorem Ts.setG (h : Ts w W g r l k t n a) (hn : TRow W' g 32 u) (ho : ∀ j, j ≠ g → W'.heap[j]? = W.heap[j]?) (hb : Below g W W') : Ts w W' g r l k u n a :=
  ⟨hn, h.z.other ho h.gr.symm, h.vl.off ho h.gl.symm, h.vk.off ho h.gk.symm, h.b.trans (hb.mono h.lg), h.lg, h.lr, h.ll, h.lk, h.gr, h.gl, h.gk, h.rl, h.rk, h.lkn⟩
theorem Ts.setL (h : Ts w W g r l k t n a) (hn : VRow W' l 3 [.int .i64 (m : Int)]) (ho : ∀ j, j ≠ l → W'.heap[j]? = W.heap[j]?) (hb : Below l W W') : Ts w W' g r l k t m a :=
  ⟨h.q.other ho h.gl, h.z.other ho h.rl, hn, h.vk.off ho h.lkn.symm, h.b.trans (hb.mono h.ll), h.lg, h.lr, h.ll, h.lk, h.gr, h.gl, h.gk, h.rl, h.rk, h.lkn⟩
theorem Ts.setK (h : Ts w W g r l k t n a) (hn : VRow W' k 3 [.int .i64 (c : Int)]) (ho : ∀ j, j ≠ k → W'.heap[j]? = W.heap[j]?) (hb : Below k W W') : Ts w W' g r l k t n c :=
  ⟨h.q.other ho h.gk, h.z.other ho h.rk, h.vl.off ho h.lkn, hn, h.b.trans (hb.mono h.lk), h.lg, h.lr, h.ll, h.lk, h.gr, h.gl, h.gk, h.rl, h.rk, h.lkn⟩
theorem Ts.cl (h : Ts w W g r l k t n a) : W.cell? ⟨l, 0, none⟩ = some (.int .i64 (n : Int)) := h.vl.cell 0 _ rfl
theorem Ts.ck (h : Ts w W g r l k t n a) : W.cell? ⟨k, 0, none⟩ = some (.int .i64 (a : Int)) := h.vk.cell 0 _ rfl
end
theorem tick_at {t : Tm} (h : t.ok) (p : Nat) (hq : nextT t = p + 1) (hr : t.c % 2 = 1) : tickT ⟨(t.a + p) % 65536, t.b, t.c⟩ = ticksT t (p + 1) := by
  obtain ⟨e1, _⟩ := ticks_before h hr p (by omega)
  have ho : onT t p = ⟨(t.a + p) % 65536, t.b, t.c⟩ := if_neg (by omega)
  rw [ticksT, e1, ho]
end Go.Proofs.YtkodoldkfeopdaaGreat.Ti
/- OkTicks -/
namespace Go.Proofs.YtkodoldkfeopdaaGreat.Ti
open Go.RowKit
set_option linter.unusedVariables false
set_option maxRecDepth 100000
set_option linter.unusedSimpArgs false
theorem run_tk {t : Tm} (h : t.ok) (b : Bool) (hb : decide (t.c % 2 = 1) = b) (X : World) : Calls Tryz.prog 55 #[tv t] X fun x w' => x = .returned (.bool b) ∧ Below X.heap.size X w' := by
  subst hb
  exact runs_any t X h
theorem low_tk (v : Int) (m : Nat) (X : World) (h : v % 65536 = (m : Int)) (h0 : -9223372036854775808 ≤ v) (h1 : v ≤ 9223372036854775807) : Calls Tryz.prog 56 #[.int .i64 v] X fun x w' => x = .returned (.int .u16 (m : Int)) ∧ w' = X := by
  have e : low16 v = m := by unfold low16; omega
  rw [← e]
  exact wrapped_any v X h0 h1
end Go.Proofs.YtkodoldkfeopdaaGreat.Ti
/- Ok -/
namespace Go.Proofs.YtkodoldkfeopdaaGreat.Ti
open Go.RowKit
theorem timer_ok : TimerOk where
  peek := peekT_any
  write := writeT_any
  tick := tickT_any
end Go.Proofs.YtkodoldkfeopdaaGreat.Ti
