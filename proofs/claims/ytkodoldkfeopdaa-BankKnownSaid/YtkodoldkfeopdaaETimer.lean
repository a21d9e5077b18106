/-
  Ti: my texts of that device in one, in a namespace of its own. Made by wip/tools/merge.py.
-/
import Derived.Test.YtkodoldkfeopdaaVRow
import Derived.Test.YtkodoldkfeopdaaDTimer
import Derived.Laws.BitsAllLaws
import Derived.Laws.DeepBits32
/- Rticks -/
namespace Go.Proofs.Ytkodoldkfeopdaa.Ti
open Go.RowKit
set_option linter.unusedVariables false
set_option maxRecDepth 100000
end Go.Proofs.Ytkodoldkfeopdaa.Ti
/- Rnext -/
namespace Go.Proofs.Ytkodoldkfeopdaa.Ti
open Go.RowKit
set_option linter.unusedVariables false
set_option maxRecDepth 100000
/-- Behind k ticks that ask for nothing. -/
def onT (t : Tm) (k : Nat) : Tm := if t.c % 2 = 0 then t else ⟨(t.a + k) % 65536, t.b, t.c⟩
theorem onT_ok {t : Tm} (h : t.ok) (k : Nat) : (onT t k).ok := by
  unfold onT
  split
  · exact h
  · exact ⟨by show (t.a + k) % 65536 < 65536; omega, h.b, h.c⟩
theorem onT_zero {t : Tm} (h : t.ok) : onT t 0 = t := by
  unfold onT
  split
  · rfl
  · have := h.a
    rw [Nat.add_zero, Nat.mod_eq_of_lt this]
/-- The next one asks just if it is the one that nextT says. -/
theorem onT_asks {t : Tm} (h : t.ok) (k : Nat) (hk : k < 65536) : asksT (onT t k) = decide (k + 1 = nextT t) := by
  have h1 := h.a
  have h2 := h.b
  unfold asksT onT nextT
  by_cases hr : t.c % 2 = 0
  · rw [if_pos hr, if_pos hr, decide_eq_false (by omega), Bool.false_and, decide_eq_false (by omega)]
  · rw [if_neg hr, if_neg hr, decide_eq_true (show t.c % 2 = 1 by omega), Bool.true_and, decide_eq_decide]
    show ((t.a + k) % 65536 + 1) % 65536 = t.b ↔ _
    omega
theorem onT_tick {t : Tm} (h : t.ok) (k : Nat) (hn : asksT (onT t k) = false) : tickT (onT t k) = onT t (k + 1) := by
  unfold asksT at hn
  unfold tickT
  by_cases hr : t.c % 2 = 0
  · have e : ∀ j, onT t j = t := fun j => if_pos hr
    rw [e, e, if_pos hr]
  · have e : ∀ j, onT t j = ⟨(t.a + j) % 65536, t.b, t.c⟩ := fun j => if_neg hr
    rw [e] at hn ⊢
    rw [e, if_neg hr]
    rw [show decide (t.c % 2 = 1) = true from decide_eq_true (by omega), Bool.true_and, decide_eq_false_iff_not] at hn
    rw [if_neg hn]
    show Tm.mk (((t.a + k) % 65536 + 1) % 65536) t.b t.c = Tm.mk ((t.a + (k + 1)) % 65536) t.b t.c
    rw [show ((t.a + k) % 65536 + 1) % 65536 = (t.a + (k + 1)) % 65536 by omega]
theorem nextT_le (t : Tm) : nextT t ≤ 65536 := by
  unfold nextT
  split <;> omega
end Go.Proofs.Ytkodoldkfeopdaa.Ti
/- Per -/
namespace Go.Proofs.Ytkodoldkfeopdaa.Ti
open Go.RowKit
set_option linter.unusedVariables false
set_option maxRecDepth 100000
theorem still {t : Tm} (h : t.c % 2 = 0) : ∀ n, ticksT t n = t ∧ countT t n = 0
  | 0 => ⟨rfl, rfl⟩
  | n + 1 => by
    obtain ⟨e1, e2⟩ := still h n
    have ha : asksT t = false := by unfold asksT; rw [decide_eq_false (by omega)]; rfl
    refine ⟨?_, ?_⟩
    · rw [ticksT, e1]
      exact if_pos h
    · rw [countT, e1, e2, ha]
      rfl
theorem nextT_run {t : Tm} (h : t.c % 2 = 1) : nextT t = (t.b + 65535 - t.a) % 65536 + 1 := if_neg (by omega)
theorem ticks_before {t : Tm} (h : t.ok) (hr : t.c % 2 = 1) : ∀ n, n < nextT t → ticksT t n = onT t n ∧ countT t n = 0
  | 0, _ => ⟨(onT_zero h).symm, rfl⟩
  | n + 1, hn => by
    obtain ⟨e1, e2⟩ := ticks_before h hr n (by omega)
    have hl := nextT_le t
    have ha : asksT (onT t n) = false := by rw [onT_asks h n (by omega)]; exact decide_eq_false (by omega)
    refine ⟨?_, ?_⟩
    · rw [ticksT, e1, onT_tick h n ha]
    · rw [countT, e1, e2, ha]
      rfl
theorem ticks_first {t : Tm} (h : t.ok) (hr : t.c % 2 = 1) : ticksT t (nextT t) = ⟨0, t.b, if t.c / 2 % 2 = 0 then t.c - 1 else t.c⟩ ∧ countT t (nextT t) = 1 := by
  have h1 := h.a
  have h2 := h.b
  have hl := nextT_le t
  have hn := nextT_run hr
  generalize hm : (t.b + 65535 - t.a) % 65536 = m at hn
  rw [hn]
  obtain ⟨e1, e2⟩ := ticks_before h hr m (by omega)
  have ha : asksT (onT t m) = true := by rw [onT_asks h m (by omega)]; exact decide_eq_true hn.symm
  have ho : onT t m = ⟨(t.a + m) % 65536, t.b, t.c⟩ := if_neg (by omega)
  refine ⟨?_, ?_⟩
  · rw [ticksT, e1, ho]
    unfold tickT
    rw [if_neg (show ¬ t.c % 2 = 0 by omega), if_pos (show ((t.a + m) % 65536 + 1) % 65536 = t.b by omega)]
  · rw [countT, e1, e2, ha]
    rfl
/-- How many ticks a round has. -/
def perT (b : Nat) : Nat := if b = 0 then 65536 else b
theorem next_zero {b c : Nat} (hb : b < 65536) (hc : c % 2 = 1) : nextT ⟨0, b, c⟩ = perT b := by
  rw [nextT_run hc]
  show (b + 65535 - 0) % 65536 + 1 = perT b
  unfold perT
  split <;> omega
theorem perT_pos (b : Nat) : 0 < perT b := by
  unfold perT
  split <;> omega
section
variable {b c : Nat} (hb : b < 65536) (hc : c < 65536) (hr : c % 2 = 1) (ha : c / 2 % 2 = 1)
include hb hc hr ha
theorem ticks_round : ∀ q, ticksT ⟨0, b, c⟩ (perT b * q) = ⟨0, b, c⟩ ∧ countT ⟨0, b, c⟩ (perT b * q) = q
  | 0 => ⟨rfl, rfl⟩
  | q + 1 => by
    obtain ⟨e1, e2⟩ := ticks_round q
    obtain ⟨f1, f2⟩ := ticks_first (t := ⟨0, b, c⟩) ⟨Nat.zero_lt_succ _, hb, hc⟩ hr
    rw [next_zero hb hr] at f1 f2
    rw [Nat.mul_succ, ticksT_add, countT_add, e1, e2]
    refine ⟨?_, ?_⟩
    · rw [f1]
      show Tm.mk 0 b (if c / 2 % 2 = 0 then c - 1 else c) = Tm.mk 0 b c
      rw [if_neg (by omega)]
    · rw [f2]
theorem ticks_rest (q r : Nat) (hq : r < perT b) : ticksT ⟨0, b, c⟩ (perT b * q + r) = ⟨r, b, c⟩ ∧ countT ⟨0, b, c⟩ (perT b * q + r) = q := by
  obtain ⟨e1, e2⟩ := ticks_round hb hc hr ha q
  obtain ⟨f1, f2⟩ := ticks_before (t := ⟨0, b, c⟩) ⟨Nat.zero_lt_succ _, hb, hc⟩ hr r (by rw [next_zero hb hr]; exact hq)
  rw [ticksT_add, countT_add, e1, e2]
  refine ⟨?_, ?_⟩
  · rw [f1]
    unfold onT
    rw [if_neg (show ¬ c % 2 = 0 by omega)]
    show Tm.mk ((0 + r) % 65536) b c = Tm.mk r b c
    have : r < 65536 := by
      unfold perT at hq
      split at hq <;> omega
    rw [Nat.zero_add, Nat.mod_eq_of_lt this]
  · rw [f2]
    rfl
theorem ticks_many (n : Nat) : ticksT ⟨0, b, c⟩ n = ⟨n % perT b, b, c⟩ ∧ countT ⟨0, b, c⟩ n = n / perT b := by
  have h := ticks_rest hb hc hr ha (n / perT b) (n % perT b) (Nat.mod_lt _ (perT_pos b))
  rwa [Nat.div_add_mod] at h
end
/-- Again and again. -/
theorem ticks_again {t : Tm} (h : t.ok) (hr : t.c % 2 = 1) (ha : t.c / 2 % 2 = 1) (n : Nat) (hn : nextT t ≤ n) : ticksT t n = ⟨(n - nextT t) % perT t.b, t.b, t.c⟩ ∧ countT t n = 1 + (n - nextT t) / perT t.b := by
  obtain ⟨e1, e2⟩ := ticks_first h hr
  rw [if_neg (show ¬ t.c / 2 % 2 = 0 by omega)] at e1
  obtain ⟨f1, f2⟩ := ticks_many h.b h.c hr ha (n - nextT t)
  have hs : n = nextT t + (n - nextT t) := by omega
  generalize n - nextT t = j at *
  subst hs
  rw [ticksT_add, countT_add, e1, e2, f1, f2]
  exact ⟨rfl, rfl⟩
/-- Once. -/
theorem ticks_once {t : Tm} (h : t.ok) (hr : t.c % 2 = 1) (ha : t.c / 2 % 2 = 0) (n : Nat) (hn : nextT t ≤ n) : ticksT t n = ⟨0, t.b, t.c - 1⟩ ∧ countT t n = 1 := by
  obtain ⟨e1, e2⟩ := ticks_first h hr
  rw [if_pos ha] at e1
  obtain ⟨f1, f2⟩ := still (t := ⟨0, t.b, t.c - 1⟩) (show (t.c - 1) % 2 = 0 by omega) (n - nextT t)
  have hs : n = nextT t + (n - nextT t) := by omega
  generalize n - nextT t = j at *
  subst hs
  rw [ticksT_add, countT_add, e1, e2, f1, f2]
  exact ⟨rfl, rfl⟩
end Go.Proofs.Ytkodoldkfeopdaa.Ti
/- OkSmall -/
namespace Go.Proofs.Ytkodoldkfeopdaa.Ti
open Go.RowKit
set_option linter.unusedVariables false
set_option maxRecDepth 100000
theorem wrapped_eq (v : Int) : IntKind.u16.wrap v = ((low16 v : Nat) : Int) := by
  rw [low16_cast]
  simp [IntKind.wrap, IntKind.bits, IntKind.signed]
theorem wrapped_any (v : Int) (w : World) (h0 : -9223372036854775808 ≤ v) (h1 : v ≤ 9223372036854775807) : Calls Try.prog 31 #[.int .i64 v] w fun x w' => x = .returned (.int .u16 (low16 v : Nat)) ∧ w' = w := by
  have HE := Lib.hid (wrapped_eq v)
  go_enter Try.func31, Try.ntmps31
  go_wp2
  go_ret
  exact ⟨by rw [← HE.out]; first | rfl | simp [IntKind.wrap, IntKind.bits, IntKind.signed], rfl⟩
theorem u16_and1 (c : Nat) (h : c < 65536) : bits .and .u16 (c : Int) 1 = ((c % 2 : Nat) : Int) := by
  rw [show (1 : Int) = ((1 : Nat) : Int) from rfl, u16_and_nat c 1 h (by decide), Nat.and_one_is_mod]
theorem u16_and2 (c : Nat) (h : c < 65536) : bits .and .u16 (c : Int) 2 = if c / 2 % 2 = 1 then 2 else 0 := by
  rw [show (2 : Int) = ((2 : Nat) : Int) from rfl, u16_and_nat c 2 h (by decide)]
  have e : c &&& 2 = 2 * (c / 2 % 2) := by
    apply Nat.eq_of_testBit_eq
    intro i
    rw [Nat.testBit_and]
    cases i with
    | zero => rw [Nat.testBit_zero, Nat.testBit_zero, Nat.testBit_zero]; simp
    | succ i =>
      rw [Nat.testBit_succ, Nat.testBit_succ, Nat.testBit_succ, show 2 / 2 = 1 by decide, show 2 * (c / 2 % 2) / 2 = c / 2 % 2 by omega, ← Nat.testBit_and, Nat.and_one_is_mod]
  rw [e]
  rcases Nat.mod_two_eq_zero_or_one (c / 2) with h0 | h0 <;> simp [h0]
theorem and_top (x : Nat) (hx : x < 65536) : x &&& 65534 = x - x % 2 := by
  have e := and_even x (by omega)
  have h1 : x &&& 65534 = (x &&& 65535) &&& 4294967294 := by rw [Nat.and_assoc]; rfl
  rw [h1, show x &&& 65535 = x from by rw [Nat.and_two_pow_sub_one_eq_mod x 16]; omega, e]
theorem u16_andNot1 (c : Nat) (h : c < 65536) : bits .andNot .u16 (c : Int) 1 = ((c - c % 2 : Nat) : Int) := by
  rw [show (1 : Int) = ((1 : Nat) : Int) from rfl, u16_andNot_nat c 1 h (by decide), and_top c h]
theorem runs_any (t : Tm) (w : World) (h : t.ok) : Calls Try.prog 32 #[tv t] w fun x w' => x = .returned (.bool (decide (t.c % 2 = 1))) ∧ Below w.heap.size w w' := by
  have hc := h.c
  unfold tv
  by_cases hr : t.c % 2 = 1
  · have d1 : bits .and .u16 (t.c : Int) 1 = 1 := by rw [u16_and1 _ hc]; omega
    have HE : Hid (decide (t.c % 2 = 1) = true) := Lib.hid (decide_eq_true hr)
    clear hr
    go_enter Try.func32, Try.ntmps32
    go_wp2
    go_ret
    exact ⟨by rw [HE.out]; rfl, (Below.refl _ _).alloc (Nat.le_refl _) _⟩
  · have d1 : bits .and .u16 (t.c : Int) 1 = 0 := by rw [u16_and1 _ hc]; omega
    have HE : Hid (decide (t.c % 2 = 1) = false) := Lib.hid (decide_eq_false hr)
    clear hr
    go_enter Try.func32, Try.ntmps32
    go_wp2
    go_ret
    exact ⟨by rw [HE.out]; rfl, (Below.refl _ _).alloc (Nat.le_refl _) _⟩
def regV (g : Nat) : List Value := [.pointer (some ⟨g, 0, none⟩), .pointer (some ⟨g, 1, none⟩), .pointer (some ⟨g, 2, none⟩)]
def regT (g : Nat) (r : Int) : Value := .pointer (if r = 0 then some ⟨g, 0, none⟩ else if r = 1 then some ⟨g, 1, none⟩ else if r = 2 then some ⟨g, 2, none⟩ else none)
set_option maxHeartbeats 1000000 in
set_option maxRecDepth 100000 in
theorem register_any (g : Nat) (r : Int) (w : World) (h0 : -9223372036854775808 ≤ r) (h1 : r ≤ 9223372036854775807) :
    Calls Try.prog 59 #[.pointer (some ⟨g, 0, none⟩), .int .i64 r] w fun x w' => x = .returned (regT g r) ∧ Below w.heap.size w w' := by
  go_enter Try.func59, Try.ntmps59
  go_upto_region 1 with (fail)
  refine wp_region_noPanic ?_
  refine wp_region_held_drew (S := fun X => Below w.heap.size w X) (by kernel_rfl) ((Below.refl _ _).drew) (fun hHeld => ?_)
  obtain ⟨Y0, hY0⟩ : ∃ Y, w.drew = Y := ⟨_, rfl⟩
  rw [hY0] at hHeld ⊢
  clear hY0
  refine' take_ 0 rfl (by kernel_rfl) (by kernel_rfl) (by kernel_rfl) (fun _ _ _ h => h) (by rfl) (fun wS hSw => ?_) hHeld ?_
  rotate_left
  focus (go_simp; (try with_reducible rfl); done)
  try simp only [Act.put, List.setIfInBounds_toArray, List.set_cons_zero, List.set_cons_succ]
  refine' take_ 1 rfl (by kernel_rfl) (by kernel_rfl) (by kernel_rfl) (fun _ _ _ h => h) (by rfl) (fun wS hSw => ?_) hHeld ?_
  rotate_left
  focus (go_simp; (try with_reducible rfl); done)
  try simp only [Act.put, List.setIfInBounds_toArray, List.set_cons_zero, List.set_cons_succ]
  refine' take_ 2 rfl (by kernel_rfl) (by kernel_rfl) (by kernel_rfl) (fun _ _ _ h => h) (by rfl) (fun wS hSw => ?_) hHeld ?_
  rotate_left
  focus (go_simp; (try with_reducible rfl); done)
  try simp only [Act.put, List.setIfInBounds_toArray, List.set_cons_zero, List.set_cons_succ]
  refine' take_ 3 rfl (by kernel_rfl) (by kernel_rfl) (by kernel_rfl) (fun _ _ _ h => h) (by rfl) (fun wS hSw => ?_) hHeld ?_
  rotate_left
  focus (go_simp; (try with_reducible rfl); done)
  try simp only [Act.put, List.setIfInBounds_toArray, List.set_cons_zero, List.set_cons_succ]
  refine' take_ 4 rfl (by kernel_rfl) (by kernel_rfl) (by kernel_rfl) (fun _ _ _ h => h) (by rfl) (fun wS hSw => ?_) hHeld ?_
  rotate_left
  focus (go_simp; (try with_reducible rfl); done)
  try simp only [Act.put, List.setIfInBounds_toArray, List.set_cons_zero, List.set_cons_succ]
  refine' take_ 5 rfl (by kernel_rfl) (by kernel_rfl) (by kernel_rfl) (fun _ _ _ h => h) (by rfl) (fun wS hSw => ?_) hHeld ?_
  rotate_left
  focus (go_simp; (try with_reducible rfl); done)
  try simp only [Act.put, List.setIfInBounds_toArray, List.set_cons_zero, List.set_cons_succ]
  refine' take_ 6 rfl (by kernel_rfl) (by kernel_rfl) (by kernel_rfl) (fun _ _ _ h => h) (by rfl) (fun wS hSw => ?_) hHeld ?_
  rotate_left
  focus (go_simp; (try with_reducible rfl); done)
  try simp only [Act.put, List.setIfInBounds_toArray, List.set_cons_zero, List.set_cons_succ]
  refine' take_ 7 rfl (by kernel_rfl) (by kernel_rfl) (by kernel_rfl) (fun _ _ _ h => h) (by rfl) (fun wS hSw => ?_) hHeld ?_
  rotate_left
  focus (go_simp; (try with_reducible rfl); done)
  try simp only [Act.put, List.setIfInBounds_toArray, List.set_cons_zero, List.set_cons_succ]
  refine' take_ 8 rfl (by kernel_rfl) (by kernel_rfl) (by kernel_rfl) (fun _ _ _ h => h) (by rfl) (fun wS hSw => ?_) hHeld ?_
  rotate_left
  focus (go_simp; (try with_reducible rfl); done)
  try simp only [Act.put, List.setIfInBounds_toArray, List.set_cons_zero, List.set_cons_succ]
  refine' take_ 9 rfl (by kernel_rfl) (by kernel_rfl) (by kernel_rfl) (fun _ _ _ h => h) (by rfl) (fun wS hSw => ?_) hHeld ?_
  rotate_left
  focus (go_simp; (try with_reducible rfl); done)
  try simp only [Act.put, List.setIfInBounds_toArray, List.set_cons_zero, List.set_cons_succ]
  refine only_ 10 rfl (by kernel_rfl) (by rfl) (fun K hK => ?_)
  refine wp_of_run (w' := Y0.alloc (.cells #[.pointer none, .pointer none, .pointer none] 124)) (.pointer (some ⟨Y0.heap.size, 0, none⟩)) (by kernel_rfl) ?_
  have hH1 := hHeld.alloc hHeld.size (.cells #[.pointer none, .pointer none, .pointer none] 124)
  have r1 : VRow _ Y0.heap.size 124 [.pointer none, .pointer none, .pointer none] := alloc_at Y0 (.cells #[.pointer none, .pointer none, .pointer none] 124)
  have hb := hHeld.size
  refine hK.out _ _ hH1 (fun _ => ?_)
  clear hK K
  generalize Y0.alloc (.cells #[.pointer none, .pointer none, .pointer none] 124) = Y1 at *
  generalize Y0.heap.size = b at *
  clear hHeld
  show wpAnyH _ _ _ _ _ _ _ (Act.put _ (some 5) _) _
  try simp only [Act.put, List.setIfInBounds_toArray, List.set_cons_zero, List.set_cons_succ]
  refine only_ 11 rfl (by kernel_rfl) (by rfl) (fun K hK => ?_)
  refine wp_store_v 124 _ _ rfl b rfl (regV g) rfl (by kernel_rfl) (by intro u hu; simp only [regV, List.mem_cons, List.not_mem_nil, or_false] at hu; rcases hu with rfl | rfl | rfl <;> rfl) 124 _ r1 rfl ?_
  intro Y2 HN HO HB
  have B2 := Lib.hid (hH1.trans (HB.out.mono hb))
  refine hK.out _ _ B2.out (fun _ => ?_)
  clear hK K
  have c0 := VRow.cell HN.out 0 _ rfl
  have c1 := VRow.cell HN.out 1 _ rfl
  have c2 := VRow.cell HN.out 2 _ rfl
  clear HN HO HB hH1 r1 hb
  try simp only [Act.put]
  refine wpAnyH_done (by kernel_rfl) ?_ _
  refine NoPanic.normal ?_
  by_cases r0 : r = 0
  · subst r0
    go_wp2
    go_ret
    exact ⟨rfl, B2.out⟩
  by_cases r1 : r = 1
  · subst r1
    go_wp2
    go_ret
    exact ⟨rfl, B2.out⟩
  by_cases r2 : r = 2
  · subst r2
    go_wp2
    go_ret
    exact ⟨rfl, B2.out⟩
  have HE : Hid (regT g r = .pointer none) := Lib.hid (by unfold regT; rw [if_neg r0, if_neg r1, if_neg r2])
  by_cases hn : r < 0
  · clear r0 r1 r2
    go_wp2
    go_ret
    exact ⟨by rw [HE.out]; rfl, B2.out⟩
  · have hg : 3 ≤ r := by omega
    clear r0 r1 r2
    go_wp2
    go_ret
    exact ⟨by rw [HE.out]; rfl, B2.out⟩
end Go.Proofs.Ytkodoldkfeopdaa.Ti
/- OkPeek -/
namespace Go.Proofs.Ytkodoldkfeopdaa.Ti
open Go.RowKit
set_option linter.unusedVariables false
set_option maxRecDepth 100000
set_option maxHeartbeats 400000 in
set_option maxRecDepth 100000 in
theorem peekT_any : PeekC 54 := by
  intro t rg w h hg0 hg1
  have ha := h.a
  have hb := h.b
  have hc := h.c
  unfold tv
  go_enter Try.func54, Try.ntmps54
  go_upto_region 1 with (fail)
  refine name_one (Q := fun X => Code.wp _ _ _ _ X) ?_
  intro W0 hq1 hB0 hz
  have R0 : Hid (TRow W0 w.heap.size 36 t) := Lib.hid hq1
  have B0 : Hid (Below w.heap.size w W0) := Lib.hid hB0
  clear hq1 hB0 hz
  obtain ⟨g, hg⟩ : ∃ g, w.heap.size = g := ⟨_, rfl⟩
  have LG : Hid (w.heap.size ≤ g) := Lib.hid (by omega)
  rw [hg] at R0 ⊢
  clear hg
  have KR := Lib.hid (fun W => register_any g rg W hg0 hg1)
  by_cases h0 : rg = 0
  · subst h0
    have HE : Hid (peekT t 0 = (t.a : Int)) := Lib.hid (if_pos rfl)
    replace KR : Hid (∀ W, Calls Try.prog 59 #[.pointer (some ⟨g, 0, none⟩), .int .i64 0] W fun x w' => x = .returned (.pointer (some ⟨g, 0, none⟩)) ∧ Below W.heap.size W w') := KR
    go_wp2_with (go_at_call 59; refine (KR.out _).mono ?_; rintro e W1 ⟨rfl, hB⟩; have R1 := Lib.hid (R0.out.below hB R0.out.lt); have B1 := Lib.hid (B0.out.trans (hB.mono B0.out.size)); clear hB; have c0 := R1.out.c0; have c1 := R1.out.c1; have c2 := R1.out.c2)
    go_ret
    exact ⟨by rw [HE.out]; rfl, B1.out⟩
  by_cases h1 : rg = 1
  · subst h1
    have HE : Hid (peekT t 1 = (t.b : Int)) := Lib.hid ((if_neg (by decide)).trans (if_pos rfl))
    replace KR : Hid (∀ W, Calls Try.prog 59 #[.pointer (some ⟨g, 0, none⟩), .int .i64 1] W fun x w' => x = .returned (.pointer (some ⟨g, 1, none⟩)) ∧ Below W.heap.size W w') := KR
    go_wp2_with (go_at_call 59; refine (KR.out _).mono ?_; rintro e W1 ⟨rfl, hB⟩; have R1 := Lib.hid (R0.out.below hB R0.out.lt); have B1 := Lib.hid (B0.out.trans (hB.mono B0.out.size)); clear hB; have c0 := R1.out.c0; have c1 := R1.out.c1; have c2 := R1.out.c2)
    go_ret
    exact ⟨by rw [HE.out]; rfl, B1.out⟩
  by_cases h2 : rg = 2
  · subst h2
    have HE : Hid (peekT t 2 = (t.c : Int)) := Lib.hid ((if_neg (by decide)).trans ((if_neg (by decide)).trans (if_pos rfl)))
    replace KR : Hid (∀ W, Calls Try.prog 59 #[.pointer (some ⟨g, 0, none⟩), .int .i64 2] W fun x w' => x = .returned (.pointer (some ⟨g, 2, none⟩)) ∧ Below W.heap.size W w') := KR
    go_wp2_with (go_at_call 59; refine (KR.out _).mono ?_; rintro e W1 ⟨rfl, hB⟩; have R1 := Lib.hid (R0.out.below hB R0.out.lt); have B1 := Lib.hid (B0.out.trans (hB.mono B0.out.size)); clear hB; have c0 := R1.out.c0; have c1 := R1.out.c1; have c2 := R1.out.c2)
    go_ret
    exact ⟨by rw [HE.out]; rfl, B1.out⟩
  · have HE : Hid (peekT t rg = 0) := Lib.hid ((if_neg h0).trans ((if_neg h1).trans (if_neg h2)))
    have KR2 : Hid (∀ W, Calls Try.prog 59 #[.pointer (some ⟨g, 0, none⟩), .int .i64 rg] W fun x w' => x = .returned (.pointer none) ∧ Below W.heap.size W w') := Lib.hid (fun W => by
      have := KR.out W
      unfold regT at this
      rwa [if_neg h0, if_neg h1, if_neg h2] at this)
    clear h0 h1 h2 KR
    go_wp2_with (go_at_call 59; refine (KR2.out _).mono ?_; rintro e W1 ⟨rfl, hB⟩; have R1 := Lib.hid (R0.out.below hB R0.out.lt); have B1 := Lib.hid (B0.out.trans (hB.mono B0.out.size)); clear hB; have c0 := R1.out.c0; have c1 := R1.out.c1; have c2 := R1.out.c2)
    go_ret
    exact ⟨by rw [HE.out]; rfl, B1.out⟩
set_option maxHeartbeats 400000 in
set_option maxRecDepth 100000 in
theorem writeT_any : WriteC 95 := by
  intro t rg v w h hg0 hg1 hv0 hv1
  have HL := Lib.hid (wrapped_eq v)
  have HL2 := Lib.hid (low16_cast v)
  unfold tv
  go_enter Try.func95, Try.ntmps95
  go_upto_region 1 with (fail)
  refine name_two (Q := fun X => Code.wp _ _ _ _ X) ?_
  intro W0 hq1 hq2 hB0
  have T0 := Lib.hid (Tw.new (t := t) 36 hq1 hq2 hB0)
  clear hq1 hq2 hB0
  obtain ⟨g, hg⟩ : ∃ g, w.heap.size = g := ⟨_, rfl⟩
  obtain ⟨r, hr⟩ : ∃ r, w.heap.size + 1 = r := ⟨_, rfl⟩
  rw [hr, hg] at T0 ⊢
  clear hr hg
  have KR := Lib.hid (fun W => register_any g rg W hg0 hg1)
  by_cases h0 : rg = 0
  · subst h0
    have HE : Hid (writeT t 0 v = ⟨low16 v, t.b, t.c⟩) := Lib.hid (if_pos rfl)
    replace KR : Hid (∀ W, Calls Try.prog 59 #[.pointer (some ⟨g, 0, none⟩), .int .i64 0] W fun x w' => x = .returned (.pointer (some ⟨g, 0, none⟩)) ∧ Below W.heap.size W w') := KR
    go_wp2_with (first
      | ((with_reducible show wpList _ _ _ (⟨none, .store 36 (.tmp 6) (.tmp 16), _, _, _, _⟩ :: _) _ _); refine wpList_store_t rfl 36 _ _ rfl r (by exact rfl) (by exact rfl) (by kernel_rfl) 36 T2.out.z ?_; intro WZ HN HO HB; have HZ := HN; have BZ := Lib.hid (T2.out.b.trans (HB.out.mono T2.out.lr)); clear HN HO HB)
      | ((with_reducible show wpList _ _ _ (⟨some 16, .load 36 (.tmp 3), _, _, _, _⟩ :: _) _ _); refine wpList_load_t (by rfl) 36 _ rfl g (by exact rfl) _ Try.underlying36 (by kernel_rfl) 36 T2.out.q ?_)
      | ((with_reducible show wpList _ _ _ (⟨none, .store 34 (.tmp 15) (.tmp 14), _, _, _, _⟩ :: _) _ _); refine wpList_store_c rfl 34 _ _ rfl g 0 (by exact rfl) (.int .u16 ((low16 v : Nat) : Int)) (by first | exact rfl | (rw [← HL.out]; exact rfl) | (rw [HL2.out]; exact rfl)) rfl (by kernel_rfl) 36 _ T1.out.q (show 0 < 3 by decide) ?_; intro WT2 HN HO HB; have T2 : Hid (Tw w WT2 g r 36 ⟨low16 v, t.b, t.c⟩) := Lib.hid (T1.out.setG HN.out HO.out HB.out); clear HN HO HB)
      | (go_at_call 59; refine (KR.out _).mono ?_; rintro e W1 ⟨rfl, hB⟩; have T1 := Lib.hid (T0.out.under hB); clear hB))
    exact bodyPost_ret (v := tv (⟨low16 v, t.b, t.c⟩)) (results_c Try.results95 _ _ _ _ _ rfl (run_loadVar_t WZ r 36 _ Try.underlying36 (by kernel_rfl) 36 HZ.out)) rfl ⟨by first | (rw [HE.out]; done) | (rw [HE.out]; rfl), BZ.out⟩
  by_cases h1 : rg = 1
  · subst h1
    have HE : Hid (writeT t 1 v = ⟨t.a, low16 v, t.c⟩) := Lib.hid ((if_neg (by decide)).trans (if_pos rfl))
    replace KR : Hid (∀ W, Calls Try.prog 59 #[.pointer (some ⟨g, 0, none⟩), .int .i64 1] W fun x w' => x = .returned (.pointer (some ⟨g, 1, none⟩)) ∧ Below W.heap.size W w') := KR
    go_wp2_with (first
      | ((with_reducible show wpList _ _ _ (⟨none, .store 36 (.tmp 6) (.tmp 16), _, _, _, _⟩ :: _) _ _); refine wpList_store_t rfl 36 _ _ rfl r (by exact rfl) (by exact rfl) (by kernel_rfl) 36 T2.out.z ?_; intro WZ HN HO HB; have HZ := HN; have BZ := Lib.hid (T2.out.b.trans (HB.out.mono T2.out.lr)); clear HN HO HB)
      | ((with_reducible show wpList _ _ _ (⟨some 16, .load 36 (.tmp 3), _, _, _, _⟩ :: _) _ _); refine wpList_load_t (by rfl) 36 _ rfl g (by exact rfl) _ Try.underlying36 (by kernel_rfl) 36 T2.out.q ?_)
      | ((with_reducible show wpList _ _ _ (⟨none, .store 34 (.tmp 15) (.tmp 14), _, _, _, _⟩ :: _) _ _); refine wpList_store_c rfl 34 _ _ rfl g 1 (by exact rfl) (.int .u16 ((low16 v : Nat) : Int)) (by first | exact rfl | (rw [← HL.out]; exact rfl) | (rw [HL2.out]; exact rfl)) rfl (by kernel_rfl) 36 _ T1.out.q (show 1 < 3 by decide) ?_; intro WT2 HN HO HB; have T2 : Hid (Tw w WT2 g r 36 ⟨t.a, low16 v, t.c⟩) := Lib.hid (T1.out.setG HN.out HO.out HB.out); clear HN HO HB)
      | (go_at_call 59; refine (KR.out _).mono ?_; rintro e W1 ⟨rfl, hB⟩; have T1 := Lib.hid (T0.out.under hB); clear hB))
    exact bodyPost_ret (v := tv (⟨t.a, low16 v, t.c⟩)) (results_c Try.results95 _ _ _ _ _ rfl (run_loadVar_t WZ r 36 _ Try.underlying36 (by kernel_rfl) 36 HZ.out)) rfl ⟨by first | (rw [HE.out]; done) | (rw [HE.out]; rfl), BZ.out⟩
  by_cases h2 : rg = 2
  · subst h2
    have HE : Hid (writeT t 2 v = ⟨t.a, t.b, low16 v⟩) := Lib.hid ((if_neg (by decide)).trans ((if_neg (by decide)).trans (if_pos rfl)))
    replace KR : Hid (∀ W, Calls Try.prog 59 #[.pointer (some ⟨g, 0, none⟩), .int .i64 2] W fun x w' => x = .returned (.pointer (some ⟨g, 2, none⟩)) ∧ Below W.heap.size W w') := KR
    go_wp2_with (first
      | ((with_reducible show wpList _ _ _ (⟨none, .store 36 (.tmp 6) (.tmp 16), _, _, _, _⟩ :: _) _ _); refine wpList_store_t rfl 36 _ _ rfl r (by exact rfl) (by exact rfl) (by kernel_rfl) 36 T2.out.z ?_; intro WZ HN HO HB; have HZ := HN; have BZ := Lib.hid (T2.out.b.trans (HB.out.mono T2.out.lr)); clear HN HO HB)
      | ((with_reducible show wpList _ _ _ (⟨some 16, .load 36 (.tmp 3), _, _, _, _⟩ :: _) _ _); refine wpList_load_t (by rfl) 36 _ rfl g (by exact rfl) _ Try.underlying36 (by kernel_rfl) 36 T2.out.q ?_)
      | ((with_reducible show wpList _ _ _ (⟨none, .store 34 (.tmp 15) (.tmp 14), _, _, _, _⟩ :: _) _ _); refine wpList_store_c rfl 34 _ _ rfl g 2 (by exact rfl) (.int .u16 ((low16 v : Nat) : Int)) (by first | exact rfl | (rw [← HL.out]; exact rfl) | (rw [HL2.out]; exact rfl)) rfl (by kernel_rfl) 36 _ T1.out.q (show 2 < 3 by decide) ?_; intro WT2 HN HO HB; have T2 : Hid (Tw w WT2 g r 36 ⟨t.a, t.b, low16 v⟩) := Lib.hid (T1.out.setG HN.out HO.out HB.out); clear HN HO HB)
      | (go_at_call 59; refine (KR.out _).mono ?_; rintro e W1 ⟨rfl, hB⟩; have T1 := Lib.hid (T0.out.under hB); clear hB))
    exact bodyPost_ret (v := tv (⟨t.a, t.b, low16 v⟩)) (results_c Try.results95 _ _ _ _ _ rfl (run_loadVar_t WZ r 36 _ Try.underlying36 (by kernel_rfl) 36 HZ.out)) rfl ⟨by first | (rw [HE.out]; done) | (rw [HE.out]; rfl), BZ.out⟩
  · have HE : Hid (writeT t rg v = t) := Lib.hid ((if_neg h0).trans ((if_neg h1).trans (if_neg h2)))
    have KR2 : Hid (∀ W, Calls Try.prog 59 #[.pointer (some ⟨g, 0, none⟩), .int .i64 rg] W fun x w' => x = .returned (.pointer none) ∧ Below W.heap.size W w') := Lib.hid (fun W => by
      have := KR.out W
      unfold regT at this
      rwa [if_neg h0, if_neg h1, if_neg h2] at this)
    clear h0 h1 h2 KR
    go_wp2_with (first
      | ((with_reducible show wpList _ _ _ (⟨none, .store 36 (.tmp 6) (.tmp 16), _, _, _, _⟩ :: _) _ _); refine wpList_store_t rfl 36 _ _ rfl r (by exact rfl) (by exact rfl) (by kernel_rfl) 36 T1.out.z ?_; intro WZ HN HO HB; have HZ := HN; have BZ := Lib.hid (T1.out.b.trans (HB.out.mono T1.out.lr)); clear HN HO HB)
      | ((with_reducible show wpList _ _ _ (⟨some 16, .load 36 (.tmp 3), _, _, _, _⟩ :: _) _ _); refine wpList_load_t (by rfl) 36 _ rfl g (by exact rfl) _ Try.underlying36 (by kernel_rfl) 36 T1.out.q ?_)
      | (go_at_call 59; refine (KR2.out _).mono ?_; rintro e W1 ⟨rfl, hB⟩; have T1 := Lib.hid (T0.out.under hB); clear hB))
    exact bodyPost_ret (v := tv (t)) (results_c Try.results95 _ _ _ _ _ rfl (run_loadVar_t WZ r 36 _ Try.underlying36 (by kernel_rfl) 36 HZ.out)) rfl ⟨by first | (rw [HE.out]; done) | (rw [HE.out]; rfl), BZ.out⟩
end Go.Proofs.Ytkodoldkfeopdaa.Ti
/- OkTick -/
namespace Go.Proofs.Ytkodoldkfeopdaa.Ti
open Go.RowKit
set_option linter.unusedVariables false
set_option maxRecDepth 100000
theorem low_inc (a : Nat) : low16 ((a : Int) + 1) = (a + 1) % 65536 := by unfold low16; omega
set_option maxHeartbeats 1000000 in
set_option maxRecDepth 100000 in
theorem tickT_any : TickC 21 := by
  intro t w h
  have ha := h.a
  have hb := h.b
  have hc := h.c
  have KR := Lib.hid (fun W => runs_any t W h)
  have KW := Lib.hid (fun W => wrapped_any ((t.a : Int) + 1) W (by omega) (by omega))
  rw [low_inc] at KW
  unfold tv at KR
  unfold tv
  go_enter Try.func21, Try.ntmps21
  go_upto_region 1 with (fail)
  refine name_two (Q := fun X => Code.wp _ _ _ _ X) ?_
  intro W0 hq1 hq2 hB0
  have T0 := Lib.hid (Tw.new (t := t) 36 hq1 hq2 hB0)
  clear hq1 hq2 hB0
  obtain ⟨g, hg⟩ : ∃ g, w.heap.size = g := ⟨_, rfl⟩
  obtain ⟨r, hr⟩ : ∃ r, w.heap.size + 1 = r := ⟨_, rfl⟩
  rw [hr, hg] at T0 ⊢
  clear hr hg
  by_cases hr : t.c % 2 = 0
  · have HE : Hid (tickT t = t) := Lib.hid (if_pos hr)
    have HA : Hid (asksT t = false) := Lib.hid (by unfold asksT; rw [decide_eq_false (by omega)]; rfl)
    rw [decide_eq_false (show ¬ t.c % 2 = 1 by omega)] at KR
    clear hr KW
    go_wp2_with (first
      | ((with_reducible show wpList _ _ _ (⟨none, .store 36 (.tmp 2) (.tmp 7), _, _, _, _⟩ :: _) _ _); refine wpList_store_t rfl 36 _ _ rfl r (by exact rfl) (by exact rfl) (by kernel_rfl) 36 T1.out.z ?_; intro WZ HN HO HB; have HZ := HN; have BZ := Lib.hid (T1.out.b.trans (HB.out.mono T1.out.lr)); clear HN HO HB)
      | (go_at_call 32; refine (KR.out _).mono ?_; rintro e WA ⟨rfl, hB⟩; have T1 := Lib.hid (T0.out.under hB); have c0 := T1.out.q.c0; clear hB)
      | ((with_reducible show wpList _ _ _ (⟨some 4, .load 36 (.tmp 1), _, _, _, _⟩ :: _) _ _); refine wpList_load_t (by rfl) 36 _ rfl g (by exact rfl) _ Try.underlying36 (by kernel_rfl) 36 T0.out.q ?_)
      | ((with_reducible show wpList _ _ _ (⟨some 7, .load 36 (.tmp 1), _, _, _, _⟩ :: _) _ _); refine wpList_load_t (by rfl) 36 _ rfl g (by exact rfl) _ Try.underlying36 (by kernel_rfl) 36 T1.out.q ?_))
    exact bodyPost_ret (v := .tuple #[tv (t), .bool false]) (results_ct Try.results21 _ _ _ _ _ _ rfl (run_loadVar_t WZ r 36 _ Try.underlying36 (by kernel_rfl) 36 HZ.out) rfl) rfl ⟨by first | (rw [HE.out, HA.out]; done) | (rw [HE.out, HA.out]; rfl), BZ.out⟩
  rw [decide_eq_true (show t.c % 2 = 1 by omega)] at KR
  have d1 : t.c % 2 = 1 := by omega
  obtain ⟨n, hn⟩ : ∃ n, (t.a + 1) % 65536 = n := ⟨_, rfl⟩
  rw [hn] at KW
  by_cases hq : n = t.b
  · have hne : ((n : Int) != (t.b : Int)) = false := by simp [hq]
    have HA : Hid (asksT t = true) := Lib.hid (by unfold asksT; rw [decide_eq_true (by omega), decide_eq_true (by omega)]; rfl)
    by_cases hag : t.c / 2 % 2 = 0
    · have HE : Hid (tickT t = ⟨0, t.b, t.c - 1⟩) := Lib.hid ((if_neg hr).trans ((if_pos (hn.trans hq)).trans (by rw [if_pos hag])))
      have d2 : bits .and .u16 (t.c : Int) 2 = 0 := by rw [u16_and2 _ hc, if_neg (by omega)]
      have HC : Hid (bits .andNot .u16 (t.c : Int) 1 = ((t.c - 1 : Nat) : Int)) := Lib.hid (by rw [u16_andNot1 _ hc, d1])
      clear hag hq hr hn d1
      go_wp2_with (first
        | ((with_reducible show wpList _ _ _ (⟨none, .store 36 (.tmp 2) (.tmp 29), _, _, _, _⟩ :: _) _ _); refine wpList_store_t rfl 36 _ _ rfl r (by exact rfl) (by exact rfl) (by kernel_rfl) 36 T4.out.z ?_; intro WZ HN HO HB; have HZ := HN; have BZ := Lib.hid (T4.out.b.trans (HB.out.mono T4.out.lr)); clear HN HO HB)
        | ((with_reducible show wpList _ _ _ (⟨some 29, .load 36 (.tmp 1), _, _, _, _⟩ :: _) _ _); refine wpList_load_t (by rfl) 36 _ rfl g (by exact rfl) _ Try.underlying36 (by kernel_rfl) 36 T4.out.q ?_)
        | ((with_reducible show wpList _ _ _ (⟨none, .store 34 (.tmp 28) (.tmp 27), _, _, _, _⟩ :: _) _ _); refine wpList_store_c rfl 34 _ _ rfl g 2 (by exact rfl) (.int .u16 ((t.c - 1 : Nat) : Int)) (by first | exact rfl | (rw [← HC.out]; exact rfl)) rfl (by kernel_rfl) 36 _ T3.out.q (show 2 < 3 by decide) ?_; intro WT4 HN HO HB; have T4 : Hid (Tw w WT4 g r 36 ⟨0, t.b, t.c - 1⟩) := Lib.hid (T3.out.setG HN.out HO.out HB.out); clear HN HO HB)
        | ((with_reducible show wpList _ _ _ (⟨none, .store 34 (.tmp 20) _, _, _, _, _⟩ :: _) _ _); refine wpList_store_c rfl 34 _ _ rfl g 0 (by exact rfl) (.int .u16 ((0 : Nat) : Int)) (by exact rfl) rfl (by kernel_rfl) 36 _ T2.out.q (show 0 < 3 by decide) ?_; intro WT3 HN HO HB; have T3 : Hid (Tw w WT3 g r 36 ⟨0, t.b, t.c⟩) := Lib.hid (T2.out.setG HN.out HO.out HB.out); clear HN HO HB; have e2 := T3.out.q.c2)
        | ((with_reducible show wpList _ _ _ (⟨none, .store 34 (.tmp 13) (.tmp 12), _, _, _, _⟩ :: _) _ _); refine wpList_store_c rfl 34 _ _ rfl g 0 (by exact rfl) (.int .u16 (n : Int)) (by exact rfl) rfl (by kernel_rfl) 36 _ T1.out.q (show 0 < 3 by decide) ?_; intro WT2 HN HO HB; have T2 : Hid (Tw w WT2 g r 36 ⟨n, t.b, t.c⟩) := Lib.hid (T1.out.setG HN.out HO.out HB.out); clear HN HO HB; have e0 := T2.out.q.c0; have e1 := T2.out.q.c1)
        | (go_at_call 31; refine (KW.out _).mono ?_; rintro e WB ⟨rfl, rfl⟩)
        | (go_at_call 32; refine (KR.out _).mono ?_; rintro e WA ⟨rfl, hB⟩; have T1 := Lib.hid (T0.out.under hB); have c0 := T1.out.q.c0; clear hB)
        | ((with_reducible show wpList _ _ _ (⟨some 4, .load 36 (.tmp 1), _, _, _, _⟩ :: _) _ _); refine wpList_load_t (by rfl) 36 _ rfl g (by exact rfl) _ Try.underlying36 (by kernel_rfl) 36 T0.out.q ?_))
      exact bodyPost_ret (v := .tuple #[tv (⟨0, t.b, t.c - 1⟩), .bool true]) (results_ct Try.results21 _ _ _ _ _ _ rfl (run_loadVar_t WZ r 36 _ Try.underlying36 (by kernel_rfl) 36 HZ.out) rfl) rfl ⟨by first | (rw [HE.out, HA.out]; done) | (rw [HE.out, HA.out]; rfl), BZ.out⟩
    · have HE : Hid (tickT t = ⟨0, t.b, t.c⟩) := Lib.hid ((if_neg hr).trans ((if_pos (hn.trans hq)).trans (by rw [if_neg hag])))
      have d2 : bits .and .u16 (t.c : Int) 2 = 2 := by rw [u16_and2 _ hc, if_pos (by omega)]
      clear hag hq hr hn d1
      go_wp2_with (first
        | ((with_reducible show wpList _ _ _ (⟨none, .store 36 (.tmp 2) (.tmp 29), _, _, _, _⟩ :: _) _ _); refine wpList_store_t rfl 36 _ _ rfl r (by exact rfl) (by exact rfl) (by kernel_rfl) 36 T3.out.z ?_; intro WZ HN HO HB; have HZ := HN; have BZ := Lib.hid (T3.out.b.trans (HB.out.mono T3.out.lr)); clear HN HO HB)
        | ((with_reducible show wpList _ _ _ (⟨some 29, .load 36 (.tmp 1), _, _, _, _⟩ :: _) _ _); refine wpList_load_t (by rfl) 36 _ rfl g (by exact rfl) _ Try.underlying36 (by kernel_rfl) 36 T3.out.q ?_)
        | ((with_reducible show wpList _ _ _ (⟨none, .store 34 (.tmp 20) _, _, _, _, _⟩ :: _) _ _); refine wpList_store_c rfl 34 _ _ rfl g 0 (by exact rfl) (.int .u16 ((0 : Nat) : Int)) (by exact rfl) rfl (by kernel_rfl) 36 _ T2.out.q (show 0 < 3 by decide) ?_; intro WT3 HN HO HB; have T3 : Hid (Tw w WT3 g r 36 ⟨0, t.b, t.c⟩) := Lib.hid (T2.out.setG HN.out HO.out HB.out); clear HN HO HB; have e2 := T3.out.q.c2)
        | ((with_reducible show wpList _ _ _ (⟨none, .store 34 (.tmp 13) (.tmp 12), _, _, _, _⟩ :: _) _ _); refine wpList_store_c rfl 34 _ _ rfl g 0 (by exact rfl) (.int .u16 (n : Int)) (by exact rfl) rfl (by kernel_rfl) 36 _ T1.out.q (show 0 < 3 by decide) ?_; intro WT2 HN HO HB; have T2 : Hid (Tw w WT2 g r 36 ⟨n, t.b, t.c⟩) := Lib.hid (T1.out.setG HN.out HO.out HB.out); clear HN HO HB; have e0 := T2.out.q.c0; have e1 := T2.out.q.c1)
        | (go_at_call 31; refine (KW.out _).mono ?_; rintro e WB ⟨rfl, rfl⟩)
        | (go_at_call 32; refine (KR.out _).mono ?_; rintro e WA ⟨rfl, hB⟩; have T1 := Lib.hid (T0.out.under hB); have c0 := T1.out.q.c0; clear hB)
        | ((with_reducible show wpList _ _ _ (⟨some 4, .load 36 (.tmp 1), _, _, _, _⟩ :: _) _ _); refine wpList_load_t (by rfl) 36 _ rfl g (by exact rfl) _ Try.underlying36 (by kernel_rfl) 36 T0.out.q ?_))
      exact bodyPost_ret (v := .tuple #[tv (⟨0, t.b, t.c⟩), .bool true]) (results_ct Try.results21 _ _ _ _ _ _ rfl (run_loadVar_t WZ r 36 _ Try.underlying36 (by kernel_rfl) 36 HZ.out) rfl) rfl ⟨by first | (rw [HE.out, HA.out]; done) | (rw [HE.out, HA.out]; rfl), BZ.out⟩
  · have hne : ((n : Int) != (t.b : Int)) = true := by simp; omega
    have HA : Hid (asksT t = false) := Lib.hid (by unfold asksT; rw [decide_eq_true (by omega), decide_eq_false (by omega)]; rfl)
    have HE : Hid (tickT t = ⟨n, t.b, t.c⟩) := Lib.hid ((if_neg hr).trans ((if_neg (by rw [hn]; exact hq)).trans (by rw [hn])))
    clear hq hr hn d1
    go_wp2_with (first
      | ((with_reducible show wpList _ _ _ (⟨none, .store 36 (.tmp 2) (.tmp 19), _, _, _, _⟩ :: _) _ _); refine wpList_store_t rfl 36 _ _ rfl r (by exact rfl) (by exact rfl) (by kernel_rfl) 36 T2.out.z ?_; intro WZ HN HO HB; have HZ := HN; have BZ := Lib.hid (T2.out.b.trans (HB.out.mono T2.out.lr)); clear HN HO HB)
      | ((with_reducible show wpList _ _ _ (⟨some 19, .load 36 (.tmp 1), _, _, _, _⟩ :: _) _ _); refine wpList_load_t (by rfl) 36 _ rfl g (by exact rfl) _ Try.underlying36 (by kernel_rfl) 36 T2.out.q ?_)
      | ((with_reducible show wpList _ _ _ (⟨none, .store 34 (.tmp 13) (.tmp 12), _, _, _, _⟩ :: _) _ _); refine wpList_store_c rfl 34 _ _ rfl g 0 (by exact rfl) (.int .u16 (n : Int)) (by exact rfl) rfl (by kernel_rfl) 36 _ T1.out.q (show 0 < 3 by decide) ?_; intro WT2 HN HO HB; have T2 : Hid (Tw w WT2 g r 36 ⟨n, t.b, t.c⟩) := Lib.hid (T1.out.setG HN.out HO.out HB.out); clear HN HO HB; have e0 := T2.out.q.c0; have e1 := T2.out.q.c1)
      | (go_at_call 31; refine (KW.out _).mono ?_; rintro e WB ⟨rfl, rfl⟩)
      | (go_at_call 32; refine (KR.out _).mono ?_; rintro e WA ⟨rfl, hB⟩; have T1 := Lib.hid (T0.out.under hB); have c0 := T1.out.q.c0; clear hB)
      | ((with_reducible show wpList _ _ _ (⟨some 4, .load 36 (.tmp 1), _, _, _, _⟩ :: _) _ _); refine wpList_load_t (by rfl) 36 _ rfl g (by exact rfl) _ Try.underlying36 (by kernel_rfl) 36 T0.out.q ?_))
    exact bodyPost_ret (v := .tuple #[tv (⟨n, t.b, t.c⟩), .bool false]) (results_ct Try.results21 _ _ _ _ _ _ rfl (run_loadVar_t WZ r 36 _ Try.underlying36 (by kernel_rfl) 36 HZ.out) rfl) rfl ⟨by first | (rw [HE.out, HA.out]; done) | (rw [HE.out, HA.out]; rfl), BZ.out⟩
theorem low_gap {t : Tm} (h : t.ok) : low16 ((t.b : Int) - (t.a : Int) - 1) = (t.b + 65535 - t.a) % 65536 := by
  have ha := h.a
  have hb := h.b
  unfold low16
  omega
set_option maxHeartbeats 1000000 in
set_option maxRecDepth 100000 in
theorem nextT_any : NextC 30 := by
  intro t w h
  have ha := h.a
  have hb := h.b
  have hc := h.c
  have KR := Lib.hid (fun W => runs_any t W h)
  have KW := Lib.hid (fun W => wrapped_any ((t.b : Int) - (t.a : Int) - 1) W (by omega) (by omega))
  rw [low_gap h] at KW
  unfold tv at KR
  unfold tv
  go_enter Try.func30, Try.ntmps30
  go_upto_region 1 with (fail)
  refine name_one (Q := fun X => Code.wp _ _ _ _ X) ?_
  intro W0 hq1 hB0 hz
  have R0 : Hid (TRow W0 w.heap.size 36 t) := Lib.hid hq1
  have B0 : Hid (Below w.heap.size w W0) := Lib.hid hB0
  clear hq1 hB0 hz
  obtain ⟨g, hg⟩ : ∃ g, w.heap.size = g := ⟨_, rfl⟩
  rw [hg] at R0 ⊢
  clear hg
  by_cases hr : t.c % 2 = 0
  · have HE : Hid (nextT t = 0) := Lib.hid (if_pos hr)
    rw [decide_eq_false (show ¬ t.c % 2 = 1 by omega)] at KR
    clear hr KW
    go_wp2_with (first
      | ((with_reducible show wpList _ _ _ (⟨some 3, .load 36 (.tmp 1), _, _, _, _⟩ :: _) _ _); refine wpList_load_t (by rfl) 36 _ rfl g (by exact rfl) _ Try.underlying36 (by kernel_rfl) 36 R0.out ?_)
      | (go_at_call 32; refine (KR.out _).mono ?_; rintro e WA ⟨rfl, hB⟩; have R1 := Lib.hid (R0.out.below hB R0.out.lt); have B1 := Lib.hid (B0.out.trans (hB.mono B0.out.size)); have c0 := R1.out.c0; have c1 := R1.out.c1; clear hB))
    go_ret
    exact ⟨by rw [HE.out]; rfl, B1.out⟩
  · rw [decide_eq_true (show t.c % 2 = 1 by omega)] at KR
    have hE := nextT_run (show t.c % 2 = 1 by omega)
    obtain ⟨m, hm⟩ : ∃ m, (t.b + 65535 - t.a) % 65536 = m := ⟨_, rfl⟩
    rw [hm] at KW hE
    have hm2 : m < 65536 := by omega
    have HE := Lib.hid hE
    clear hr hE hm
    go_wp2_with (first
      | ((with_reducible show wpList _ _ _ (⟨some 3, .load 36 (.tmp 1), _, _, _, _⟩ :: _) _ _); refine wpList_load_t (by rfl) 36 _ rfl g (by exact rfl) _ Try.underlying36 (by kernel_rfl) 36 R0.out ?_)
      | (go_at_call 32; refine (KR.out _).mono ?_; rintro e WA ⟨rfl, hB⟩; have R1 := Lib.hid (R0.out.below hB R0.out.lt); have B1 := Lib.hid (B0.out.trans (hB.mono B0.out.size)); have c0 := R1.out.c0; have c1 := R1.out.c1; clear hB)
      | (go_at_call 31; refine (KW.out _).mono ?_; rintro e WB ⟨rfl, rfl⟩))
    go_ret
    exact ⟨by rw [HE.out]; rfl, B1.out⟩
end Go.Proofs.Ytkodoldkfeopdaa.Ti
/- OkRound -/
namespace Go.Proofs.Ytkodoldkfeopdaa.Ti
open Go.RowKit
set_option linter.unusedVariables false
set_option maxRecDepth 100000
/-- What the closure shares with its function: the timer (g), what is left (l), how often it asked (k); and the result (r). -/
structure Ts (w W : World) (g r l k : Nat) (t : Tm) (n a : Nat) : Prop where
  q : TRow W g 36 t
  z : TRow W r 36 ⟨0, 0, 0⟩
  vl : VRow W l 3 [.int .i64 (n : Int)]
  vk : VRow W k 3 [.int .i64 (a : Int)]
  b : Below w.heap.size w W
  lg : w.heap.size ≤ g
  lr : w.heap.size ≤ r
  ll : w.heap.size ≤ l
  lk : w.heap.size ≤ k
  gr : g ≠ r
  gl : g ≠ l
  gk : g ≠ k
  rl : r ≠ l
  rk : r ≠ k
  lkn : l ≠ k
section
variable {w W W' : World} {g r l k : Nat} {t u : Tm} {n m a c : Nat}
theorem _root_.Go.Proofs.Ytkodoldkfeopdaa.VRow.off {W W' : World} {g r : Nat} {ty : TypeId} {cs : List Value} (h : VRow W g ty cs) (ho : ∀ j, j ≠ r → W'.heap[j]? = W.heap[j]?) (hr : g ≠ r) : VRow W' g ty cs := (ho g hr).trans h
theorem Ts.under (h : Ts w W g r l k t n a) (hb : Below W.heap.size W W') : Ts w W' g r l k t n a := ⟨h.q.below hb h.q.lt, h.z.below hb h.z.lt, h.vl.below hb h.vl.lt, h.vk.below hb h.vk.lt, h.b.trans (hb.mono h.b.size), h.lg, h.lr, h.ll, h.lk, h.gr, h.gl, h.gk, h.rl, h.rk, h.lkn⟩
theorem Ts.setG (h : Ts w W g r l k t n a) (hn : TRow W' g 36 u) (ho : ∀ j, j ≠ g → W'.heap[j]? = W.heap[j]?) (hb : Below g W W') : Ts w W' g r l k u n a :=
  ⟨hn, h.z.other ho h.gr.symm, h.vl.off ho h.gl.symm, h.vk.off ho h.gk.symm, h.b.trans (hb.mono h.lg), h.lg, h.lr, h.ll, h.lk, h.gr, h.gl, h.gk, h.rl, h.rk, h.lkn⟩
theorem Ts.setL (h : Ts w W g r l k t n a) (hn : VRow W' l 3 [.int .i64 (m : Int)]) (ho : ∀ j, j ≠ l → W'.heap[j]? = W.heap[j]?) (hb : Below l W W') : Ts w W' g r l k t m a :=
  ⟨h.q.other ho h.gl, h.z.other ho h.rl, hn, h.vk.off ho h.lkn.symm, h.b.trans (hb.mono h.ll), h.lg, h.lr, h.ll, h.lk, h.gr, h.gl, h.gk, h.rl, h.rk, h.lkn⟩
theorem Ts.setK (h : Ts w W g r l k t n a) (hn : VRow W' k 3 [.int .i64 (c : Int)]) (ho : ∀ j, j ≠ k → W'.heap[j]? = W.heap[j]?) (hb : Below k W W') : Ts w W' g r l k t n c :=
  ⟨h.q.other ho h.gk, h.z.other ho h.rk, h.vl.off ho h.lkn, hn, h.b.trans (hb.mono h.lk), h.lg, h.lr, h.ll, h.lk, h.gr, h.gl, h.gk, h.rl, h.rk, h.lkn⟩
theorem Ts.cl (h : Ts w W g r l k t n a) : W.cell? ⟨l, 0, none⟩ = some (.int .i64 (n : Int)) := h.vl.cell 0 _ rfl
theorem Ts.ck (h : Ts w W g r l k t n a) : W.cell? ⟨k, 0, none⟩ = some (.int .i64 (a : Int)) := h.vk.cell 0 _ rfl
end
set_option maxHeartbeats 1000000 in
set_option maxRecDepth 100000 in
theorem round_no {w W : World} {g r l k : Nat} {t : Tm} {n a : Nat} (h : t.ok) (hs : Ts w W g r l k t n a) (hn : (n : Int) ≤ 9223372036854775807) (hx : nextT t = 0 ∨ n < nextT t) :
    Calls Try.prog 29 #[.pointer (some ⟨g, 0, none⟩), .pointer (some ⟨l, 0, none⟩), .pointer (some ⟨k, 0, none⟩)] W fun x W' => x = .returned (.int .i64 0) ∧ Ts w W' g r l k t n a := by
  have T0 := Lib.hid hs
  have KN := Lib.hid (fun X => nextT_any t X h)
  have hle := nextT_le t
  obtain ⟨q, hq⟩ : ∃ q, nextT t = q := ⟨_, rfl⟩
  rw [hq] at KN hx hle
  clear hs hq h
  by_cases hz : q = 0
  · subst hz
    clear hx hle
    go_enter Try.func29, Try.ntmps29
    go_wp2_with (first
      | ((with_reducible show wpList _ _ _ (⟨some 5, .load 36 (.tmp 0), _, _, _, _⟩ :: _) _ _); refine wpList_load_t (by rfl) 36 _ rfl g (by exact rfl) _ Try.underlying36 (by kernel_rfl) 36 T0.out.q ?_)
      | (go_at_call 30; refine (KN.out _).mono ?_; rintro e WA ⟨rfl, hB⟩; have T1 := Lib.hid (T0.out.under hB); have cl := T1.out.cl; have ck := T1.out.ck; have c1 := T1.out.q.c0; clear hB))
    go_ret
    exact ⟨rfl, T1.out⟩
  · have hl : n < q := by omega
    have d1 : ((q : Int) == 0) = false := by simpa using hz
    have d2 : (n : Int) < (q : Int) := by omega
    clear hx hz hl
    go_enter Try.func29, Try.ntmps29
    go_wp2_with (first
      | ((with_reducible show wpList _ _ _ (⟨some 5, .load 36 (.tmp 0), _, _, _, _⟩ :: _) _ _); refine wpList_load_t (by rfl) 36 _ rfl g (by exact rfl) _ Try.underlying36 (by kernel_rfl) 36 T0.out.q ?_)
      | (go_at_call 30; refine (KN.out _).mono ?_; rintro e WA ⟨rfl, hB⟩; have T1 := Lib.hid (T0.out.under hB); have cl := T1.out.cl; have ck := T1.out.ck; have c1 := T1.out.q.c0; clear hB))
    go_ret
    exact ⟨rfl, T1.out⟩
theorem tick_at {t : Tm} (h : t.ok) (p : Nat) (hq : nextT t = p + 1) (hr : t.c % 2 = 1) : tickT ⟨(t.a + p) % 65536, t.b, t.c⟩ = ticksT t (p + 1) := by
  obtain ⟨e1, _⟩ := ticks_before h hr p (by omega)
  have ho : onT t p = ⟨(t.a + p) % 65536, t.b, t.c⟩ := if_neg (by omega)
  rw [ticksT, e1, ho]
set_option maxHeartbeats 1000000 in
set_option maxRecDepth 100000 in
theorem round_yes {w W : World} {g r l k : Nat} {t : Tm} {n a : Nat} (h : t.ok) (hs : Ts w W g r l k t n a) (hn : (n : Int) ≤ 9223372036854775807) (ha : a ≤ 10) (hr : t.c % 2 = 1) (hx : nextT t ≤ n) :
    Calls Try.prog 29 #[.pointer (some ⟨g, 0, none⟩), .pointer (some ⟨l, 0, none⟩), .pointer (some ⟨k, 0, none⟩)] W fun x W' => x = .returned (.int .i64 (nextT t : Nat)) ∧ Ts w W' g r l k (ticksT t (nextT t)) (n - nextT t) (a + 1) := by
  have T0 := Lib.hid hs
  have KN := Lib.hid (fun X => nextT_any t X h)
  have hle := nextT_le t
  have ho1 := h.a
  have ho2 := h.b
  have ho3 := h.c
  have hqr := nextT_run hr
  obtain ⟨p, hp⟩ : ∃ p, (t.b + 65535 - t.a) % 65536 = p := ⟨_, rfl⟩
  rw [hp] at hqr
  have hta := tick_at h p hqr hr
  obtain ⟨q, hq⟩ : ∃ q, nextT t = q := ⟨_, rfl⟩
  have hqp : p + 1 = q := by omega
  rw [hqp] at hta
  rw [hq] at KN hx hle ⊢
  have KW := Lib.hid (fun X => wrapped_any ((t.a : Int) + (q : Int) - 1) X (by omega) (by omega))
  have e1 : low16 ((t.a : Int) + (q : Int) - 1) = (t.a + p) % 65536 := by unfold low16; omega
  rw [e1] at KW
  have KT := Lib.hid (fun X => tickT_any ⟨(t.a + p) % 65536, t.b, t.c⟩ X ⟨Nat.mod_lt _ (by decide), ho2, ho3⟩)
  rw [hta] at KT
  obtain ⟨tm, htm⟩ : ∃ x, (Tm.mk ((t.a + p) % 65536) t.b t.c) = x := ⟨_, rfl⟩
  rw [htm] at KT
  obtain ⟨b, hb⟩ : ∃ x, asksT tm = x := ⟨_, rfl⟩
  rw [hb] at KT
  obtain ⟨t2, ht2⟩ : ∃ x, ticksT t q = x := ⟨_, rfl⟩
  rw [ht2] at KT ⊢
  obtain ⟨m, hm⟩ : ∃ x, (t.a + p) % 65536 = x := ⟨_, rfl⟩
  rw [hm] at htm KW
  have HM := Lib.hid htm
  have HS : Hid ((n : Int) - (q : Int) = ((n - q : Nat) : Int)) := Lib.hid (by omega)
  have HA : Hid ((a : Int) + 1 = ((a + 1 : Nat) : Int)) := Lib.hid rfl
  have d1 : ((q : Int) == 0) = false := by simp; omega
  have d2 : ¬ (n : Int) < (q : Int) := by omega
  have d3 : (q : Int) ≤ (n : Int) := by omega
  have d4 : 0 < (q : Int) := by omega
  have d5 : (q : Int) ≤ 65536 := by omega
  have d6 : (a : Int) ≤ 10 := by omega
  have c0 := T0.out.q.c0
  clear hs hq h hqr hp hta hqp e1 htm hb ht2 hm hx hle hr
  go_enter Try.func29, Try.ntmps29
  go_wp2_with (first
    | ((with_reducible show wpList _ _ _ (⟨none, .store 3 (.tmp 2) (.tmp 31), _, _, _, _⟩ :: _) _ _); refine wpList_store_c rfl 3 _ _ rfl k 0 (by exact rfl) (.int .i64 ((a + 1 : Nat) : Int)) (by first | exact rfl | (rw [← HA.out]; exact rfl)) rfl (by kernel_rfl) 3 _ T5.out.vk (show 0 < 1 by decide) ?_; intro WG HN HO HB; have T6 := Lib.hid (T5.out.setK HN.out HO.out HB.out); clear HN HO HB)
    | ((with_reducible show wpList _ _ _ (⟨none, .store 3 (.tmp 1) (.tmp 29), _, _, _, _⟩ :: _) _ _); refine wpList_store_c rfl 3 _ _ rfl l 0 (by exact rfl) (.int .i64 ((n - q : Nat) : Int)) (by first | exact rfl | (rw [← HS.out]; exact rfl)) rfl (by kernel_rfl) 3 _ T4.out.vl (show 0 < 1 by decide) ?_; intro WF HN HO HB; have T5 := Lib.hid (T4.out.setL HN.out HO.out HB.out); clear HN HO HB; have kf := T5.out.ck)
    | ((with_reducible show wpList _ _ _ (⟨none, .store 36 (.tmp 0) (.tmp 25), _, _, _, _⟩ :: _) _ _); refine wpList_store_t rfl 36 _ _ rfl g (by exact rfl) (by exact rfl) (by kernel_rfl) 36 T3.out.q ?_; intro WE HN HO HB; have T4 := Lib.hid (T3.out.setG HN.out HO.out HB.out); clear HN HO HB; have fWE := T4.out.cl; have kWE := T4.out.ck)
    | (go_at_call 21; refine (KT.out _).mono ?_; rintro e WD ⟨rfl, hB⟩; have T3 := Lib.hid (T2.out.under hB); clear hB)
    | ((with_reducible show wpList _ _ _ (⟨some 23, .load 36 (.tmp 0), _, _, _, _⟩ :: _) _ _); refine wpList_load_t (by rfl) 36 _ rfl g (by exact rfl) _ Try.underlying36 (by kernel_rfl) 36 T2.out.q ?_)
    | ((with_reducible show wpList _ _ _ (⟨none, .store 34 (.tmp 21) (.tmp 20), _, _, _, _⟩ :: _) _ _); refine wpList_store_c rfl 34 _ _ rfl g 0 (by exact rfl) (.int .u16 (m : Int)) (by exact rfl) rfl (by kernel_rfl) 36 _ T1.out.q (show 0 < 3 by decide) ?_; intro WC HN HO HB; have T2 : Hid (Ts w WC g r l k tm n a) := Lib.hid (T1.out.setG (by rw [← HM.out]; exact HN.out) HO.out HB.out); clear HN HO HB)
    | (go_at_call 31; refine (KW.out _).mono ?_; rintro e WB ⟨rfl, rfl⟩)
    | (go_at_call 30; refine (KN.out _).mono ?_; rintro e WA ⟨rfl, hB⟩; have T1 := Lib.hid (T0.out.under hB); have cl := T1.out.cl; have ck := T1.out.ck; have c1 := T1.out.q.c0; clear hB)
    | ((with_reducible show wpList _ _ _ (⟨some 5, .load 36 (.tmp 0), _, _, _, _⟩ :: _) _ _); refine wpList_load_t (by rfl) 36 _ rfl g (by exact rfl) _ Try.underlying36 (by kernel_rfl) 36 T0.out.q ?_))
  go_ret
  exact ⟨rfl, T6.out⟩
end Go.Proofs.Ytkodoldkfeopdaa.Ti
/- OkTicks -/
namespace Go.Proofs.Ytkodoldkfeopdaa.Ti
open Go.RowKit
set_option linter.unusedVariables false
set_option maxRecDepth 100000
set_option linter.unusedSimpArgs false
theorem run_tk {t : Tm} (h : t.ok) (b : Bool) (hb : decide (t.c % 2 = 1) = b) (X : World) : Calls Try.prog 32 #[tv t] X fun x w' => x = .returned (.bool b) ∧ Below X.heap.size X w' := by
  subst hb
  exact runs_any t X h
theorem low_tk (v : Int) (m : Nat) (X : World) (h : v % 65536 = (m : Int)) (h0 : -9223372036854775808 ≤ v) (h1 : v ≤ 9223372036854775807) : Calls Try.prog 31 #[.int .i64 v] X fun x w' => x = .returned (.int .u16 (m : Int)) ∧ w' = X := by
  have e : low16 v = m := by unfold low16; omega
  rw [← e]
  exact wrapped_any v X h0 h1
set_option maxHeartbeats 4000000 in
set_option maxRecDepth 100000 in
theorem ticksT_any : TicksC 18 := by
  intro t n w h hn0 hn1
  unfold tv
  go_enter Try.func18, Try.ntmps18
  go_upto_region 1 with (fail)
  refine name_two (Q := fun X => Code.wp _ _ _ _ X) ?_
  intro W0 hq1 hq2 hB0
  have T0 := Lib.hid (Tw.new (t := t) 36 hq1 hq2 hB0)
  clear hq1 hq2 hB0
  obtain ⟨g, hg⟩ : ∃ g, w.heap.size = g := ⟨_, rfl⟩
  obtain ⟨r, hr⟩ : ∃ r, w.heap.size + 1 = r := ⟨_, rfl⟩
  rw [hr, hg] at T0 ⊢
  clear hr hg
  have ha := h.a
  have hb := h.b
  have hc := h.c
  by_cases hneg : n < 0
  · have HNN : n.toNat = 0 := by omega
    go_upto_region 2 with (fail)
    refine name_two (Q := fun X => Code.wp _ _ _ _ X) ?_
    intro W1 hq1 hq2 hB0
    have T1 : Hid (Ts w W1 g r W0.heap.size (W0.heap.size + 1) t 0 0) := Lib.hid ⟨T0.out.q.below hB0 T0.out.q.lt, T0.out.z.below hB0 T0.out.z.lt, hq1, hq2, T0.out.b.trans (hB0.mono T0.out.b.size), T0.out.lg, T0.out.lr, T0.out.b.size, Nat.le_succ_of_le T0.out.b.size, T0.out.gr, Nat.ne_of_lt T0.out.q.lt, Nat.ne_of_lt (Nat.lt_succ_of_lt T0.out.q.lt), Nat.ne_of_lt T0.out.z.lt, Nat.ne_of_lt (Nat.lt_succ_of_lt T0.out.z.lt), Nat.ne_of_lt (Nat.lt_succ_self _)⟩
    clear hq1 hq2 hB0 T0
    obtain ⟨l, hl⟩ : ∃ l, W0.heap.size = l := ⟨_, rfl⟩
    obtain ⟨k, hk⟩ : ∃ k, W0.heap.size + 1 = k := ⟨_, rfl⟩
    rw [hk, hl] at T1 ⊢
    clear hk hl
    by_cases hr : t.c % 2 = 0
    · clear HNN
      have KA1 : Hid (∀ X, Ts w X g r l k t 0 0 → Calls Try.prog 29 #[.pointer (some ⟨g, 0, none⟩), .pointer (some ⟨l, 0, none⟩), .pointer (some ⟨k, 0, none⟩)] X fun x W' => x = .returned (.int .i64 0) ∧ Ts w W' g r l k t 0 0) := Lib.hid (fun X hX => round_no h hX (by omega) (.inl (if_pos hr)))
      have KR := Lib.hid (run_tk h false (decide_eq_false (by omega)))
      have HE1 : Hid (ticksT t n.toNat = t) := Lib.hid (still hr _).1
      have HE2 : Hid (countT t n.toNat = 0) := Lib.hid (still hr _).2
      clear hr
      go_upto_region 10 with (first
        | (go_at_call 29; with_reducible refine (KA1.out _ T2.out).mono ?_; rintro e W3 ⟨rfl, hT⟩; have T3 := Lib.hid hT; clear hT; have cl := T3.out.cl; have ck := T3.out.ck; have c0 := T3.out.q.c0)
        | (go_at_call 29; with_reducible refine (KA1.out _ T1.out).mono ?_; rintro e W2 ⟨rfl, hT⟩; have T2 := Lib.hid hT; clear hT)
        | (go_at_call 32; with_reducible refine (KR.out _).mono ?_; rintro e W4 ⟨rfl, hB⟩; have T4 := Lib.hid (T3.out.under hB); have clr := T4.out.cl; have ckr := T4.out.ck; have c0r := T4.out.q.c0; clear hB)
        | ((with_reducible show wpList _ _ _ (⟨some 27, .load 36 (.tmp 2), _, _, _, _⟩ :: _) _ _); refine wpList_load_t (by rfl) 36 _ rfl g (by exact rfl) _ Try.underlying36 (by kernel_rfl) 36 T3.out.q ?_))
      refine wp_region_noPanic ?_
      refine wp_region_held_drew (S := fun X => TRow X g 36 (t) ∧ X.cell? ⟨k, 0, none⟩ = some (.int .i64 ((0 : Nat) : Int)) ∧ Below w.heap.size w X) (by kernel_rfl) (⟨T4.out.q.below (Below.refl _ _).drew T4.out.q.lt, (T4.out.under (Below.refl _ _).drew).ck, (T4.out.under (Below.refl _ _).drew).b⟩) (fun hHeld => ?_)
      have TY := Lib.hid (T4.out.under (Below.refl _ _).drew)
      obtain ⟨Y0, hY0⟩ : ∃ Y, W4.drew = Y := ⟨_, rfl⟩
      rw [hY0] at hHeld TY ⊢
      clear hY0
      refine' take_ 0 rfl (by kernel_rfl) (by kernel_rfl) (by kernel_rfl) (fun _ _ _ h => h) (by rfl) (fun wS hSw => run_load_t wS 36 _ g rfl _ Try.underlying36 (by kernel_rfl) 36 hSw.1 _ _ _ _ _) hHeld ?_
      try simp only [Act.put, List.setIfInBounds_toArray, List.set_cons_zero, List.set_cons_succ]
      refine' take_ 1 rfl (by kernel_rfl) (by kernel_rfl) (by kernel_rfl) (fun _ _ _ h => h) (by rfl) (fun wS hSw => ?_) hHeld ?_
      rotate_left
      focus ((have hck := hSw.2.1); go_simp; (try with_reducible rfl); done)
      try simp only [Act.put, List.setIfInBounds_toArray, List.set_cons_zero, List.set_cons_succ]
      refine only_ 2 rfl (by kernel_rfl) (by rfl) (fun K hK => ?_)
      refine wp_store_t 36 _ _ rfl r rfl (by rfl) (by kernel_rfl) 36 TY.out.z ?_
      intro WZ HN HO HB
      have HZ := HN
      have BZ := Lib.hid (TY.out.b.trans (HB.out.mono TY.out.lr))
      have hHeld2 : TRow WZ g 36 (t) ∧ WZ.cell? ⟨k, 0, none⟩ = some (.int .i64 ((0 : Nat) : Int)) ∧ Below w.heap.size w WZ := ⟨TY.out.q.other HO.out TY.out.gr, (TY.out.vk.off HO.out TY.out.rk.symm).cell 0 _ rfl, BZ.out⟩
      refine hK.out _ _ hHeld2 (fun _ => ?_)
      clear hK K hHeld TY HN HO HB
      show wpAnyH _ _ _ _ _ _ _ (Act.put _ none _) _
      try simp only [Act.put, List.setIfInBounds_toArray, List.set_cons_zero, List.set_cons_succ]
      refine' take_ 3 rfl (by kernel_rfl) (by kernel_rfl) (by kernel_rfl) (fun _ _ _ h => h) (by rfl) (fun wS hSw => ?_) hHeld2 ?_
      rotate_left
      focus (go_simp; (try with_reducible rfl); done)
      try simp only [Act.put, List.setIfInBounds_toArray, List.set_cons_zero, List.set_cons_succ]
      clear hHeld2
      refine wpAnyH_done (by kernel_rfl) ?_ _
      refine NoPanic.normal ?_
      go_wp2_with fail
      exact bodyPost_ret (v := .tuple #[tv (t), .int .i64 ((0 : Nat) : Int)]) (results_ct Try.results18 _ _ _ _ _ _ rfl (run_loadVar_t WZ r 36 _ Try.underlying36 (by kernel_rfl) 36 HZ.out) rfl) rfl ⟨by rw [HE1.out, HE2.out]; rfl, BZ.out⟩
    · have hr1 : t.c % 2 = 1 := by omega
      have hlt : 0 < nextT t := by rw [nextT_run hr1]; omega
      have KA1 : Hid (∀ X, Ts w X g r l k t 0 0 → Calls Try.prog 29 #[.pointer (some ⟨g, 0, none⟩), .pointer (some ⟨l, 0, none⟩), .pointer (some ⟨k, 0, none⟩)] X fun x W' => x = .returned (.int .i64 0) ∧ Ts w W' g r l k t 0 0) := Lib.hid (fun X hX => round_no h hX (by omega) (.inr hlt))
      have KR := Lib.hid (run_tk h true (decide_eq_true hr1))
      have hb4 := ticks_before h hr1 0 hlt
      have ho : onT t 0 = ⟨(t.a + 0) % 65536, t.b, t.c⟩ := if_neg (by omega)
      obtain ⟨m, hm⟩ : ∃ x, (t.a + 0) % 65536 = x := ⟨_, rfl⟩
      rw [hm] at ho
      rw [ho] at hb4
      have HE1 : Hid (ticksT t n.toNat = ⟨m, t.b, t.c⟩) := Lib.hid (by rw [show n.toNat = 0 by omega]; exact hb4.1)
      have HE2 : Hid (countT t n.toNat = 0) := Lib.hid (by rw [show n.toNat = 0 by omega]; exact hb4.2)
      have KW : Hid (∀ v : Int, v = (t.a : Int) + ((0 : Nat) : Int) → ∀ X, Calls Try.prog 31 #[.int .i64 v] X fun x w' => x = .returned (.int .u16 (m : Int)) ∧ w' = X) := Lib.hid (fun v hv X => low_tk v m X (by omega) (by omega) (by omega))
      have dN : ((0 : Nat) : Int) ≤ 65536 := by omega
      have da : (t.a : Int) < 65536 := by omega
      clear hb4 ho hm
      go_upto_region 10 with (first
        | ((with_reducible show wpList _ _ _ (⟨none, .store 34 (.tmp 35) (.tmp 34), _, _, _, _⟩ :: _) _ _); refine wpList_store_c rfl 34 _ _ rfl g 0 (by exact rfl) (.int .u16 (m : Int)) (by exact rfl) rfl (by kernel_rfl) 36 _ T4.out.q (show 0 < 3 by decide) ?_; intro W5 HN HO HB; have T5 : Hid (Ts w W5 g r l k ⟨m, t.b, t.c⟩ _ _) := Lib.hid (T4.out.setG (u := ⟨m, t.b, t.c⟩) HN.out HO.out HB.out); clear HN HO HB)
        | (go_at_call 31; refine (KW.out _ (by first | rfl | omega) _).mono ?_; rintro e WX ⟨rfl, rfl⟩)
        | (go_at_call 29; with_reducible refine (KA1.out _ T2.out).mono ?_; rintro e W3 ⟨rfl, hT⟩; have T3 := Lib.hid hT; clear hT; have cl := T3.out.cl; have ck := T3.out.ck; have c0 := T3.out.q.c0)
        | (go_at_call 29; with_reducible refine (KA1.out _ T1.out).mono ?_; rintro e W2 ⟨rfl, hT⟩; have T2 := Lib.hid hT; clear hT)
        | (go_at_call 32; with_reducible refine (KR.out _).mono ?_; rintro e W4 ⟨rfl, hB⟩; have T4 := Lib.hid (T3.out.under hB); have clr := T4.out.cl; have ckr := T4.out.ck; have c0r := T4.out.q.c0; clear hB)
        | ((with_reducible show wpList _ _ _ (⟨some 27, .load 36 (.tmp 2), _, _, _, _⟩ :: _) _ _); refine wpList_load_t (by rfl) 36 _ rfl g (by exact rfl) _ Try.underlying36 (by kernel_rfl) 36 T3.out.q ?_))
      refine wp_region_noPanic ?_
      refine wp_region_held_drew (S := fun X => TRow X g 36 (⟨m, t.b, t.c⟩) ∧ X.cell? ⟨k, 0, none⟩ = some (.int .i64 ((0 : Nat) : Int)) ∧ Below w.heap.size w X) (by kernel_rfl) (⟨T5.out.q.below (Below.refl _ _).drew T5.out.q.lt, (T5.out.under (Below.refl _ _).drew).ck, (T5.out.under (Below.refl _ _).drew).b⟩) (fun hHeld => ?_)
      have TY := Lib.hid (T5.out.under (Below.refl _ _).drew)
      obtain ⟨Y0, hY0⟩ : ∃ Y, W5.drew = Y := ⟨_, rfl⟩
      rw [hY0] at hHeld TY ⊢
      clear hY0
      refine' take_ 0 rfl (by kernel_rfl) (by kernel_rfl) (by kernel_rfl) (fun _ _ _ h => h) (by rfl) (fun wS hSw => run_load_t wS 36 _ g rfl _ Try.underlying36 (by kernel_rfl) 36 hSw.1 _ _ _ _ _) hHeld ?_
      try simp only [Act.put, List.setIfInBounds_toArray, List.set_cons_zero, List.set_cons_succ]
      refine' take_ 1 rfl (by kernel_rfl) (by kernel_rfl) (by kernel_rfl) (fun _ _ _ h => h) (by rfl) (fun wS hSw => ?_) hHeld ?_
      rotate_left
      focus ((have hck := hSw.2.1); go_simp; (try with_reducible rfl); done)
      try simp only [Act.put, List.setIfInBounds_toArray, List.set_cons_zero, List.set_cons_succ]
      refine only_ 2 rfl (by kernel_rfl) (by rfl) (fun K hK => ?_)
      refine wp_store_t 36 _ _ rfl r rfl (by rfl) (by kernel_rfl) 36 TY.out.z ?_
      intro WZ HN HO HB
      have HZ := HN
      have BZ := Lib.hid (TY.out.b.trans (HB.out.mono TY.out.lr))
      have hHeld2 : TRow WZ g 36 (⟨m, t.b, t.c⟩) ∧ WZ.cell? ⟨k, 0, none⟩ = some (.int .i64 ((0 : Nat) : Int)) ∧ Below w.heap.size w WZ := ⟨TY.out.q.other HO.out TY.out.gr, (TY.out.vk.off HO.out TY.out.rk.symm).cell 0 _ rfl, BZ.out⟩
      refine hK.out _ _ hHeld2 (fun _ => ?_)
      clear hK K hHeld TY HN HO HB
      show wpAnyH _ _ _ _ _ _ _ (Act.put _ none _) _
      try simp only [Act.put, List.setIfInBounds_toArray, List.set_cons_zero, List.set_cons_succ]
      refine' take_ 3 rfl (by kernel_rfl) (by kernel_rfl) (by kernel_rfl) (fun _ _ _ h => h) (by rfl) (fun wS hSw => ?_) hHeld2 ?_
      rotate_left
      focus (go_simp; (try with_reducible rfl); done)
      try simp only [Act.put, List.setIfInBounds_toArray, List.set_cons_zero, List.set_cons_succ]
      clear hHeld2
      refine wpAnyH_done (by kernel_rfl) ?_ _
      refine NoPanic.normal ?_
      go_wp2_with fail
      exact bodyPost_ret (v := .tuple #[tv (⟨m, t.b, t.c⟩), .int .i64 ((0 : Nat) : Int)]) (results_ct Try.results18 _ _ _ _ _ _ rfl (run_loadVar_t WZ r 36 _ Try.underlying36 (by kernel_rfl) 36 HZ.out) rfl) rfl ⟨by rw [HE1.out, HE2.out]; rfl, BZ.out⟩
  obtain ⟨N, rfl⟩ : ∃ N : Nat, n = (N : Int) := ⟨n.toNat, by omega⟩
  clear hneg
  go_upto_region 2 with (fail)
  refine name_two (Q := fun X => Code.wp _ _ _ _ X) ?_
  intro W1 hq1 hq2 hB0
  have T1 : Hid (Ts w W1 g r W0.heap.size (W0.heap.size + 1) t N 0) := Lib.hid ⟨T0.out.q.below hB0 T0.out.q.lt, T0.out.z.below hB0 T0.out.z.lt, hq1, hq2, T0.out.b.trans (hB0.mono T0.out.b.size), T0.out.lg, T0.out.lr, T0.out.b.size, Nat.le_succ_of_le T0.out.b.size, T0.out.gr, Nat.ne_of_lt T0.out.q.lt, Nat.ne_of_lt (Nat.lt_succ_of_lt T0.out.q.lt), Nat.ne_of_lt T0.out.z.lt, Nat.ne_of_lt (Nat.lt_succ_of_lt T0.out.z.lt), Nat.ne_of_lt (Nat.lt_succ_self _)⟩
  clear hq1 hq2 hB0 T0
  obtain ⟨l, hl⟩ : ∃ l, W0.heap.size = l := ⟨_, rfl⟩
  obtain ⟨k, hk⟩ : ∃ k, W0.heap.size + 1 = k := ⟨_, rfl⟩
  rw [hk, hl] at T1 ⊢
  clear hk hl
  by_cases hr : t.c % 2 = 0
  · have _ := hc
    have KA1 : Hid (∀ X, Ts w X g r l k t N 0 → Calls Try.prog 29 #[.pointer (some ⟨g, 0, none⟩), .pointer (some ⟨l, 0, none⟩), .pointer (some ⟨k, 0, none⟩)] X fun x W' => x = .returned (.int .i64 0) ∧ Ts w W' g r l k t N 0) := Lib.hid (fun X hX => round_no h hX (by omega) (.inl (if_pos hr)))
    have KR := Lib.hid (run_tk h false (decide_eq_false (by omega)))
    have HE1 : Hid (ticksT t (N : Int).toNat = t) := Lib.hid (still hr _).1
    have HE2 : Hid (countT t (N : Int).toNat = 0) := Lib.hid (still hr _).2
    clear hr
    go_upto_region 10 with (first
      | (go_at_call 29; with_reducible refine (KA1.out _ T2.out).mono ?_; rintro e W3 ⟨rfl, hT⟩; have T3 := Lib.hid hT; clear hT; have cl := T3.out.cl; have ck := T3.out.ck; have c0 := T3.out.q.c0)
      | (go_at_call 29; with_reducible refine (KA1.out _ T1.out).mono ?_; rintro e W2 ⟨rfl, hT⟩; have T2 := Lib.hid hT; clear hT)
      | (go_at_call 32; with_reducible refine (KR.out _).mono ?_; rintro e W4 ⟨rfl, hB⟩; have T4 := Lib.hid (T3.out.under hB); have clr := T4.out.cl; have ckr := T4.out.ck; have c0r := T4.out.q.c0; clear hB)
      | ((with_reducible show wpList _ _ _ (⟨some 27, .load 36 (.tmp 2), _, _, _, _⟩ :: _) _ _); refine wpList_load_t (by rfl) 36 _ rfl g (by exact rfl) _ Try.underlying36 (by kernel_rfl) 36 T3.out.q ?_))
    refine wp_region_noPanic ?_
    refine wp_region_held_drew (S := fun X => TRow X g 36 (t) ∧ X.cell? ⟨k, 0, none⟩ = some (.int .i64 ((0 : Nat) : Int)) ∧ Below w.heap.size w X) (by kernel_rfl) (⟨T4.out.q.below (Below.refl _ _).drew T4.out.q.lt, (T4.out.under (Below.refl _ _).drew).ck, (T4.out.under (Below.refl _ _).drew).b⟩) (fun hHeld => ?_)
    have TY := Lib.hid (T4.out.under (Below.refl _ _).drew)
    obtain ⟨Y0, hY0⟩ : ∃ Y, W4.drew = Y := ⟨_, rfl⟩
    rw [hY0] at hHeld TY ⊢
    clear hY0
    refine' take_ 0 rfl (by kernel_rfl) (by kernel_rfl) (by kernel_rfl) (fun _ _ _ h => h) (by rfl) (fun wS hSw => run_load_t wS 36 _ g rfl _ Try.underlying36 (by kernel_rfl) 36 hSw.1 _ _ _ _ _) hHeld ?_
    try simp only [Act.put, List.setIfInBounds_toArray, List.set_cons_zero, List.set_cons_succ]
    refine' take_ 1 rfl (by kernel_rfl) (by kernel_rfl) (by kernel_rfl) (fun _ _ _ h => h) (by rfl) (fun wS hSw => ?_) hHeld ?_
    rotate_left
    focus ((have hck := hSw.2.1); go_simp; (try with_reducible rfl); done)
    try simp only [Act.put, List.setIfInBounds_toArray, List.set_cons_zero, List.set_cons_succ]
    refine only_ 2 rfl (by kernel_rfl) (by rfl) (fun K hK => ?_)
    refine wp_store_t 36 _ _ rfl r rfl (by rfl) (by kernel_rfl) 36 TY.out.z ?_
    intro WZ HN HO HB
    have HZ := HN
    have BZ := Lib.hid (TY.out.b.trans (HB.out.mono TY.out.lr))
    have hHeld2 : TRow WZ g 36 (t) ∧ WZ.cell? ⟨k, 0, none⟩ = some (.int .i64 ((0 : Nat) : Int)) ∧ Below w.heap.size w WZ := ⟨TY.out.q.other HO.out TY.out.gr, (TY.out.vk.off HO.out TY.out.rk.symm).cell 0 _ rfl, BZ.out⟩
    refine hK.out _ _ hHeld2 (fun _ => ?_)
    clear hK K hHeld TY HN HO HB
    show wpAnyH _ _ _ _ _ _ _ (Act.put _ none _) _
    try simp only [Act.put, List.setIfInBounds_toArray, List.set_cons_zero, List.set_cons_succ]
    refine' take_ 3 rfl (by kernel_rfl) (by kernel_rfl) (by kernel_rfl) (fun _ _ _ h => h) (by rfl) (fun wS hSw => ?_) hHeld2 ?_
    rotate_left
    focus (go_simp; (try with_reducible rfl); done)
    try simp only [Act.put, List.setIfInBounds_toArray, List.set_cons_zero, List.set_cons_succ]
    clear hHeld2
    refine wpAnyH_done (by kernel_rfl) ?_ _
    refine NoPanic.normal ?_
    go_wp2_with fail
    exact bodyPost_ret (v := .tuple #[tv (t), .int .i64 ((0 : Nat) : Int)]) (results_ct Try.results18 _ _ _ _ _ _ rfl (run_loadVar_t WZ r 36 _ Try.underlying36 (by kernel_rfl) 36 HZ.out) rfl) rfl ⟨by rw [HE1.out, HE2.out]; rfl, BZ.out⟩
  have hr1 : t.c % 2 = 1 := by omega
  clear hr
  by_cases hlt : N < nextT t
  · have hle := nextT_le t
    have KA1 : Hid (∀ X, Ts w X g r l k t N 0 → Calls Try.prog 29 #[.pointer (some ⟨g, 0, none⟩), .pointer (some ⟨l, 0, none⟩), .pointer (some ⟨k, 0, none⟩)] X fun x W' => x = .returned (.int .i64 0) ∧ Ts w W' g r l k t N 0) := Lib.hid (fun X hX => round_no h hX (by omega) (.inr hlt))
    have KR := Lib.hid (run_tk h true (decide_eq_true hr1))
    have hb4 := ticks_before h hr1 N hlt
    have ho : onT t N = ⟨(t.a + N) % 65536, t.b, t.c⟩ := if_neg (by omega)
    obtain ⟨m, hm⟩ : ∃ x, (t.a + N) % 65536 = x := ⟨_, rfl⟩
    rw [hm] at ho
    rw [ho] at hb4
    have HE1 : Hid (ticksT t (N : Int).toNat = ⟨m, t.b, t.c⟩) := Lib.hid (by rw [show (N : Int).toNat = N by omega]; exact hb4.1)
    have HE2 : Hid (countT t (N : Int).toNat = 0) := Lib.hid (by rw [show (N : Int).toNat = N by omega]; exact hb4.2)
    have KW : Hid (∀ v : Int, v = (t.a : Int) + ((N : Nat) : Int) → ∀ X, Calls Try.prog 31 #[.int .i64 v] X fun x w' => x = .returned (.int .u16 (m : Int)) ∧ w' = X) := Lib.hid (fun v hv X => low_tk v m X (by omega) (by omega) (by omega))
    have dN : ((N : Nat) : Int) ≤ 65536 := by omega
    have da : (t.a : Int) < 65536 := by omega
    clear hb4 ho hm hlt hle
    go_upto_region 10 with (first
      | ((with_reducible show wpList _ _ _ (⟨none, .store 34 (.tmp 35) (.tmp 34), _, _, _, _⟩ :: _) _ _); refine wpList_store_c rfl 34 _ _ rfl g 0 (by exact rfl) (.int .u16 (m : Int)) (by exact rfl) rfl (by kernel_rfl) 36 _ T4.out.q (show 0 < 3 by decide) ?_; intro W5 HN HO HB; have T5 : Hid (Ts w W5 g r l k ⟨m, t.b, t.c⟩ _ _) := Lib.hid (T4.out.setG (u := ⟨m, t.b, t.c⟩) HN.out HO.out HB.out); clear HN HO HB)
      | (go_at_call 31; refine (KW.out _ (by first | rfl | omega) _).mono ?_; rintro e WX ⟨rfl, rfl⟩)
      | (go_at_call 29; with_reducible refine (KA1.out _ T2.out).mono ?_; rintro e W3 ⟨rfl, hT⟩; have T3 := Lib.hid hT; clear hT; have cl := T3.out.cl; have ck := T3.out.ck; have c0 := T3.out.q.c0)
      | (go_at_call 29; with_reducible refine (KA1.out _ T1.out).mono ?_; rintro e W2 ⟨rfl, hT⟩; have T2 := Lib.hid hT; clear hT)
      | (go_at_call 32; with_reducible refine (KR.out _).mono ?_; rintro e W4 ⟨rfl, hB⟩; have T4 := Lib.hid (T3.out.under hB); have clr := T4.out.cl; have ckr := T4.out.ck; have c0r := T4.out.q.c0; clear hB)
      | ((with_reducible show wpList _ _ _ (⟨some 27, .load 36 (.tmp 2), _, _, _, _⟩ :: _) _ _); refine wpList_load_t (by rfl) 36 _ rfl g (by exact rfl) _ Try.underlying36 (by kernel_rfl) 36 T3.out.q ?_))
    refine wp_region_noPanic ?_
    refine wp_region_held_drew (S := fun X => TRow X g 36 (⟨m, t.b, t.c⟩) ∧ X.cell? ⟨k, 0, none⟩ = some (.int .i64 ((0 : Nat) : Int)) ∧ Below w.heap.size w X) (by kernel_rfl) (⟨T5.out.q.below (Below.refl _ _).drew T5.out.q.lt, (T5.out.under (Below.refl _ _).drew).ck, (T5.out.under (Below.refl _ _).drew).b⟩) (fun hHeld => ?_)
    have TY := Lib.hid (T5.out.under (Below.refl _ _).drew)
    obtain ⟨Y0, hY0⟩ : ∃ Y, W5.drew = Y := ⟨_, rfl⟩
    rw [hY0] at hHeld TY ⊢
    clear hY0
    refine' take_ 0 rfl (by kernel_rfl) (by kernel_rfl) (by kernel_rfl) (fun _ _ _ h => h) (by rfl) (fun wS hSw => run_load_t wS 36 _ g rfl _ Try.underlying36 (by kernel_rfl) 36 hSw.1 _ _ _ _ _) hHeld ?_
    try simp only [Act.put, List.setIfInBounds_toArray, List.set_cons_zero, List.set_cons_succ]
    refine' take_ 1 rfl (by kernel_rfl) (by kernel_rfl) (by kernel_rfl) (fun _ _ _ h => h) (by rfl) (fun wS hSw => ?_) hHeld ?_
    rotate_left
    focus ((have hck := hSw.2.1); go_simp; (try with_reducible rfl); done)
    try simp only [Act.put, List.setIfInBounds_toArray, List.set_cons_zero, List.set_cons_succ]
    refine only_ 2 rfl (by kernel_rfl) (by rfl) (fun K hK => ?_)
    refine wp_store_t 36 _ _ rfl r rfl (by rfl) (by kernel_rfl) 36 TY.out.z ?_
    intro WZ HN HO HB
    have HZ := HN
    have BZ := Lib.hid (TY.out.b.trans (HB.out.mono TY.out.lr))
    have hHeld2 : TRow WZ g 36 (⟨m, t.b, t.c⟩) ∧ WZ.cell? ⟨k, 0, none⟩ = some (.int .i64 ((0 : Nat) : Int)) ∧ Below w.heap.size w WZ := ⟨TY.out.q.other HO.out TY.out.gr, (TY.out.vk.off HO.out TY.out.rk.symm).cell 0 _ rfl, BZ.out⟩
    refine hK.out _ _ hHeld2 (fun _ => ?_)
    clear hK K hHeld TY HN HO HB
    show wpAnyH _ _ _ _ _ _ _ (Act.put _ none _) _
    try simp only [Act.put, List.setIfInBounds_toArray, List.set_cons_zero, List.set_cons_succ]
    refine' take_ 3 rfl (by kernel_rfl) (by kernel_rfl) (by kernel_rfl) (fun _ _ _ h => h) (by rfl) (fun wS hSw => ?_) hHeld2 ?_
    rotate_left
    focus (go_simp; (try with_reducible rfl); done)
    try simp only [Act.put, List.setIfInBounds_toArray, List.set_cons_zero, List.set_cons_succ]
    clear hHeld2
    refine wpAnyH_done (by kernel_rfl) ?_ _
    refine NoPanic.normal ?_
    go_wp2_with fail
    exact bodyPost_ret (v := .tuple #[tv (⟨m, t.b, t.c⟩), .int .i64 ((0 : Nat) : Int)]) (results_ct Try.results18 _ _ _ _ _ _ rfl (run_loadVar_t WZ r 36 _ Try.underlying36 (by kernel_rfl) 36 HZ.out) rfl) rfl ⟨by rw [HE1.out, HE2.out]; rfl, BZ.out⟩
  have hge : nextT t ≤ N := by omega
  have hle := nextT_le t
  have hfirst := ticks_first h hr1
  have KY := Lib.hid (fun (X : World) (hX : Ts w X g r l k t N 0) => round_yes h hX (by omega) (by omega) hr1 hge)
  by_cases hag : t.c / 2 % 2 = 0
  · rw [if_pos hag] at hfirst
    have ho := ticks_once h hr1 hag N hge
    obtain ⟨t1, ht1⟩ : ∃ x, (Tm.mk 0 t.b (t.c - 1)) = x := ⟨_, rfl⟩
    have hok1 : t1.ok := by rw [← ht1]; exact ⟨Nat.zero_lt_succ _, hb, by show t.c - 1 < 65536; omega⟩
    have hr0 : t1.c % 2 = 0 := by rw [← ht1]; show (t.c - 1) % 2 = 0; omega
    rw [ht1] at hfirst ho
    rw [hfirst.1] at KY
    obtain ⟨q, hq⟩ : ∃ x, nextT t = x := ⟨_, rfl⟩
    have hq0 : 1 ≤ q := by rw [← hq, nextT_run hr1]; omega
    rw [hq] at KY hle
    obtain ⟨j, hj⟩ : ∃ x, N - q = x := ⟨_, rfl⟩
    rw [hj] at KY
    have KA1 : Hid (∀ X, Ts w X g r l k t N 0 → Calls Try.prog 29 #[.pointer (some ⟨g, 0, none⟩), .pointer (some ⟨l, 0, none⟩), .pointer (some ⟨k, 0, none⟩)] X fun x W' => x = .returned (.int .i64 (q : Int)) ∧ Ts w W' g r l k t1 j 1) := KY
    have KA2 : Hid (∀ X, Ts w X g r l k t1 j 1 → Calls Try.prog 29 #[.pointer (some ⟨g, 0, none⟩), .pointer (some ⟨l, 0, none⟩), .pointer (some ⟨k, 0, none⟩)] X fun x W' => x = .returned (.int .i64 0) ∧ Ts w W' g r l k t1 j 1) := Lib.hid (fun X hX => round_no hok1 hX (by omega) (.inl (if_pos hr0)))
    have KR := Lib.hid (run_tk hok1 false (decide_eq_false (by omega)))
    have HE1 : Hid (ticksT t (N : Int).toNat = t1) := Lib.hid ho.1
    have HE2 : Hid (countT t (N : Int).toNat = 1) := Lib.hid ho.2
    clear ho hfirst ht1 hok1 hr0 hag hge hle hq hq0 hj hr1 hlt KY
    go_upto_region 10 with (first
      | (go_at_call 29; with_reducible refine (KA2.out _ T2.out).mono ?_; rintro e W3 ⟨rfl, hT⟩; have T3 := Lib.hid hT; clear hT; have cl := T3.out.cl; have ck := T3.out.ck; have c0 := T3.out.q.c0)
      | (go_at_call 29; with_reducible refine (KA1.out _ T1.out).mono ?_; rintro e W2 ⟨rfl, hT⟩; have T2 := Lib.hid hT; clear hT)
      | (go_at_call 32; with_reducible refine (KR.out _).mono ?_; rintro e W4 ⟨rfl, hB⟩; have T4 := Lib.hid (T3.out.under hB); have clr := T4.out.cl; have ckr := T4.out.ck; have c0r := T4.out.q.c0; clear hB)
      | ((with_reducible show wpList _ _ _ (⟨some 27, .load 36 (.tmp 2), _, _, _, _⟩ :: _) _ _); refine wpList_load_t (by rfl) 36 _ rfl g (by exact rfl) _ Try.underlying36 (by kernel_rfl) 36 T3.out.q ?_))
    refine wp_region_noPanic ?_
    refine wp_region_held_drew (S := fun X => TRow X g 36 (t1) ∧ X.cell? ⟨k, 0, none⟩ = some (.int .i64 ((1 : Nat) : Int)) ∧ Below w.heap.size w X) (by kernel_rfl) (⟨T4.out.q.below (Below.refl _ _).drew T4.out.q.lt, (T4.out.under (Below.refl _ _).drew).ck, (T4.out.under (Below.refl _ _).drew).b⟩) (fun hHeld => ?_)
    have TY := Lib.hid (T4.out.under (Below.refl _ _).drew)
    obtain ⟨Y0, hY0⟩ : ∃ Y, W4.drew = Y := ⟨_, rfl⟩
    rw [hY0] at hHeld TY ⊢
    clear hY0
    refine' take_ 0 rfl (by kernel_rfl) (by kernel_rfl) (by kernel_rfl) (fun _ _ _ h => h) (by rfl) (fun wS hSw => run_load_t wS 36 _ g rfl _ Try.underlying36 (by kernel_rfl) 36 hSw.1 _ _ _ _ _) hHeld ?_
    try simp only [Act.put, List.setIfInBounds_toArray, List.set_cons_zero, List.set_cons_succ]
    refine' take_ 1 rfl (by kernel_rfl) (by kernel_rfl) (by kernel_rfl) (fun _ _ _ h => h) (by rfl) (fun wS hSw => ?_) hHeld ?_
    rotate_left
    focus ((have hck := hSw.2.1); go_simp; (try with_reducible rfl); done)
    try simp only [Act.put, List.setIfInBounds_toArray, List.set_cons_zero, List.set_cons_succ]
    refine only_ 2 rfl (by kernel_rfl) (by rfl) (fun K hK => ?_)
    refine wp_store_t 36 _ _ rfl r rfl (by rfl) (by kernel_rfl) 36 TY.out.z ?_
    intro WZ HN HO HB
    have HZ := HN
    have BZ := Lib.hid (TY.out.b.trans (HB.out.mono TY.out.lr))
    have hHeld2 : TRow WZ g 36 (t1) ∧ WZ.cell? ⟨k, 0, none⟩ = some (.int .i64 ((1 : Nat) : Int)) ∧ Below w.heap.size w WZ := ⟨TY.out.q.other HO.out TY.out.gr, (TY.out.vk.off HO.out TY.out.rk.symm).cell 0 _ rfl, BZ.out⟩
    refine hK.out _ _ hHeld2 (fun _ => ?_)
    clear hK K hHeld TY HN HO HB
    show wpAnyH _ _ _ _ _ _ _ (Act.put _ none _) _
    try simp only [Act.put, List.setIfInBounds_toArray, List.set_cons_zero, List.set_cons_succ]
    refine' take_ 3 rfl (by kernel_rfl) (by kernel_rfl) (by kernel_rfl) (fun _ _ _ h => h) (by rfl) (fun wS hSw => ?_) hHeld2 ?_
    rotate_left
    focus (go_simp; (try with_reducible rfl); done)
    try simp only [Act.put, List.setIfInBounds_toArray, List.set_cons_zero, List.set_cons_succ]
    clear hHeld2
    refine wpAnyH_done (by kernel_rfl) ?_ _
    refine NoPanic.normal ?_
    go_wp2_with fail
    exact bodyPost_ret (v := .tuple #[tv (t1), .int .i64 ((1 : Nat) : Int)]) (results_ct Try.results18 _ _ _ _ _ _ rfl (run_loadVar_t WZ r 36 _ Try.underlying36 (by kernel_rfl) 36 HZ.out) rfl) rfl ⟨by rw [HE1.out, HE2.out]; rfl, BZ.out⟩
  rw [if_neg hag] at hfirst
  have ho := ticks_again h hr1 (by omega) N hge
  obtain ⟨t1, ht1⟩ : ∃ x, (Tm.mk 0 t.b t.c) = x := ⟨_, rfl⟩
  have hok1 : t1.ok := by rw [← ht1]; exact ⟨Nat.zero_lt_succ _, hb, hc⟩
  have ha1 : t1.a = 0 := by rw [← ht1]
  have hb1 : t1.b = t.b := by rw [← ht1]
  have hc1 : t1.c = t.c := by rw [← ht1]
  have hnx1 : nextT t1 = perT t.b := by rw [← ht1]; exact next_zero hb hr1
  have hf1 := ticks_first hok1 (by omega)
  rw [if_neg (by omega), hb1, hc1, ht1] at hf1
  rw [ht1] at hfirst
  rw [hfirst.1] at KY
  obtain ⟨q, hq⟩ : ∃ x, nextT t = x := ⟨_, rfl⟩
  have hq0 : 1 ≤ q := by rw [← hq, nextT_run hr1]; omega
  rw [hq] at KY hle ho
  obtain ⟨j, hj⟩ : ∃ x, N - q = x := ⟨_, rfl⟩
  rw [hj] at KY ho
  have hP0 := perT_pos t.b
  have hP1 : perT t.b ≤ 65536 := by unfold perT; split <;> omega
  obtain ⟨P, hP⟩ : ∃ x, perT t.b = x := ⟨_, rfl⟩
  rw [hP] at ho hnx1 hP0 hP1
  have KA1 : Hid (∀ X, Ts w X g r l k t N 0 → Calls Try.prog 29 #[.pointer (some ⟨g, 0, none⟩), .pointer (some ⟨l, 0, none⟩), .pointer (some ⟨k, 0, none⟩)] X fun x W' => x = .returned (.int .i64 (q : Int)) ∧ Ts w W' g r l k t1 j 1) := KY
  have KR := Lib.hid (run_tk hok1 true (decide_eq_true (by omega)))
  have hjN : j ≤ N := by omega
  by_cases hjP : j < P
  · have _ := hc
    have KA2 : Hid (∀ X, Ts w X g r l k t1 j 1 → Calls Try.prog 29 #[.pointer (some ⟨g, 0, none⟩), .pointer (some ⟨l, 0, none⟩), .pointer (some ⟨k, 0, none⟩)] X fun x W' => x = .returned (.int .i64 0) ∧ Ts w W' g r l k t1 j 1) := Lib.hid (fun X hX => round_no hok1 hX (by omega) (.inr (by rw [hnx1]; exact hjP)))
    obtain ⟨m, hm⟩ : ∃ x, j = x := ⟨_, rfl⟩
    have KW : Hid (∀ v : Int, v = (t1.a : Int) + ((j : Nat) : Int) → ∀ X, Calls Try.prog 31 #[.int .i64 v] X fun x w' => x = .returned (.int .u16 (m : Int)) ∧ w' = X) := Lib.hid (fun v hv X => low_tk v m X (by omega) (by omega) (by omega))
    have HE1 : Hid (ticksT t (N : Int).toNat = ⟨m, t1.b, t1.c⟩) := Lib.hid (by rw [hb1, hc1, ← hm]; have := ho.1; rwa [Nat.mod_eq_of_lt hjP] at this)
    have HE2 : Hid (countT t (N : Int).toNat = 1) := Lib.hid (by have := ho.2; rwa [Nat.div_eq_of_lt hjP] at this)
    have dN : (j : Int) ≤ 65536 := by omega
    have da : (t1.a : Int) < 65536 := by omega
    clear ho hfirst hf1 ht1 hok1 ha1 hb1 hc1 hnx1 hag hge hle hq hq0 hj hr1 hlt KY hP hP0 hP1 hm hjP hjN
    go_upto_region 10 with (first
      | ((with_reducible show wpList _ _ _ (⟨none, .store 34 (.tmp 35) (.tmp 34), _, _, _, _⟩ :: _) _ _); refine wpList_store_c rfl 34 _ _ rfl g 0 (by exact rfl) (.int .u16 (m : Int)) (by exact rfl) rfl (by kernel_rfl) 36 _ T4.out.q (show 0 < 3 by decide) ?_; intro W5 HN HO HB; have T5 : Hid (Ts w W5 g r l k ⟨m, t1.b, t1.c⟩ _ _) := Lib.hid (T4.out.setG (u := ⟨m, t1.b, t1.c⟩) HN.out HO.out HB.out); clear HN HO HB)
      | (go_at_call 31; refine (KW.out _ (by first | rfl | omega) _).mono ?_; rintro e WX ⟨rfl, rfl⟩)
      | (go_at_call 29; with_reducible refine (KA2.out _ T2.out).mono ?_; rintro e W3 ⟨rfl, hT⟩; have T3 := Lib.hid hT; clear hT; have cl := T3.out.cl; have ck := T3.out.ck; have c0 := T3.out.q.c0)
      | (go_at_call 29; with_reducible refine (KA1.out _ T1.out).mono ?_; rintro e W2 ⟨rfl, hT⟩; have T2 := Lib.hid hT; clear hT)
      | (go_at_call 32; with_reducible refine (KR.out _).mono ?_; rintro e W4 ⟨rfl, hB⟩; have T4 := Lib.hid (T3.out.under hB); have clr := T4.out.cl; have ckr := T4.out.ck; have c0r := T4.out.q.c0; clear hB)
      | ((with_reducible show wpList _ _ _ (⟨some 27, .load 36 (.tmp 2), _, _, _, _⟩ :: _) _ _); refine wpList_load_t (by rfl) 36 _ rfl g (by exact rfl) _ Try.underlying36 (by kernel_rfl) 36 T3.out.q ?_))
    refine wp_region_noPanic ?_
    refine wp_region_held_drew (S := fun X => TRow X g 36 (⟨m, t1.b, t1.c⟩) ∧ X.cell? ⟨k, 0, none⟩ = some (.int .i64 ((1 : Nat) : Int)) ∧ Below w.heap.size w X) (by kernel_rfl) (⟨T5.out.q.below (Below.refl _ _).drew T5.out.q.lt, (T5.out.under (Below.refl _ _).drew).ck, (T5.out.under (Below.refl _ _).drew).b⟩) (fun hHeld => ?_)
    have TY := Lib.hid (T5.out.under (Below.refl _ _).drew)
    obtain ⟨Y0, hY0⟩ : ∃ Y, W5.drew = Y := ⟨_, rfl⟩
    rw [hY0] at hHeld TY ⊢
    clear hY0
    refine' take_ 0 rfl (by kernel_rfl) (by kernel_rfl) (by kernel_rfl) (fun _ _ _ h => h) (by rfl) (fun wS hSw => run_load_t wS 36 _ g rfl _ Try.underlying36 (by kernel_rfl) 36 hSw.1 _ _ _ _ _) hHeld ?_
    try simp only [Act.put, List.setIfInBounds_toArray, List.set_cons_zero, List.set_cons_succ]
    refine' take_ 1 rfl (by kernel_rfl) (by kernel_rfl) (by kernel_rfl) (fun _ _ _ h => h) (by rfl) (fun wS hSw => ?_) hHeld ?_
    rotate_left
    focus ((have hck := hSw.2.1); go_simp; (try with_reducible rfl); done)
    try simp only [Act.put, List.setIfInBounds_toArray, List.set_cons_zero, List.set_cons_succ]
    refine only_ 2 rfl (by kernel_rfl) (by rfl) (fun K hK => ?_)
    refine wp_store_t 36 _ _ rfl r rfl (by rfl) (by kernel_rfl) 36 TY.out.z ?_
    intro WZ HN HO HB
    have HZ := HN
    have BZ := Lib.hid (TY.out.b.trans (HB.out.mono TY.out.lr))
    have hHeld2 : TRow WZ g 36 (⟨m, t1.b, t1.c⟩) ∧ WZ.cell? ⟨k, 0, none⟩ = some (.int .i64 ((1 : Nat) : Int)) ∧ Below w.heap.size w WZ := ⟨TY.out.q.other HO.out TY.out.gr, (TY.out.vk.off HO.out TY.out.rk.symm).cell 0 _ rfl, BZ.out⟩
    refine hK.out _ _ hHeld2 (fun _ => ?_)
    clear hK K hHeld TY HN HO HB
    show wpAnyH _ _ _ _ _ _ _ (Act.put _ none _) _
    try simp only [Act.put, List.setIfInBounds_toArray, List.set_cons_zero, List.set_cons_succ]
    refine' take_ 3 rfl (by kernel_rfl) (by kernel_rfl) (by kernel_rfl) (fun _ _ _ h => h) (by rfl) (fun wS hSw => ?_) hHeld2 ?_
    rotate_left
    focus (go_simp; (try with_reducible rfl); done)
    try simp only [Act.put, List.setIfInBounds_toArray, List.set_cons_zero, List.set_cons_succ]
    clear hHeld2
    refine wpAnyH_done (by kernel_rfl) ?_ _
    refine NoPanic.normal ?_
    go_wp2_with fail
    exact bodyPost_ret (v := .tuple #[tv (⟨m, t1.b, t1.c⟩), .int .i64 ((1 : Nat) : Int)]) (results_ct Try.results18 _ _ _ _ _ _ rfl (run_loadVar_t WZ r 36 _ Try.underlying36 (by kernel_rfl) 36 HZ.out) rfl) rfl ⟨by rw [HE1.out, HE2.out]; rfl, BZ.out⟩
  · have _ := hc
    have KA2 := Lib.hid (fun (X : World) (hX : Ts w X g r l k t1 j 1) => round_yes hok1 hX (by omega) (by omega) (by omega) (by rw [hnx1]; omega))
    rw [hnx1] at KA2 hf1
    rw [hf1.1] at KA2
    obtain ⟨jj, hjj⟩ : ∃ x, j - P = x := ⟨_, rfl⟩
    rw [hjj] at KA2
    replace KA2 : Hid (∀ X, Ts w X g r l k t1 j 1 → Calls Try.prog 29 #[.pointer (some ⟨g, 0, none⟩), .pointer (some ⟨l, 0, none⟩), .pointer (some ⟨k, 0, none⟩)] X fun x W' => x = .returned (.int .i64 (P : Int)) ∧ Ts w W' g r l k t1 jj 2) := KA2
    obtain ⟨Q, hQ⟩ : ∃ x, jj / P = x := ⟨_, rfl⟩
    obtain ⟨R, hR⟩ : ∃ x, jj % P = x := ⟨_, rfl⟩
    have hRP : R < P := by rw [← hR]; exact Nat.mod_lt _ hP0
    have hQj : Q ≤ jj := by rw [← hQ]; exact Nat.div_le_self _ _
    have hQi : (jj : Int) / (P : Int) = (Q : Int) := by rw [← hQ]; rfl
    have HQ : Hid (IntKind.i64.wrap ((jj : Int) / (P : Int)) = (Q : Int)) := Lib.hid (by rw [hQi]; simp [IntKind.wrap, IntKind.bits, IntKind.signed]; omega)
    have HR2 : Hid ((jj : Int) % (P : Int) = (R : Int)) := Lib.hid (by rw [← hR]; rfl)
    have HR3 : Hid (IntKind.i64.wrap ((jj : Int) % (P : Int)) = (R : Int)) := Lib.hid (by rw [HR2.out]; simp [IntKind.wrap, IntKind.bits, IntKind.signed]; omega)
    have HR : Hid ((jj : Int).tmod (P : Int) = (R : Int)) := Lib.hid (by rw [← hR, Int.tmod_eq_emod_of_nonneg (by omega)]; rfl)
    have HA : Hid ((2 : Int) + (Q : Int) = ((2 + Q : Nat) : Int)) := Lib.hid (by omega)
    have hQs : Q + 2 ≤ 9223372036854775807 := by omega
    have HA2 : Hid (IntKind.i64.wrap ((2 + Q : Nat) : Int) = ((2 + Q : Nat) : Int)) := Lib.hid (by simp [IntKind.wrap, IntKind.bits, IntKind.signed]; omega)
    clear hQs
    have ej : j = jj + P := by omega
    obtain ⟨m, hm⟩ : ∃ x, R = x := ⟨_, rfl⟩
    have KW : Hid (∀ v : Int, v = (t1.a : Int) + ((R : Nat) : Int) → ∀ X, Calls Try.prog 31 #[.int .i64 v] X fun x w' => x = .returned (.int .u16 (m : Int)) ∧ w' = X) := Lib.hid (fun v hv X => low_tk v m X (by omega) (by omega) (by omega))
    have HE1 : Hid (ticksT t (N : Int).toNat = ⟨m, t1.b, t1.c⟩) := Lib.hid (by rw [hb1, hc1, ← hm, ← hR]; have := ho.1; rwa [ej, Nat.add_mod_right] at this)
    have HE2 : Hid (countT t (N : Int).toNat = 2 + Q) := Lib.hid (by have h2 := ho.2; rw [ej, Nat.add_div_right _ hP0, hQ] at h2; have h3 : countT t (N : Int).toNat = 1 + (Q + 1) := h2; omega)
    have d1 : 0 < P := by omega
    have d2 : (jj : Int) ≤ 9223372036854775807 := by omega
    have d3 : ((P : Int) == 0) = false := by simp; omega
    have d4 : (P : Int) ≠ 0 := by omega
    have d5 : (R : Int) ≤ 65536 := by omega
    have d6 : (Q : Int) ≤ 9223372036854775805 := by omega
    have HM := Lib.hid hm
    have DA : Hid ((t1.a : Int) < 65536) := Lib.hid (by omega)
    have D5 := Lib.hid d5
    have D6 := Lib.hid d6
    clear d5 d6
    clear ho hfirst hf1 ht1 hok1 ha1 hb1 hc1 hnx1 hag hge hle hq hq0 hj hr1 hlt KY hP hP0 hP1 hm hjP hjN hjj hQ hR hRP hQj ej hQi
    go_upto_region 6 with (first
      | (go_at_call 29; with_reducible refine (KA2.out _ T2.out).mono ?_; rintro e W3 ⟨rfl, hT⟩; have T3 := Lib.hid hT; clear hT; have cl := T3.out.cl; have ck := T3.out.ck; have c0 := T3.out.q.c0)
      | (go_at_call 29; with_reducible refine (KA1.out _ T1.out).mono ?_; rintro e W2 ⟨rfl, hT⟩; have T2 := Lib.hid hT; clear hT))
    refine wp_region_noPanic ?_
    refine wp_region_held_drew (S := fun X => X.cell? ⟨l, 0, none⟩ = some (.int .i64 (jj : Int)) ∧ Below w.heap.size w X) (by kernel_rfl) (⟨(T3.out.under (Below.refl _ _).drew).cl, (T3.out.under (Below.refl _ _).drew).b⟩) (fun hHeld => ?_)
    have TY := Lib.hid (T3.out.under (Below.refl _ _).drew)
    obtain ⟨Y0, hY0⟩ : ∃ Y, W3.drew = Y := ⟨_, rfl⟩
    rw [hY0] at hHeld TY ⊢
    clear hY0 cl ck c0 T3
    refine' take_ 1 rfl (by kernel_rfl) (by kernel_rfl) (by kernel_rfl) (fun _ _ _ h => h) (by rfl) (fun wS hSw => ?_) hHeld ?_
    rotate_left
    focus ((have hcl := hSw.1); go_simp; (try with_reducible rfl); done)
    try simp only [Act.put, List.setIfInBounds_toArray, List.set_cons_zero, List.set_cons_succ]
    refine' take_ 2 rfl (by kernel_rfl) (by kernel_rfl) (by kernel_rfl) (fun _ _ _ h => h) (by rfl) (fun wS hSw => ?_) hHeld ?_
    rotate_left
    focus (go_simp; (try with_reducible rfl); done)
    try simp only [Act.put, List.setIfInBounds_toArray, List.set_cons_zero, List.set_cons_succ]
    refine' take_ (v := .int .i64 (Q : Int)) 3 rfl (by kernel_rfl) (by kernel_rfl) (by kernel_rfl) (fun _ _ _ h => h) (by rfl) (fun wS hSw => ?_) hHeld ?_
    focus (go_simp; rw [if_neg (Nat.ne_of_gt d1), HQ.out]; done)
    try simp only [Act.put, List.setIfInBounds_toArray, List.set_cons_zero, List.set_cons_succ]
    refine only_ 0 rfl (by kernel_rfl) (by rfl) (fun K hK => ?_)
    refine wp_of_run (w' := Y0) (.int .i64 ((2 : Nat) : Int)) (by have hck := TY.out.ck; go_simp) (hK.out _ _ hHeld (fun _ => ?_))
    clear hK K
    show wpAnyH _ _ _ _ _ _ _ (Act.put _ (some 19) _) _
    try simp only [Act.put, List.setIfInBounds_toArray, List.set_cons_zero, List.set_cons_succ]
    refine' take_ (v := .int .i64 ((2 + Q : Nat) : Int)) 4 rfl (by kernel_rfl) (by kernel_rfl) (by kernel_rfl) (fun _ _ _ h => h) (by rfl) (fun wS hSw => ?_) hHeld ?_
    focus (go_simp; (try rw [HA.out]); (try rw [HA2.out]); done)
    try simp only [Act.put, List.setIfInBounds_toArray, List.set_cons_zero, List.set_cons_succ]
    refine only_ 5 rfl (by kernel_rfl) (by rfl) (fun K hK => ?_)
    refine wp_store_row rfl 3 _ _ rfl k 0 rfl [.int .i64 ((2 + Q : Nat) : Int)] rfl (by kernel_rfl) _ [.int .i64 ((2 + Q : Nat) : Int)] 3 TY.out.vk (by simp) (one_one _ rfl) (by simp) ?_
    have T5 := Lib.hid (TY.out.setK (c := 2 + Q) (setRow_heap _ _ _ _ _ _ TY.out.vk) (fun j hj => setRow_other _ _ j _ hj) (setRow_below (Below.refl _ _) (Nat.le_refl _) _))
    refine hK.out _ _ ⟨T5.out.cl, T5.out.b⟩ (fun _ => ?_)
    clear hK K hHeld
    generalize Y0.setRow k _ = Y1 at *
    show wpAnyH _ _ _ _ _ _ _ (Act.put _ none _) _
    try simp only [Act.put]
    refine wpAnyH_done (by kernel_rfl) ?_ _
    refine NoPanic.normal ?_
    clear TY
    have cl := T5.out.cl
    have da := DA.out
    have d5 := D5.out
    go_upto_region 10 with (first
      | ((with_reducible show wpList _ _ _ (⟨none, .store 34 (.tmp 35) (.tmp 34), _, _, _, _⟩ :: _) _ _); refine wpList_store_c rfl 34 _ _ rfl g 0 (by exact rfl) (.int .u16 (m : Int)) (by exact rfl) rfl (by kernel_rfl) 36 _ T7.out.q (show 0 < 3 by decide) ?_; intro W8 HN HO HB; have T8 : Hid (Ts w W8 g r l k ⟨m, t1.b, t1.c⟩ _ _) := Lib.hid (T7.out.setG (u := ⟨m, t1.b, t1.c⟩) HN.out HO.out HB.out); clear HN HO HB)
      | (go_at_call 31; refine (KW.out _ (by first | rfl | omega) _).mono ?_; rintro e WX ⟨rfl, rfl⟩)
      | (go_at_call 32; with_reducible refine (KR.out _).mono ?_; rintro e W7 ⟨rfl, hB⟩; have T7 := Lib.hid (T6.out.under hB); have clr := T7.out.cl; have ckr := T7.out.ck; have c0r := T7.out.q.c0; clear hB)
      | ((with_reducible show wpList _ _ _ (⟨some 27, .load 36 (.tmp 2), _, _, _, _⟩ :: _) _ _); refine wpList_load_t (by rfl) 36 _ rfl g (by exact rfl) _ Try.underlying36 (by kernel_rfl) 36 T6.out.q ?_)
      | ((with_reducible show wpList _ _ _ (⟨none, .store 3 (.tmp 6) (.tmp 26), _, _, _, _⟩ :: _) _ _); refine wpList_store_c rfl 3 _ _ rfl l 0 (by exact rfl) (.int .i64 (R : Int)) (by first | exact rfl | (rw [← HR.out]; exact rfl) | (rw [← HR2.out]; exact rfl) | (rw [← HR3.out]; exact rfl)) rfl (by kernel_rfl) 3 _ T5.out.vl (show 0 < 1 by decide) ?_; intro W6 HN HO HB; have T6 := Lib.hid (T5.out.setL HN.out HO.out HB.out); clear HN HO HB))
    refine wp_region_noPanic ?_
    refine wp_region_held_drew (S := fun X => TRow X g 36 (⟨m, t1.b, t1.c⟩) ∧ X.cell? ⟨k, 0, none⟩ = some (.int .i64 ((2 + Q : Nat) : Int)) ∧ Below w.heap.size w X) (by kernel_rfl) (⟨T8.out.q.below (Below.refl _ _).drew T8.out.q.lt, (T8.out.under (Below.refl _ _).drew).ck, (T8.out.under (Below.refl _ _).drew).b⟩) (fun hHeld => ?_)
    have TY := Lib.hid (T8.out.under (Below.refl _ _).drew)
    obtain ⟨Y0, hY0⟩ : ∃ Y, W8.drew = Y := ⟨_, rfl⟩
    rw [hY0] at hHeld TY ⊢
    clear hY0
    refine' take_ 0 rfl (by kernel_rfl) (by kernel_rfl) (by kernel_rfl) (fun _ _ _ h => h) (by rfl) (fun wS hSw => run_load_t wS 36 _ g rfl _ Try.underlying36 (by kernel_rfl) 36 hSw.1 _ _ _ _ _) hHeld ?_
    try simp only [Act.put, List.setIfInBounds_toArray, List.set_cons_zero, List.set_cons_succ]
    refine' take_ 1 rfl (by kernel_rfl) (by kernel_rfl) (by kernel_rfl) (fun _ _ _ h => h) (by rfl) (fun wS hSw => ?_) hHeld ?_
    rotate_left
    focus ((have hck := hSw.2.1); go_simp; (try with_reducible rfl); done)
    try simp only [Act.put, List.setIfInBounds_toArray, List.set_cons_zero, List.set_cons_succ]
    refine only_ 2 rfl (by kernel_rfl) (by rfl) (fun K hK => ?_)
    refine wp_store_t 36 _ _ rfl r rfl (by rfl) (by kernel_rfl) 36 TY.out.z ?_
    intro WZ HN HO HB
    have HZ := HN
    have BZ := Lib.hid (TY.out.b.trans (HB.out.mono TY.out.lr))
    have hHeld2 : TRow WZ g 36 (⟨m, t1.b, t1.c⟩) ∧ WZ.cell? ⟨k, 0, none⟩ = some (.int .i64 ((2 + Q : Nat) : Int)) ∧ Below w.heap.size w WZ := ⟨TY.out.q.other HO.out TY.out.gr, (TY.out.vk.off HO.out TY.out.rk.symm).cell 0 _ rfl, BZ.out⟩
    refine hK.out _ _ hHeld2 (fun _ => ?_)
    clear hK K hHeld TY HN HO HB
    show wpAnyH _ _ _ _ _ _ _ (Act.put _ none _) _
    try simp only [Act.put, List.setIfInBounds_toArray, List.set_cons_zero, List.set_cons_succ]
    refine' take_ 3 rfl (by kernel_rfl) (by kernel_rfl) (by kernel_rfl) (fun _ _ _ h => h) (by rfl) (fun wS hSw => ?_) hHeld2 ?_
    rotate_left
    focus (go_simp; (try with_reducible rfl); done)
    try simp only [Act.put, List.setIfInBounds_toArray, List.set_cons_zero, List.set_cons_succ]
    clear hHeld2
    refine wpAnyH_done (by kernel_rfl) ?_ _
    refine NoPanic.normal ?_
    go_wp2_with fail
    exact bodyPost_ret (v := .tuple #[tv (⟨m, t1.b, t1.c⟩), .int .i64 ((2 + Q : Nat) : Int)]) (results_ct Try.results18 _ _ _ _ _ _ rfl (run_loadVar_t WZ r 36 _ Try.underlying36 (by kernel_rfl) 36 HZ.out) rfl) rfl ⟨by rw [HE1.out, HE2.out]; rfl, BZ.out⟩
end Go.Proofs.Ytkodoldkfeopdaa.Ti
/- Ok -/
namespace Go.Proofs.Ytkodoldkfeopdaa.Ti
open Go.RowKit
theorem timer_ok : TimerOk where
  peek := peekT_any
  write := writeT_any
  tick := tickT_any
  ticks := ticksT_any
end Go.Proofs.Ytkodoldkfeopdaa.Ti
