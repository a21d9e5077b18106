/-
  The program's wrapped, runs, register by their contracts.
-/
import Derived.Test.YtgibindoblhkeaaPer
import Derived.Laws.BitsAllLaws
import Derived.Laws.DeepBits32
namespace Go.Proofs.Ytgibindoblhkeaa
open Go.RowKit
set_option linter.unusedVariables false
theorem wrapped_eq (v : Int) : IntKind.u16.wrap v = ((low16 v : Nat) : Int) := by
  rw [low16_cast]
  simp [IntKind.wrap, IntKind.bits, IntKind.signed]
theorem wrapped_any (v : Int) (w : World) (h0 : -9223372036854775808 ≤ v) (h1 : v ≤ 9223372036854775807) : Calls Try.prog 19 #[.int .i64 v] w fun x w' => x = .returned (.int .u16 (low16 v : Nat)) ∧ w' = w := by
  have HE := Lib.hid (wrapped_eq v)
  go_enter Try.func19, Try.ntmps19
  go_wp2
  go_ret
  exact ⟨by rw [← HE.out]; first | rfl | simp [IntKind.wrap, IntKind.bits, IntKind.signed], rfl⟩
theorem u16_and1 (c : Nat) (h : c < 65536) : bits .and .u16 (c : Int) 1 = ((c % 2 : Nat) : Int) := by
  rw [show (1 : Int) = ((1 : Nat) : Int) from rfl, u16_and_nat c 1 h (by decide), Nat.and_one_is_mod]
theorem u16_and2 (c : Nat) (h : c < 65536) : bits .and .u16 (c : Int) 2 = if c / 2 % 2 = 1 then 2 else 0 := by
  rw [show (2 : Int) = ((2 : Nat) : Int) from rfl, u16_and_nat c 2 h (by decide)]
  have e : c &&& 2 = 2 * (c / 2 % 2) := by
    apply Nat.eq_of_testBit_eq
    intro i
    rw [Nat.testBit_and]
    cases i with
    | zero => rw [Nat.testBit_zero, Nat.testBit_zero, Nat.testBit_zero]; simp
    | succ i =>
      rw [Nat.testBit_succ, Nat.testBit_succ, Nat.testBit_succ, show 2 / 2 = 1 by decide, show 2 * (c / 2 % 2) / 2 = c / 2 % 2 by omega, ← Nat.testBit_and, Nat.and_one_is_mod]
  rw [e]
  rcases Nat.mod_two_eq_zero_or_one (c / 2) with h0 | h0 <;> simp [h0]
theorem and_top (x : Nat) (hx : x < 65536) : x &&& 65534 = x - x % 2 := by
  have e := and_even x (by omega)
  have h1 : x &&& 65534 = (x &&& 65535) &&& 4294967294 := by rw [Nat.and_assoc]; rfl
  rw [h1, show x &&& 65535 = x from by rw [Nat.and_two_pow_sub_one_eq_mod x 16]; omega, e]
theorem u16_andNot1 (c : Nat) (h : c < 65536) : bits .andNot .u16 (c : Int) 1 = ((c - c % 2 : Nat) : Int) := by
  rw [show (1 : Int) = ((1 : Nat) : Int) from rfl, u16_andNot_nat c 1 h (by decide), and_top c h]
theorem runs_any (t : Tm) (w : World) (h : t.ok) : Calls Try.prog 18 #[tv t] w fun x w' => x = .returned (.bool (decide (t.c % 2 = 1))) ∧ Below w.heap.size w w' := by
  have hc := h.c
  unfold tv
  by_cases hr : t.c % 2 = 1
  · have d1 : bits .and .u16 (t.c : Int) 1 = 1 := by rw [u16_and1 _ hc]; omega
    have HE : Hid (decide (t.c % 2 = 1) = true) := Lib.hid (decide_eq_true hr)
    clear hr
    go_enter Try.func18, Try.ntmps18
    go_wp2
    go_ret
    exact ⟨by rw [HE.out]; rfl, (Below.refl _ _).alloc (Nat.le_refl _) _⟩
  · have d1 : bits .and .u16 (t.c : Int) 1 = 0 := by rw [u16_and1 _ hc]; omega
    have HE : Hid (decide (t.c % 2 = 1) = false) := Lib.hid (decide_eq_false hr)
    clear hr
    go_enter Try.func18, Try.ntmps18
    go_wp2
    go_ret
    exact ⟨by rw [HE.out]; rfl, (Below.refl _ _).alloc (Nat.le_refl _) _⟩
def regV (g : Nat) : List Value := [.pointer (some ⟨g, 0, none⟩), .pointer (some ⟨g, 1, none⟩), .pointer (some ⟨g, 2, none⟩)]
def regT (g : Nat) (r : Int) : Value := .pointer (if r = 0 then some ⟨g, 0, none⟩ else if r = 1 then some ⟨g, 1, none⟩ else if r = 2 then some ⟨g, 2, none⟩ else none)
set_option maxHeartbeats 1000000 in
set_option maxRecDepth 100000 in
theorem register_any (g : Nat) (r : Int) (w : World) (h0 : -9223372036854775808 ≤ r) (h1 : r ≤ 9223372036854775807) :
    Calls Try.prog 20 #[.pointer (some ⟨g, 0, none⟩), .int .i64 r] w fun x w' => x = .returned (regT g r) ∧ Below w.heap.size w w' := by
  go_enter Try.func20, Try.ntmps20
  go_upto_region 1 with (fail)
  refine wp_region_noPanic ?_
  refine wp_region_held_drew (S := fun X => Below w.heap.size w X) (by kernel_rfl) ((Below.refl _ _).drew) (fun hHeld => ?_)
  obtain ⟨Y0, hY0⟩ : ∃ Y, w.drew = Y := ⟨_, rfl⟩
  rw [hY0] at hHeld ⊢
  clear hY0
  refine' take_ 0 rfl (by kernel_rfl) (by kernel_rfl) (by kernel_rfl) (fun _ _ _ h => h) (by rfl) (fun wS hSw => ?_) hHeld ?_
  rotate_left
  focus (go_simp; (try with_reducible rfl); done)
  try simp only [Act.put, List.setIfInBounds_toArray, List.set_cons_zero, List.set_cons_succ]
  refine' take_ 1 rfl (by kernel_rfl) (by kernel_rfl) (by kernel_rfl) (fun _ _ _ h => h) (by rfl) (fun wS hSw => ?_) hHeld ?_
  rotate_left
  focus (go_simp; (try with_reducible rfl); done)
  try simp only [Act.put, List.setIfInBounds_toArray, List.set_cons_zero, List.set_cons_succ]
  refine' take_ 2 rfl (by kernel_rfl) (by kernel_rfl) (by kernel_rfl) (fun _ _ _ h => h) (by rfl) (fun wS hSw => ?_) hHeld ?_
  rotate_left
  focus (go_simp; (try with_reducible rfl); done)
  try simp only [Act.put, List.setIfInBounds_toArray, List.set_cons_zero, List.set_cons_succ]
  refine' take_ 3 rfl (by kernel_rfl) (by kernel_rfl) (by kernel_rfl) (fun _ _ _ h => h) (by rfl) (fun wS hSw => ?_) hHeld ?_
  rotate_left
  focus (go_simp; (try with_reducible rfl); done)
  try simp only [Act.put, List.setIfInBounds_toArray, List.set_cons_zero, List.set_cons_succ]
  refine' take_ 4 rfl (by kernel_rfl) (by kernel_rfl) (by kernel_rfl) (fun _ _ _ h => h) (by rfl) (fun wS hSw => ?_) hHeld ?_
  rotate_left
  focus (go_simp; (try with_reducible rfl); done)
  try simp only [Act.put, List.setIfInBounds_toArray, List.set_cons_zero, List.set_cons_succ]
  refine' take_ 5 rfl (by kernel_rfl) (by kernel_rfl) (by kernel_rfl) (fun _ _ _ h => h) (by rfl) (fun wS hSw => ?_) hHeld ?_
  rotate_left
  focus (go_simp; (try with_reducible rfl); done)
  try simp only [Act.put, List.setIfInBounds_toArray, List.set_cons_zero, List.set_cons_succ]
  refine' take_ 6 rfl (by kernel_rfl) (by kernel_rfl) (by kernel_rfl) (fun _ _ _ h => h) (by rfl) (fun wS hSw => ?_) hHeld ?_
  rotate_left
  focus (go_simp; (try with_reducible rfl); done)
  try simp only [Act.put, List.setIfInBounds_toArray, List.set_cons_zero, List.set_cons_succ]
  refine' take_ 7 rfl (by kernel_rfl) (by kernel_rfl) (by kernel_rfl) (fun _ _ _ h => h) (by rfl) (fun wS hSw => ?_) hHeld ?_
  rotate_left
  focus (go_simp; (try with_reducible rfl); done)
  try simp only [Act.put, List.setIfInBounds_toArray, List.set_cons_zero, List.set_cons_succ]
  refine' take_ 8 rfl (by kernel_rfl) (by kernel_rfl) (by kernel_rfl) (fun _ _ _ h => h) (by rfl) (fun wS hSw => ?_) hHeld ?_
  rotate_left
  focus (go_simp; (try with_reducible rfl); done)
  try simp only [Act.put, List.setIfInBounds_toArray, List.set_cons_zero, List.set_cons_succ]
  refine' take_ 9 rfl (by kernel_rfl) (by kernel_rfl) (by kernel_rfl) (fun _ _ _ h => h) (by rfl) (fun wS hSw => ?_) hHeld ?_
  rotate_left
  focus (go_simp; (try with_reducible rfl); done)
  try simp only [Act.put, List.setIfInBounds_toArray, List.set_cons_zero, List.set_cons_succ]
  refine only_ 10 rfl (by kernel_rfl) (by rfl) (fun K hK => ?_)
  refine wp_of_run (w' := Y0.alloc (.cells #[.pointer none, .pointer none, .pointer none] 57)) (.pointer (some ⟨Y0.heap.size, 0, none⟩)) (by kernel_rfl) ?_
  have hH1 := hHeld.alloc hHeld.size (.cells #[.pointer none, .pointer none, .pointer none] 57)
  have r1 : VRow _ Y0.heap.size 57 [.pointer none, .pointer none, .pointer none] := alloc_at Y0 (.cells #[.pointer none, .pointer none, .pointer none] 57)
  have hb := hHeld.size
  refine hK.out _ _ hH1 (fun _ => ?_)
  clear hK K
  generalize Y0.alloc (.cells #[.pointer none, .pointer none, .pointer none] 57) = Y1 at *
  generalize Y0.heap.size = b at *
  clear hHeld
  show wpAnyH _ _ _ _ _ _ _ (Act.put _ (some 5) _) _
  try simp only [Act.put, List.setIfInBounds_toArray, List.set_cons_zero, List.set_cons_succ]
  refine only_ 11 rfl (by kernel_rfl) (by rfl) (fun K hK => ?_)
  refine wp_store_v 57 _ _ rfl b rfl (regV g) rfl (by kernel_rfl) (by intro u hu; simp only [regV, List.mem_cons, List.not_mem_nil, or_false] at hu; rcases hu with rfl | rfl | rfl <;> rfl) 57 _ r1 rfl ?_
  intro Y2 HN HO HB
  have B2 := Lib.hid (hH1.trans (HB.out.mono hb))
  refine hK.out _ _ B2.out (fun _ => ?_)
  clear hK K
  have c0 := VRow.cell HN.out 0 _ rfl
  have c1 := VRow.cell HN.out 1 _ rfl
  have c2 := VRow.cell HN.out 2 _ rfl
  clear HN HO HB hH1 r1 hb
  try simp only [Act.put]
  refine wpAnyH_done (by kernel_rfl) ?_ _
  refine NoPanic.normal ?_
  by_cases r0 : r = 0
  · subst r0
    go_wp2
    go_ret
    exact ⟨rfl, B2.out⟩
  by_cases r1 : r = 1
  · subst r1
    go_wp2
    go_ret
    exact ⟨rfl, B2.out⟩
  by_cases r2 : r = 2
  · subst r2
    go_wp2
    go_ret
    exact ⟨rfl, B2.out⟩
  have HE : Hid (regT g r = .pointer none) := Lib.hid (by unfold regT; rw [if_neg r0, if_neg r1, if_neg r2])
  by_cases hn : r < 0
  · clear r0 r1 r2
    go_wp2
    go_ret
    exact ⟨by rw [HE.out]; rfl, B2.out⟩
  · have hg : 3 ≤ r := by omega
    clear r0 r1 r2
    go_wp2
    go_ret
    exact ⟨by rw [HE.out]; rfl, B2.out⟩
end Go.Proofs.Ytgibindoblhkeaa
