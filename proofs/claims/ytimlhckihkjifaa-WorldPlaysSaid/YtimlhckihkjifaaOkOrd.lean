/-
  The program's order of two inputs, by its contract: numbers compared, the first that is not 0.
-/
import Derived.Test.YtimlhckihkjifaaWk
namespace Go.Proofs.Ytimlhckihkjifaa
open Go.RowKit
set_option linter.unusedVariables false
set_option linter.unusedSimpArgs false
def cmpI (a b : Int) : Int := if a < b then -1 else if b < a then 1 else 0
/-- Below 0, if x stands ahead of y; 0, if they have one place. -/
def ordI (x y : In) : Int := if cmpI x.a y.a = 0 then cmpI x.k y.k else cmpI x.a y.a
def orI (a b : Int) : Int := if a = 0 then b else a
theorem isNaN_any (a : Int) (w : World) : Calls Try.prog 39 #[.int .i64 a] w fun e w' => e = .returned (.bool false) ∧ w' = w := by
  go_enter Try.func39, Try.ntmps39
  go_wp2
  go_ret
  exact ⟨by simp, rfl⟩
set_option maxRecDepth 100000 in
theorem compare_any (a b : Int) (w : World) : Calls Try.prog 36 #[.int .i64 a, .int .i64 b] w fun e w' => e = .returned (.int .i64 (cmpI a b)) ∧ w' = w := by
  have HA := Lib.hid (fun x => isNaN_any x w)
  by_cases h1 : a < b
  · have HE : Hid (cmpI a b = -1) := Lib.hid (if_pos h1)
    go_enter Try.func36, Try.ntmps36
    go_wp2_with (go_at_call 39; (with_reducible refine (HA.out _).mono ?_); rintro e w1 ⟨rfl, rfl⟩)
    go_ret
    exact ⟨by rw [HE.out]; rfl, rfl⟩
  · by_cases h2 : b < a
    · have HE : Hid (cmpI a b = 1) := Lib.hid ((if_neg h1).trans (if_pos h2))
      go_enter Try.func36, Try.ntmps36
      go_wp2_with (go_at_call 39; (with_reducible refine (HA.out _).mono ?_); rintro e w1 ⟨rfl, rfl⟩)
      go_ret
      exact ⟨by rw [HE.out]; rfl, rfl⟩
    · have HE : Hid (cmpI a b = 0) := Lib.hid ((if_neg h1).trans (if_neg h2))
      go_enter Try.func36, Try.ntmps36
      go_wp2_with (go_at_call 39; (with_reducible refine (HA.out _).mono ?_); rintro e w1 ⟨rfl, rfl⟩)
      go_ret
      exact ⟨by rw [HE.out]; rfl, rfl⟩
set_option maxRecDepth 100000 in
theorem or_any (a b : Int) (g : Nat) (w : World) (h0 : w.cell? ⟨g, 0, none⟩ = some (.int .i64 a)) (h1 : w.cell? ⟨g, 1, none⟩ = some (.int .i64 b)) :
    Calls Try.prog 35 #[.slice (some ⟨g, 0, none⟩) 2 2] w fun e w' => e = .returned (.int .i64 (orI a b)) ∧ w' = w := by
  go_enter Try.func35, Try.ntmps35
  go_wp2_with fail
  go_loopw [8] (fun iv wr => ∃ k : Nat, k ≤ 2 ∧ iv = .int .i64 (k : Int) ∧ (0 < k → a = 0) ∧ (1 < k → b = 0) ∧ wr = w) (fun iv _ => 2 - (intOf iv).toNat)
  case atStart => exact ⟨0, by omega, rfl, by omega, by omega, rfl⟩
  case round =>
    obtain ⟨k, hk, rfl, ha, hb, rfl⟩ := hrel
    obtain rfl | rfl | rfl : k = 0 ∨ k = 1 ∨ k = 2 := by omega
    · by_cases ha0 : a = 0
      · subst ha0
        go_wp2_with fail
        go_roundw
        case rel => exact ⟨1, by omega, rfl, by simp, by simp, trivial⟩
        case measure =>
          simp [intOf]
      · have hne : (a != 0) = true := by simpa using ha0
        have HE : Hid (orI a b = a) := Lib.hid (if_neg ha0)
        clear ha hb
        go_wp2_with fail
        exact bodyPost_ret (v := .int .i64 a) (results_tmp Try.results35 _ _ _) rfl ⟨by rw [HE.out], rfl⟩
    · obtain rfl := ha (by omega)
      have HE : Hid (orI 0 b = b) := Lib.hid (if_pos rfl)
      by_cases hb0 : b = 0
      · subst hb0
        clear ha hb
        go_wp2_with fail
        go_roundw
        case rel => exact ⟨2, by omega, rfl, by simp, by simp, trivial⟩
        case measure =>
          simp [intOf]
      · have hne : (b != 0) = true := by simpa using hb0
        clear ha hb
        go_wp2_with fail
        exact bodyPost_ret (v := .int .i64 b) (results_tmp Try.results35 _ _ _) rfl ⟨by rw [HE.out], rfl⟩
    · obtain rfl := ha (by omega)
      obtain rfl := hb (by omega)
      have HE : Hid (orI 0 0 = 0) := Lib.hid (if_pos rfl)
      clear ha hb
      go_wp2_with fail
      exact bodyPost_ret (v := .int .i64 0) (results_tmp Try.results35 _ _ _) rfl ⟨by rw [HE.out], rfl⟩
theorem compare_b (a b : Int) (w : World) : Calls Try.prog 36 #[.int .i64 a, .int .i64 b] w fun e w' => e = .returned (.int .i64 (cmpI a b)) ∧ Below w.heap.size w w' :=
  (compare_any a b w).mono fun e w' h => ⟨h.1, by rw [h.2]; exact Below.refl _ _⟩
theorem or_b (a b : Int) (g : Nat) (w : World) (h : VRow w g 3 [.int .i64 a, .int .i64 b]) :
    Calls Try.prog 35 #[.slice (some ⟨g, 0, none⟩) 2 2] w fun e w' => e = .returned (.int .i64 (orI a b)) ∧ Below w.heap.size w w' :=
  (or_any a b g w (h.cell 0 _ rfl) (h.cell 1 _ rfl)).mono fun e w' h => ⟨h.1, by rw [h.2]; exact Below.refl _ _⟩
set_option maxHeartbeats 1000000 in
set_option maxRecDepth 100000 in
theorem order_any (x y : In) (w : World) (hx : x.ok) (hy : y.ok) : Calls Try.prog 30 #[iv x, iv y] w fun e w' => e = .returned (.int .i64 (ordI x y)) ∧ Below w.heap.size w w' := by
  have HX := Lib.hid hx
  have HY := Lib.hid hy
  clear hx hy
  unfold iv
  go_enter Try.func30, Try.ntmps30
  go_upto_region 1 with (fail)
  refine name_two (Q := fun X => Code.wp _ _ _ _ X) ?_
  intro W0 hq1 hq2 hB0
  have R1 : Hid (IRow W0 w.heap.size x) := Lib.hid hq1
  have R2 : Hid (IRow W0 (w.heap.size + 1) y) := Lib.hid hq2
  have B0 := Lib.hid hB0
  clear hq1 hq2 hB0
  refine wp_region_noPanic ?_
  refine wp_region_held_drew (S := fun X => Below W0.heap.size W0 X) (by kernel_rfl) ((Below.refl _ W0).drew) (fun hHeld => ?_)
  refine' take_ 0 rfl (by kernel_rfl) (by kernel_rfl) (by kernel_rfl) (fun _ _ _ h => h) (by rfl) (fun wS hSw => ?_) hHeld ?_
  rotate_left
  focus (go_simp; (try with_reducible rfl); done)
  try simp only [Act.put, List.setIfInBounds_toArray, List.set_cons_zero, List.set_cons_succ]
  refine' take_ 1 rfl (by kernel_rfl) (by kernel_rfl) (by kernel_rfl) (fun _ _ _ h => h) (by rfl) (fun wS hSw => ?_) hHeld ?_
  rotate_left
  focus (have hz := (IRow.below R1.out hSw R1.out.lt).c0; go_simp; (try with_reducible rfl); done)
  try simp only [Act.put, List.setIfInBounds_toArray, List.set_cons_zero, List.set_cons_succ]
  refine' take_ 2 rfl (by kernel_rfl) (by kernel_rfl) (by kernel_rfl) (fun _ _ _ h => h) (by rfl) (fun wS hSw => ?_) hHeld ?_
  rotate_left
  focus (go_simp; (try with_reducible rfl); done)
  try simp only [Act.put, List.setIfInBounds_toArray, List.set_cons_zero, List.set_cons_succ]
  refine' take_ 3 rfl (by kernel_rfl) (by kernel_rfl) (by kernel_rfl) (fun _ _ _ h => h) (by rfl) (fun wS hSw => ?_) hHeld ?_
  rotate_left
  focus (have hz := (IRow.below R2.out hSw R2.out.lt).c0; go_simp; (try with_reducible rfl); done)
  try simp only [Act.put, List.setIfInBounds_toArray, List.set_cons_zero, List.set_cons_succ]
  refine' take_ 5 rfl (by kernel_rfl) (by kernel_rfl) (by kernel_rfl) (fun _ _ _ h => h) (by rfl) (fun wS hSw => ?_) hHeld ?_
  rotate_left
  focus (go_simp; (try with_reducible rfl); done)
  try simp only [Act.put, List.setIfInBounds_toArray, List.set_cons_zero, List.set_cons_succ]
  refine' take_ 6 rfl (by kernel_rfl) (by kernel_rfl) (by kernel_rfl) (fun _ _ _ h => h) (by rfl) (fun wS hSw => ?_) hHeld ?_
  rotate_left
  focus (have hz := (IRow.below R1.out hSw R1.out.lt).c1; go_simp; (try with_reducible rfl); done)
  try simp only [Act.put, List.setIfInBounds_toArray, List.set_cons_zero, List.set_cons_succ]
  refine' take_ 7 rfl (by kernel_rfl) (by kernel_rfl) (by kernel_rfl) (fun _ _ _ h => h) (by rfl) (fun wS hSw => ?_) hHeld ?_
  rotate_left
  focus (go_simp; (try with_reducible rfl); done)
  try simp only [Act.put, List.setIfInBounds_toArray, List.set_cons_zero, List.set_cons_succ]
  refine' take_ 8 rfl (by kernel_rfl) (by kernel_rfl) (by kernel_rfl) (fun _ _ _ h => h) (by rfl) (fun wS hSw => ?_) hHeld ?_
  rotate_left
  focus (have hz := (IRow.below R2.out hSw R2.out.lt).c1; go_simp; (try with_reducible rfl); done)
  try simp only [Act.put, List.setIfInBounds_toArray, List.set_cons_zero, List.set_cons_succ]
  refine only_ 4 rfl (by kernel_rfl) (by rfl) (fun K hK => ?_)
  obtain ⟨Y, hY⟩ : ∃ Y, W0.drew = Y := ⟨_, rfl⟩
  rw [hY] at hHeld ⊢
  clear hY
  refine wp_call_ret 36 _ _ rfl _ (by rfl) (by kernel_rfl) _ (compare_b x.a y.a _) (fun Y2 hB => ?_)
  have hH2 := hHeld.trans (hB.mono hHeld.size)
  refine hK.out _ _ hH2 (fun _ => ?_)
  clear hK K hB hHeld
  have hHeld := hH2
  clear hH2
  show wpAnyH _ _ _ _ _ _ _ (Act.put _ (some 9) _) _
  try simp only [Act.put, List.setIfInBounds_toArray, List.set_cons_zero, List.set_cons_succ]
  refine only_ 9 rfl (by kernel_rfl) (by rfl) (fun K hK => ?_)
  refine wp_call_ret 36 _ _ rfl _ (by rfl) (by kernel_rfl) _ (compare_b x.k y.k _) (fun Y2 hB => ?_)
  have hH2 := hHeld.trans (hB.mono hHeld.size)
  refine hK.out _ _ hH2 (fun _ => ?_)
  clear hK K hB hHeld
  have hHeld := hH2
  clear hH2
  show wpAnyH _ _ _ _ _ _ _ (Act.put _ (some 14) _) _
  try simp only [Act.put, List.setIfInBounds_toArray, List.set_cons_zero, List.set_cons_succ]
  refine only_ 10 rfl (by kernel_rfl) (by rfl) (fun K hK => ?_)
  go_simp
  have hrow : VRow (Y2.alloc (Obj.cells #[Value.int IntKind.i64 (cmpI x.a y.a), Value.int IntKind.i64 (cmpI x.k y.k)] 3)) Y2.heap.size 3 [.int .i64 (cmpI x.a y.a), .int .i64 (cmpI x.k y.k)] := VRow.al _ _ _
  have hal := hHeld.alloc hHeld.size (Obj.cells #[Value.int IntKind.i64 (cmpI x.a y.a), Value.int IntKind.i64 (cmpI x.k y.k)] 3)
  have hH2 := hal
  refine hK.out _ _ hH2 (fun _ => ?_)
  clear hK K hHeld
  have hHeld := hH2
  clear hH2
  clear hal
  refine only_ 11 rfl (by kernel_rfl) (by rfl) (fun K hK => ?_)
  refine wp_call_ret 35 _ _ rfl _ (by rfl) (by kernel_rfl) _ (or_b _ _ _ _ hrow) (fun Y2 hB => ?_)
  have hH2 := hHeld.trans (hB.mono hHeld.size)
  refine hK.out _ _ hH2 (fun _ => ?_)
  clear hK K hB hHeld
  have hHeld := hH2
  clear hH2
  show wpAnyH _ _ _ _ _ _ _ (Act.put _ (some 16) _) _
  try simp only [Act.put, List.setIfInBounds_toArray, List.set_cons_zero, List.set_cons_succ]
  refine' take_ 12 rfl (by kernel_rfl) (by kernel_rfl) (by kernel_rfl) (fun _ _ _ h => h) (by rfl) (fun wS hSw => ?_) hHeld ?_
  rotate_left
  focus (go_simp; (try with_reducible rfl); done)
  try simp only [Act.put, List.setIfInBounds_toArray, List.set_cons_zero, List.set_cons_succ]
  refine wpAnyH_done (by kernel_rfl) ?_ _
  refine NoPanic.normal ?_
  have B1 := Lib.hid (B0.out.trans (hHeld.mono B0.out.size))
  go_wp2
  go_ret
  exact ⟨rfl, B1.out⟩
/-- What is wrong with an input alone. -/
def alE (x : In) : Nat := if x.a < 1 ∨ 1073741824 < x.a then 2 else if x.k < 0 ∨ 2 < x.k then 6 else 0
set_option maxRecDepth 100000 in
theorem alone_any (x : In) (w : World) (hx : x.ok) : Calls Try.prog 28 #[iv x] w fun e w' => e = .returned (.int .i64 ((alE x : Nat) : Int)) ∧ Below w.heap.size w w' := by
  by_cases h2 : x.a < 1 ∨ 1073741824 < x.a
  · have HE : Hid (alE x = 2) := Lib.hid (if_pos h2)
    have hd : x.a < 1 ∨ (¬ x.a < 1 ∧ 1073741824 < x.a) := by omega
    clear h2
    rcases hd with d1 | ⟨d1, d2⟩
    · unfold iv
      go_enter Try.func28, Try.ntmps28
      go_upto_region 1 with (fail)
      refine name_one (Q := fun X => Code.wp _ _ _ _ X) ?_
      intro W0 hq1 hB0 hz0
      have R1 : IRow W0 w.heap.size x := hq1
      have B0 := Lib.hid hB0
      have c0 := R1.c0
      have c1 := R1.c1
      clear hq1 hB0 R1
      go_wp2
      go_ret
      exact ⟨by rw [HE.out]; rfl, B0.out⟩
    · unfold iv
      go_enter Try.func28, Try.ntmps28
      go_upto_region 1 with (fail)
      refine name_one (Q := fun X => Code.wp _ _ _ _ X) ?_
      intro W0 hq1 hB0 hz0
      have R1 : IRow W0 w.heap.size x := hq1
      have B0 := Lib.hid hB0
      have c0 := R1.c0
      have c1 := R1.c1
      clear hq1 hB0 R1
      go_wp2
      go_ret
      exact ⟨by rw [HE.out]; rfl, B0.out⟩
  · by_cases h6 : x.k < 0 ∨ 2 < x.k
    · have HE : Hid (alE x = 6) := Lib.hid ((if_neg h2).trans (if_pos h6))
      have hd : x.k < 0 ∨ (¬ x.k < 0 ∧ 2 < x.k) := by omega
      have d1 : ¬ x.a < 1 := by omega
      have d2 : ¬ 1073741824 < x.a := by omega
      clear h2 h6
      rcases hd with d3 | ⟨d3, d4⟩
      · unfold iv
        go_enter Try.func28, Try.ntmps28
        go_upto_region 1 with (fail)
        refine name_one (Q := fun X => Code.wp _ _ _ _ X) ?_
        intro W0 hq1 hB0 hz0
        have R1 : IRow W0 w.heap.size x := hq1
        have B0 := Lib.hid hB0
        have c0 := R1.c0
        have c1 := R1.c1
        clear hq1 hB0 R1
        go_wp2
        go_ret
        exact ⟨by rw [HE.out]; rfl, B0.out⟩
      · unfold iv
        go_enter Try.func28, Try.ntmps28
        go_upto_region 1 with (fail)
        refine name_one (Q := fun X => Code.wp _ _ _ _ X) ?_
        intro W0 hq1 hB0 hz0
        have R1 : IRow W0 w.heap.size x := hq1
        have B0 := Lib.hid hB0
        have c0 := R1.c0
        have c1 := R1.c1
        clear hq1 hB0 R1
        go_wp2
        go_ret
        exact ⟨by rw [HE.out]; rfl, B0.out⟩
    · have HE : Hid (alE x = 0) := Lib.hid ((if_neg h2).trans (if_neg h6))
      have d1 : ¬ x.a < 1 := by omega
      have d2 : ¬ 1073741824 < x.a := by omega
      have d3 : ¬ x.k < 0 := by omega
      have d4 : ¬ 2 < x.k := by omega
      clear h2 h6
      unfold iv
      go_enter Try.func28, Try.ntmps28
      go_upto_region 1 with (fail)
      refine name_one (Q := fun X => Code.wp _ _ _ _ X) ?_
      intro W0 hq1 hB0 hz0
      have R1 : IRow W0 w.heap.size x := hq1
      have B0 := Lib.hid hB0
      have c0 := R1.c0
      have c1 := R1.c1
      clear hq1 hB0 R1
      go_wp2
      go_ret
      exact ⟨by rw [HE.out]; rfl, B0.out⟩
end Go.Proofs.Ytimlhckihkjifaa
