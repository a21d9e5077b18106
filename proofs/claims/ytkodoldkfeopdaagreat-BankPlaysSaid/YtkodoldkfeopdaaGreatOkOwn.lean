/-
  Whose a register is. Made by wip/genbankok.py.
-/
import Derived.Test.YtkodoldkfeopdaaGreatOkDev
namespace Go.Proofs.YtkodoldkfeopdaaGreat
open Go.RowKit
set_option linter.unusedVariables false
set_option maxRecDepth 100000
theorem owner_0 (g : Nat) (w : World) : Calls Tryz.prog 21 #[.pointer (some ⟨g, 0, none⟩), .int .i64 0] w fun x w' => ∃ c, x = .returned (devV 141 70 c g 0) ∧ Cell1 w' c 136 (.pointer (some ⟨g, 0, none⟩)) ∧ Below w.heap.size w w' := by
  have HO := Lib.hid (fun W => owners_any W)
  have HM := Lib.hid (fun W => pinsOf_any g W)
  go_enter Tryz.func21, Tryz.ntmps21
  go_wp2_with (first
      | (go_at_call 38; refine (HO.out _).mono ?_; rintro e W1 ⟨rfl, hW1⟩
         have hm : W1.heap[w.heap.size]? = some (.map own 15) := by rw [hW1]; exact alloc_at _ _
         have hl := run_look mtyD uIntB W1 w.heap.size _ _ hm 0 0 (fn0 59) rfl
         have B1 := Lib.hid (show Below w.heap.size w W1 from by rw [hW1]; exact (Below.refl _ _).alloc (Nat.le_refl _) _)
         clear hm hW1)
      | (go_at_call 59; refine (HM.out _).mono ?_; rintro e W2 ⟨rfl, hC, hB⟩))
  go_ret
  exact ⟨_, rfl, hC, B1.out.trans (hB.mono B1.out.size)⟩
theorem owner_1 (g : Nat) (w : World) : Calls Tryz.prog 21 #[.pointer (some ⟨g, 0, none⟩), .int .i64 1] w fun x w' => ∃ c, x = .returned (devV 141 70 c g 0) ∧ Cell1 w' c 136 (.pointer (some ⟨g, 0, none⟩)) ∧ Below w.heap.size w w' := by
  have HO := Lib.hid (fun W => owners_any W)
  have HM := Lib.hid (fun W => pinsOf_any g W)
  go_enter Tryz.func21, Tryz.ntmps21
  go_wp2_with (first
      | (go_at_call 38; refine (HO.out _).mono ?_; rintro e W1 ⟨rfl, hW1⟩
         have hm : W1.heap[w.heap.size]? = some (.map own 15) := by rw [hW1]; exact alloc_at _ _
         have hl := run_look mtyD uIntB W1 w.heap.size _ _ hm 1 1 (fn0 59) rfl
         have B1 := Lib.hid (show Below w.heap.size w W1 from by rw [hW1]; exact (Below.refl _ _).alloc (Nat.le_refl _) _)
         clear hm hW1)
      | (go_at_call 59; refine (HM.out _).mono ?_; rintro e W2 ⟨rfl, hC, hB⟩))
  go_ret
  exact ⟨_, rfl, hC, B1.out.trans (hB.mono B1.out.size)⟩
theorem owner_2 (g : Nat) (w : World) : Calls Tryz.prog 21 #[.pointer (some ⟨g, 0, none⟩), .int .i64 2] w fun x w' => ∃ c, x = .returned (devV 141 70 c g 0) ∧ Cell1 w' c 136 (.pointer (some ⟨g, 0, none⟩)) ∧ Below w.heap.size w w' := by
  have HO := Lib.hid (fun W => owners_any W)
  have HM := Lib.hid (fun W => pinsOf_any g W)
  go_enter Tryz.func21, Tryz.ntmps21
  go_wp2_with (first
      | (go_at_call 38; refine (HO.out _).mono ?_; rintro e W1 ⟨rfl, hW1⟩
         have hm : W1.heap[w.heap.size]? = some (.map own 15) := by rw [hW1]; exact alloc_at _ _
         have hl := run_look mtyD uIntB W1 w.heap.size _ _ hm 2 2 (fn0 59) rfl
         have B1 := Lib.hid (show Below w.heap.size w W1 from by rw [hW1]; exact (Below.refl _ _).alloc (Nat.le_refl _) _)
         clear hm hW1)
      | (go_at_call 59; refine (HM.out _).mono ?_; rintro e W2 ⟨rfl, hC, hB⟩))
  go_ret
  exact ⟨_, rfl, hC, B1.out.trans (hB.mono B1.out.size)⟩
theorem owner_3 (g : Nat) (w : World) : Calls Tryz.prog 21 #[.pointer (some ⟨g, 0, none⟩), .int .i64 3] w fun x w' => ∃ c, x = .returned (devV 145 72 c g 3) ∧ Cell1 w' c 142 (.pointer (some ⟨g, 3, none⟩)) ∧ Below w.heap.size w w' := by
  have HO := Lib.hid (fun W => owners_any W)
  have HM := Lib.hid (fun W => serialOf_any g W)
  go_enter Tryz.func21, Tryz.ntmps21
  go_wp2_with (first
      | (go_at_call 38; refine (HO.out _).mono ?_; rintro e W1 ⟨rfl, hW1⟩
         have hm : W1.heap[w.heap.size]? = some (.map own 15) := by rw [hW1]; exact alloc_at _ _
         have hl := run_look mtyD uIntB W1 w.heap.size _ _ hm 3 3 (fn0 60) rfl
         have B1 := Lib.hid (show Below w.heap.size w W1 from by rw [hW1]; exact (Below.refl _ _).alloc (Nat.le_refl _) _)
         clear hm hW1)
      | (go_at_call 60; refine (HM.out _).mono ?_; rintro e W2 ⟨rfl, hC, hB⟩))
  go_ret
  exact ⟨_, rfl, hC, B1.out.trans (hB.mono B1.out.size)⟩
theorem owner_4 (g : Nat) (w : World) : Calls Tryz.prog 21 #[.pointer (some ⟨g, 0, none⟩), .int .i64 4] w fun x w' => ∃ c, x = .returned (devV 145 72 c g 3) ∧ Cell1 w' c 142 (.pointer (some ⟨g, 3, none⟩)) ∧ Below w.heap.size w w' := by
  have HO := Lib.hid (fun W => owners_any W)
  have HM := Lib.hid (fun W => serialOf_any g W)
  go_enter Tryz.func21, Tryz.ntmps21
  go_wp2_with (first
      | (go_at_call 38; refine (HO.out _).mono ?_; rintro e W1 ⟨rfl, hW1⟩
         have hm : W1.heap[w.heap.size]? = some (.map own 15) := by rw [hW1]; exact alloc_at _ _
         have hl := run_look mtyD uIntB W1 w.heap.size _ _ hm 4 4 (fn0 60) rfl
         have B1 := Lib.hid (show Below w.heap.size w W1 from by rw [hW1]; exact (Below.refl _ _).alloc (Nat.le_refl _) _)
         clear hm hW1)
      | (go_at_call 60; refine (HM.out _).mono ?_; rintro e W2 ⟨rfl, hC, hB⟩))
  go_ret
  exact ⟨_, rfl, hC, B1.out.trans (hB.mono B1.out.size)⟩
theorem owner_5 (g : Nat) (w : World) : Calls Tryz.prog 21 #[.pointer (some ⟨g, 0, none⟩), .int .i64 5] w fun x w' => ∃ c, x = .returned (devV 145 72 c g 3) ∧ Cell1 w' c 142 (.pointer (some ⟨g, 3, none⟩)) ∧ Below w.heap.size w w' := by
  have HO := Lib.hid (fun W => owners_any W)
  have HM := Lib.hid (fun W => serialOf_any g W)
  go_enter Tryz.func21, Tryz.ntmps21
  go_wp2_with (first
      | (go_at_call 38; refine (HO.out _).mono ?_; rintro e W1 ⟨rfl, hW1⟩
         have hm : W1.heap[w.heap.size]? = some (.map own 15) := by rw [hW1]; exact alloc_at _ _
         have hl := run_look mtyD uIntB W1 w.heap.size _ _ hm 5 5 (fn0 60) rfl
         have B1 := Lib.hid (show Below w.heap.size w W1 from by rw [hW1]; exact (Below.refl _ _).alloc (Nat.le_refl _) _)
         clear hm hW1)
      | (go_at_call 60; refine (HM.out _).mono ?_; rintro e W2 ⟨rfl, hC, hB⟩))
  go_ret
  exact ⟨_, rfl, hC, B1.out.trans (hB.mono B1.out.size)⟩
theorem owner_6 (g : Nat) (w : World) : Calls Tryz.prog 21 #[.pointer (some ⟨g, 0, none⟩), .int .i64 6] w fun x w' => ∃ c d, x = .returned (cntV c d g 24 6) ∧ Cell1 w' c 147 (.pointer (some ⟨g, 24, none⟩)) ∧ Cell1 w' d 3 (.int .i64 6) ∧ Below w.heap.size w w' := by
  have HO := Lib.hid (fun W => owners_any W)
  have HM := Lib.hid (fun W => firstOf_any g W)
  go_enter Tryz.func21, Tryz.ntmps21
  go_wp2_with (first
      | (go_at_call 38; refine (HO.out _).mono ?_; rintro e W1 ⟨rfl, hW1⟩
         have hm : W1.heap[w.heap.size]? = some (.map own 15) := by rw [hW1]; exact alloc_at _ _
         have hl := run_look mtyD uIntB W1 w.heap.size _ _ hm 6 6 (fn0 61) rfl
         have B1 := Lib.hid (show Below w.heap.size w W1 from by rw [hW1]; exact (Below.refl _ _).alloc (Nat.le_refl _) _)
         clear hm hW1)
      | (go_at_call 61; refine (HM.out _).mono ?_; rintro e W2 ⟨rfl, hC, hD, hB⟩))
  go_ret
  exact ⟨_, _, rfl, hC, hD, B1.out.trans (hB.mono B1.out.size)⟩
theorem owner_7 (g : Nat) (w : World) : Calls Tryz.prog 21 #[.pointer (some ⟨g, 0, none⟩), .int .i64 7] w fun x w' => ∃ c d, x = .returned (cntV c d g 24 6) ∧ Cell1 w' c 147 (.pointer (some ⟨g, 24, none⟩)) ∧ Cell1 w' d 3 (.int .i64 6) ∧ Below w.heap.size w w' := by
  have HO := Lib.hid (fun W => owners_any W)
  have HM := Lib.hid (fun W => firstOf_any g W)
  go_enter Tryz.func21, Tryz.ntmps21
  go_wp2_with (first
      | (go_at_call 38; refine (HO.out _).mono ?_; rintro e W1 ⟨rfl, hW1⟩
         have hm : W1.heap[w.heap.size]? = some (.map own 15) := by rw [hW1]; exact alloc_at _ _
         have hl := run_look mtyD uIntB W1 w.heap.size _ _ hm 7 7 (fn0 61) rfl
         have B1 := Lib.hid (show Below w.heap.size w W1 from by rw [hW1]; exact (Below.refl _ _).alloc (Nat.le_refl _) _)
         clear hm hW1)
      | (go_at_call 61; refine (HM.out _).mono ?_; rintro e W2 ⟨rfl, hC, hD, hB⟩))
  go_ret
  exact ⟨_, _, rfl, hC, hD, B1.out.trans (hB.mono B1.out.size)⟩
theorem owner_8 (g : Nat) (w : World) : Calls Tryz.prog 21 #[.pointer (some ⟨g, 0, none⟩), .int .i64 8] w fun x w' => ∃ c d, x = .returned (cntV c d g 24 6) ∧ Cell1 w' c 147 (.pointer (some ⟨g, 24, none⟩)) ∧ Cell1 w' d 3 (.int .i64 6) ∧ Below w.heap.size w w' := by
  have HO := Lib.hid (fun W => owners_any W)
  have HM := Lib.hid (fun W => firstOf_any g W)
  go_enter Tryz.func21, Tryz.ntmps21
  go_wp2_with (first
      | (go_at_call 38; refine (HO.out _).mono ?_; rintro e W1 ⟨rfl, hW1⟩
         have hm : W1.heap[w.heap.size]? = some (.map own 15) := by rw [hW1]; exact alloc_at _ _
         have hl := run_look mtyD uIntB W1 w.heap.size _ _ hm 8 8 (fn0 61) rfl
         have B1 := Lib.hid (show Below w.heap.size w W1 from by rw [hW1]; exact (Below.refl _ _).alloc (Nat.le_refl _) _)
         clear hm hW1)
      | (go_at_call 61; refine (HM.out _).mono ?_; rintro e W2 ⟨rfl, hC, hD, hB⟩))
  go_ret
  exact ⟨_, _, rfl, hC, hD, B1.out.trans (hB.mono B1.out.size)⟩
theorem owner_9 (g : Nat) (w : World) : Calls Tryz.prog 21 #[.pointer (some ⟨g, 0, none⟩), .int .i64 9] w fun x w' => ∃ c d, x = .returned (cntV c d g 27 9) ∧ Cell1 w' c 147 (.pointer (some ⟨g, 27, none⟩)) ∧ Cell1 w' d 3 (.int .i64 9) ∧ Below w.heap.size w w' := by
  have HO := Lib.hid (fun W => owners_any W)
  have HM := Lib.hid (fun W => secondOf_any g W)
  go_enter Tryz.func21, Tryz.ntmps21
  go_wp2_with (first
      | (go_at_call 38; refine (HO.out _).mono ?_; rintro e W1 ⟨rfl, hW1⟩
         have hm : W1.heap[w.heap.size]? = some (.map own 15) := by rw [hW1]; exact alloc_at _ _
         have hl := run_look mtyD uIntB W1 w.heap.size _ _ hm 9 9 (fn0 62) rfl
         have B1 := Lib.hid (show Below w.heap.size w W1 from by rw [hW1]; exact (Below.refl _ _).alloc (Nat.le_refl _) _)
         clear hm hW1)
      | (go_at_call 62; refine (HM.out _).mono ?_; rintro e W2 ⟨rfl, hC, hD, hB⟩))
  go_ret
  exact ⟨_, _, rfl, hC, hD, B1.out.trans (hB.mono B1.out.size)⟩
theorem owner_10 (g : Nat) (w : World) : Calls Tryz.prog 21 #[.pointer (some ⟨g, 0, none⟩), .int .i64 10] w fun x w' => ∃ c d, x = .returned (cntV c d g 27 9) ∧ Cell1 w' c 147 (.pointer (some ⟨g, 27, none⟩)) ∧ Cell1 w' d 3 (.int .i64 9) ∧ Below w.heap.size w w' := by
  have HO := Lib.hid (fun W => owners_any W)
  have HM := Lib.hid (fun W => secondOf_any g W)
  go_enter Tryz.func21, Tryz.ntmps21
  go_wp2_with (first
      | (go_at_call 38; refine (HO.out _).mono ?_; rintro e W1 ⟨rfl, hW1⟩
         have hm : W1.heap[w.heap.size]? = some (.map own 15) := by rw [hW1]; exact alloc_at _ _
         have hl := run_look mtyD uIntB W1 w.heap.size _ _ hm 10 10 (fn0 62) rfl
         have B1 := Lib.hid (show Below w.heap.size w W1 from by rw [hW1]; exact (Below.refl _ _).alloc (Nat.le_refl _) _)
         clear hm hW1)
      | (go_at_call 62; refine (HM.out _).mono ?_; rintro e W2 ⟨rfl, hC, hD, hB⟩))
  go_ret
  exact ⟨_, _, rfl, hC, hD, B1.out.trans (hB.mono B1.out.size)⟩
theorem owner_11 (g : Nat) (w : World) : Calls Tryz.prog 21 #[.pointer (some ⟨g, 0, none⟩), .int .i64 11] w fun x w' => ∃ c d, x = .returned (cntV c d g 27 9) ∧ Cell1 w' c 147 (.pointer (some ⟨g, 27, none⟩)) ∧ Cell1 w' d 3 (.int .i64 9) ∧ Below w.heap.size w w' := by
  have HO := Lib.hid (fun W => owners_any W)
  have HM := Lib.hid (fun W => secondOf_any g W)
  go_enter Tryz.func21, Tryz.ntmps21
  go_wp2_with (first
      | (go_at_call 38; refine (HO.out _).mono ?_; rintro e W1 ⟨rfl, hW1⟩
         have hm : W1.heap[w.heap.size]? = some (.map own 15) := by rw [hW1]; exact alloc_at _ _
         have hl := run_look mtyD uIntB W1 w.heap.size _ _ hm 11 11 (fn0 62) rfl
         have B1 := Lib.hid (show Below w.heap.size w W1 from by rw [hW1]; exact (Below.refl _ _).alloc (Nat.le_refl _) _)
         clear hm hW1)
      | (go_at_call 62; refine (HM.out _).mono ?_; rintro e W2 ⟨rfl, hC, hD, hB⟩))
  go_ret
  exact ⟨_, _, rfl, hC, hD, B1.out.trans (hB.mono B1.out.size)⟩
theorem owner_12 (g : Nat) (w : World) : Calls Tryz.prog 21 #[.pointer (some ⟨g, 0, none⟩), .int .i64 12] w fun x w' => ∃ c, x = .returned (devV 151 75 c g 30) ∧ Cell1 w' c 148 (.pointer (some ⟨g, 30, none⟩)) ∧ Below w.heap.size w w' := by
  have HO := Lib.hid (fun W => owners_any W)
  have HM := Lib.hid (fun W => controllerOf_any g W)
  go_enter Tryz.func21, Tryz.ntmps21
  go_wp2_with (first
      | (go_at_call 38; refine (HO.out _).mono ?_; rintro e W1 ⟨rfl, hW1⟩
         have hm : W1.heap[w.heap.size]? = some (.map own 15) := by rw [hW1]; exact alloc_at _ _
         have hl := run_look mtyD uIntB W1 w.heap.size _ _ hm 12 12 (fn0 63) rfl
         have B1 := Lib.hid (show Below w.heap.size w W1 from by rw [hW1]; exact (Below.refl _ _).alloc (Nat.le_refl _) _)
         clear hm hW1)
      | (go_at_call 63; refine (HM.out _).mono ?_; rintro e W2 ⟨rfl, hC, hB⟩))
  go_ret
  exact ⟨_, rfl, hC, B1.out.trans (hB.mono B1.out.size)⟩
theorem owner_13 (g : Nat) (w : World) : Calls Tryz.prog 21 #[.pointer (some ⟨g, 0, none⟩), .int .i64 13] w fun x w' => ∃ c, x = .returned (devV 151 75 c g 30) ∧ Cell1 w' c 148 (.pointer (some ⟨g, 30, none⟩)) ∧ Below w.heap.size w w' := by
  have HO := Lib.hid (fun W => owners_any W)
  have HM := Lib.hid (fun W => controllerOf_any g W)
  go_enter Tryz.func21, Tryz.ntmps21
  go_wp2_with (first
      | (go_at_call 38; refine (HO.out _).mono ?_; rintro e W1 ⟨rfl, hW1⟩
         have hm : W1.heap[w.heap.size]? = some (.map own 15) := by rw [hW1]; exact alloc_at _ _
         have hl := run_look mtyD uIntB W1 w.heap.size _ _ hm 13 13 (fn0 63) rfl
         have B1 := Lib.hid (show Below w.heap.size w W1 from by rw [hW1]; exact (Below.refl _ _).alloc (Nat.le_refl _) _)
         clear hm hW1)
      | (go_at_call 63; refine (HM.out _).mono ?_; rintro e W2 ⟨rfl, hC, hB⟩))
  go_ret
  exact ⟨_, rfl, hC, B1.out.trans (hB.mono B1.out.size)⟩
theorem owner_14 (g : Nat) (w : World) : Calls Tryz.prog 21 #[.pointer (some ⟨g, 0, none⟩), .int .i64 14] w fun x w' => ∃ c, x = .returned (devV 151 75 c g 30) ∧ Cell1 w' c 148 (.pointer (some ⟨g, 30, none⟩)) ∧ Below w.heap.size w w' := by
  have HO := Lib.hid (fun W => owners_any W)
  have HM := Lib.hid (fun W => controllerOf_any g W)
  go_enter Tryz.func21, Tryz.ntmps21
  go_wp2_with (first
      | (go_at_call 38; refine (HO.out _).mono ?_; rintro e W1 ⟨rfl, hW1⟩
         have hm : W1.heap[w.heap.size]? = some (.map own 15) := by rw [hW1]; exact alloc_at _ _
         have hl := run_look mtyD uIntB W1 w.heap.size _ _ hm 14 14 (fn0 63) rfl
         have B1 := Lib.hid (show Below w.heap.size w W1 from by rw [hW1]; exact (Below.refl _ _).alloc (Nat.le_refl _) _)
         clear hm hW1)
      | (go_at_call 63; refine (HM.out _).mono ?_; rintro e W2 ⟨rfl, hC, hB⟩))
  go_ret
  exact ⟨_, rfl, hC, B1.out.trans (hB.mono B1.out.size)⟩
theorem owner_none (r : Int) (hr : r < 0 ∨ 14 < r) (g : Nat) (w : World) : Calls Tryz.prog 21 #[.pointer (some ⟨g, 0, none⟩), .int .i64 r] w fun x w' => x = .returned .nilIface ∧ Below w.heap.size w w' := by
  have HO := Lib.hid (fun W => owners_any W)
  have HF := Lib.hid (find_noneB r (by omega) (by omega) (by omega) (by omega) (by omega) (by omega) (by omega) (by omega) (by omega) (by omega) (by omega) (by omega) (by omega) (by omega) (by omega))
  clear hr
  go_enter Tryz.func21, Tryz.ntmps21
  go_wp2_with (first
      | (go_at_call 38; refine (HO.out _).mono ?_; rintro e W1 ⟨rfl, hW1⟩
         have hm : W1.heap[w.heap.size]? = some (.map own 15) := by rw [hW1]; exact alloc_at _ _
         have hl := run_look_none mtyD uIntB W1 w.heap.size _ _ hm r _ (zfn W1) HF.out
         have B1 := Lib.hid (show Below w.heap.size w W1 from by rw [hW1]; exact (Below.refl _ _).alloc (Nat.le_refl _) _)
         clear hm hW1))
  go_ret
  exact ⟨rfl, B1.out⟩
theorem owner_pinsOf (r : Int) (h0 : 0 ≤ r) (h1 : r ≤ 2) (g : Nat) (w : World) : Calls Tryz.prog 21 #[.pointer (some ⟨g, 0, none⟩), .int .i64 r] w fun x w' => ∃ c, x = .returned (devV 141 70 c g 0) ∧ Cell1 w' c 136 (.pointer (some ⟨g, 0, none⟩)) ∧ Below w.heap.size w w' := by
  obtain rfl | rfl | rfl : r = 0 ∨ r = 1 ∨ r = 2 := by omega
  · exact owner_0 g w
  · exact owner_1 g w
  · exact owner_2 g w
theorem owner_serialOf (r : Int) (h0 : 3 ≤ r) (h1 : r ≤ 5) (g : Nat) (w : World) : Calls Tryz.prog 21 #[.pointer (some ⟨g, 0, none⟩), .int .i64 r] w fun x w' => ∃ c, x = .returned (devV 145 72 c g 3) ∧ Cell1 w' c 142 (.pointer (some ⟨g, 3, none⟩)) ∧ Below w.heap.size w w' := by
  obtain rfl | rfl | rfl : r = 3 ∨ r = 4 ∨ r = 5 := by omega
  · exact owner_3 g w
  · exact owner_4 g w
  · exact owner_5 g w
theorem owner_firstOf (r : Int) (h0 : 6 ≤ r) (h1 : r ≤ 8) (g : Nat) (w : World) : Calls Tryz.prog 21 #[.pointer (some ⟨g, 0, none⟩), .int .i64 r] w fun x w' => ∃ c d, x = .returned (cntV c d g 24 6) ∧ Cell1 w' c 147 (.pointer (some ⟨g, 24, none⟩)) ∧ Cell1 w' d 3 (.int .i64 6) ∧ Below w.heap.size w w' := by
  obtain rfl | rfl | rfl : r = 6 ∨ r = 7 ∨ r = 8 := by omega
  · exact owner_6 g w
  · exact owner_7 g w
  · exact owner_8 g w
theorem owner_secondOf (r : Int) (h0 : 9 ≤ r) (h1 : r ≤ 11) (g : Nat) (w : World) : Calls Tryz.prog 21 #[.pointer (some ⟨g, 0, none⟩), .int .i64 r] w fun x w' => ∃ c d, x = .returned (cntV c d g 27 9) ∧ Cell1 w' c 147 (.pointer (some ⟨g, 27, none⟩)) ∧ Cell1 w' d 3 (.int .i64 9) ∧ Below w.heap.size w w' := by
  obtain rfl | rfl | rfl : r = 9 ∨ r = 10 ∨ r = 11 := by omega
  · exact owner_9 g w
  · exact owner_10 g w
  · exact owner_11 g w
theorem owner_controllerOf (r : Int) (h0 : 12 ≤ r) (h1 : r ≤ 14) (g : Nat) (w : World) : Calls Tryz.prog 21 #[.pointer (some ⟨g, 0, none⟩), .int .i64 r] w fun x w' => ∃ c, x = .returned (devV 151 75 c g 30) ∧ Cell1 w' c 148 (.pointer (some ⟨g, 30, none⟩)) ∧ Below w.heap.size w w' := by
  obtain rfl | rfl | rfl : r = 12 ∨ r = 13 ∨ r = 14 := by omega
  · exact owner_12 g w
  · exact owner_13 g w
  · exact owner_14 g w
end Go.Proofs.YtkodoldkfeopdaaGreat
