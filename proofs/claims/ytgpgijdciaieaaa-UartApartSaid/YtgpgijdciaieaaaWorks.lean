/-
  works: by its contract, if the program's functions are what they must be: the chapter's examples: true. Made by wip/genuartworks.py.
-/
import Derived.Test.YtgpgijdciaieaaaAlike
namespace Go.Proofs.Ytgpgijdciaieaaa
open Go.RowKit
set_option linter.unusedVariables false
/-- The one to which nine bytes come, behind i of them. -/
def fN (i : Nat) : Int := ((min i 8 : Nat) : Int)
def fP (i : Nat) : List Nat := pad (List.range (min i 8))
def fL (i : Nat) : Bool := decide (8 < i)
theorem fP_len (i : Nat) : (fP i).length = 8 := pad_length _
theorem full_step (H : UartOk) (i : Nat) (h : i < 9) (W : World) : Calls Try.prog 12 #[uv (fN i) (fP i) 0 Z8 (fL i) 0 0, .int .u8 (i : Int)] W fun e w' => e = .returned (.tuple #[uv (fN (i + 1)) (fP (i + 1)) 0 Z8 (fL (i + 1)) 0 0, .bool false]) ∧ Below W.heap.size W w' := by
  obtain rfl | rfl | rfl | rfl | rfl | rfl | rfl | rfl | rfl : i = 0 ∨ i = 1 ∨ i = 2 ∨ i = 3 ∨ i = 4 ∨ i = 5 ∨ i = 6 ∨ i = 7 ∨ i = 8 := by omega
  · exact (H.arrive 0 [0, 0, 0, 0, 0, 0, 0, 0] 0 [0, 0, 0, 0, 0, 0, 0, 0] false 0 0 0 W ⟨rfl, rfl, by decide, by decide, by decide, by decide, by decide, by decide, by decide, by decide⟩ (by decide)).mono (fun e w' h => ⟨h.1.trans (by kernel_rfl), h.2⟩)
  · exact (H.arrive 1 [0, 0, 0, 0, 0, 0, 0, 0] 0 [0, 0, 0, 0, 0, 0, 0, 0] false 0 0 1 W ⟨rfl, rfl, by decide, by decide, by decide, by decide, by decide, by decide, by decide, by decide⟩ (by decide)).mono (fun e w' h => ⟨h.1.trans (by kernel_rfl), h.2⟩)
  · exact (H.arrive 2 [0, 1, 0, 0, 0, 0, 0, 0] 0 [0, 0, 0, 0, 0, 0, 0, 0] false 0 0 2 W ⟨rfl, rfl, by decide, by decide, by decide, by decide, by decide, by decide, by decide, by decide⟩ (by decide)).mono (fun e w' h => ⟨h.1.trans (by kernel_rfl), h.2⟩)
  · exact (H.arrive 3 [0, 1, 2, 0, 0, 0, 0, 0] 0 [0, 0, 0, 0, 0, 0, 0, 0] false 0 0 3 W ⟨rfl, rfl, by decide, by decide, by decide, by decide, by decide, by decide, by decide, by decide⟩ (by decide)).mono (fun e w' h => ⟨h.1.trans (by kernel_rfl), h.2⟩)
  · exact (H.arrive 4 [0, 1, 2, 3, 0, 0, 0, 0] 0 [0, 0, 0, 0, 0, 0, 0, 0] false 0 0 4 W ⟨rfl, rfl, by decide, by decide, by decide, by decide, by decide, by decide, by decide, by decide⟩ (by decide)).mono (fun e w' h => ⟨h.1.trans (by kernel_rfl), h.2⟩)
  · exact (H.arrive 5 [0, 1, 2, 3, 4, 0, 0, 0] 0 [0, 0, 0, 0, 0, 0, 0, 0] false 0 0 5 W ⟨rfl, rfl, by decide, by decide, by decide, by decide, by decide, by decide, by decide, by decide⟩ (by decide)).mono (fun e w' h => ⟨h.1.trans (by kernel_rfl), h.2⟩)
  · exact (H.arrive 6 [0, 1, 2, 3, 4, 5, 0, 0] 0 [0, 0, 0, 0, 0, 0, 0, 0] false 0 0 6 W ⟨rfl, rfl, by decide, by decide, by decide, by decide, by decide, by decide, by decide, by decide⟩ (by decide)).mono (fun e w' h => ⟨h.1.trans (by kernel_rfl), h.2⟩)
  · exact (H.arrive 7 [0, 1, 2, 3, 4, 5, 6, 0] 0 [0, 0, 0, 0, 0, 0, 0, 0] false 0 0 7 W ⟨rfl, rfl, by decide, by decide, by decide, by decide, by decide, by decide, by decide, by decide⟩ (by decide)).mono (fun e w' h => ⟨h.1.trans (by kernel_rfl), h.2⟩)
  · exact (H.arrive 8 [0, 1, 2, 3, 4, 5, 6, 7] 0 [0, 0, 0, 0, 0, 0, 0, 0] false 0 0 8 W ⟨rfl, rfl, by decide, by decide, by decide, by decide, by decide, by decide, by decide, by decide⟩ (by decide)).mono (fun e w' h => ⟨h.1.trans (by kernel_rfl), h.2⟩)
theorem tick_step (H : UartOk) (k : Nat) (h : k < 3) (W : World) : Calls Try.prog 15 #[uv 1 [66, 0, 0, 0, 0, 0, 0, 0] 1 [65, 0, 0, 0, 0, 0, 0, 0] false 3 k] W fun e w' => e = .returned (.tuple #[uv 1 [66, 0, 0, 0, 0, 0, 0, 0] 1 [65, 0, 0, 0, 0, 0, 0, 0] false 3 (k + 1), .int .u8 0, .bool false, .bool false]) ∧ Below W.heap.size W w' := by
  obtain rfl | rfl | rfl : k = 0 ∨ k = 1 ∨ k = 2 := by omega
  · exact (H.tick 1 [66, 0, 0, 0, 0, 0, 0, 0] 1 [65, 0, 0, 0, 0, 0, 0, 0] false 3 0 W ⟨rfl, rfl, by decide, by decide, by decide, by decide, by decide, by decide, by decide, by decide⟩).mono (fun e w' h => ⟨h.1.trans (by kernel_rfl), h.2⟩)
  · exact (H.tick 1 [66, 0, 0, 0, 0, 0, 0, 0] 1 [65, 0, 0, 0, 0, 0, 0, 0] false 3 1 W ⟨rfl, rfl, by decide, by decide, by decide, by decide, by decide, by decide, by decide, by decide⟩).mono (fun e w' h => ⟨h.1.trans (by kernel_rfl), h.2⟩)
  · exact (H.tick 1 [66, 0, 0, 0, 0, 0, 0, 0] 1 [65, 0, 0, 0, 0, 0, 0, 0] false 3 2 W ⟨rfl, rfl, by decide, by decide, by decide, by decide, by decide, by decide, by decide, by decide⟩).mono (fun e w' h => ⟨h.1.trans (by kernel_rfl), h.2⟩)
set_option maxHeartbeats 4000000 in
set_option maxRecDepth 100000 in
theorem works_any (H : UartOk) (w : World) : Calls Try.prog 11 #[] w fun e w' => e = .returned (.bool true) ∧ Below w.heap.size w w' := by
  have K1 : Hid (∀ W : World, Calls Try.prog 12 #[uv 0 [0, 0, 0, 0, 0, 0, 0, 0] 0 [0, 0, 0, 0, 0, 0, 0, 0] false 0 0, .int .u8 65] W fun e w' => e = .returned (.tuple #[uv 1 [65, 0, 0, 0, 0, 0, 0, 0] 0 [0, 0, 0, 0, 0, 0, 0, 0] false 0 0, .bool false]) ∧ Below W.heap.size W w') := Lib.hid (fun W => (H.arrive 0 [0, 0, 0, 0, 0, 0, 0, 0] 0 [0, 0, 0, 0, 0, 0, 0, 0] false 0 0 65 W ⟨rfl, rfl, by decide, by decide, by decide, by decide, by decide, by decide, by decide, by decide⟩ (by decide)).mono (fun e w' h => ⟨h.1.trans (by kernel_rfl), h.2⟩))
  have K2 : Hid (∀ W : World, Calls Try.prog 16 #[uv 1 [65, 0, 0, 0, 0, 0, 0, 0] 0 [0, 0, 0, 0, 0, 0, 0, 0] false 0 0, .int .i64 4] W fun e w' => e = .returned (.int .i32 1) ∧ Below W.heap.size W w') := Lib.hid (fun W => (H.peek 1 [65, 0, 0, 0, 0, 0, 0, 0] 0 [0, 0, 0, 0, 0, 0, 0, 0] false 0 0 4 W ⟨rfl, rfl, by decide, by decide, by decide, by decide, by decide, by decide, by decide, by decide⟩ (by decide) (by decide)).mono (fun e w' h => ⟨h.1.trans (by kernel_rfl), h.2⟩))
  have K3 : Hid (∀ W : World, Calls Try.prog 13 #[uv 1 [65, 0, 0, 0, 0, 0, 0, 0] 0 [0, 0, 0, 0, 0, 0, 0, 0] false 0 0, .int .i64 3] W fun e w' => e = .returned (.tuple #[.int .i32 65, uv 0 [0, 0, 0, 0, 0, 0, 0, 0] 0 [0, 0, 0, 0, 0, 0, 0, 0] false 0 0]) ∧ Below W.heap.size W w') := Lib.hid (fun W => (H.read 1 [65, 0, 0, 0, 0, 0, 0, 0] 0 [0, 0, 0, 0, 0, 0, 0, 0] false 0 0 3 W ⟨rfl, rfl, by decide, by decide, by decide, by decide, by decide, by decide, by decide, by decide⟩ (by decide) (by decide)).mono (fun e w' h => ⟨h.1.trans (by kernel_rfl), h.2⟩))
  have K4 : Hid (∀ W : World, Calls Try.prog 13 #[uv 0 [0, 0, 0, 0, 0, 0, 0, 0] 0 [0, 0, 0, 0, 0, 0, 0, 0] false 0 0, .int .i64 3] W fun e w' => e = .returned (.tuple #[.int .i32 0, uv 0 [0, 0, 0, 0, 0, 0, 0, 0] 0 [0, 0, 0, 0, 0, 0, 0, 0] false 0 0]) ∧ Below W.heap.size W w') := Lib.hid (fun W => (H.read 0 [0, 0, 0, 0, 0, 0, 0, 0] 0 [0, 0, 0, 0, 0, 0, 0, 0] false 0 0 3 W ⟨rfl, rfl, by decide, by decide, by decide, by decide, by decide, by decide, by decide, by decide⟩ (by decide) (by decide)).mono (fun e w' h => ⟨h.1.trans (by kernel_rfl), h.2⟩))
  have K5 : Hid (∀ W : World, Calls Try.prog 14 #[uv 0 [0, 0, 0, 0, 0, 0, 0, 0] 0 [0, 0, 0, 0, 0, 0, 0, 0] false 0 0, .int .i64 5, .int .i32 3] W fun e w' => e = .returned (uv 0 [0, 0, 0, 0, 0, 0, 0, 0] 0 [0, 0, 0, 0, 0, 0, 0, 0] false 3 0) ∧ Below W.heap.size W w') := Lib.hid (fun W => (H.write 0 [0, 0, 0, 0, 0, 0, 0, 0] 0 [0, 0, 0, 0, 0, 0, 0, 0] false 0 0 5 3 W ⟨rfl, rfl, by decide, by decide, by decide, by decide, by decide, by decide, by decide, by decide⟩ (by decide) (by decide) (by decide) (by decide)).mono (fun e w' h => ⟨h.1.trans (by kernel_rfl), h.2⟩))
  have K6 : Hid (∀ W : World, Calls Try.prog 12 #[uv 0 [0, 0, 0, 0, 0, 0, 0, 0] 0 [0, 0, 0, 0, 0, 0, 0, 0] false 3 0, .int .u8 66] W fun e w' => e = .returned (.tuple #[uv 1 [66, 0, 0, 0, 0, 0, 0, 0] 0 [0, 0, 0, 0, 0, 0, 0, 0] false 3 0, .bool true]) ∧ Below W.heap.size W w') := Lib.hid (fun W => (H.arrive 0 [0, 0, 0, 0, 0, 0, 0, 0] 0 [0, 0, 0, 0, 0, 0, 0, 0] false 3 0 66 W ⟨rfl, rfl, by decide, by decide, by decide, by decide, by decide, by decide, by decide, by decide⟩ (by decide)).mono (fun e w' h => ⟨h.1.trans (by kernel_rfl), h.2⟩))
  have K7 : Hid (∀ W : World, Calls Try.prog 14 #[uv 1 [66, 0, 0, 0, 0, 0, 0, 0] 0 [0, 0, 0, 0, 0, 0, 0, 0] false 3 0, .int .i64 3, .int .i32 321] W fun e w' => e = .returned (uv 1 [66, 0, 0, 0, 0, 0, 0, 0] 1 [65, 0, 0, 0, 0, 0, 0, 0] false 3 0) ∧ Below W.heap.size W w') := Lib.hid (fun W => (H.write 1 [66, 0, 0, 0, 0, 0, 0, 0] 0 [0, 0, 0, 0, 0, 0, 0, 0] false 3 0 3 321 W ⟨rfl, rfl, by decide, by decide, by decide, by decide, by decide, by decide, by decide, by decide⟩ (by decide) (by decide) (by decide) (by decide)).mono (fun e w' h => ⟨h.1.trans (by kernel_rfl), h.2⟩))
  have K8 : Hid (∀ W : World, Calls Try.prog 15 #[uv 1 [66, 0, 0, 0, 0, 0, 0, 0] 1 [65, 0, 0, 0, 0, 0, 0, 0] false 3 3] W fun e w' => e = .returned (.tuple #[uv 1 [66, 0, 0, 0, 0, 0, 0, 0] 0 [0, 0, 0, 0, 0, 0, 0, 0] false 3 0, .int .u8 65, .bool true, .bool true]) ∧ Below W.heap.size W w') := Lib.hid (fun W => (H.tick 1 [66, 0, 0, 0, 0, 0, 0, 0] 1 [65, 0, 0, 0, 0, 0, 0, 0] false 3 3  W ⟨rfl, rfl, by decide, by decide, by decide, by decide, by decide, by decide, by decide, by decide⟩ ).mono (fun e w' h => ⟨h.1.trans (by kernel_rfl), h.2⟩))
  have K9 : Hid (∀ W : World, Calls Try.prog 13 #[uv 8 [0, 1, 2, 3, 4, 5, 6, 7] 0 [0, 0, 0, 0, 0, 0, 0, 0] true 0 0, .int .i64 4] W fun e w' => e = .returned (.tuple #[.int .i32 5, uv 8 [0, 1, 2, 3, 4, 5, 6, 7] 0 [0, 0, 0, 0, 0, 0, 0, 0] false 0 0]) ∧ Below W.heap.size W w') := Lib.hid (fun W => (H.read 8 [0, 1, 2, 3, 4, 5, 6, 7] 0 [0, 0, 0, 0, 0, 0, 0, 0] true 0 0 4 W ⟨rfl, rfl, by decide, by decide, by decide, by decide, by decide, by decide, by decide, by decide⟩ (by decide) (by decide)).mono (fun e w' h => ⟨h.1.trans (by kernel_rfl), h.2⟩))
  have K10 : Hid (∀ W : World, Calls Try.prog 13 #[uv 8 [0, 1, 2, 3, 4, 5, 6, 7] 0 [0, 0, 0, 0, 0, 0, 0, 0] false 0 0, .int .i64 4] W fun e w' => e = .returned (.tuple #[.int .i32 1, uv 8 [0, 1, 2, 3, 4, 5, 6, 7] 0 [0, 0, 0, 0, 0, 0, 0, 0] false 0 0]) ∧ Below W.heap.size W w') := Lib.hid (fun W => (H.read 8 [0, 1, 2, 3, 4, 5, 6, 7] 0 [0, 0, 0, 0, 0, 0, 0, 0] false 0 0 4 W ⟨rfl, rfl, by decide, by decide, by decide, by decide, by decide, by decide, by decide, by decide⟩ (by decide) (by decide)).mono (fun e w' h => ⟨h.1.trans (by kernel_rfl), h.2⟩))
  have KT := Lib.hid (tick_step H)
  have KF := Lib.hid (full_step H)
  have BB_w : Hid (Below w.heap.size w w) := Lib.hid (Below.refl _ _)
  go_enter Try.func11, Try.ntmps11
  go_wp2_with (first
      | ((with_reducible show wpList _ _ _ (⟨none, .store 26 (.tmp 1) (.tmp 45), _, _, _, _⟩ :: _) _ _); refine wpList_store_u rfl 26 _ _ rfl (w1.heap.size) (by exact rfl) (by exact rfl) (by first | assumption | exact rfl) (by first | assumption | exact rfl) (by kernel_rfl) 26 RU_wc.out ?_; intro wd HN HO HB
         have RU_wd : Hid (URow wd (w1.heap.size) 26 1 [66, 0, 0, 0, 0, 0, 0, 0] 1 [65, 0, 0, 0, 0, 0, 0, 0] false 3 0) := HN
         have BB_wd : Hid (Below w.heap.size w wd) := Lib.hid (BB_wc.out.trans (HB.out.mono LE_RU.out))
         clear HO HB HN RU_wc BB_wc)
      | (go_at_call 14; have hc := BB_wb; clear hc; refine (K7.out _).mono ?_; rintro e wc ⟨rfl, hB⟩
         have RU_wc : Hid (URow wc (w1.heap.size) 26 1 [66, 0, 0, 0, 0, 0, 0, 0] 0 [0, 0, 0, 0, 0, 0, 0, 0] false 3 0) := Lib.hid (URow.below RU_wb.out hB RU_wb.out.lt)
         have BB_wc : Hid (Below w.heap.size w wc) := Lib.hid (BB_wb.out.trans (hB.mono BB_wb.out.size))
         clear hB RU_wb BB_wb)
      | ((with_reducible show wpList _ _ _ (⟨some 44, .load 26 (.tmp 1), _, _, _, _⟩ :: _) _ _); refine wpList_load_u (by rfl) 26 _ rfl (w1.heap.size) (by exact rfl) _ Try.underlying26 (by kernel_rfl) 26 (RU_wb.out) ?_)
      | ((with_reducible show wpList _ _ _ (⟨none, .store 26 (.tmp 1) (.tmp 42), _, _, _, _⟩ :: _) _ _); refine wpList_store_u rfl 26 _ _ rfl (w1.heap.size) (by exact rfl) (by exact rfl) (by first | assumption | exact rfl) (by first | assumption | exact rfl) (by kernel_rfl) 26 RU_wa.out ?_; intro wb HN HO HB
         have RU_wb : Hid (URow wb (w1.heap.size) 26 1 [66, 0, 0, 0, 0, 0, 0, 0] 0 [0, 0, 0, 0, 0, 0, 0, 0] false 3 0) := HN
         have BB_wb : Hid (Below w.heap.size w wb) := Lib.hid (BB_wa.out.trans (HB.out.mono LE_RU.out))
         clear HO HB HN RU_wa BB_wa)
      | (go_at_call 12; have hc := BB_w9; clear hc; refine (K6.out _).mono ?_; rintro e wa ⟨rfl, hB⟩
         have RU_wa : Hid (URow wa (w1.heap.size) 26 0 [0, 0, 0, 0, 0, 0, 0, 0] 0 [0, 0, 0, 0, 0, 0, 0, 0] false 3 0) := Lib.hid (URow.below RU_w9.out hB RU_w9.out.lt)
         have BB_wa : Hid (Below w.heap.size w wa) := Lib.hid (BB_w9.out.trans (hB.mono BB_w9.out.size))
         clear hB RU_w9 BB_w9)
      | ((with_reducible show wpList _ _ _ (⟨some 40, .load 26 (.tmp 1), _, _, _, _⟩ :: _) _ _); refine wpList_load_u (by rfl) 26 _ rfl (w1.heap.size) (by exact rfl) _ Try.underlying26 (by kernel_rfl) 26 (RU_w9.out) ?_)
      | ((with_reducible show wpList _ _ _ (⟨none, .store 26 (.tmp 1) (.tmp 38), _, _, _, _⟩ :: _) _ _); refine wpList_store_u rfl 26 _ _ rfl (w1.heap.size) (by exact rfl) (by exact rfl) (by first | assumption | exact rfl) (by first | assumption | exact rfl) (by kernel_rfl) 26 RU_w8.out ?_; intro w9 HN HO HB
         have RU_w9 : Hid (URow w9 (w1.heap.size) 26 0 [0, 0, 0, 0, 0, 0, 0, 0] 0 [0, 0, 0, 0, 0, 0, 0, 0] false 3 0) := HN
         have BB_w9 : Hid (Below w.heap.size w w9) := Lib.hid (BB_w8.out.trans (HB.out.mono LE_RU.out))
         clear HO HB HN RU_w8 BB_w8)
      | (go_at_call 14; have hc := BB_w7; clear hc; refine (K5.out _).mono ?_; rintro e w8 ⟨rfl, hB⟩
         have RU_w8 : Hid (URow w8 (w1.heap.size) 26 0 [0, 0, 0, 0, 0, 0, 0, 0] 0 [0, 0, 0, 0, 0, 0, 0, 0] false 0 0) := Lib.hid (URow.below RU_w7.out hB RU_w7.out.lt)
         have BB_w8 : Hid (Below w.heap.size w w8) := Lib.hid (BB_w7.out.trans (hB.mono BB_w7.out.size))
         clear hB RU_w7 BB_w7)
      | ((with_reducible show wpList _ _ _ (⟨some 37, .load 26 (.tmp 1), _, _, _, _⟩ :: _) _ _); refine wpList_load_u (by rfl) 26 _ rfl (w1.heap.size) (by exact rfl) _ Try.underlying26 (by kernel_rfl) 26 (RU_w7.out) ?_)
      | ((with_reducible show wpList _ _ _ (⟨none, .store 26 (.tmp 1) (.tmp 36), _, _, _, _⟩ :: _) _ _); refine wpList_store_u rfl 26 _ _ rfl (w1.heap.size) (by exact rfl) (by exact rfl) (by first | assumption | exact rfl) (by first | assumption | exact rfl) (by kernel_rfl) 26 RU_w6.out ?_; intro w7 HN HO HB
         have RU_w7 : Hid (URow w7 (w1.heap.size) 26 0 [0, 0, 0, 0, 0, 0, 0, 0] 0 [0, 0, 0, 0, 0, 0, 0, 0] false 0 0) := HN
         have BB_w7 : Hid (Below w.heap.size w w7) := Lib.hid (BB_w6.out.trans (HB.out.mono LE_RU.out))
         clear HO HB HN RU_w6 BB_w6)
      | (go_at_call 13; have hc := BB_w5; clear hc; refine (K4.out _).mono ?_; rintro e w6 ⟨rfl, hB⟩
         have RU_w6 : Hid (URow w6 (w1.heap.size) 26 0 [0, 0, 0, 0, 0, 0, 0, 0] 0 [0, 0, 0, 0, 0, 0, 0, 0] false 0 0) := Lib.hid (URow.below RU_w5.out hB RU_w5.out.lt)
         have BB_w6 : Hid (Below w.heap.size w w6) := Lib.hid (BB_w5.out.trans (hB.mono BB_w5.out.size))
         clear hB RU_w5 BB_w5)
      | ((with_reducible show wpList _ _ _ (⟨some 33, .load 26 (.tmp 1), _, _, _, _⟩ :: _) _ _); refine wpList_load_u (by rfl) 26 _ rfl (w1.heap.size) (by exact rfl) _ Try.underlying26 (by kernel_rfl) 26 (RU_w5.out) ?_)
      | ((with_reducible show wpList _ _ _ (⟨none, .store 26 (.tmp 1) (.tmp 31), _, _, _, _⟩ :: _) _ _); refine wpList_store_u rfl 26 _ _ rfl (w1.heap.size) (by exact rfl) (by exact rfl) (by first | assumption | exact rfl) (by first | assumption | exact rfl) (by kernel_rfl) 26 RU_w4.out ?_; intro w5 HN HO HB
         have RU_w5 : Hid (URow w5 (w1.heap.size) 26 0 [0, 0, 0, 0, 0, 0, 0, 0] 0 [0, 0, 0, 0, 0, 0, 0, 0] false 0 0) := HN
         have BB_w5 : Hid (Below w.heap.size w w5) := Lib.hid (BB_w4.out.trans (HB.out.mono LE_RU.out))
         clear HO HB HN RU_w4 BB_w4)
      | (go_at_call 13; have hc := BB_w3; clear hc; refine (K3.out _).mono ?_; rintro e w4 ⟨rfl, hB⟩
         have RU_w4 : Hid (URow w4 (w1.heap.size) 26 1 [65, 0, 0, 0, 0, 0, 0, 0] 0 [0, 0, 0, 0, 0, 0, 0, 0] false 0 0) := Lib.hid (URow.below RU_w3.out hB RU_w3.out.lt)
         have BB_w4 : Hid (Below w.heap.size w w4) := Lib.hid (BB_w3.out.trans (hB.mono BB_w3.out.size))
         clear hB RU_w3 BB_w3)
      | ((with_reducible show wpList _ _ _ (⟨some 28, .load 26 (.tmp 1), _, _, _, _⟩ :: _) _ _); refine wpList_load_u (by rfl) 26 _ rfl (w1.heap.size) (by exact rfl) _ Try.underlying26 (by kernel_rfl) 26 (RU_w3.out) ?_)
      | (go_at_call 16; have hc := BB_w2; clear hc; refine (K2.out _).mono ?_; rintro e w3 ⟨rfl, hB⟩
         have RU_w3 : Hid (URow w3 (w1.heap.size) 26 1 [65, 0, 0, 0, 0, 0, 0, 0] 0 [0, 0, 0, 0, 0, 0, 0, 0] false 0 0) := Lib.hid (URow.below RU_w2.out hB RU_w2.out.lt)
         have BB_w3 : Hid (Below w.heap.size w w3) := Lib.hid (BB_w2.out.trans (hB.mono BB_w2.out.size))
         clear hB RU_w2 BB_w2)
      | ((with_reducible show wpList _ _ _ (⟨some 25, .load 26 (.tmp 1), _, _, _, _⟩ :: _) _ _); refine wpList_load_u (by rfl) 26 _ rfl (w1.heap.size) (by exact rfl) _ Try.underlying26 (by kernel_rfl) 26 (RU_w2.out) ?_)
      | ((with_reducible show wpList _ _ _ (⟨none, .store 26 (.tmp 1) (.tmp 23), _, _, _, _⟩ :: _) _ _); refine wpList_store_u rfl 26 _ _ rfl (w1.heap.size) (by exact rfl) (by exact rfl) (by first | assumption | exact rfl) (by first | assumption | exact rfl) (by kernel_rfl) 26 (show URow _ _ _ 0 Z8 0 Z8 false 0 0 from ⟨alloc_at _ _, rfl, rfl⟩) ?_; intro w2 HN HO HB
         have RU_w2 : Hid (URow w2 w1.heap.size 26 1 [65, 0, 0, 0, 0, 0, 0, 0] 0 [0, 0, 0, 0, 0, 0, 0, 0] false 0 0) := HN
         have BB_w2 : Hid (Below w.heap.size w w2) := Lib.hid ((BB_w1.out.alloc BB_w1.out.size _).trans (HB.out.mono BB_w1.out.size))
         have LE_RU := Lib.hid BB_w1.out.size
         clear HO HB HN  BB_w1)
      | (go_at_call 12; have hc := BB_w; clear hc; refine (K1.out _).mono ?_; rintro e w1 ⟨rfl, hB⟩
         have BB_w1 : Hid (Below w.heap.size w w1) := Lib.hid (BB_w.out.trans (hB.mono BB_w.out.size))
         clear hB  BB_w))
  generalize w1.heap.size = ga at *
  go_loopw [7] (fun iv wr => ∃ i : Nat, i ≤ 3 ∧ iv = .int .i64 i ∧ URow wr ga 26 1 [66, 0, 0, 0, 0, 0, 0, 0] 1 [65, 0, 0, 0, 0, 0, 0, 0] false 3 i ∧ Below w.heap.size w wr) (fun iv _ => 3 - (intOf iv).toNat)
  case atStart => exact ⟨0, by omega, rfl, RU_wd.out, BB_wd.out⟩
  case round =>
    obtain ⟨i, hi, rfl, hr, hb⟩ := hrel
    have RU_wr := Lib.hid hr
    have BB_wr := Lib.hid hb
    clear hr hb
    by_cases hlt : i < 3
    · have d1 : (i : Int) < 3 := by omega
      have HLT := Lib.hid hlt
      go_wp2_with (first
      | ((with_reducible show wpList _ _ _ (⟨none, .store 26 (.tmp 1) (.tmp 73), _, _, _, _⟩ :: _) _ _); refine wpList_store_u rfl 26 _ _ rfl (ga) (by exact rfl) (by exact rfl) (by first | assumption | exact rfl) (by first | assumption | exact rfl) (by kernel_rfl) 26 RU_wg.out ?_; intro wh HN HO HB
         have RV_wh : Hid (URow wh (wf.heap.size) 26 1 [66, 0, 0, 0, 0, 0, 0, 0] 1 [65, 0, 0, 0, 0, 0, 0, 0] false 3 (i + 1)) := Lib.hid (URow.other RV_wg.out HO.out (NE_RV_RU.out))
         have RU_wh : Hid (URow wh (ga) 26 1 [66, 0, 0, 0, 0, 0, 0, 0] 1 [65, 0, 0, 0, 0, 0, 0, 0] false 3 (i + 1)) := HN
         have BB_wh : Hid (Below w.heap.size w wh) := Lib.hid (BB_wg.out.trans (HB.out.mono LE_RU.out))
         clear HO HB HN RU_wg RV_wg BB_wg)
      | ((with_reducible show wpList _ _ _ (⟨some 73, .load 26 (.tmp 8), _, _, _, _⟩ :: _) _ _); refine wpList_load_u (by rfl) 26 _ rfl (wf.heap.size) (by exact rfl) _ Try.underlying26 (by kernel_rfl) 26 (RV_wg.out) ?_)
      | ((with_reducible show wpList _ _ _ (⟨none, .store 26 (.tmp 8) (.tmp 53), _, _, _, _⟩ :: _) _ _); refine wpList_store_u rfl 26 _ _ rfl (wf.heap.size) (by exact rfl) (by exact rfl) (by first | assumption | exact rfl) (by first | assumption | exact rfl) (by kernel_rfl) 26 (show URow _ _ _ 0 Z8 0 Z8 false 0 0 from ⟨alloc_at _ _, rfl, rfl⟩) ?_; intro wg HN HO HB
         have RU_wg : Hid (URow wg (ga) 26 1 [66, 0, 0, 0, 0, 0, 0, 0] 1 [65, 0, 0, 0, 0, 0, 0, 0] false 3 i) := Lib.hid (URow.other (URow.below RU_wf.out ((Below.refl _ _).alloc (Nat.le_refl _) _) RU_wf.out.lt) HO.out (Nat.ne_of_lt RU_wf.out.lt))
         have RV_wg : Hid (URow wg wf.heap.size 26 1 [66, 0, 0, 0, 0, 0, 0, 0] 1 [65, 0, 0, 0, 0, 0, 0, 0] false 3 (i + 1)) := HN
         have BB_wg : Hid (Below w.heap.size w wg) := Lib.hid ((BB_wf.out.alloc BB_wf.out.size _).trans (HB.out.mono BB_wf.out.size))
         have NE_RV_RU := Lib.hid (Nat.ne_of_gt RU_wf.out.lt)
         have c20 : wg.cell? ⟨wf.heap.size, 20, none⟩ = some (.int .u8 ((i : Int) + 1)) := RV_wg.out.c20
         clear HO HB HN RU_wf BB_wf)
      | (go_at_call 15; have hc := BB_wr; clear hc; refine (KT.out i HLT.out _).mono ?_; rintro e wf ⟨rfl, hB⟩
         have RU_wf : Hid (URow wf (ga) 26 1 [66, 0, 0, 0, 0, 0, 0, 0] 1 [65, 0, 0, 0, 0, 0, 0, 0] false 3 i) := Lib.hid (URow.below RU_wr.out hB RU_wr.out.lt)
         have BB_wf : Hid (Below w.heap.size w wf) := Lib.hid (BB_wr.out.trans (hB.mono BB_wr.out.size))
         clear hB RU_wr BB_wr)
      | ((with_reducible show wpList _ _ _ (⟨some 51, .load 26 (.tmp 1), _, _, _, _⟩ :: _) _ _); refine wpList_load_u (by rfl) 26 _ rfl (ga) (by exact rfl) _ Try.underlying26 (by kernel_rfl) 26 (RU_wr.out) ?_))
      go_roundw
      case rel => exact ⟨i + 1, by omega, by go_num, RU_wh.out, BB_wh.out⟩
      case measure =>
        simp [intOf]
        omega
    · obtain rfl : i = 3 := by omega
      go_wp2_with (first
      | ((with_reducible show wpList _ _ _ (⟨none, .store 26 (.tmp 1) (.tmp 77), _, _, _, _⟩ :: _) _ _); refine wpList_store_u rfl 26 _ _ rfl (ga) (by exact rfl) (by exact rfl) (by first | assumption | exact rfl) (by first | assumption | exact rfl) (by kernel_rfl) 26 RU_wf.out ?_; intro wg HN HO HB
         have RU_wg : Hid (URow wg (ga) 26 1 [66, 0, 0, 0, 0, 0, 0, 0] 0 [0, 0, 0, 0, 0, 0, 0, 0] false 3 0) := HN
         have BB_wg : Hid (Below w.heap.size w wg) := Lib.hid (BB_wf.out.trans (HB.out.mono LE_RU.out))
         clear HO HB HN RU_wf BB_wf)
      | (go_at_call 15; have hc := BB_wr; clear hc; refine (K8.out _).mono ?_; rintro e wf ⟨rfl, hB⟩
         have RU_wf : Hid (URow wf (ga) 26 1 [66, 0, 0, 0, 0, 0, 0, 0] 1 [65, 0, 0, 0, 0, 0, 0, 0] false 3 3) := Lib.hid (URow.below RU_wr.out hB RU_wr.out.lt)
         have BB_wf : Hid (Below w.heap.size w wf) := Lib.hid (BB_wr.out.trans (hB.mono BB_wr.out.size))
         clear hB RU_wr BB_wr)
      | ((with_reducible show wpList _ _ _ (⟨some 75, .load 26 (.tmp 1), _, _, _, _⟩ :: _) _ _); refine wpList_load_u (by rfl) 26 _ rfl (ga) (by exact rfl) _ Try.underlying26 (by kernel_rfl) 26 (RU_wr.out) ?_))
      go_loopw [16] (fun iv wr => ∃ i : Nat, i ≤ 9 ∧ iv = .int .i64 i ∧ URow wr ga 26 1 [66, 0, 0, 0, 0, 0, 0, 0] 0 [0, 0, 0, 0, 0, 0, 0, 0] false 3 0 ∧ URow wr wg.heap.size 26 (fN i) (fP i) 0 Z8 (fL i) 0 0 ∧ Below w.heap.size w wr) (fun iv _ => 9 - (intOf iv).toNat)
      case atStart => exact ⟨0, by omega, rfl, RU_wg.out.below ((Below.refl _ _).alloc (Nat.le_refl _) _) RU_wg.out.lt, ⟨alloc_at _ _, rfl, rfl⟩, BB_wg.out.alloc BB_wg.out.size _⟩
      case round =>
        obtain ⟨i, hi, rfl, hr, hf, hb⟩ := hrel
        have NE_RU_RF := Lib.hid (Nat.ne_of_lt RU_wg.out.lt)
        have LE_RF := Lib.hid BB_wg.out.size
        have RU_wr := Lib.hid hr
        have RF_wr := Lib.hid hf
        have BB_wr := Lib.hid hb
        have hfl := fP_len i
        have hz8 : Z8.length = 8 := rfl
        have hfl2 := fP_len (i + 1)
        clear hr hb hf RU_wg BB_wg
        generalize wg.heap.size = gf at *
        by_cases hlt : i < 9
        · have d1 : (i : Int) < 9 := by omega
          have HLT := Lib.hid hlt
          go_wp2_with (first
      | ((with_reducible show wpList _ _ _ (⟨none, .store 26 (.tmp 15) (.tmp 90), _, _, _, _⟩ :: _) _ _); refine wpList_store_u rfl 26 _ _ rfl (gf) (by exact rfl) (by exact rfl) (by first | assumption | exact rfl) (by first | assumption | exact rfl) (by kernel_rfl) 26 RF_wt.out ?_; intro wu HN HO HB
         have RU_wu : Hid (URow wu (ga) 26 1 [66, 0, 0, 0, 0, 0, 0, 0] 0 [0, 0, 0, 0, 0, 0, 0, 0] false 3 0) := Lib.hid (URow.other RU_wt.out HO.out (NE_RU_RF.out))
         have RF_wu : Hid (URow wu (gf) 26 (fN (i + 1)) (fP (i + 1)) 0 Z8 (fL (i + 1)) 0 0) := HN
         have BB_wu : Hid (Below w.heap.size w wu) := Lib.hid (BB_wt.out.trans (HB.out.mono LE_RF.out))
         clear HO HB HN RU_wt RF_wt BB_wt)
      | (go_at_call 12; have hc := BB_wr; clear hc; refine (KF.out i HLT.out _).mono ?_; rintro e wt ⟨rfl, hB⟩
         have RU_wt : Hid (URow wt (ga) 26 1 [66, 0, 0, 0, 0, 0, 0, 0] 0 [0, 0, 0, 0, 0, 0, 0, 0] false 3 0) := Lib.hid (URow.below RU_wr.out hB RU_wr.out.lt)
         have RF_wt : Hid (URow wt (gf) 26 (fN i) (fP i) 0 Z8 (fL i) 0 0) := Lib.hid (URow.below RF_wr.out hB RF_wr.out.lt)
         have BB_wt : Hid (Below w.heap.size w wt) := Lib.hid (BB_wr.out.trans (hB.mono BB_wr.out.size))
         clear hB RU_wr RF_wr BB_wr)
      | ((with_reducible show wpList _ _ _ (⟨some 86, .load 26 (.tmp 15), _, _, _, _⟩ :: _) _ _); refine wpList_load_u (by rfl) 26 _ rfl (gf) (by exact rfl) _ Try.underlying26 (by kernel_rfl) 26 (RF_wr.out) ?_))
          go_roundw
          case rel => exact ⟨i + 1, by omega, by go_num, RU_wu.out, RF_wu.out, BB_wu.out⟩
          case measure =>
            simp [intOf]
            omega
        · obtain rfl : i = 9 := by omega
          have RF_wr : Hid (URow wr gf 26 8 [0, 1, 2, 3, 4, 5, 6, 7] 0 [0, 0, 0, 0, 0, 0, 0, 0] true 0 0) := RF_wr
          go_wp2_with (first
      | ((with_reducible show wpList _ _ _ (⟨none, .store 26 (.tmp 19) (.tmp 101), _, _, _, _⟩ :: _) _ _); refine wpList_store_u rfl 26 _ _ rfl (wv.heap.size) (by exact rfl) (by exact rfl) (by first | assumption | exact rfl) (by first | assumption | exact rfl) (by kernel_rfl) 26 (show URow _ _ _ 0 Z8 0 Z8 false 0 0 from ⟨alloc_at _ _, rfl, rfl⟩) ?_; intro ww HN HO HB
         have RU_ww : Hid (URow ww (ga) 26 1 [66, 0, 0, 0, 0, 0, 0, 0] 0 [0, 0, 0, 0, 0, 0, 0, 0] false 3 0) := Lib.hid (URow.other (URow.below RU_wv.out ((Below.refl _ _).alloc (Nat.le_refl _) _) RU_wv.out.lt) HO.out (Nat.ne_of_lt RU_wv.out.lt))
         have RF_ww : Hid (URow ww (gf) 26 8 [0, 1, 2, 3, 4, 5, 6, 7] 0 [0, 0, 0, 0, 0, 0, 0, 0] false 0 0) := Lib.hid (URow.other (URow.below RF_wv.out ((Below.refl _ _).alloc (Nat.le_refl _) _) RF_wv.out.lt) HO.out (Nat.ne_of_lt RF_wv.out.lt))
         have RG_ww : Hid (URow ww wv.heap.size 26 8 [0, 1, 2, 3, 4, 5, 6, 7] 0 [0, 0, 0, 0, 0, 0, 0, 0] false 0 0) := HN
         have BB_ww : Hid (Below w.heap.size w ww) := Lib.hid ((BB_wv.out.alloc BB_wv.out.size _).trans (HB.out.mono BB_wv.out.size))
         have c9 := RU_ww.out.n9
         clear HO HB HN RU_wv RF_wv BB_wv)
      | (go_at_call 13; have hc := BB_wu; clear hc; refine (K10.out _).mono ?_; rintro e wv ⟨rfl, hB⟩
         have RU_wv : Hid (URow wv (ga) 26 1 [66, 0, 0, 0, 0, 0, 0, 0] 0 [0, 0, 0, 0, 0, 0, 0, 0] false 3 0) := Lib.hid (URow.below RU_wu.out hB RU_wu.out.lt)
         have RF_wv : Hid (URow wv (gf) 26 8 [0, 1, 2, 3, 4, 5, 6, 7] 0 [0, 0, 0, 0, 0, 0, 0, 0] false 0 0) := Lib.hid (URow.below RF_wu.out hB RF_wu.out.lt)
         have BB_wv : Hid (Below w.heap.size w wv) := Lib.hid (BB_wu.out.trans (hB.mono BB_wu.out.size))
         clear hB RU_wu RF_wu BB_wu)
      | ((with_reducible show wpList _ _ _ (⟨some 98, .load 26 (.tmp 15), _, _, _, _⟩ :: _) _ _); refine wpList_load_u (by rfl) 26 _ rfl (gf) (by exact rfl) _ Try.underlying26 (by kernel_rfl) 26 (RF_wu.out) ?_)
      | ((with_reducible show wpList _ _ _ (⟨none, .store 26 (.tmp 15) (.tmp 96), _, _, _, _⟩ :: _) _ _); refine wpList_store_u rfl 26 _ _ rfl (gf) (by exact rfl) (by exact rfl) (by first | assumption | exact rfl) (by first | assumption | exact rfl) (by kernel_rfl) 26 RF_wt.out ?_; intro wu HN HO HB
         have RU_wu : Hid (URow wu (ga) 26 1 [66, 0, 0, 0, 0, 0, 0, 0] 0 [0, 0, 0, 0, 0, 0, 0, 0] false 3 0) := Lib.hid (URow.other RU_wt.out HO.out (NE_RU_RF.out))
         have RF_wu : Hid (URow wu (gf) 26 8 [0, 1, 2, 3, 4, 5, 6, 7] 0 [0, 0, 0, 0, 0, 0, 0, 0] false 0 0) := HN
         have BB_wu : Hid (Below w.heap.size w wu) := Lib.hid (BB_wt.out.trans (HB.out.mono LE_RF.out))
         clear HO HB HN RU_wt RF_wt BB_wt)
      | (go_at_call 13; have hc := BB_wr; clear hc; refine (K9.out _).mono ?_; rintro e wt ⟨rfl, hB⟩
         have RU_wt : Hid (URow wt (ga) 26 1 [66, 0, 0, 0, 0, 0, 0, 0] 0 [0, 0, 0, 0, 0, 0, 0, 0] false 3 0) := Lib.hid (URow.below RU_wr.out hB RU_wr.out.lt)
         have RF_wt : Hid (URow wt (gf) 26 8 [0, 1, 2, 3, 4, 5, 6, 7] 0 [0, 0, 0, 0, 0, 0, 0, 0] true 0 0) := Lib.hid (URow.below RF_wr.out hB RF_wr.out.lt)
         have BB_wt : Hid (Below w.heap.size w wt) := Lib.hid (BB_wr.out.trans (hB.mono BB_wr.out.size))
         clear hB RU_wr RF_wr BB_wr)
      | ((with_reducible show wpList _ _ _ (⟨some 93, .load 26 (.tmp 15), _, _, _, _⟩ :: _) _ _); refine wpList_load_u (by rfl) 26 _ rfl (gf) (by exact rfl) _ Try.underlying26 (by kernel_rfl) 26 (RF_wr.out) ?_))
          go_ret
          exact ⟨rfl, BB_ww.out⟩
end Go.Proofs.Ytgpgijdciaieaaa
