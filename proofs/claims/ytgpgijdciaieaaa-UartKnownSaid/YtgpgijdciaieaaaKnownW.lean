/-
  UartKnown's walk, if the program's functions are what they must be: true. Made by wip/genuartknown.py.
-/
import Derived.Test.YtgpgijdciaieaaaWorks
namespace Go.Proofs.Ytgpgijdciaieaaa
open Go.RowKit
set_option linter.unusedVariables false
theorem put_step (H : UartOk) (i : Nat) (h : i < 10) (W : World) : Calls Try.prog 14 #[uv 0 Z8 (fN i) (fP i) false 0 0, .int .i64 3, .int .i32 (i : Int)] W fun e w' => e = .returned (uv 0 Z8 (fN (i + 1)) (fP (i + 1)) false 0 0) ∧ Below W.heap.size W w' := by
  obtain rfl | rfl | rfl | rfl | rfl | rfl | rfl | rfl | rfl | rfl : i = 0 ∨ i = 1 ∨ i = 2 ∨ i = 3 ∨ i = 4 ∨ i = 5 ∨ i = 6 ∨ i = 7 ∨ i = 8 ∨ i = 9 := by omega
  · exact (H.write 0 [0, 0, 0, 0, 0, 0, 0, 0] 0 [0, 0, 0, 0, 0, 0, 0, 0] false 0 0 3 0 W ⟨rfl, rfl, by decide, by decide, by decide, by decide, by decide, by decide, by decide, by decide⟩ (by decide) (by decide) (by decide) (by decide)).mono (fun e w' h => ⟨h.1.trans (by kernel_rfl), h.2⟩)
  · exact (H.write 0 [0, 0, 0, 0, 0, 0, 0, 0] 1 [0, 0, 0, 0, 0, 0, 0, 0] false 0 0 3 1 W ⟨rfl, rfl, by decide, by decide, by decide, by decide, by decide, by decide, by decide, by decide⟩ (by decide) (by decide) (by decide) (by decide)).mono (fun e w' h => ⟨h.1.trans (by kernel_rfl), h.2⟩)
  · exact (H.write 0 [0, 0, 0, 0, 0, 0, 0, 0] 2 [0, 1, 0, 0, 0, 0, 0, 0] false 0 0 3 2 W ⟨rfl, rfl, by decide, by decide, by decide, by decide, by decide, by decide, by decide, by decide⟩ (by decide) (by decide) (by decide) (by decide)).mono (fun e w' h => ⟨h.1.trans (by kernel_rfl), h.2⟩)
  · exact (H.write 0 [0, 0, 0, 0, 0, 0, 0, 0] 3 [0, 1, 2, 0, 0, 0, 0, 0] false 0 0 3 3 W ⟨rfl, rfl, by decide, by decide, by decide, by decide, by decide, by decide, by decide, by decide⟩ (by decide) (by decide) (by decide) (by decide)).mono (fun e w' h => ⟨h.1.trans (by kernel_rfl), h.2⟩)
  · exact (H.write 0 [0, 0, 0, 0, 0, 0, 0, 0] 4 [0, 1, 2, 3, 0, 0, 0, 0] false 0 0 3 4 W ⟨rfl, rfl, by decide, by decide, by decide, by decide, by decide, by decide, by decide, by decide⟩ (by decide) (by decide) (by decide) (by decide)).mono (fun e w' h => ⟨h.1.trans (by kernel_rfl), h.2⟩)
  · exact (H.write 0 [0, 0, 0, 0, 0, 0, 0, 0] 5 [0, 1, 2, 3, 4, 0, 0, 0] false 0 0 3 5 W ⟨rfl, rfl, by decide, by decide, by decide, by decide, by decide, by decide, by decide, by decide⟩ (by decide) (by decide) (by decide) (by decide)).mono (fun e w' h => ⟨h.1.trans (by kernel_rfl), h.2⟩)
  · exact (H.write 0 [0, 0, 0, 0, 0, 0, 0, 0] 6 [0, 1, 2, 3, 4, 5, 0, 0] false 0 0 3 6 W ⟨rfl, rfl, by decide, by decide, by decide, by decide, by decide, by decide, by decide, by decide⟩ (by decide) (by decide) (by decide) (by decide)).mono (fun e w' h => ⟨h.1.trans (by kernel_rfl), h.2⟩)
  · exact (H.write 0 [0, 0, 0, 0, 0, 0, 0, 0] 7 [0, 1, 2, 3, 4, 5, 6, 0] false 0 0 3 7 W ⟨rfl, rfl, by decide, by decide, by decide, by decide, by decide, by decide, by decide, by decide⟩ (by decide) (by decide) (by decide) (by decide)).mono (fun e w' h => ⟨h.1.trans (by kernel_rfl), h.2⟩)
  · exact (H.write 0 [0, 0, 0, 0, 0, 0, 0, 0] 8 [0, 1, 2, 3, 4, 5, 6, 7] false 0 0 3 8 W ⟨rfl, rfl, by decide, by decide, by decide, by decide, by decide, by decide, by decide, by decide⟩ (by decide) (by decide) (by decide) (by decide)).mono (fun e w' h => ⟨h.1.trans (by kernel_rfl), h.2⟩)
  · exact (H.write 0 [0, 0, 0, 0, 0, 0, 0, 0] 8 [0, 1, 2, 3, 4, 5, 6, 7] false 0 0 3 9 W ⟨rfl, rfl, by decide, by decide, by decide, by decide, by decide, by decide, by decide, by decide⟩ (by decide) (by decide) (by decide) (by decide)).mono (fun e w' h => ⟨h.1.trans (by kernel_rfl), h.2⟩)
/-- How many are sent behind j ticks; what is left; how long the first one is being sent. -/
def sN (j : Nat) : Nat := min (j / 4) 8
def gL (j : Nat) : List Nat := (List.range 8).drop (sN j)
def gN (j : Nat) : Int := ((min (gL j).length 8 : Nat) : Int)
def gP (j : Nat) : List Nat := pad (gL j)
def gK (j : Nat) : Nat := if j < 32 then j % 4 else 0
def gI (j : Nat) : Bool := decide (j < 32) && decide (j % 4 = 3)
def gB (j : Nat) : Nat := if gI j = true then sN j else 0
theorem send_plain : ∀ j, j < 50 → cutL (gN j) (gP j) = gL j ∧ kM (gL j) (gK j) = gK j ∧ tickT (gL j) (gK j) = gL (j + 1) ∧ tickK (gL j) (gK j) = gK (j + 1) ∧ tickB (gL j) (gK j) = gB j ∧ sendsU (gL j) (gK j) = gI j ∧ tickQ (gL j) 0 (gK j) = false ∧ sN (j + 1) = (if gI j = true then sN j + 1 else sN j) ∧ (gP j).length = 8 ∧ gK j < 256 ∧ gB j < 256 := by decide +kernel
theorem gP_lt (j : Nat) : ∀ x ∈ gP j, x < 256 := pad_lt fun x hx => by
  have := List.mem_range.1 (List.mem_of_mem_drop hx)
  omega
theorem send_step (H : UartOk) (j : Nat) (h : j < 50) (W : World) : Calls Try.prog 15 #[uv 0 Z8 (gN j) (gP j) false 0 (gK j)] W fun e w' => e = .returned (.tuple #[uv 0 Z8 (gN (j + 1)) (gP (j + 1)) false 0 (gK (j + 1)), .int .u8 (gB j : Nat), .bool (gI j), .bool false]) ∧ Below W.heap.size W w' := by
  obtain ⟨e1, e2, e3, e4, e5, e6, e7, -, e8, e9, -⟩ := send_plain j h
  have h1 := H.tick 0 Z8 (gN j) (gP j) false 0 (gK j) W ⟨rfl, e8, by decide, by decide, by unfold gN; omega, by unfold gN; omega, by decide, gP_lt j, by decide, e9⟩
  rw [e1, e2, e3, e4, e5, e6, e7] at h1
  exact h1
set_option maxHeartbeats 4000000 in
set_option maxRecDepth 100000 in
theorem known_walk (H : UartOk) (w : World) : Calls Try.prog 5 #[] w fun e w' => e = .returned (.bool true) ∧ Below w.heap.size w w' := by
  have K1 : Hid (∀ W : World, Calls Try.prog 16 #[uv 0 [0, 0, 0, 0, 0, 0, 0, 0] 8 [0, 1, 2, 3, 4, 5, 6, 7] false 0 0, .int .i64 4] W fun e w' => e = .returned (.int .i32 2) ∧ Below W.heap.size W w') := Lib.hid (fun W => (H.peek 0 [0, 0, 0, 0, 0, 0, 0, 0] 8 [0, 1, 2, 3, 4, 5, 6, 7] false 0 0 4 W ⟨rfl, rfl, by decide, by decide, by decide, by decide, by decide, by decide, by decide, by decide⟩ (by decide) (by decide)).mono (fun e w' h => ⟨h.1.trans (by kernel_rfl), h.2⟩))
  have K2 : Hid (∀ W : World, Calls Try.prog 9 #[uv 100 [0, 0, 0, 0, 0, 0, 0, 0] (-1) [0, 0, 0, 0, 0, 0, 0, 0] false 255 3] W fun e w' => e = .returned (uv 8 [0, 0, 0, 0, 0, 0, 0, 0] 0 [0, 0, 0, 0, 0, 0, 0, 0] false 255 0) ∧ Below W.heap.size W w') := Lib.hid (fun W => (H.mend 100 [0, 0, 0, 0, 0, 0, 0, 0] (-1) [0, 0, 0, 0, 0, 0, 0, 0] false 255 3  W ⟨rfl, rfl, by decide, by decide, by decide, by decide, by decide, by decide, by decide, by decide⟩ ).mono (fun e w' h => ⟨h.1.trans (by kernel_rfl), h.2⟩))
  have K3 : Hid (∀ W : World, Calls Try.prog 13 #[uv 8 [0, 0, 0, 0, 0, 0, 0, 0] 0 [0, 0, 0, 0, 0, 0, 0, 0] false 255 0, .int .i64 1] W fun e w' => e = .returned (.tuple #[.int .i32 0, uv 8 [0, 0, 0, 0, 0, 0, 0, 0] 0 [0, 0, 0, 0, 0, 0, 0, 0] false 255 0]) ∧ Below W.heap.size W w') := Lib.hid (fun W => (H.read 8 [0, 0, 0, 0, 0, 0, 0, 0] 0 [0, 0, 0, 0, 0, 0, 0, 0] false 255 0 1 W ⟨rfl, rfl, by decide, by decide, by decide, by decide, by decide, by decide, by decide, by decide⟩ (by decide) (by decide)).mono (fun e w' h => ⟨h.1.trans (by kernel_rfl), h.2⟩))
  have K4 : Hid (∀ W : World, Calls Try.prog 14 #[uv 0 [0, 0, 0, 0, 0, 0, 0, 0] 0 [0, 0, 0, 0, 0, 0, 0, 0] false 0 7, .int .i64 3, .int .i32 1] W fun e w' => e = .returned (uv 0 [0, 0, 0, 0, 0, 0, 0, 0] 1 [1, 0, 0, 0, 0, 0, 0, 0] false 0 0) ∧ Below W.heap.size W w') := Lib.hid (fun W => (H.write 0 [0, 0, 0, 0, 0, 0, 0, 0] 0 [0, 0, 0, 0, 0, 0, 0, 0] false 0 7 3 1 W ⟨rfl, rfl, by decide, by decide, by decide, by decide, by decide, by decide, by decide, by decide⟩ (by decide) (by decide) (by decide) (by decide)).mono (fun e w' h => ⟨h.1.trans (by kernel_rfl), h.2⟩))
  have K5 : Hid (∀ W : World, Calls Try.prog 16 #[uv 100 [0, 0, 0, 0, 0, 0, 0, 0] (-1) [0, 0, 0, 0, 0, 0, 0, 0] false 255 3, .int .i64 4] W fun e w' => e = .returned (.int .i32 1) ∧ Below W.heap.size W w') := Lib.hid (fun W => (H.peek 100 [0, 0, 0, 0, 0, 0, 0, 0] (-1) [0, 0, 0, 0, 0, 0, 0, 0] false 255 3 4 W ⟨rfl, rfl, by decide, by decide, by decide, by decide, by decide, by decide, by decide, by decide⟩ (by decide) (by decide)).mono (fun e w' h => ⟨h.1.trans (by kernel_rfl), h.2⟩))
  have K6 : Hid (∀ W : World, Calls Try.prog 16 #[uv 100 [0, 0, 0, 0, 0, 0, 0, 0] (-1) [0, 0, 0, 0, 0, 0, 0, 0] false 255 3, .int .i64 5] W fun e w' => e = .returned (.int .i32 255) ∧ Below W.heap.size W w') := Lib.hid (fun W => (H.peek 100 [0, 0, 0, 0, 0, 0, 0, 0] (-1) [0, 0, 0, 0, 0, 0, 0, 0] false 255 3 5 W ⟨rfl, rfl, by decide, by decide, by decide, by decide, by decide, by decide, by decide, by decide⟩ (by decide) (by decide)).mono (fun e w' h => ⟨h.1.trans (by kernel_rfl), h.2⟩))
  have K7 : Hid (∀ W : World, Calls Try.prog 16 #[uv 100 [0, 0, 0, 0, 0, 0, 0, 0] (-1) [0, 0, 0, 0, 0, 0, 0, 0] false 255 3, .int .i64 99] W fun e w' => e = .returned (.int .i32 0) ∧ Below W.heap.size W w') := Lib.hid (fun W => (H.peek 100 [0, 0, 0, 0, 0, 0, 0, 0] (-1) [0, 0, 0, 0, 0, 0, 0, 0] false 255 3 99 W ⟨rfl, rfl, by decide, by decide, by decide, by decide, by decide, by decide, by decide, by decide⟩ (by decide) (by decide)).mono (fun e w' h => ⟨h.1.trans (by kernel_rfl), h.2⟩))
  have K8 : Hid (∀ W : World, Calls Try.prog 14 #[uv 8 [0, 0, 0, 0, 0, 0, 0, 0] 0 [0, 0, 0, 0, 0, 0, 0, 0] false 255 0, .int .i64 4, .int .i32 7] W fun e w' => e = .returned (uv 8 [0, 0, 0, 0, 0, 0, 0, 0] 0 [0, 0, 0, 0, 0, 0, 0, 0] false 255 0) ∧ Below W.heap.size W w') := Lib.hid (fun W => (H.write 8 [0, 0, 0, 0, 0, 0, 0, 0] 0 [0, 0, 0, 0, 0, 0, 0, 0] false 255 0 4 7 W ⟨rfl, rfl, by decide, by decide, by decide, by decide, by decide, by decide, by decide, by decide⟩ (by decide) (by decide) (by decide) (by decide)).mono (fun e w' h => ⟨h.1.trans (by kernel_rfl), h.2⟩))
  have KW := Lib.hid (works_any H)
  have KP := Lib.hid (put_step H)
  have KS := Lib.hid (send_step H)
  go_enter Try.func5, Try.ntmps5
  go_wp2_with (go_at_call 11; refine (KW.out _).mono ?_; rintro e w0 ⟨rfl, hB⟩; have HB0 := Lib.hid hB; clear hB)
  go_loopw [2] (fun iv wr => ∃ i : Nat, i ≤ 10 ∧ iv = .int .i64 i ∧ URow wr w0.heap.size 26 0 Z8 (fN i) (fP i) false 0 0 ∧ Below w.heap.size w wr) (fun iv _ => 10 - (intOf iv).toNat)
  case atStart => exact ⟨0, by omega, rfl, ⟨alloc_at _ _, rfl, rfl⟩, HB0.out.alloc HB0.out.size _⟩
  case round =>
    obtain ⟨i, hi, rfl, hr, hb⟩ := hrel
    have LE_RU := Lib.hid HB0.out.size
    have RU_wr := Lib.hid hr
    have BB_wr := Lib.hid hb
    have hfl := fP_len i
    have hfl2 := fP_len (i + 1)
    have hz8 : Z8.length = 8 := rfl
    clear hr hb HB0
    generalize w0.heap.size = ga at *
    by_cases hlt : i < 10
    · have d1 : (i : Int) < 10 := by omega
      have HLT := Lib.hid hlt
      go_wp2_with (first
      | ((with_reducible show wpList _ _ _ (⟨none, .store 26 (.tmp 1) (.tmp 26), _, _, _, _⟩ :: _) _ _); refine wpList_store_u rfl 26 _ _ rfl (ga) (by exact rfl) (by exact rfl) (by first | assumption | exact rfl) (by first | assumption | exact rfl) (by kernel_rfl) 26 RU_wa.out ?_; intro wb HN HO HB
         have RU_wb : Hid (URow wb (ga) 26 0 Z8 (fN (i + 1)) (fP (i + 1)) false 0 0) := HN
         have BB_wb : Hid (Below w.heap.size w wb) := Lib.hid (BB_wa.out.trans (HB.out.mono LE_RU.out))
         clear HO HB HN RU_wa BB_wa)
      | (go_at_call 14; have hc := BB_wr; clear hc; refine (KP.out i HLT.out _).mono ?_; rintro e wa ⟨rfl, hB⟩
         have RU_wa : Hid (URow wa (ga) 26 0 Z8 (fN i) (fP i) false 0 0) := Lib.hid (URow.below RU_wr.out hB RU_wr.out.lt)
         have BB_wa : Hid (Below w.heap.size w wa) := Lib.hid (BB_wr.out.trans (hB.mono BB_wr.out.size))
         clear hB RU_wr BB_wr)
      | ((with_reducible show wpList _ _ _ (⟨some 23, .load 26 (.tmp 1), _, _, _, _⟩ :: _) _ _); refine wpList_load_u (by rfl) 26 _ rfl (ga) (by exact rfl) _ Try.underlying26 (by kernel_rfl) 26 (RU_wr.out) ?_))
      go_roundw
      case rel => exact ⟨i + 1, by omega, by go_num, RU_wb.out, BB_wb.out⟩
      case measure =>
        simp [intOf]
        omega
    · obtain rfl : i = 10 := by omega
      have RU_wr : Hid (URow wr ga 26 0 Z8 (gN 0) (gP 0) false 0 (gK 0)) := Lib.hid (by
        have h := RU_wr.out
        rw [show fN 10 = gN 0 from by kernel_rfl, show fP 10 = gP 0 from by kernel_rfl] at h
        exact h)
      have RU_wr2 : Hid (URow wr ga 26 0 [0, 0, 0, 0, 0, 0, 0, 0] 8 [0, 1, 2, 3, 4, 5, 6, 7] false 0 0) := Lib.hid (by
        have h := RU_wr.out
        rw [show gN 0 = 8 from by kernel_rfl, show gP 0 = [0, 1, 2, 3, 4, 5, 6, 7] from by kernel_rfl, show gK 0 = 0 from by kernel_rfl] at h
        exact h)
      go_wp2_with (first
      | ((with_reducible show wpList _ _ _ (⟨some 27, .load 26 (.tmp 1), _, _, _, _⟩ :: _) _ _); refine wpList_load_u (by rfl) 26 _ rfl (ga) (by exact rfl) _ Try.underlying26 (by kernel_rfl) 26 (RU_wr2.out) ?_)
      | (go_at_call 16; refine (K1.out _).mono ?_; rintro e wa ⟨rfl, hB⟩
         have RU_wa := Lib.hid (RU_wr.out.below hB RU_wr.out.lt)
         have BB_wa := Lib.hid (BB_wr.out.trans (hB.mono BB_wr.out.size))
         clear hB RU_wr RU_wr2 BB_wr))
      go_loopw [4, 5] (fun sv iv wr => ∃ j : Nat, j ≤ 50 ∧ sv = .int .i64 (sN j : Nat) ∧ iv = .int .i64 j ∧ URow wr ga 26 0 Z8 (gN j) (gP j) false 0 (gK j) ∧ Below w.heap.size w wr) (fun _ iv _ => 50 - (intOf iv).toNat)
      case atStart => exact ⟨0, by omega, rfl, rfl, RU_wa.out, BB_wa.out⟩
      case round =>
        obtain ⟨j, hj, rfl, rfl, hr, hb⟩ := hrel
        have RU_wr := Lib.hid hr
        have BB_wr := Lib.hid hb
        have hfl := hr.hc
        clear hr hb RU_wa BB_wa hfl2
        by_cases hlt : j < 50
        · have d1 : (j : Int) < 50 := by omega
          have HLT := Lib.hid hlt
          obtain ⟨-, -, -, -, -, -, -, hsn, -, -, hb8⟩ := send_plain j hlt
          have hfl2 : (gP (j + 1)).length = 8 := pad_length _
          have HB8 : Hid (gI j = true → gB j = sN j) := Lib.hid (fun h => if_pos h)
          have KS := Lib.hid (KS.out j HLT.out)
          have HSN := Lib.hid hsn
          clear hsn
          generalize gB j = bb at *
          generalize gI j = is at *
          cases is
          · have HS0 : Hid (sN (j + 1) = sN j) := Lib.hid (by rw [HSN.out]; rfl)
            clear HSN HB8
            go_wp2_with (first
      | ((with_reducible show wpList _ _ _ (⟨none, .store 26 (.tmp 1) (.tmp 50), _, _, _, _⟩ :: _) _ _); refine wpList_store_u rfl 26 _ _ rfl (ga) (by exact rfl) (by exact rfl) (by first | assumption | exact rfl) (by first | assumption | exact rfl) (by kernel_rfl) 26 RU_wb.out ?_; intro wc HN HO HB
         have RV_wc : Hid (URow wc (wa.heap.size) 26 0 Z8 (gN (j + 1)) (gP (j + 1)) false 0 (gK (j + 1))) := Lib.hid (URow.other RV_wb.out HO.out (NE_RV_RU.out))
         have RU_wc : Hid (URow wc (ga) 26 0 Z8 (gN (j + 1)) (gP (j + 1)) false 0 (gK (j + 1))) := HN
         have BB_wc : Hid (Below w.heap.size w wc) := Lib.hid (BB_wb.out.trans (HB.out.mono LE_RU.out))
         clear HO HB HN RU_wb RV_wb BB_wb)
      | ((with_reducible show wpList _ _ _ (⟨some 50, .load 26 (.tmp 6), _, _, _, _⟩ :: _) _ _); refine wpList_load_u (by rfl) 26 _ rfl (wa.heap.size) (by exact rfl) _ Try.underlying26 (by kernel_rfl) 26 (RV_wb.out) ?_)
      | ((with_reducible show wpList _ _ _ (⟨none, .store 26 (.tmp 6) (.tmp 36), _, _, _, _⟩ :: _) _ _); refine wpList_store_u  rfl 26 _ _ rfl (wa.heap.size) (by exact rfl) (by exact rfl) (by first | assumption | exact rfl) (by first | assumption | exact rfl) (by kernel_rfl) 26 (show URow _ _ _ 0 Z8 0 Z8 false 0 0 from ⟨alloc_at _ _, rfl, rfl⟩) ?_; intro wb HN HO HB
         have RU_wb : Hid (URow wb (ga) 26 0 Z8 (gN j) (gP j) false 0 (gK j)) := Lib.hid (URow.other (URow.below RU_wa.out ((Below.refl _ _).alloc (Nat.le_refl _) _) RU_wa.out.lt) HO.out (Nat.ne_of_lt RU_wa.out.lt))
         have RV_wb : Hid (URow wb wa.heap.size 26 0 Z8 (gN (j + 1)) (gP (j + 1)) false 0 (gK (j + 1))) := HN
         have BB_wb : Hid (Below w.heap.size w wb) := Lib.hid ((BB_wa.out.alloc BB_wa.out.size _).trans (HB.out.mono BB_wa.out.size))
         have NE_RV_RU := Lib.hid (Nat.ne_of_gt RU_wa.out.lt)
         clear HO HB HN RU_wa BB_wa)
      | (go_at_call 15; have hc := BB_wr; clear hc; refine (KS.out _).mono ?_; rintro e wa ⟨rfl, hB⟩
         have RU_wa : Hid (URow wa (ga) 26 0 Z8 (gN j) (gP j) false 0 (gK j)) := Lib.hid (URow.below RU_wr.out hB RU_wr.out.lt)
         have BB_wa : Hid (Below w.heap.size w wa) := Lib.hid (BB_wr.out.trans (hB.mono BB_wr.out.size))
         clear hB RU_wr BB_wr)
      | ((with_reducible show wpList _ _ _ (⟨some 34, .load 26 (.tmp 1), _, _, _, _⟩ :: _) _ _); refine wpList_load_u (by rfl) 26 _ rfl (ga) (by exact rfl) _ Try.underlying26 (by kernel_rfl) 26 (RU_wr.out) ?_))
            go_roundw
            case rel => exact ⟨j + 1, by omega, by rw [HS0.out], by go_num, RU_wc.out, BB_wc.out⟩
            case measure =>
              simp [intOf]
              omega
          · have HS0 : Hid (sN (j + 1) = sN j + 1) := Lib.hid (by rw [HSN.out]; rfl)
            have hbs : bb = sN j := HB8.out rfl
            subst hbs
            clear HSN HB8
            go_wp2_with (first
      | ((with_reducible show wpList _ _ _ (⟨none, .store 26 (.tmp 1) (.tmp 50), _, _, _, _⟩ :: _) _ _); refine wpList_store_u rfl 26 _ _ rfl (ga) (by exact rfl) (by exact rfl) (by first | assumption | exact rfl) (by first | assumption | exact rfl) (by kernel_rfl) 26 RU_wb.out ?_; intro wc HN HO HB
         have RV_wc : Hid (URow wc (wa.heap.size) 26 0 Z8 (gN (j + 1)) (gP (j + 1)) false 0 (gK (j + 1))) := Lib.hid (URow.other RV_wb.out HO.out (NE_RV_RU.out))
         have RU_wc : Hid (URow wc (ga) 26 0 Z8 (gN (j + 1)) (gP (j + 1)) false 0 (gK (j + 1))) := HN
         have BB_wc : Hid (Below w.heap.size w wc) := Lib.hid (BB_wb.out.trans (HB.out.mono LE_RU.out))
         clear HO HB HN RU_wb RV_wb BB_wb)
      | ((with_reducible show wpList _ _ _ (⟨some 50, .load 26 (.tmp 6), _, _, _, _⟩ :: _) _ _); refine wpList_load_u (by rfl) 26 _ rfl (wa.heap.size) (by exact rfl) _ Try.underlying26 (by kernel_rfl) 26 (RV_wb.out) ?_)
      | ((with_reducible show wpList _ _ _ (⟨none, .store 26 (.tmp 6) (.tmp 36), _, _, _, _⟩ :: _) _ _); refine wpList_store_u  rfl 26 _ _ rfl (wa.heap.size) (by exact rfl) (by exact rfl) (by first | assumption | exact rfl) (by first | assumption | exact rfl) (by kernel_rfl) 26 (show URow _ _ _ 0 Z8 0 Z8 false 0 0 from ⟨alloc_at _ _, rfl, rfl⟩) ?_; intro wb HN HO HB
         have RU_wb : Hid (URow wb (ga) 26 0 Z8 (gN j) (gP j) false 0 (gK j)) := Lib.hid (URow.other (URow.below RU_wa.out ((Below.refl _ _).alloc (Nat.le_refl _) _) RU_wa.out.lt) HO.out (Nat.ne_of_lt RU_wa.out.lt))
         have RV_wb : Hid (URow wb wa.heap.size 26 0 Z8 (gN (j + 1)) (gP (j + 1)) false 0 (gK (j + 1))) := HN
         have BB_wb : Hid (Below w.heap.size w wb) := Lib.hid ((BB_wa.out.alloc BB_wa.out.size _).trans (HB.out.mono BB_wa.out.size))
         have NE_RV_RU := Lib.hid (Nat.ne_of_gt RU_wa.out.lt)
         clear HO HB HN RU_wa BB_wa)
      | (go_at_call 15; have hc := BB_wr; clear hc; refine (KS.out _).mono ?_; rintro e wa ⟨rfl, hB⟩
         have RU_wa : Hid (URow wa (ga) 26 0 Z8 (gN j) (gP j) false 0 (gK j)) := Lib.hid (URow.below RU_wr.out hB RU_wr.out.lt)
         have BB_wa : Hid (Below w.heap.size w wa) := Lib.hid (BB_wr.out.trans (hB.mono BB_wr.out.size))
         clear hB RU_wr BB_wr)
      | ((with_reducible show wpList _ _ _ (⟨some 34, .load 26 (.tmp 1), _, _, _, _⟩ :: _) _ _); refine wpList_load_u (by rfl) 26 _ rfl (ga) (by exact rfl) _ Try.underlying26 (by kernel_rfl) 26 (RU_wr.out) ?_))
            go_roundw
            case rel => exact ⟨j + 1, by omega, by rw [HS0.out]; rfl, by go_num, RU_wc.out, BB_wc.out⟩
            case measure =>
              simp [intOf]
              omega
        · obtain rfl : j = 50 := by omega
          have RU_wr : Hid (URow wr ga 26 0 [0, 0, 0, 0, 0, 0, 0, 0] 0 [0, 0, 0, 0, 0, 0, 0, 0] false 0 0) := Lib.hid (by
            have h := RU_wr.out
            rw [show gN 50 = 0 from by kernel_rfl, show gP 50 = Z8 from by kernel_rfl, show gK 50 = 0 from by kernel_rfl] at h
            exact h)
          rw [show sN 50 = 8 from by kernel_rfl]
          go_upto_region 25 with (first
      | ((with_reducible show wpList _ _ _ (⟨none, .store 26 (.tmp 14) (.tmp 64), _, _, _, _⟩ :: _) _ _); refine wpList_store_u  rfl 26 _ _ rfl (wh.heap.size) (by exact rfl) (by exact rfl) (by first | assumption | exact rfl) (by first | assumption | exact rfl) (by kernel_rfl) 26 (show URow _ _ _ 0 Z8 0 Z8 false 0 0 from ⟨alloc_at _ _, rfl, rfl⟩) ?_; intro wz HN HO HB
         have RU_wz : Hid (URow wz (ga) 26 0 [0, 0, 0, 0, 0, 0, 0, 0] 0 [0, 0, 0, 0, 0, 0, 0, 0] false 0 0) := Lib.hid (URow.other (URow.below RU_wh.out ((Below.refl _ _).alloc (Nat.le_refl _) _) RU_wh.out.lt) HO.out (Nat.ne_of_lt RU_wh.out.lt))
         have RB_wz : Hid (URow wz (wr.heap.size) 26 100 [0, 0, 0, 0, 0, 0, 0, 0] (-1) [0, 0, 0, 0, 0, 0, 0, 0] false 255 3) := Lib.hid (URow.other (URow.below RB_wh.out ((Below.refl _ _).alloc (Nat.le_refl _) _) RB_wh.out.lt) HO.out (Nat.ne_of_lt RB_wh.out.lt))
         have RM_wz : Hid (URow wz (wd.heap.size) 26 8 [0, 0, 0, 0, 0, 0, 0, 0] 0 [0, 0, 0, 0, 0, 0, 0, 0] false 255 0) := Lib.hid (URow.other (URow.below RM_wh.out ((Below.refl _ _).alloc (Nat.le_refl _) _) RM_wh.out.lt) HO.out (Nat.ne_of_lt RM_wh.out.lt))
         have RS_wz : Hid (URow wz (wf.heap.size) 26 8 [0, 0, 0, 0, 0, 0, 0, 0] 0 [0, 0, 0, 0, 0, 0, 0, 0] false 255 0) := Lib.hid (URow.other (URow.below RS_wh.out ((Below.refl _ _).alloc (Nat.le_refl _) _) RS_wh.out.lt) HO.out (Nat.ne_of_lt RS_wh.out.lt))
         have RY_wz : Hid (URow wz wh.heap.size 26 0 [0, 0, 0, 0, 0, 0, 0, 0] 1 [1, 0, 0, 0, 0, 0, 0, 0] false 0 0) := HN
         have BB_wz : Hid (Below w.heap.size w wz) := Lib.hid ((BB_wh.out.alloc BB_wh.out.size _).trans (HB.out.mono BB_wh.out.size))
         clear HO HB HN RU_wh RB_wh RM_wh RS_wh BB_wh)
      | (go_at_call 14; have hc := BB_wg; clear hc; refine (K4.out _).mono ?_; rintro e wh ⟨rfl, hB⟩
         have RU_wh : Hid (URow wh (ga) 26 0 [0, 0, 0, 0, 0, 0, 0, 0] 0 [0, 0, 0, 0, 0, 0, 0, 0] false 0 0) := Lib.hid (URow.below RU_wg.out hB RU_wg.out.lt)
         have RB_wh : Hid (URow wh (wr.heap.size) 26 100 [0, 0, 0, 0, 0, 0, 0, 0] (-1) [0, 0, 0, 0, 0, 0, 0, 0] false 255 3) := Lib.hid (URow.below RB_wg.out hB RB_wg.out.lt)
         have RM_wh : Hid (URow wh (wd.heap.size) 26 8 [0, 0, 0, 0, 0, 0, 0, 0] 0 [0, 0, 0, 0, 0, 0, 0, 0] false 255 0) := Lib.hid (URow.below RM_wg.out hB RM_wg.out.lt)
         have RS_wh : Hid (URow wh (wf.heap.size) 26 8 [0, 0, 0, 0, 0, 0, 0, 0] 0 [0, 0, 0, 0, 0, 0, 0, 0] false 255 0) := Lib.hid (URow.below RS_wg.out hB RS_wg.out.lt)
         have BB_wh : Hid (Below w.heap.size w wh) := Lib.hid (BB_wg.out.trans (hB.mono BB_wg.out.size))
         clear hB RU_wg RB_wg RM_wg RS_wg BB_wg)
      | ((with_reducible show wpList _ _ _ (⟨none, .store 26 (.tmp 13) (.tmp 62), _, _, _, _⟩ :: _) _ _); refine wpList_store_u  rfl 26 _ _ rfl (wf.heap.size) (by exact rfl) (by exact rfl) (by first | assumption | exact rfl) (by first | assumption | exact rfl) (by kernel_rfl) 26 (show URow _ _ _ 0 Z8 0 Z8 false 0 0 from ⟨alloc_at _ _, rfl, rfl⟩) ?_; intro wg HN HO HB
         have RU_wg : Hid (URow wg (ga) 26 0 [0, 0, 0, 0, 0, 0, 0, 0] 0 [0, 0, 0, 0, 0, 0, 0, 0] false 0 0) := Lib.hid (URow.other (URow.below RU_wf.out ((Below.refl _ _).alloc (Nat.le_refl _) _) RU_wf.out.lt) HO.out (Nat.ne_of_lt RU_wf.out.lt))
         have RB_wg : Hid (URow wg (wr.heap.size) 26 100 [0, 0, 0, 0, 0, 0, 0, 0] (-1) [0, 0, 0, 0, 0, 0, 0, 0] false 255 3) := Lib.hid (URow.other (URow.below RB_wf.out ((Below.refl _ _).alloc (Nat.le_refl _) _) RB_wf.out.lt) HO.out (Nat.ne_of_lt RB_wf.out.lt))
         have RM_wg : Hid (URow wg (wd.heap.size) 26 8 [0, 0, 0, 0, 0, 0, 0, 0] 0 [0, 0, 0, 0, 0, 0, 0, 0] false 255 0) := Lib.hid (URow.other (URow.below RM_wf.out ((Below.refl _ _).alloc (Nat.le_refl _) _) RM_wf.out.lt) HO.out (Nat.ne_of_lt RM_wf.out.lt))
         have RS_wg : Hid (URow wg wf.heap.size 26 8 [0, 0, 0, 0, 0, 0, 0, 0] 0 [0, 0, 0, 0, 0, 0, 0, 0] false 255 0) := HN
         have BB_wg : Hid (Below w.heap.size w wg) := Lib.hid ((BB_wf.out.alloc BB_wf.out.size _).trans (HB.out.mono BB_wf.out.size))
         clear HO HB HN RU_wf RB_wf RM_wf BB_wf)
      | (go_at_call 13; have hc := BB_we; clear hc; refine (K3.out _).mono ?_; rintro e wf ⟨rfl, hB⟩
         have RU_wf : Hid (URow wf (ga) 26 0 [0, 0, 0, 0, 0, 0, 0, 0] 0 [0, 0, 0, 0, 0, 0, 0, 0] false 0 0) := Lib.hid (URow.below RU_we.out hB RU_we.out.lt)
         have RB_wf : Hid (URow wf (wr.heap.size) 26 100 [0, 0, 0, 0, 0, 0, 0, 0] (-1) [0, 0, 0, 0, 0, 0, 0, 0] false 255 3) := Lib.hid (URow.below RB_we.out hB RB_we.out.lt)
         have RM_wf : Hid (URow wf (wd.heap.size) 26 8 [0, 0, 0, 0, 0, 0, 0, 0] 0 [0, 0, 0, 0, 0, 0, 0, 0] false 255 0) := Lib.hid (URow.below RM_we.out hB RM_we.out.lt)
         have BB_wf : Hid (Below w.heap.size w wf) := Lib.hid (BB_we.out.trans (hB.mono BB_we.out.size))
         clear hB RU_we RB_we RM_we BB_we)
      | ((with_reducible show wpList _ _ _ (⟨some 59, .load 26 (.tmp 11), _, _, _, _⟩ :: _) _ _); refine wpList_load_u (by rfl) 26 _ rfl (wd.heap.size) (by exact rfl) _ Try.underlying26 (by kernel_rfl) 26 (RM_we.out) ?_)
      | ((with_reducible show wpList _ _ _ (⟨none, .store 26 (.tmp 11) (.tmp 57), _, _, _, _⟩ :: _) _ _); refine wpList_store_u  rfl 26 _ _ rfl (wd.heap.size) (by exact rfl) (by exact rfl) (by first | assumption | exact rfl) (by first | assumption | exact rfl) (by kernel_rfl) 26 (show URow _ _ _ 0 Z8 0 Z8 false 0 0 from ⟨alloc_at _ _, rfl, rfl⟩) ?_; intro we HN HO HB
         have RU_we : Hid (URow we (ga) 26 0 [0, 0, 0, 0, 0, 0, 0, 0] 0 [0, 0, 0, 0, 0, 0, 0, 0] false 0 0) := Lib.hid (URow.other (URow.below RU_wd.out ((Below.refl _ _).alloc (Nat.le_refl _) _) RU_wd.out.lt) HO.out (Nat.ne_of_lt RU_wd.out.lt))
         have RB_we : Hid (URow we (wr.heap.size) 26 100 [0, 0, 0, 0, 0, 0, 0, 0] (-1) [0, 0, 0, 0, 0, 0, 0, 0] false 255 3) := Lib.hid (URow.other (URow.below RB_wd.out ((Below.refl _ _).alloc (Nat.le_refl _) _) RB_wd.out.lt) HO.out (Nat.ne_of_lt RB_wd.out.lt))
         have RM_we : Hid (URow we wd.heap.size 26 8 [0, 0, 0, 0, 0, 0, 0, 0] 0 [0, 0, 0, 0, 0, 0, 0, 0] false 255 0) := HN
         have BB_we : Hid (Below w.heap.size w we) := Lib.hid ((BB_wd.out.alloc BB_wd.out.size _).trans (HB.out.mono BB_wd.out.size))
         clear HO HB HN RU_wd RB_wd BB_wd)
      | (go_at_call 9; have hc := BB_wc; clear hc; refine (K2.out _).mono ?_; rintro e wd ⟨rfl, hB⟩
         have RU_wd : Hid (URow wd (ga) 26 0 [0, 0, 0, 0, 0, 0, 0, 0] 0 [0, 0, 0, 0, 0, 0, 0, 0] false 0 0) := Lib.hid (URow.below RU_wc.out hB RU_wc.out.lt)
         have RB_wd : Hid (URow wd (wr.heap.size) 26 100 [0, 0, 0, 0, 0, 0, 0, 0] (-1) [0, 0, 0, 0, 0, 0, 0, 0] false 255 3) := Lib.hid (URow.below RB_wc.out hB RB_wc.out.lt)
         have BB_wd : Hid (Below w.heap.size w wd) := Lib.hid (BB_wc.out.trans (hB.mono BB_wc.out.size))
         clear hB RU_wc RB_wc BB_wc)
      | ((with_reducible show wpList _ _ _ (⟨some 56, .load 26 (.tmp 10), _, _, _, _⟩ :: _) _ _); refine wpList_load_u (by rfl) 26 _ rfl (wr.heap.size) (by exact rfl) _ Try.underlying26 (by kernel_rfl) 26 (RB_wc.out) ?_)
      | ((with_reducible show wpList _ _ _ (⟨none, .store 3 (.tmp 55) _, _, _, _, _⟩ :: _) _ _); refine wpList_store_j rfl 3 _ _ rfl (wr.heap.size) 0 (by exact rfl) (.int .i64 100) (by exact rfl) rfl (by kernel_rfl) 26 RB_wb.out (by decide) (uc_set_n) RB_wb.out.hb RB_wb.out.hc ?_; intro wc HN HO HB
         have RU_wc : Hid (URow wc (ga) 26 0 [0, 0, 0, 0, 0, 0, 0, 0] 0 [0, 0, 0, 0, 0, 0, 0, 0] false 0 0) := Lib.hid (URow.other RU_wb.out HO.out (NE_RU_RB.out))
         have RB_wc : Hid (URow wc (wr.heap.size) 26 100 [0, 0, 0, 0, 0, 0, 0, 0] (-1) [0, 0, 0, 0, 0, 0, 0, 0] false 255 3) := HN
         have BB_wc : Hid (Below w.heap.size w wc) := Lib.hid (BB_wb.out.trans (HB.out.mono LE_RB.out))
         clear HO HB HN RU_wb RB_wb BB_wb)
      | ((with_reducible show wpList _ _ _ (⟨none, .store 3 (.tmp 53) _, _, _, _, _⟩ :: _) _ _); refine wpList_store_j rfl 3 _ _ rfl (wr.heap.size) 9 (by exact rfl) (.int .i64 (-1)) (by exact rfl) rfl (by kernel_rfl) 26 RB_wa.out (by decide) (uc_set_m rfl) RB_wa.out.hb RB_wa.out.hc ?_; intro wb HN HO HB
         have RU_wb : Hid (URow wb (ga) 26 0 [0, 0, 0, 0, 0, 0, 0, 0] 0 [0, 0, 0, 0, 0, 0, 0, 0] false 0 0) := Lib.hid (URow.other RU_wa.out HO.out (NE_RU_RB.out))
         have RB_wb : Hid (URow wb (wr.heap.size) 26 0 [0, 0, 0, 0, 0, 0, 0, 0] (-1) [0, 0, 0, 0, 0, 0, 0, 0] false 255 3) := HN
         have BB_wb : Hid (Below w.heap.size w wb) := Lib.hid (BB_wa.out.trans (HB.out.mono LE_RB.out))
         clear HO HB HN RU_wa RB_wa BB_wa)
      | ((with_reducible show wpList _ _ _ (⟨none, .store 26 (.tmp 10) (.tmp 51), _, _, _, _⟩ :: _) _ _); refine wpList_store_u (n' := 0) (bs' := Z8) (m' := 0) (cs' := Z8) (l' := false) (c' := 255) (k' := 3) rfl 26 _ _ rfl (wr.heap.size) (by exact rfl) (by exact rfl) (by first | assumption | exact rfl) (by first | assumption | exact rfl) (by kernel_rfl) 26 (show URow _ _ _ 0 Z8 0 Z8 false 0 0 from ⟨alloc_at _ _, rfl, rfl⟩) ?_; intro wa HN HO HB
         have RU_wa : Hid (URow wa (ga) 26 0 [0, 0, 0, 0, 0, 0, 0, 0] 0 [0, 0, 0, 0, 0, 0, 0, 0] false 0 0) := Lib.hid (URow.other (URow.below RU_wr.out ((Below.refl _ _).alloc (Nat.le_refl _) _) RU_wr.out.lt) HO.out (Nat.ne_of_lt RU_wr.out.lt))
         have RB_wa : Hid (URow wa wr.heap.size 26 0 [0, 0, 0, 0, 0, 0, 0, 0] 0 [0, 0, 0, 0, 0, 0, 0, 0] false 255 3) := HN
         have BB_wa : Hid (Below w.heap.size w wa) := Lib.hid ((BB_wr.out.alloc BB_wr.out.size _).trans (HB.out.mono BB_wr.out.size))
         have NE_RU_RB := Lib.hid (Nat.ne_of_lt RU_wr.out.lt)
         have LE_RB := Lib.hid BB_wr.out.size
         clear HO HB HN RU_wr BB_wr))
          try simp only [List.append_eq, List.cons_append, List.nil_append]
          generalize wr.heap.size = g1 at *
          generalize wd.heap.size = g2 at *
          generalize wf.heap.size = g3 at *
          generalize wh.heap.size = g4 at *
          refine wp_region_noPanic ?_
          refine wp_region_held_drew (S := fun X => Below wz.heap.size wz X) (by kernel_rfl) ((Below.refl _ wz).drew) (fun hHeld => ?_)
          refine' take_ 0 rfl (by kernel_rfl) (by kernel_rfl) (by kernel_rfl) (fun _ _ _ h => h) (by rfl) (fun wS hSw => ?_) hHeld ?_
          rotate_left
          focus (go_simp; (try with_reducible rfl); done)
          try simp only [Act.put, List.setIfInBounds_toArray, List.set_cons_zero, List.set_cons_succ]
          refine' take_ 1 rfl (by kernel_rfl) (by kernel_rfl) (by kernel_rfl) (fun _ _ _ h => h) (by rfl) (fun wS hSw => ?_) hHeld ?_
          rotate_left
          focus (go_simp; (try with_reducible rfl); done)
          try simp only [Act.put, List.setIfInBounds_toArray, List.set_cons_zero, List.set_cons_succ]
          refine' take_ 2 rfl (by kernel_rfl) (by kernel_rfl) (by kernel_rfl) (fun _ _ _ h => h) (by rfl) (fun wS hSw => ?_) hHeld ?_
          rotate_left
          focus (go_simp; (try with_reducible rfl); done)
          try simp only [Act.put, List.setIfInBounds_toArray, List.set_cons_zero, List.set_cons_succ]
          refine' take_ 3 rfl (by kernel_rfl) (by kernel_rfl) (by kernel_rfl) (fun _ _ _ h => h) (by rfl) (fun wS hSw => ?_) hHeld ?_
          rotate_left
          focus (go_simp; (try with_reducible rfl); done)
          try simp only [Act.put, List.setIfInBounds_toArray, List.set_cons_zero, List.set_cons_succ]
          refine' take_ 4 rfl (by kernel_rfl) (by kernel_rfl) (by kernel_rfl) (fun _ _ _ h => h) (by rfl) (fun wS hSw => ?_) hHeld ?_
          rotate_left
          focus (go_simp; (try with_reducible rfl); done)
          try simp only [Act.put, List.setIfInBounds_toArray, List.set_cons_zero, List.set_cons_succ]
          refine' take_ 5 rfl (by kernel_rfl) (by kernel_rfl) (by kernel_rfl) (fun _ _ _ h => h) (by rfl) (fun wS hSw => ?_) hHeld ?_
          rotate_left
          focus (go_simp; (try with_reducible rfl); done)
          try simp only [Act.put, List.setIfInBounds_toArray, List.set_cons_zero, List.set_cons_succ]
          refine' take_ 6 rfl (by kernel_rfl) (by kernel_rfl) (by kernel_rfl) (fun _ _ _ h => h) (by rfl) (fun wS hSw => ?_) hHeld ?_
          rotate_left
          focus (go_simp; (try with_reducible rfl); done)
          try simp only [Act.put, List.setIfInBounds_toArray, List.set_cons_zero, List.set_cons_succ]
          refine' take_ 7 rfl (by kernel_rfl) (by kernel_rfl) (by kernel_rfl) (fun _ _ _ h => h) (by rfl) (fun wS hSw => run_load_u wS 26 _ ga rfl _ Try.underlying26 (by kernel_rfl) 26 (RU_wz.out.below hSw RU_wz.out.lt) _ _ _ _ _) hHeld ?_
          try simp only [Act.put, List.setIfInBounds_toArray, List.set_cons_zero, List.set_cons_succ]
          refine' take_ 8 rfl (by kernel_rfl) (by kernel_rfl) (by kernel_rfl) (fun _ _ _ h => h) (by rfl) (fun wS hSw => ?_) hHeld ?_
          rotate_left
          focus ((show _ = Result.ok (Next.value (uv 0 [0, 0, 0, 0, 0, 0, 0, 0] 0 [0, 0, 0, 0, 0, 0, 0, 0] false 0 0)) _); go_simp; (try rfl); done)
          try simp only [Act.put, List.setIfInBounds_toArray, List.set_cons_zero, List.set_cons_succ]
          refine' take_ 9 rfl (by kernel_rfl) (by kernel_rfl) (by kernel_rfl) (fun _ _ _ h => h) (by rfl) (fun wS hSw => ?_) hHeld ?_
          rotate_left
          focus ((go_simp; rw [guard_u]; go_simp; rw [run_eql_u _ _ _ _ _ _ _ _ (by first | assumption | rfl) (by first | assumption | rfl)]; (try go_simp); (try with_reducible rfl); done))
          try simp only [Act.put, List.setIfInBounds_toArray, List.set_cons_zero, List.set_cons_succ]
          refine' take_ 10 rfl (by kernel_rfl) (by kernel_rfl) (by kernel_rfl) (fun _ _ _ h => h) (by rfl) (fun wS hSw => ?_) hHeld ?_
          rotate_left
          focus (go_simp; (try with_reducible rfl); done)
          try simp only [Act.put, List.setIfInBounds_toArray, List.set_cons_zero, List.set_cons_succ]
          refine' take_ 11 rfl (by kernel_rfl) (by kernel_rfl) (by kernel_rfl) (fun _ _ _ h => h) (by rfl) (fun wS hSw => ?_) hHeld ?_
          rotate_left
          focus (go_simp; (try with_reducible rfl); done)
          try simp only [Act.put, List.setIfInBounds_toArray, List.set_cons_zero, List.set_cons_succ]
          refine' take_ 12 rfl (by kernel_rfl) (by kernel_rfl) (by kernel_rfl) (fun _ _ _ h => h) (by rfl) (fun wS hSw => ?_) hHeld ?_
          rotate_left
          focus (go_simp; (try with_reducible rfl); done)
          try simp only [Act.put, List.setIfInBounds_toArray, List.set_cons_zero, List.set_cons_succ]
          refine' take_ 13 rfl (by kernel_rfl) (by kernel_rfl) (by kernel_rfl) (fun _ _ _ h => h) (by rfl) (fun wS hSw => ?_) hHeld ?_
          rotate_left
          focus (have s0 := (RM_wz.out.below hSw RM_wz.out.lt).c20; clear hSw; go_simp; (try with_reducible rfl); done)
          try simp only [Act.put, List.setIfInBounds_toArray, List.set_cons_zero, List.set_cons_succ]
          refine' take_ 14 rfl (by kernel_rfl) (by kernel_rfl) (by kernel_rfl) (fun _ _ _ h => h) (by rfl) (fun wS hSw => ?_) hHeld ?_
          rotate_left
          focus (go_simp; (try with_reducible rfl); done)
          try simp only [Act.put, List.setIfInBounds_toArray, List.set_cons_zero, List.set_cons_succ]
          refine' take_ 15 rfl (by kernel_rfl) (by kernel_rfl) (by kernel_rfl) (fun _ _ _ h => h) (by rfl) (fun wS hSw => ?_) hHeld ?_
          rotate_left
          focus (go_simp; (try with_reducible rfl); done)
          try simp only [Act.put, List.setIfInBounds_toArray, List.set_cons_zero, List.set_cons_succ]
          refine' take_ 16 rfl (by kernel_rfl) (by kernel_rfl) (by kernel_rfl) (fun _ _ _ h => h) (by rfl) (fun wS hSw => ?_) hHeld ?_
          rotate_left
          focus (go_simp; (try with_reducible rfl); done)
          try simp only [Act.put, List.setIfInBounds_toArray, List.set_cons_zero, List.set_cons_succ]
          refine' take_ 17 rfl (by kernel_rfl) (by kernel_rfl) (by kernel_rfl) (fun _ _ _ h => h) (by rfl) (fun wS hSw => ?_) hHeld ?_
          rotate_left
          focus (go_simp; (try with_reducible rfl); done)
          try simp only [Act.put, List.setIfInBounds_toArray, List.set_cons_zero, List.set_cons_succ]
          refine' take_ 18 rfl (by kernel_rfl) (by kernel_rfl) (by kernel_rfl) (fun _ _ _ h => h) (by rfl) (fun wS hSw => ?_) hHeld ?_
          rotate_left
          focus (go_simp; (try with_reducible rfl); done)
          try simp only [Act.put, List.setIfInBounds_toArray, List.set_cons_zero, List.set_cons_succ]
          refine' take_ 19 rfl (by kernel_rfl) (by kernel_rfl) (by kernel_rfl) (fun _ _ _ h => h) (by rfl) (fun wS hSw => ?_) hHeld ?_
          rotate_left
          focus (have s0 := (RM_wz.out.below hSw RM_wz.out.lt).n0; clear hSw; go_simp; (try with_reducible rfl); done)
          try simp only [Act.put, List.setIfInBounds_toArray, List.set_cons_zero, List.set_cons_succ]
          refine' take_ 20 rfl (by kernel_rfl) (by kernel_rfl) (by kernel_rfl) (fun _ _ _ h => h) (by rfl) (fun wS hSw => ?_) hHeld ?_
          rotate_left
          focus (go_simp; (try with_reducible rfl); done)
          try simp only [Act.put, List.setIfInBounds_toArray, List.set_cons_zero, List.set_cons_succ]
          refine' take_ 21 rfl (by kernel_rfl) (by kernel_rfl) (by kernel_rfl) (fun _ _ _ h => h) (by rfl) (fun wS hSw => ?_) hHeld ?_
          rotate_left
          focus (go_simp; (try with_reducible rfl); done)
          try simp only [Act.put, List.setIfInBounds_toArray, List.set_cons_zero, List.set_cons_succ]
          refine' take_ 22 rfl (by kernel_rfl) (by kernel_rfl) (by kernel_rfl) (fun _ _ _ h => h) (by rfl) (fun wS hSw => ?_) hHeld ?_
          rotate_left
          focus (go_simp; (try with_reducible rfl); done)
          try simp only [Act.put, List.setIfInBounds_toArray, List.set_cons_zero, List.set_cons_succ]
          refine' take_ 23 rfl (by kernel_rfl) (by kernel_rfl) (by kernel_rfl) (fun _ _ _ h => h) (by rfl) (fun wS hSw => ?_) hHeld ?_
          rotate_left
          focus (go_simp; (try with_reducible rfl); done)
          try simp only [Act.put, List.setIfInBounds_toArray, List.set_cons_zero, List.set_cons_succ]
          refine' take_ 24 rfl (by kernel_rfl) (by kernel_rfl) (by kernel_rfl) (fun _ _ _ h => h) (by rfl) (fun wS hSw => ?_) hHeld ?_
          rotate_left
          focus (go_simp; (try with_reducible rfl); done)
          try simp only [Act.put, List.setIfInBounds_toArray, List.set_cons_zero, List.set_cons_succ]
          refine' take_ 25 rfl (by kernel_rfl) (by kernel_rfl) (by kernel_rfl) (fun _ _ _ h => h) (by rfl) (fun wS hSw => ?_) hHeld ?_
          rotate_left
          focus (have s0 := (RM_wz.out.below hSw RM_wz.out.lt).n9; clear hSw; go_simp; (try with_reducible rfl); done)
          try simp only [Act.put, List.setIfInBounds_toArray, List.set_cons_zero, List.set_cons_succ]
          refine' take_ 26 rfl (by kernel_rfl) (by kernel_rfl) (by kernel_rfl) (fun _ _ _ h => h) (by rfl) (fun wS hSw => ?_) hHeld ?_
          rotate_left
          focus (go_simp; (try with_reducible rfl); done)
          try simp only [Act.put, List.setIfInBounds_toArray, List.set_cons_zero, List.set_cons_succ]
          refine' take_ 27 rfl (by kernel_rfl) (by kernel_rfl) (by kernel_rfl) (fun _ _ _ h => h) (by rfl) (fun wS hSw => ?_) hHeld ?_
          rotate_left
          focus (go_simp; (try with_reducible rfl); done)
          try simp only [Act.put, List.setIfInBounds_toArray, List.set_cons_zero, List.set_cons_succ]
          refine' take_ 28 rfl (by kernel_rfl) (by kernel_rfl) (by kernel_rfl) (fun _ _ _ h => h) (by rfl) (fun wS hSw => ?_) hHeld ?_
          rotate_left
          focus (go_simp; (try with_reducible rfl); done)
          try simp only [Act.put, List.setIfInBounds_toArray, List.set_cons_zero, List.set_cons_succ]
          refine' take_ 29 rfl (by kernel_rfl) (by kernel_rfl) (by kernel_rfl) (fun _ _ _ h => h) (by rfl) (fun wS hSw => run_load_u wS 26 _ g1 rfl _ Try.underlying26 (by kernel_rfl) 26 (RB_wz.out.below hSw RB_wz.out.lt) _ _ _ _ _) hHeld ?_
          try simp only [Act.put, List.setIfInBounds_toArray, List.set_cons_zero, List.set_cons_succ]
          refine only_ 30 rfl (by kernel_rfl) (by rfl) (fun K hK => ?_)
          go_simp
          (with_reducible refine (K5.out _).mono ?_)
          rintro e wn ⟨rfl, hBn⟩
          go_simp
          refine hK.out _ _ (hHeld.trans (hBn.mono hHeld.size)) (fun hHeld2 => ?_)
          clear hK K hHeld
          have hHeld := hHeld2
          clear hHeld2
          try simp only [Act.put, List.setIfInBounds_toArray, List.set_cons_zero, List.set_cons_succ]
          clear hBn
          refine' take_ 31 rfl (by kernel_rfl) (by kernel_rfl) (by kernel_rfl) (fun _ _ _ h => h) (by rfl) (fun wS hSw => ?_) hHeld ?_
          rotate_left
          focus (go_simp; (try with_reducible rfl); done)
          try simp only [Act.put, List.setIfInBounds_toArray, List.set_cons_zero, List.set_cons_succ]
          refine' take_ 32 rfl (by kernel_rfl) (by kernel_rfl) (by kernel_rfl) (fun _ _ _ h => h) (by rfl) (fun wS hSw => ?_) hHeld ?_
          rotate_left
          focus (go_simp; (try with_reducible rfl); done)
          try simp only [Act.put, List.setIfInBounds_toArray, List.set_cons_zero, List.set_cons_succ]
          refine' take_ 33 rfl (by kernel_rfl) (by kernel_rfl) (by kernel_rfl) (fun _ _ _ h => h) (by rfl) (fun wS hSw => ?_) hHeld ?_
          rotate_left
          focus (go_simp; (try with_reducible rfl); done)
          try simp only [Act.put, List.setIfInBounds_toArray, List.set_cons_zero, List.set_cons_succ]
          refine' take_ 34 rfl (by kernel_rfl) (by kernel_rfl) (by kernel_rfl) (fun _ _ _ h => h) (by rfl) (fun wS hSw => ?_) hHeld ?_
          rotate_left
          focus (go_simp; (try with_reducible rfl); done)
          try simp only [Act.put, List.setIfInBounds_toArray, List.set_cons_zero, List.set_cons_succ]
          refine' take_ 35 rfl (by kernel_rfl) (by kernel_rfl) (by kernel_rfl) (fun _ _ _ h => h) (by rfl) (fun wS hSw => ?_) hHeld ?_
          rotate_left
          focus (go_simp; (try with_reducible rfl); done)
          try simp only [Act.put, List.setIfInBounds_toArray, List.set_cons_zero, List.set_cons_succ]
          refine' take_ 36 rfl (by kernel_rfl) (by kernel_rfl) (by kernel_rfl) (fun _ _ _ h => h) (by rfl) (fun wS hSw => ?_) hHeld ?_
          rotate_left
          focus (go_simp; (try with_reducible rfl); done)
          try simp only [Act.put, List.setIfInBounds_toArray, List.set_cons_zero, List.set_cons_succ]
          refine' take_ 37 rfl (by kernel_rfl) (by kernel_rfl) (by kernel_rfl) (fun _ _ _ h => h) (by rfl) (fun wS hSw => ?_) hHeld ?_
          rotate_left
          focus (go_simp; (try with_reducible rfl); done)
          try simp only [Act.put, List.setIfInBounds_toArray, List.set_cons_zero, List.set_cons_succ]
          refine' take_ 38 rfl (by kernel_rfl) (by kernel_rfl) (by kernel_rfl) (fun _ _ _ h => h) (by rfl) (fun wS hSw => run_load_u wS 26 _ g3 rfl _ Try.underlying26 (by kernel_rfl) 26 (RS_wz.out.below hSw RS_wz.out.lt) _ _ _ _ _) hHeld ?_
          try simp only [Act.put, List.setIfInBounds_toArray, List.set_cons_zero, List.set_cons_succ]
          refine' take_ 39 rfl (by kernel_rfl) (by kernel_rfl) (by kernel_rfl) (fun _ _ _ h => h) (by rfl) (fun wS hSw => run_load_u wS 26 _ g2 rfl _ Try.underlying26 (by kernel_rfl) 26 (RM_wz.out.below hSw RM_wz.out.lt) _ _ _ _ _) hHeld ?_
          try simp only [Act.put, List.setIfInBounds_toArray, List.set_cons_zero, List.set_cons_succ]
          refine' take_ 40 rfl (by kernel_rfl) (by kernel_rfl) (by kernel_rfl) (fun _ _ _ h => h) (by rfl) (fun wS hSw => ?_) hHeld ?_
          rotate_left
          focus ((go_simp; rw [guard_u]; go_simp; rw [run_eql_u _ _ _ _ _ _ _ _ (by first | assumption | rfl) (by first | assumption | rfl)]; (try go_simp); (try with_reducible rfl); done))
          try simp only [Act.put, List.setIfInBounds_toArray, List.set_cons_zero, List.set_cons_succ]
          refine' take_ 41 rfl (by kernel_rfl) (by kernel_rfl) (by kernel_rfl) (fun _ _ _ h => h) (by rfl) (fun wS hSw => ?_) hHeld ?_
          rotate_left
          focus (go_simp; (try with_reducible rfl); done)
          try simp only [Act.put, List.setIfInBounds_toArray, List.set_cons_zero, List.set_cons_succ]
          refine' take_ 42 rfl (by kernel_rfl) (by kernel_rfl) (by kernel_rfl) (fun _ _ _ h => h) (by rfl) (fun wS hSw => ?_) hHeld ?_
          rotate_left
          focus (go_simp; (try with_reducible rfl); done)
          try simp only [Act.put, List.setIfInBounds_toArray, List.set_cons_zero, List.set_cons_succ]
          refine' take_ 43 rfl (by kernel_rfl) (by kernel_rfl) (by kernel_rfl) (fun _ _ _ h => h) (by rfl) (fun wS hSw => ?_) hHeld ?_
          rotate_left
          focus (go_simp; (try with_reducible rfl); done)
          try simp only [Act.put, List.setIfInBounds_toArray, List.set_cons_zero, List.set_cons_succ]
          refine' take_ 44 rfl (by kernel_rfl) (by kernel_rfl) (by kernel_rfl) (fun _ _ _ h => h) (by rfl) (fun wS hSw => ?_) hHeld ?_
          rotate_left
          focus (have s0 := (RY_wz.out.below hSw RY_wz.out.lt).c20; clear hSw; go_simp; (try with_reducible rfl); done)
          try simp only [Act.put, List.setIfInBounds_toArray, List.set_cons_zero, List.set_cons_succ]
          refine' take_ 45 rfl (by kernel_rfl) (by kernel_rfl) (by kernel_rfl) (fun _ _ _ h => h) (by rfl) (fun wS hSw => ?_) hHeld ?_
          rotate_left
          focus (go_simp; (try with_reducible rfl); done)
          try simp only [Act.put, List.setIfInBounds_toArray, List.set_cons_zero, List.set_cons_succ]
          refine' take_ 46 rfl (by kernel_rfl) (by kernel_rfl) (by kernel_rfl) (fun _ _ _ h => h) (by rfl) (fun wS hSw => ?_) hHeld ?_
          rotate_left
          focus (go_simp; (try with_reducible rfl); done)
          try simp only [Act.put, List.setIfInBounds_toArray, List.set_cons_zero, List.set_cons_succ]
          refine' take_ 47 rfl (by kernel_rfl) (by kernel_rfl) (by kernel_rfl) (fun _ _ _ h => h) (by rfl) (fun wS hSw => ?_) hHeld ?_
          rotate_left
          focus (go_simp; (try with_reducible rfl); done)
          try simp only [Act.put, List.setIfInBounds_toArray, List.set_cons_zero, List.set_cons_succ]
          refine' take_ 48 rfl (by kernel_rfl) (by kernel_rfl) (by kernel_rfl) (fun _ _ _ h => h) (by rfl) (fun wS hSw => run_load_u wS 26 _ g2 rfl _ Try.underlying26 (by kernel_rfl) 26 (RM_wz.out.below hSw RM_wz.out.lt) _ _ _ _ _) hHeld ?_
          try simp only [Act.put, List.setIfInBounds_toArray, List.set_cons_zero, List.set_cons_succ]
          refine' take_ 50 rfl (by kernel_rfl) (by kernel_rfl) (by kernel_rfl) (fun _ _ _ h => h) (by rfl) (fun wS hSw => run_load_u wS 26 _ g2 rfl _ Try.underlying26 (by kernel_rfl) 26 (RM_wz.out.below hSw RM_wz.out.lt) _ _ _ _ _) hHeld ?_
          try simp only [Act.put, List.setIfInBounds_toArray, List.set_cons_zero, List.set_cons_succ]
          refine only_ 49 rfl (by kernel_rfl) (by rfl) (fun K hK => ?_)
          go_simp
          (with_reducible refine (K8.out _).mono ?_)
          rintro e wn ⟨rfl, hBn⟩
          go_simp
          refine hK.out _ _ (hHeld.trans (hBn.mono hHeld.size)) (fun hHeld2 => ?_)
          clear hK K hHeld
          have hHeld := hHeld2
          clear hHeld2
          try simp only [Act.put, List.setIfInBounds_toArray, List.set_cons_zero, List.set_cons_succ]
          clear hBn
          refine' take_ 51 rfl (by kernel_rfl) (by kernel_rfl) (by kernel_rfl) (fun _ _ _ h => h) (by rfl) (fun wS hSw => ?_) hHeld ?_
          rotate_left
          focus ((go_simp; rw [guard_u]; go_simp; rw [run_eql_u _ _ _ _ _ _ _ _ (by first | assumption | rfl) (by first | assumption | rfl)]; (try go_simp); (try with_reducible rfl); done))
          try simp only [Act.put, List.setIfInBounds_toArray, List.set_cons_zero, List.set_cons_succ]
          refine' take_ 52 rfl (by kernel_rfl) (by kernel_rfl) (by kernel_rfl) (fun _ _ _ h => h) (by rfl) (fun wS hSw => ?_) hHeld ?_
          rotate_left
          focus (go_simp; (try with_reducible rfl); done)
          try simp only [Act.put, List.setIfInBounds_toArray, List.set_cons_zero, List.set_cons_succ]
          refine' take_ 53 rfl (by kernel_rfl) (by kernel_rfl) (by kernel_rfl) (fun _ _ _ h => h) (by rfl) (fun wS hSw => ?_) hHeld ?_
          rotate_left
          focus (go_simp; (try with_reducible rfl); done)
          try simp only [Act.put, List.setIfInBounds_toArray, List.set_cons_zero, List.set_cons_succ]
          refine' take_ 54 rfl (by kernel_rfl) (by kernel_rfl) (by kernel_rfl) (fun _ _ _ h => h) (by rfl) (fun wS hSw => run_load_u wS 26 _ g1 rfl _ Try.underlying26 (by kernel_rfl) 26 (RB_wz.out.below hSw RB_wz.out.lt) _ _ _ _ _) hHeld ?_
          try simp only [Act.put, List.setIfInBounds_toArray, List.set_cons_zero, List.set_cons_succ]
          refine only_ 55 rfl (by kernel_rfl) (by rfl) (fun K hK => ?_)
          go_simp
          (with_reducible refine (K6.out _).mono ?_)
          rintro e wn ⟨rfl, hBn⟩
          go_simp
          refine hK.out _ _ (hHeld.trans (hBn.mono hHeld.size)) (fun hHeld2 => ?_)
          clear hK K hHeld
          have hHeld := hHeld2
          clear hHeld2
          try simp only [Act.put, List.setIfInBounds_toArray, List.set_cons_zero, List.set_cons_succ]
          clear hBn
          refine' take_ 56 rfl (by kernel_rfl) (by kernel_rfl) (by kernel_rfl) (fun _ _ _ h => h) (by rfl) (fun wS hSw => ?_) hHeld ?_
          rotate_left
          focus (go_simp; (try with_reducible rfl); done)
          try simp only [Act.put, List.setIfInBounds_toArray, List.set_cons_zero, List.set_cons_succ]
          refine' take_ 57 rfl (by kernel_rfl) (by kernel_rfl) (by kernel_rfl) (fun _ _ _ h => h) (by rfl) (fun wS hSw => ?_) hHeld ?_
          rotate_left
          focus (go_simp; (try with_reducible rfl); done)
          try simp only [Act.put, List.setIfInBounds_toArray, List.set_cons_zero, List.set_cons_succ]
          refine' take_ 58 rfl (by kernel_rfl) (by kernel_rfl) (by kernel_rfl) (fun _ _ _ h => h) (by rfl) (fun wS hSw => ?_) hHeld ?_
          rotate_left
          focus (go_simp; (try with_reducible rfl); done)
          try simp only [Act.put, List.setIfInBounds_toArray, List.set_cons_zero, List.set_cons_succ]
          refine' take_ 59 rfl (by kernel_rfl) (by kernel_rfl) (by kernel_rfl) (fun _ _ _ h => h) (by rfl) (fun wS hSw => run_load_u wS 26 _ g1 rfl _ Try.underlying26 (by kernel_rfl) 26 (RB_wz.out.below hSw RB_wz.out.lt) _ _ _ _ _) hHeld ?_
          try simp only [Act.put, List.setIfInBounds_toArray, List.set_cons_zero, List.set_cons_succ]
          refine only_ 60 rfl (by kernel_rfl) (by rfl) (fun K hK => ?_)
          go_simp
          (with_reducible refine (K7.out _).mono ?_)
          rintro e wn ⟨rfl, hBn⟩
          go_simp
          refine hK.out _ _ (hHeld.trans (hBn.mono hHeld.size)) (fun hHeld2 => ?_)
          clear hK K hHeld
          have hHeld := hHeld2
          clear hHeld2
          try simp only [Act.put, List.setIfInBounds_toArray, List.set_cons_zero, List.set_cons_succ]
          clear hBn
          refine' take_ 61 rfl (by kernel_rfl) (by kernel_rfl) (by kernel_rfl) (fun _ _ _ h => h) (by rfl) (fun wS hSw => ?_) hHeld ?_
          rotate_left
          focus (go_simp; (try with_reducible rfl); done)
          try simp only [Act.put, List.setIfInBounds_toArray, List.set_cons_zero, List.set_cons_succ]
          refine' take_ 62 rfl (by kernel_rfl) (by kernel_rfl) (by kernel_rfl) (fun _ _ _ h => h) (by rfl) (fun wS hSw => ?_) hHeld ?_
          rotate_left
          focus (go_simp; (try with_reducible rfl); done)
          try simp only [Act.put, List.setIfInBounds_toArray, List.set_cons_zero, List.set_cons_succ]
          refine' take_ 63 rfl (by kernel_rfl) (by kernel_rfl) (by kernel_rfl) (fun _ _ _ h => h) (by rfl) (fun wS hSw => ?_) hHeld ?_
          rotate_left
          focus (go_simp; (try with_reducible rfl); done)
          try simp only [Act.put, List.setIfInBounds_toArray, List.set_cons_zero]
          refine wpAnyH_done (by kernel_rfl) ?_ _
          refine NoPanic.normal ?_
          go_wp2
          go_ret
          exact ⟨rfl, BB_wz.out.trans (hHeld.mono BB_wz.out.size)⟩
end Go.Proofs.Ytgpgijdciaieaaa
