/-
  works: by its contract, if the program's functions are what they must be: the chapter's examples: true. Made by wip/gentimerworks.py.
-/
import Derived.Test.YtgibindoblhkeaaEq
namespace Go.Proofs.Ytgibindoblhkeaa
open Go.RowKit
set_option linter.unusedVariables false
theorem run_index_six (g k : Nat) (w : World) (hk : k < 6) : (Instr.indexAt 56 (.pointer (some ⟨g, 0, none⟩)) (.int .i64 (k : Int))).run Try.prog w = .ok (.pointer (some ⟨g, k, none⟩)) w := by
  obtain rfl | rfl | rfl | rfl | rfl | rfl : k = 0 ∨ k = 1 ∨ k = 2 ∨ k = 3 ∨ k = 4 ∨ k = 5 := by omega
  all_goals kernel_rfl
/-- The six truths, behind i ticks. -/
def bv (i : Nat) : List Value := (List.range 6).map fun j => .bool (decide (j < i ∧ j % 3 = 2))
theorem bv_set (i : Nat) (h : i < 6) : (bv i).set i (.bool (decide (i % 3 = 2))) = bv (i + 1) := by
  obtain rfl | rfl | rfl | rfl | rfl | rfl : i = 0 ∨ i = 1 ∨ i = 2 ∨ i = 3 ∨ i = 4 ∨ i = 5 := by omega
  all_goals rfl
theorem tick_step (H : TimerOk) (i : Nat) (h : i < 6) (W : World) : Calls Try.prog 11 #[tv ⟨i % 3, 3, 3⟩] W fun e w' => e = .returned (.tuple #[tv ⟨(i + 1) % 3, 3, 3⟩, .bool (decide (i % 3 = 2))]) ∧ Below W.heap.size W w' := by
  obtain rfl | rfl | rfl | rfl | rfl | rfl : i = 0 ∨ i = 1 ∨ i = 2 ∨ i = 3 ∨ i = 4 ∨ i = 5 := by omega
  · exact (H.tick ⟨0, 3, 3⟩ W ⟨by decide, by decide, by decide⟩).mono (fun e w' h => ⟨h.1.trans (by kernel_rfl), h.2⟩)
  · exact (H.tick ⟨1, 3, 3⟩ W ⟨by decide, by decide, by decide⟩).mono (fun e w' h => ⟨h.1.trans (by kernel_rfl), h.2⟩)
  · exact (H.tick ⟨2, 3, 3⟩ W ⟨by decide, by decide, by decide⟩).mono (fun e w' h => ⟨h.1.trans (by kernel_rfl), h.2⟩)
  · exact (H.tick ⟨0, 3, 3⟩ W ⟨by decide, by decide, by decide⟩).mono (fun e w' h => ⟨h.1.trans (by kernel_rfl), h.2⟩)
  · exact (H.tick ⟨1, 3, 3⟩ W ⟨by decide, by decide, by decide⟩).mono (fun e w' h => ⟨h.1.trans (by kernel_rfl), h.2⟩)
  · exact (H.tick ⟨2, 3, 3⟩ W ⟨by decide, by decide, by decide⟩).mono (fun e w' h => ⟨h.1.trans (by kernel_rfl), h.2⟩)
set_option maxHeartbeats 1000000 in
set_option maxRecDepth 100000 in
theorem works_any (H : TimerOk) (w : World) : Calls Try.prog 17 #[] w fun e w' => e = .returned (.bool true) ∧ Below w.heap.size w w' := by
  have K1 : Hid (∀ W : World, Calls Try.prog 13 #[tv ⟨0, 3, 1⟩, .int .i64 9] W fun e w' => e = .returned (.tuple #[tv ⟨0, 3, 0⟩, .int .i64 1]) ∧ Below W.heap.size W w') := Lib.hid (fun W => (H.ticks ⟨0, 3, 1⟩ 9 W ⟨by decide, by decide, by decide⟩ (by decide) (by decide)).mono (fun e w' h => ⟨h.1.trans (by kernel_rfl), h.2⟩))
  have K2 : Hid (∀ W : World, Calls Try.prog 7 #[tv ⟨5, 3, 3⟩] W fun e w' => e = .returned (.int .i64 65534) ∧ Below W.heap.size W w') := Lib.hid (fun W => (H.next ⟨5, 3, 3⟩  W ⟨by decide, by decide, by decide⟩ ).mono (fun e w' h => ⟨h.1.trans (by kernel_rfl), h.2⟩))
  have K3 : Hid (∀ W : World, Calls Try.prog 9 #[tv ⟨0, 3, 3⟩, .int .i64 2, .int .i32 65537] W fun e w' => e = .returned (tv ⟨0, 3, 1⟩) ∧ Below W.heap.size W w') := Lib.hid (fun W => (H.write ⟨0, 3, 3⟩ 2 65537 W ⟨by decide, by decide, by decide⟩ (by decide) (by decide) (by decide) (by decide)).mono (fun e w' h => ⟨h.1.trans (by kernel_rfl), h.2⟩))
  have K4 : Hid (∀ W : World, Calls Try.prog 15 #[tv ⟨0, 3, 1⟩, .int .i64 2] W fun e w' => e = .returned (.int .i32 1) ∧ Below W.heap.size W w') := Lib.hid (fun W => (H.peek ⟨0, 3, 1⟩ 2 W ⟨by decide, by decide, by decide⟩ (by decide) (by decide)).mono (fun e w' h => ⟨h.1.trans (by kernel_rfl), h.2⟩))
  have KT := Lib.hid (tick_step H)
  have hI := run_index_six
  go_enter Try.func17, Try.ntmps17
  go_upto_region 2 with fail
  refine name_one (Q := fun X => Code.wp _ _ _ _ X) ?_
  intro W0 hq1 hB0 hz
  have R0 : Hid (TRow W0 w.heap.size 25 ⟨0, 3, 3⟩) := Lib.hid hq1
  have B0 : Hid (Below w.heap.size w W0) := Lib.hid hB0
  clear hq1 hB0 hz
  obtain ⟨g, hg⟩ : ∃ g, w.heap.size = g := ⟨_, rfl⟩
  have LG : Hid (w.heap.size ≤ g) := Lib.hid (by omega)
  rw [hg] at R0 ⊢
  clear hg
  go_wp2
  go_loopw [3] (fun iv wr => ∃ i : Nat, i ≤ 6 ∧ iv = .int .i64 i ∧ TRow wr g 25 ⟨i % 3, 3, 3⟩ ∧ VRow wr W0.heap.size 56 (bv i) ∧ Below w.heap.size w wr) (fun iv _ => 6 - (intOf iv).toNat)
  case atStart => exact ⟨0, by omega, rfl, R0.out.below ((Below.refl _ _).alloc (Nat.le_refl _) _) R0.out.lt, alloc_at _ _, B0.out.alloc B0.out.size _⟩
  case round =>
    obtain ⟨i, hi, rfl, hr, hv, hb⟩ := hrel
    have NE := Lib.hid (Nat.ne_of_lt R0.out.lt)
    have LI := Lib.hid B0.out.size
    clear R0 B0
    have R0 := Lib.hid hr
    have V0 := Lib.hid hv
    have B0 := Lib.hid hb
    clear hr hv hb
    generalize W0.heap.size = gi at *
    by_cases hlt : i < 6
    · have d1 : (i : Int) < 6 := by omega
      have HLT := Lib.hid hlt
      have hix := fun W => hI gi i W hlt
      have HB := Lib.hid (bv_set i hlt)
      have KT2 := Lib.hid (KT.out i hlt)
      have hlen : (bv i).length = 6 := rfl
      have HLEN := Lib.hid hlen
      clear hI hlen
      generalize decide (i % 3 = 2) = ask at *
      obtain ⟨t1, ht1⟩ : ∃ t1, Tm.mk (i % 3) 3 3 = t1 := ⟨_, rfl⟩
      obtain ⟨t2, ht2⟩ : ∃ t2, Tm.mk ((i + 1) % 3) 3 3 = t2 := ⟨_, rfl⟩
      rw [ht1] at R0 KT2
      rw [ht2] at KT2
      have HT2 := Lib.hid ht2
      clear ht1 ht2
      go_wp2_with (first
      | ((with_reducible show wpList _ _ _ (⟨none, .store 4 (.tmp 17) (.tmp 16), _, _, _, _⟩ :: _) _ _); refine wpList_store_c rfl 4 _ _ rfl gi i (by exact rfl) (.bool ask) (by exact rfl) rfl (by kernel_rfl) 56 _ V2.out (by rw [HLEN.out]; exact HLT.out) ?_; intro WC HN HO HB2
         have V3 : Hid (VRow WC gi 56 ((bv i).set i (.bool ask))) := HN
         have R3 := Lib.hid (R2.out.other HO.out NE.out)
         have B3 := Lib.hid (B2.out.trans (HB2.out.mono LI.out))
         clear HN HO HB2)
      | ((with_reducible show wpList _ _ _ (⟨none, .store 25 (.tmp 1) (.tmp 15), _, _, _, _⟩ :: _) _ _); refine wpList_store_t rfl 25 _ _ rfl g (by exact rfl) (by exact rfl) (by kernel_rfl) 25 R1.out ?_; intro WB HN HO HB2
         have R2 : Hid (TRow WB g 25 t2) := HN
         have V2 : Hid (VRow WB gi 56 (bv i)) := Lib.hid ((HO.out _ NE.out.symm).trans V1.out)
         have B2 := Lib.hid (B1.out.trans (HB2.out.mono LG.out))
         clear HN HO HB2)
      | (go_at_call 11; refine (KT2.out _).mono ?_; rintro e WA ⟨rfl, hB⟩
         have R1 := Lib.hid (R0.out.below hB R0.out.lt)
         have V1 := Lib.hid (V0.out.below hB V0.out.lt)
         have B1 := Lib.hid (B0.out.trans (hB.mono B0.out.size))
         clear hB)
      | ((with_reducible show wpList _ _ _ (⟨some 13, .load 25 (.tmp 1), _, _, _, _⟩ :: _) _ _); refine wpList_load_t (by rfl) 25 _ rfl g (by exact rfl) _ Try.underlying25 (by kernel_rfl) 25 R0.out ?_))
      go_roundw
      case rel => exact ⟨i + 1, by have := HLT.out; omega, by go_num, by rw [HT2.out]; exact R3.out, by rw [← HB.out]; exact V3.out, B3.out⟩
      case measure =>
        simp [intOf]
        omega
    · obtain rfl : i = 6 := by omega
      replace R0 : Hid (TRow wr g 25 ⟨0, 3, 3⟩) := R0
      replace V0 : Hid (VRow wr gi 56 [.bool false, .bool false, .bool true, .bool false, .bool false, .bool true]) := V0
      have hE6 : ∀ W : World, (binOp .eql 56 (.agg #[.bool false, .bool false, .bool true, .bool false, .bool false, .bool true]) (.agg #[.bool false, .bool false, .bool true, .bool false, .bool false, .bool true])).run Try.prog W = .ok (.bool true) W := run_eql_six
      have hG6 : ∀ (x y : Operand) (W : World), (eqGuard .eql 56 x y (.agg #[.bool false, .bool false, .bool true, .bool false, .bool false, .bool true]) (.agg #[.bool false, .bool false, .bool true, .bool false, .bool false, .bool true])).run Try.prog W = .ok () W := fun x y W => guard_six W x y
      have hE3 : ∀ W : World, (binOp .eql 25 (tv ⟨0, 3, 0⟩) (.agg #[.int .u16 0, .int .u16 3, .int .u16 0])).run Try.prog W = .ok (.bool true) W := fun W => run_eql_t W ⟨0, 3, 0⟩
      have hG3 : ∀ (x y : Operand) (W : World), (eqGuard .eql 25 x y (tv ⟨0, 3, 0⟩) (.agg #[.int .u16 0, .int .u16 3, .int .u16 0])).run Try.prog W = .ok () W := fun x y W => guard_t W .eql x y ⟨0, 3, 0⟩ ⟨0, 3, 0⟩
      go_wp2_with (first
      | (go_at_call 15; refine (K4.out _).mono ?_; rintro e WE ⟨rfl, hB⟩
         have B6 := Lib.hid (B4.out.trans (hB.mono B4.out.size))
         clear hB)
      | (go_at_call 9; refine (K3.out _).mono ?_; rintro e WD ⟨rfl, hB⟩
         have B4 := Lib.hid (B3.out.trans (hB.mono B3.out.size))
         clear hB)
      | ((with_reducible show wpList _ _ _ (⟨some 41, .load 25 (.tmp 1), _, _, _, _⟩ :: _) _ _); refine wpList_load_t (by kernel_rfl) 25 _ rfl g (by exact rfl) _ Try.underlying25 (by kernel_rfl) 25 R3.out ?_)
      | (go_at_call 7; refine (K2.out _).mono ?_; rintro e WC ⟨rfl, hB⟩
         have R3 := Lib.hid (R2.out.below hB R2.out.lt)
         have B3 := Lib.hid (B2.out.trans (hB.mono B2.out.size))
         clear hB)
      | ((with_reducible show wpList _ _ _ (⟨some 27, .load 25 (.tmp 4), _, _, _, _⟩ :: _) _ _); refine wpList_load_t (by kernel_rfl) 25 _ rfl WA.heap.size (by exact rfl) _ Try.underlying25 (by kernel_rfl) 25 O2.out ?_)
      | ((with_reducible show wpList _ _ _ (⟨some 23, .load 56 (.tmp 2), _, _, _, _⟩ :: _) _ _); refine wpList_load_at rfl 56 _ rfl gi 0 (by exact rfl) _ _ (row_cells V2.out) Try.underlying56 rfl (by kernel_rfl) ?_)
      | ((with_reducible show wpList _ _ _ (⟨none, .store 25 (.tmp 4) (.tmp 21), _, _, _, _⟩ :: _) _ _); refine wpList_store_t rfl 25 _ _ rfl WA.heap.size (by exact rfl) (by exact rfl) (by kernel_rfl) 25 (show TRow _ _ _ ⟨0, 0, 0⟩ from alloc_at _ _) ?_; intro WB HN HO HB2
         have O2 : Hid (TRow WB WA.heap.size 25 ⟨0, 3, 0⟩) := HN
         have R2 := Lib.hid ((R1.out.below ((Below.refl _ _).alloc (Nat.le_refl _) _) R1.out.lt).other HO.out (Nat.ne_of_lt R1.out.lt))
         have V2 : Hid (VRow WB gi 56 [.bool false, .bool false, .bool true, .bool false, .bool false, .bool true]) := Lib.hid ((HO.out _ (Nat.ne_of_lt V1.out.lt)).trans (V1.out.below ((Below.refl _ _).alloc (Nat.le_refl _) _) V1.out.lt))
         have B2 := Lib.hid ((B1.out.alloc B1.out.size _).trans (HB2.out.mono B1.out.size))
         clear HN HO HB2)
      | (go_at_call 13; refine (K1.out _).mono ?_; rintro e WA ⟨rfl, hB⟩
         have R1 := Lib.hid (R0.out.below hB R0.out.lt)
         have V1 := Lib.hid (V0.out.below hB V0.out.lt)
         have B1 := Lib.hid (B0.out.trans (hB.mono B0.out.size))
         clear hB))
      go_ret
      exact ⟨rfl, B6.out⟩
end Go.Proofs.Ytgibindoblhkeaa
