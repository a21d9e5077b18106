/-
  works: by its contract: the chapter's examples: true. Made by wip/genfifoworks.py.
-/
import Derived.Test.YtebapciapnebgaaOf
namespace Go.Proofs.Ytebapciapnebgaa
open Go.RowKit
set_option linter.unusedVariables false
set_option maxHeartbeats 1000000 in
set_option maxRecDepth 100000 in
theorem works_any (w : World) : Calls Try.prog 10 #[] w fun e w' => e = .returned (.bool true) ∧ Below w.heap.size w w' := by
  have K1 : Hid (∀ W : World, Calls Try.prog 11 #[qv (0) [0, 0, 0, 0, 0, 0, 0, 0], .int .u8 7] W fun e w' => e = .returned (.tuple #[qv (1) [7, 0, 0, 0, 0, 0, 0, 0], .bool true]) ∧ Below W.heap.size W w') := Lib.hid (fun W => by
    have h := push_any (0) [0, 0, 0, 0, 0, 0, 0, 0] 7 W rfl (by decide) (by decide)
    rw [show pushV (cutL (0) [0, 0, 0, 0, 0, 0, 0, 0]) 7 = .tuple #[qv (1) [7, 0, 0, 0, 0, 0, 0, 0], .bool true] from by kernel_rfl] at h
    exact h)
  have K2 : Hid (∀ W : World, Calls Try.prog 11 #[qv (1) [7, 0, 0, 0, 0, 0, 0, 0], .int .u8 9] W fun e w' => e = .returned (.tuple #[qv (2) [7, 9, 0, 0, 0, 0, 0, 0], .bool true]) ∧ Below W.heap.size W w') := Lib.hid (fun W => by
    have h := push_any (1) [7, 0, 0, 0, 0, 0, 0, 0] 9 W rfl (by decide) (by decide)
    rw [show pushV (cutL (1) [7, 0, 0, 0, 0, 0, 0, 0]) 9 = .tuple #[qv (2) [7, 9, 0, 0, 0, 0, 0, 0], .bool true] from by kernel_rfl] at h
    exact h)
  have K3 : Hid (∀ W : World, Calls Try.prog 12 #[qv (2) [7, 9, 0, 0, 0, 0, 0, 0]] W fun e w' => e = .returned (.tuple #[.int .u8 7, qv (1) [9, 0, 0, 0, 0, 0, 0, 0], .bool true]) ∧ Below W.heap.size W w') := Lib.hid (fun W => by
    have h := pop_any (2) [7, 9, 0, 0, 0, 0, 0, 0] W rfl (by decide) (by decide)
    rw [show popV (cutL (2) [7, 9, 0, 0, 0, 0, 0, 0]) = .tuple #[.int .u8 7, qv (1) [9, 0, 0, 0, 0, 0, 0, 0], .bool true] from by kernel_rfl] at h
    exact h)
  have K4 : Hid (∀ W : World, Calls Try.prog 12 #[qv (0) [0, 0, 0, 0, 0, 0, 0, 0]] W fun e w' => e = .returned (.tuple #[.int .u8 0, qv (0) [0, 0, 0, 0, 0, 0, 0, 0], .bool false]) ∧ Below W.heap.size W w') := Lib.hid (fun W => by
    have h := pop_any (0) [0, 0, 0, 0, 0, 0, 0, 0] W rfl (by decide) (by decide)
    rw [show popV (cutL (0) [0, 0, 0, 0, 0, 0, 0, 0]) = .tuple #[.int .u8 0, qv (0) [0, 0, 0, 0, 0, 0, 0, 0], .bool false] from by kernel_rfl] at h
    exact h)
  have K5 : Hid (∀ W : World, Calls Try.prog 11 #[qv (8) [1, 2, 3, 4, 5, 6, 7, 8], .int .u8 1] W fun e w' => e = .returned (.tuple #[qv (8) [1, 2, 3, 4, 5, 6, 7, 8], .bool false]) ∧ Below W.heap.size W w') := Lib.hid (fun W => by
    have h := push_any (8) [1, 2, 3, 4, 5, 6, 7, 8] 1 W rfl (by decide) (by decide)
    rw [show pushV (cutL (8) [1, 2, 3, 4, 5, 6, 7, 8]) 1 = .tuple #[qv (8) [1, 2, 3, 4, 5, 6, 7, 8], .bool false] from by kernel_rfl] at h
    exact h)
  have K6 : Hid (∀ W : World, Calls Try.prog 14 #[qv (2) [1, 2, 3, 0, 0, 0, 0, 0]] W fun e w' => e = .returned (qv (2) [1, 2, 0, 0, 0, 0, 0, 0]) ∧ Below W.heap.size W w') := Lib.hid (fun W => by
    have h := mend_any (2) [1, 2, 3, 0, 0, 0, 0, 0] W rfl (by decide) (by decide)
    rw [show ofV (cutL (2) [1, 2, 3, 0, 0, 0, 0, 0]) = qv (2) [1, 2, 0, 0, 0, 0, 0, 0] from by kernel_rfl] at h
    exact h)
  have K7 : Hid (∀ W : World, Calls Try.prog 14 #[qv (99) [1, 2, 3, 4, 5, 6, 7, 8]] W fun e w' => e = .returned (qv (8) [1, 2, 3, 4, 5, 6, 7, 8]) ∧ Below W.heap.size W w') := Lib.hid (fun W => by
    have h := mend_any (99) [1, 2, 3, 4, 5, 6, 7, 8] W rfl (by decide) (by decide)
    rw [show ofV (cutL (99) [1, 2, 3, 4, 5, 6, 7, 8]) = qv (8) [1, 2, 3, 4, 5, 6, 7, 8] from by kernel_rfl] at h
    exact h)
  have K8 : Hid (∀ W : World, Calls Try.prog 14 #[qv (-1) [1, 2, 3, 4, 5, 6, 7, 8]] W fun e w' => e = .returned (qv (0) [0, 0, 0, 0, 0, 0, 0, 0]) ∧ Below W.heap.size W w') := Lib.hid (fun W => by
    have h := mend_any (-1) [1, 2, 3, 4, 5, 6, 7, 8] W rfl (by decide) (by decide)
    rw [show ofV (cutL (-1) [1, 2, 3, 4, 5, 6, 7, 8]) = qv (0) [0, 0, 0, 0, 0, 0, 0, 0] from by kernel_rfl] at h
    exact h)
  have KF : Hid (∀ W : World, Calls Try.prog 8 #[.slice (some ⟨W.heap.size, 0, none⟩) 9 9] (W.alloc (.cells (bvals [1, 2, 3, 4, 5, 6, 7, 8, 9]).toArray 5)) fun e w' => e = .returned (qv 8 [1, 2, 3, 4, 5, 6, 7, 8]) ∧ Below (W.alloc (.cells (bvals [1, 2, 3, 4, 5, 6, 7, 8, 9]).toArray 5)).heap.size (W.alloc (.cells (bvals [1, 2, 3, 4, 5, 6, 7, 8, 9]).toArray 5)) w') := Lib.hid (fun W => by
    have h := of_any (some ⟨W.heap.size, 0, none⟩) 9 9 [1, 2, 3, 4, 5, 6, 7, 8, 9] _ rfl (by decide) (rdb_new W [1, 2, 3, 4, 5, 6, 7, 8, 9] 5)
    rw [show ofV [1, 2, 3, 4, 5, 6, 7, 8, 9] = qv 8 [1, 2, 3, 4, 5, 6, 7, 8] from by kernel_rfl] at h
    exact h)
  have hE : ∀ W : World, (binOp .eql 24 (qv 8 [1, 2, 3, 4, 5, 6, 7, 8]) (qv 8 [1, 2, 3, 4, 5, 6, 7, 8])).run Try.prog W = .ok (.bool true) W := fun W => run_eql_q W 8 8 [1, 2, 3, 4, 5, 6, 7, 8] [1, 2, 3, 4, 5, 6, 7, 8] rfl rfl
  have hG : ∀ (x y : Operand) (W : World) (n m : Int) (bs cs : List Nat), (eqGuard .eql 24 x y (qv n bs) (qv m cs)).run Try.prog W = .ok () W := fun x y W n m bs cs => run_eqGuard_agg W _ _ _ _ _ _ Try.eqGuardType24
  go_enter Try.func10, Try.ntmps10
  go_upto_region 11 with (first
      | ((with_reducible show wpList _ _ _ (⟨none, .store 24 (.tmp 17) (.tmp 57), _, _, _, _⟩ :: _) _ _); refine wpList_store_q rfl 24 _ _ rfl (wh.heap.size) (by exact rfl) (0) ([0, 0, 0, 0, 0, 0, 0, 0]) (by exact rfl) (rfl) (by kernel_rfl) 24 _ _ (show QRow _ _ _ 0 [0, 0, 0, 0, 0, 0, 0, 0] from alloc_at _ _) rfl ?_; intro wz HN HO HB
         have RN_wz : Hid (QRow wz w.heap.size 24 (0) ([0, 0, 0, 0, 0, 0, 0, 0])) := Lib.hid ((HO.out _ (Nat.ne_of_lt RN_wh.out.lt)).trans (QRow.below RN_wh.out ((Below.refl _ _).alloc (Nat.le_refl _) _) RN_wh.out.lt))
         have RA_wz : Hid (QRow wz w1.heap.size 24 (1) ([7, 0, 0, 0, 0, 0, 0, 0])) := Lib.hid ((HO.out _ (Nat.ne_of_lt RA_wh.out.lt)).trans (QRow.below RA_wh.out ((Below.refl _ _).alloc (Nat.le_refl _) _) RA_wh.out.lt))
         have RB_wz : Hid (QRow wz w3.heap.size 24 (2) ([7, 9, 0, 0, 0, 0, 0, 0])) := Lib.hid ((HO.out _ (Nat.ne_of_lt RB_wh.out.lt)).trans (QRow.below RB_wh.out ((Below.refl _ _).alloc (Nat.le_refl _) _) RB_wh.out.lt))
         have RC_wz : Hid (QRow wz w5.heap.size 24 (1) ([9, 0, 0, 0, 0, 0, 0, 0])) := Lib.hid ((HO.out _ (Nat.ne_of_lt RC_wh.out.lt)).trans (QRow.below RC_wh.out ((Below.refl _ _).alloc (Nat.le_refl _) _) RC_wh.out.lt))
         have RD_wz : Hid (QRow wz w7.heap.size 24 (0) ([0, 0, 0, 0, 0, 0, 0, 0])) := Lib.hid ((HO.out _ (Nat.ne_of_lt RD_wh.out.lt)).trans (QRow.below RD_wh.out ((Below.refl _ _).alloc (Nat.le_refl _) _) RD_wh.out.lt))
         have RF_wz : Hid (QRow wz w9.heap.size 24 (8) ([1, 2, 3, 4, 5, 6, 7, 8])) := Lib.hid ((HO.out _ (Nat.ne_of_lt RF_wh.out.lt)).trans (QRow.below RF_wh.out ((Below.refl _ _).alloc (Nat.le_refl _) _) RF_wh.out.lt))
         have RE_wz : Hid (QRow wz wb.heap.size 24 (8) ([1, 2, 3, 4, 5, 6, 7, 8])) := Lib.hid ((HO.out _ (Nat.ne_of_lt RE_wh.out.lt)).trans (QRow.below RE_wh.out ((Below.refl _ _).alloc (Nat.le_refl _) _) RE_wh.out.lt))
         have RM_wz : Hid (QRow wz wd.heap.size 24 (2) ([1, 2, 0, 0, 0, 0, 0, 0])) := Lib.hid ((HO.out _ (Nat.ne_of_lt RM_wh.out.lt)).trans (QRow.below RM_wh.out ((Below.refl _ _).alloc (Nat.le_refl _) _) RM_wh.out.lt))
         have RO_wz : Hid (QRow wz wf.heap.size 24 (8) ([1, 2, 3, 4, 5, 6, 7, 8])) := Lib.hid ((HO.out _ (Nat.ne_of_lt RO_wh.out.lt)).trans (QRow.below RO_wh.out ((Below.refl _ _).alloc (Nat.le_refl _) _) RO_wh.out.lt))
         have RP_wz : Hid (QRow wz wh.heap.size 24 (0) ([0, 0, 0, 0, 0, 0, 0, 0])) := HN
         have BB_wz : Hid (Below w.heap.size w wz) := Lib.hid ((BB_wh.out.alloc BB_wh.out.size _).trans (HB.out.mono BB_wh.out.size))
         have BZ_0 : Hid (Below wz.heap.size wz wz) := Lib.hid (Below.refl _ _)
         clear HO HB HN RN_wh RA_wh RB_wh RC_wh RD_wh RF_wh RE_wh RM_wh RO_wh BB_wh)
      | (go_at_call 14; have hc := BB_wg; clear hc; refine (K8.out _).mono ?_; rintro e wh ⟨rfl, hB⟩
         have RN_wh : Hid (QRow wh w.heap.size 24 (0) ([0, 0, 0, 0, 0, 0, 0, 0])) := Lib.hid (QRow.below RN_wg.out hB RN_wg.out.lt)
         have RA_wh : Hid (QRow wh w1.heap.size 24 (1) ([7, 0, 0, 0, 0, 0, 0, 0])) := Lib.hid (QRow.below RA_wg.out hB RA_wg.out.lt)
         have RB_wh : Hid (QRow wh w3.heap.size 24 (2) ([7, 9, 0, 0, 0, 0, 0, 0])) := Lib.hid (QRow.below RB_wg.out hB RB_wg.out.lt)
         have RC_wh : Hid (QRow wh w5.heap.size 24 (1) ([9, 0, 0, 0, 0, 0, 0, 0])) := Lib.hid (QRow.below RC_wg.out hB RC_wg.out.lt)
         have RD_wh : Hid (QRow wh w7.heap.size 24 (0) ([0, 0, 0, 0, 0, 0, 0, 0])) := Lib.hid (QRow.below RD_wg.out hB RD_wg.out.lt)
         have RF_wh : Hid (QRow wh w9.heap.size 24 (8) ([1, 2, 3, 4, 5, 6, 7, 8])) := Lib.hid (QRow.below RF_wg.out hB RF_wg.out.lt)
         have RE_wh : Hid (QRow wh wb.heap.size 24 (8) ([1, 2, 3, 4, 5, 6, 7, 8])) := Lib.hid (QRow.below RE_wg.out hB RE_wg.out.lt)
         have RM_wh : Hid (QRow wh wd.heap.size 24 (2) ([1, 2, 0, 0, 0, 0, 0, 0])) := Lib.hid (QRow.below RM_wg.out hB RM_wg.out.lt)
         have RO_wh : Hid (QRow wh wf.heap.size 24 (8) ([1, 2, 3, 4, 5, 6, 7, 8])) := Lib.hid (QRow.below RO_wg.out hB RO_wg.out.lt)
         have BB_wh : Hid (Below w.heap.size w wh) := Lib.hid (BB_wg.out.trans (hB.mono BB_wg.out.size))
         clear f1 f2 f3 f4 f5 f6 f7 f8
         clear hB RN_wg RA_wg RB_wg RC_wg RD_wg RF_wg RE_wg RM_wg RO_wg BB_wg)
      | ((with_reducible show wpList _ _ _ (⟨none, .store 24 (.tmp 16) (.tmp 53), _, _, _, _⟩ :: _) _ _); refine wpList_store_q rfl 24 _ _ rfl (wf.heap.size) (by exact rfl) (8) ([1, 2, 3, 4, 5, 6, 7, 8]) (by exact rfl) (rfl) (by kernel_rfl) 24 _ _ (show QRow _ _ _ 0 [0, 0, 0, 0, 0, 0, 0, 0] from alloc_at _ _) rfl ?_; intro wg HN HO HB
         have RN_wg : Hid (QRow wg w.heap.size 24 (0) ([0, 0, 0, 0, 0, 0, 0, 0])) := Lib.hid ((HO.out _ (Nat.ne_of_lt RN_wf.out.lt)).trans (QRow.below RN_wf.out ((Below.refl _ _).alloc (Nat.le_refl _) _) RN_wf.out.lt))
         have RA_wg : Hid (QRow wg w1.heap.size 24 (1) ([7, 0, 0, 0, 0, 0, 0, 0])) := Lib.hid ((HO.out _ (Nat.ne_of_lt RA_wf.out.lt)).trans (QRow.below RA_wf.out ((Below.refl _ _).alloc (Nat.le_refl _) _) RA_wf.out.lt))
         have RB_wg : Hid (QRow wg w3.heap.size 24 (2) ([7, 9, 0, 0, 0, 0, 0, 0])) := Lib.hid ((HO.out _ (Nat.ne_of_lt RB_wf.out.lt)).trans (QRow.below RB_wf.out ((Below.refl _ _).alloc (Nat.le_refl _) _) RB_wf.out.lt))
         have RC_wg : Hid (QRow wg w5.heap.size 24 (1) ([9, 0, 0, 0, 0, 0, 0, 0])) := Lib.hid ((HO.out _ (Nat.ne_of_lt RC_wf.out.lt)).trans (QRow.below RC_wf.out ((Below.refl _ _).alloc (Nat.le_refl _) _) RC_wf.out.lt))
         have RD_wg : Hid (QRow wg w7.heap.size 24 (0) ([0, 0, 0, 0, 0, 0, 0, 0])) := Lib.hid ((HO.out _ (Nat.ne_of_lt RD_wf.out.lt)).trans (QRow.below RD_wf.out ((Below.refl _ _).alloc (Nat.le_refl _) _) RD_wf.out.lt))
         have RF_wg : Hid (QRow wg w9.heap.size 24 (8) ([1, 2, 3, 4, 5, 6, 7, 8])) := Lib.hid ((HO.out _ (Nat.ne_of_lt RF_wf.out.lt)).trans (QRow.below RF_wf.out ((Below.refl _ _).alloc (Nat.le_refl _) _) RF_wf.out.lt))
         have RE_wg : Hid (QRow wg wb.heap.size 24 (8) ([1, 2, 3, 4, 5, 6, 7, 8])) := Lib.hid ((HO.out _ (Nat.ne_of_lt RE_wf.out.lt)).trans (QRow.below RE_wf.out ((Below.refl _ _).alloc (Nat.le_refl _) _) RE_wf.out.lt))
         have RM_wg : Hid (QRow wg wd.heap.size 24 (2) ([1, 2, 0, 0, 0, 0, 0, 0])) := Lib.hid ((HO.out _ (Nat.ne_of_lt RM_wf.out.lt)).trans (QRow.below RM_wf.out ((Below.refl _ _).alloc (Nat.le_refl _) _) RM_wf.out.lt))
         have RO_wg : Hid (QRow wg wf.heap.size 24 (8) ([1, 2, 3, 4, 5, 6, 7, 8])) := HN
         have BB_wg : Hid (Below w.heap.size w wg) := Lib.hid ((BB_wf.out.alloc BB_wf.out.size _).trans (HB.out.mono BB_wf.out.size))
         obtain ⟨-, f1, f2, f3, f4, f5, f6, f7, f8⟩ := nine RF_wg.out
         clear HO HB HN RN_wf RA_wf RB_wf RC_wf RD_wf RF_wf RE_wf RM_wf BB_wf)
      | (go_at_call 14; have hc := BB_we; clear hc; refine (K7.out _).mono ?_; rintro e wf ⟨rfl, hB⟩
         have RN_wf : Hid (QRow wf w.heap.size 24 (0) ([0, 0, 0, 0, 0, 0, 0, 0])) := Lib.hid (QRow.below RN_we.out hB RN_we.out.lt)
         have RA_wf : Hid (QRow wf w1.heap.size 24 (1) ([7, 0, 0, 0, 0, 0, 0, 0])) := Lib.hid (QRow.below RA_we.out hB RA_we.out.lt)
         have RB_wf : Hid (QRow wf w3.heap.size 24 (2) ([7, 9, 0, 0, 0, 0, 0, 0])) := Lib.hid (QRow.below RB_we.out hB RB_we.out.lt)
         have RC_wf : Hid (QRow wf w5.heap.size 24 (1) ([9, 0, 0, 0, 0, 0, 0, 0])) := Lib.hid (QRow.below RC_we.out hB RC_we.out.lt)
         have RD_wf : Hid (QRow wf w7.heap.size 24 (0) ([0, 0, 0, 0, 0, 0, 0, 0])) := Lib.hid (QRow.below RD_we.out hB RD_we.out.lt)
         have RF_wf : Hid (QRow wf w9.heap.size 24 (8) ([1, 2, 3, 4, 5, 6, 7, 8])) := Lib.hid (QRow.below RF_we.out hB RF_we.out.lt)
         have RE_wf : Hid (QRow wf wb.heap.size 24 (8) ([1, 2, 3, 4, 5, 6, 7, 8])) := Lib.hid (QRow.below RE_we.out hB RE_we.out.lt)
         have RM_wf : Hid (QRow wf wd.heap.size 24 (2) ([1, 2, 0, 0, 0, 0, 0, 0])) := Lib.hid (QRow.below RM_we.out hB RM_we.out.lt)
         have BB_wf : Hid (Below w.heap.size w wf) := Lib.hid (BB_we.out.trans (hB.mono BB_we.out.size))
         clear f1 f2 f3 f4 f5 f6 f7 f8
         clear hB RN_we RA_we RB_we RC_we RD_we RF_we RE_we RM_we BB_we)
      | ((with_reducible show wpList _ _ _ (⟨none, .store 24 (.tmp 15) (.tmp 49), _, _, _, _⟩ :: _) _ _); refine wpList_store_q rfl 24 _ _ rfl (wd.heap.size) (by exact rfl) (2) ([1, 2, 0, 0, 0, 0, 0, 0]) (by exact rfl) (rfl) (by kernel_rfl) 24 _ _ (show QRow _ _ _ 0 [0, 0, 0, 0, 0, 0, 0, 0] from alloc_at _ _) rfl ?_; intro we HN HO HB
         have RN_we : Hid (QRow we w.heap.size 24 (0) ([0, 0, 0, 0, 0, 0, 0, 0])) := Lib.hid ((HO.out _ (Nat.ne_of_lt RN_wd.out.lt)).trans (QRow.below RN_wd.out ((Below.refl _ _).alloc (Nat.le_refl _) _) RN_wd.out.lt))
         have RA_we : Hid (QRow we w1.heap.size 24 (1) ([7, 0, 0, 0, 0, 0, 0, 0])) := Lib.hid ((HO.out _ (Nat.ne_of_lt RA_wd.out.lt)).trans (QRow.below RA_wd.out ((Below.refl _ _).alloc (Nat.le_refl _) _) RA_wd.out.lt))
         have RB_we : Hid (QRow we w3.heap.size 24 (2) ([7, 9, 0, 0, 0, 0, 0, 0])) := Lib.hid ((HO.out _ (Nat.ne_of_lt RB_wd.out.lt)).trans (QRow.below RB_wd.out ((Below.refl _ _).alloc (Nat.le_refl _) _) RB_wd.out.lt))
         have RC_we : Hid (QRow we w5.heap.size 24 (1) ([9, 0, 0, 0, 0, 0, 0, 0])) := Lib.hid ((HO.out _ (Nat.ne_of_lt RC_wd.out.lt)).trans (QRow.below RC_wd.out ((Below.refl _ _).alloc (Nat.le_refl _) _) RC_wd.out.lt))
         have RD_we : Hid (QRow we w7.heap.size 24 (0) ([0, 0, 0, 0, 0, 0, 0, 0])) := Lib.hid ((HO.out _ (Nat.ne_of_lt RD_wd.out.lt)).trans (QRow.below RD_wd.out ((Below.refl _ _).alloc (Nat.le_refl _) _) RD_wd.out.lt))
         have RF_we : Hid (QRow we w9.heap.size 24 (8) ([1, 2, 3, 4, 5, 6, 7, 8])) := Lib.hid ((HO.out _ (Nat.ne_of_lt RF_wd.out.lt)).trans (QRow.below RF_wd.out ((Below.refl _ _).alloc (Nat.le_refl _) _) RF_wd.out.lt))
         have RE_we : Hid (QRow we wb.heap.size 24 (8) ([1, 2, 3, 4, 5, 6, 7, 8])) := Lib.hid ((HO.out _ (Nat.ne_of_lt RE_wd.out.lt)).trans (QRow.below RE_wd.out ((Below.refl _ _).alloc (Nat.le_refl _) _) RE_wd.out.lt))
         have RM_we : Hid (QRow we wd.heap.size 24 (2) ([1, 2, 0, 0, 0, 0, 0, 0])) := HN
         have BB_we : Hid (Below w.heap.size w we) := Lib.hid ((BB_wd.out.alloc BB_wd.out.size _).trans (HB.out.mono BB_wd.out.size))
         obtain ⟨-, f1, f2, f3, f4, f5, f6, f7, f8⟩ := nine RF_we.out
         clear HO HB HN RN_wd RA_wd RB_wd RC_wd RD_wd RF_wd RE_wd BB_wd)
      | (go_at_call 14; have hc := BB_wc; clear hc; refine (K6.out _).mono ?_; rintro e wd ⟨rfl, hB⟩
         have RN_wd : Hid (QRow wd w.heap.size 24 (0) ([0, 0, 0, 0, 0, 0, 0, 0])) := Lib.hid (QRow.below RN_wc.out hB RN_wc.out.lt)
         have RA_wd : Hid (QRow wd w1.heap.size 24 (1) ([7, 0, 0, 0, 0, 0, 0, 0])) := Lib.hid (QRow.below RA_wc.out hB RA_wc.out.lt)
         have RB_wd : Hid (QRow wd w3.heap.size 24 (2) ([7, 9, 0, 0, 0, 0, 0, 0])) := Lib.hid (QRow.below RB_wc.out hB RB_wc.out.lt)
         have RC_wd : Hid (QRow wd w5.heap.size 24 (1) ([9, 0, 0, 0, 0, 0, 0, 0])) := Lib.hid (QRow.below RC_wc.out hB RC_wc.out.lt)
         have RD_wd : Hid (QRow wd w7.heap.size 24 (0) ([0, 0, 0, 0, 0, 0, 0, 0])) := Lib.hid (QRow.below RD_wc.out hB RD_wc.out.lt)
         have RF_wd : Hid (QRow wd w9.heap.size 24 (8) ([1, 2, 3, 4, 5, 6, 7, 8])) := Lib.hid (QRow.below RF_wc.out hB RF_wc.out.lt)
         have RE_wd : Hid (QRow wd wb.heap.size 24 (8) ([1, 2, 3, 4, 5, 6, 7, 8])) := Lib.hid (QRow.below RE_wc.out hB RE_wc.out.lt)
         have BB_wd : Hid (Below w.heap.size w wd) := Lib.hid (BB_wc.out.trans (hB.mono BB_wc.out.size))
         clear hB RN_wc RA_wc RB_wc RC_wc RD_wc RF_wc RE_wc BB_wc)
      | ((with_reducible show wpList _ _ _ (⟨none, .store 24 (.tmp 13) (.tmp 45), _, _, _, _⟩ :: _) _ _); refine wpList_store_q rfl 24 _ _ rfl (wb.heap.size) (by exact rfl) (8) ([1, 2, 3, 4, 5, 6, 7, 8]) (by exact rfl) (rfl) (by kernel_rfl) 24 _ _ (show QRow _ _ _ 0 [0, 0, 0, 0, 0, 0, 0, 0] from alloc_at _ _) rfl ?_; intro wc HN HO HB
         have RN_wc : Hid (QRow wc w.heap.size 24 (0) ([0, 0, 0, 0, 0, 0, 0, 0])) := Lib.hid ((HO.out _ (Nat.ne_of_lt RN_wb.out.lt)).trans (QRow.below RN_wb.out ((Below.refl _ _).alloc (Nat.le_refl _) _) RN_wb.out.lt))
         have RA_wc : Hid (QRow wc w1.heap.size 24 (1) ([7, 0, 0, 0, 0, 0, 0, 0])) := Lib.hid ((HO.out _ (Nat.ne_of_lt RA_wb.out.lt)).trans (QRow.below RA_wb.out ((Below.refl _ _).alloc (Nat.le_refl _) _) RA_wb.out.lt))
         have RB_wc : Hid (QRow wc w3.heap.size 24 (2) ([7, 9, 0, 0, 0, 0, 0, 0])) := Lib.hid ((HO.out _ (Nat.ne_of_lt RB_wb.out.lt)).trans (QRow.below RB_wb.out ((Below.refl _ _).alloc (Nat.le_refl _) _) RB_wb.out.lt))
         have RC_wc : Hid (QRow wc w5.heap.size 24 (1) ([9, 0, 0, 0, 0, 0, 0, 0])) := Lib.hid ((HO.out _ (Nat.ne_of_lt RC_wb.out.lt)).trans (QRow.below RC_wb.out ((Below.refl _ _).alloc (Nat.le_refl _) _) RC_wb.out.lt))
         have RD_wc : Hid (QRow wc w7.heap.size 24 (0) ([0, 0, 0, 0, 0, 0, 0, 0])) := Lib.hid ((HO.out _ (Nat.ne_of_lt RD_wb.out.lt)).trans (QRow.below RD_wb.out ((Below.refl _ _).alloc (Nat.le_refl _) _) RD_wb.out.lt))
         have RF_wc : Hid (QRow wc w9.heap.size 24 (8) ([1, 2, 3, 4, 5, 6, 7, 8])) := Lib.hid ((HO.out _ (Nat.ne_of_lt RF_wb.out.lt)).trans (QRow.below RF_wb.out ((Below.refl _ _).alloc (Nat.le_refl _) _) RF_wb.out.lt))
         have RE_wc : Hid (QRow wc wb.heap.size 24 (8) ([1, 2, 3, 4, 5, 6, 7, 8])) := HN
         have BB_wc : Hid (Below w.heap.size w wc) := Lib.hid ((BB_wb.out.alloc BB_wb.out.size _).trans (HB.out.mono BB_wb.out.size))
         clear HO HB HN RN_wb RA_wb RB_wb RC_wb RD_wb RF_wb BB_wb)
      | (go_at_call 11; have hc := BB_wa; clear hc; refine (K5.out _).mono ?_; rintro e wb ⟨rfl, hB⟩
         have RN_wb : Hid (QRow wb w.heap.size 24 (0) ([0, 0, 0, 0, 0, 0, 0, 0])) := Lib.hid (QRow.below RN_wa.out hB RN_wa.out.lt)
         have RA_wb : Hid (QRow wb w1.heap.size 24 (1) ([7, 0, 0, 0, 0, 0, 0, 0])) := Lib.hid (QRow.below RA_wa.out hB RA_wa.out.lt)
         have RB_wb : Hid (QRow wb w3.heap.size 24 (2) ([7, 9, 0, 0, 0, 0, 0, 0])) := Lib.hid (QRow.below RB_wa.out hB RB_wa.out.lt)
         have RC_wb : Hid (QRow wb w5.heap.size 24 (1) ([9, 0, 0, 0, 0, 0, 0, 0])) := Lib.hid (QRow.below RC_wa.out hB RC_wa.out.lt)
         have RD_wb : Hid (QRow wb w7.heap.size 24 (0) ([0, 0, 0, 0, 0, 0, 0, 0])) := Lib.hid (QRow.below RD_wa.out hB RD_wa.out.lt)
         have RF_wb : Hid (QRow wb w9.heap.size 24 (8) ([1, 2, 3, 4, 5, 6, 7, 8])) := Lib.hid (QRow.below RF_wa.out hB RF_wa.out.lt)
         have BB_wb : Hid (Below w.heap.size w wb) := Lib.hid (BB_wa.out.trans (hB.mono BB_wa.out.size))
         clear hB RN_wa RA_wa RB_wa RC_wa RD_wa RF_wa BB_wa)
      | ((with_reducible show wpList _ _ _ (⟨some 43, .load 24 (.tmp 12), _, _, _, _⟩ :: _) _ _); refine wpList_load_w (by rfl) 24 _ rfl (w9.heap.size) (by exact rfl) _ Try.underlying24 (by kernel_rfl) 24 _ _ (RF_wa.out) (rfl) ?_)
      | ((with_reducible show wpList _ _ _ (⟨none, .store 24 (.tmp 12) (.tmp 41), _, _, _, _⟩ :: _) _ _); refine wpList_store_q rfl 24 _ _ rfl (w9.heap.size) (by exact rfl) (8) ([1, 2, 3, 4, 5, 6, 7, 8]) (by exact rfl) (rfl) (by kernel_rfl) 24 _ _ (show QRow _ _ _ 0 [0, 0, 0, 0, 0, 0, 0, 0] from alloc_at _ _) rfl ?_; intro wa HN HO HB
         have RN_wa : Hid (QRow wa w.heap.size 24 (0) ([0, 0, 0, 0, 0, 0, 0, 0])) := Lib.hid ((HO.out _ (Nat.ne_of_lt RN_w9.out.lt)).trans (QRow.below RN_w9.out ((Below.refl _ _).alloc (Nat.le_refl _) _) RN_w9.out.lt))
         have RA_wa : Hid (QRow wa w1.heap.size 24 (1) ([7, 0, 0, 0, 0, 0, 0, 0])) := Lib.hid ((HO.out _ (Nat.ne_of_lt RA_w9.out.lt)).trans (QRow.below RA_w9.out ((Below.refl _ _).alloc (Nat.le_refl _) _) RA_w9.out.lt))
         have RB_wa : Hid (QRow wa w3.heap.size 24 (2) ([7, 9, 0, 0, 0, 0, 0, 0])) := Lib.hid ((HO.out _ (Nat.ne_of_lt RB_w9.out.lt)).trans (QRow.below RB_w9.out ((Below.refl _ _).alloc (Nat.le_refl _) _) RB_w9.out.lt))
         have RC_wa : Hid (QRow wa w5.heap.size 24 (1) ([9, 0, 0, 0, 0, 0, 0, 0])) := Lib.hid ((HO.out _ (Nat.ne_of_lt RC_w9.out.lt)).trans (QRow.below RC_w9.out ((Below.refl _ _).alloc (Nat.le_refl _) _) RC_w9.out.lt))
         have RD_wa : Hid (QRow wa w7.heap.size 24 (0) ([0, 0, 0, 0, 0, 0, 0, 0])) := Lib.hid ((HO.out _ (Nat.ne_of_lt RD_w9.out.lt)).trans (QRow.below RD_w9.out ((Below.refl _ _).alloc (Nat.le_refl _) _) RD_w9.out.lt))
         have RF_wa : Hid (QRow wa w9.heap.size 24 (8) ([1, 2, 3, 4, 5, 6, 7, 8])) := HN
         have BB_wa : Hid (Below w.heap.size w wa) := Lib.hid ((BB_w9.out.alloc BB_w9.out.size _).trans (HB.out.mono BB_w9.out.size))
         clear HO HB HN RN_w9 RA_w9 RB_w9 RC_w9 RD_w9 BB_w9)
      | (go_at_call 8; have hc := BB_w8; clear hc; refine (KF.out _).mono ?_; rintro e w9 ⟨rfl, hB⟩
         have RN_w9 : Hid (QRow w9 w.heap.size 24 (0) ([0, 0, 0, 0, 0, 0, 0, 0])) := Lib.hid (QRow.below (QRow.below RN_w8.out ((Below.refl _ _).alloc (Nat.le_refl _) _) RN_w8.out.lt) hB (Nat.lt_of_lt_of_le RN_w8.out.lt (by simp)))
         have RA_w9 : Hid (QRow w9 w1.heap.size 24 (1) ([7, 0, 0, 0, 0, 0, 0, 0])) := Lib.hid (QRow.below (QRow.below RA_w8.out ((Below.refl _ _).alloc (Nat.le_refl _) _) RA_w8.out.lt) hB (Nat.lt_of_lt_of_le RA_w8.out.lt (by simp)))
         have RB_w9 : Hid (QRow w9 w3.heap.size 24 (2) ([7, 9, 0, 0, 0, 0, 0, 0])) := Lib.hid (QRow.below (QRow.below RB_w8.out ((Below.refl _ _).alloc (Nat.le_refl _) _) RB_w8.out.lt) hB (Nat.lt_of_lt_of_le RB_w8.out.lt (by simp)))
         have RC_w9 : Hid (QRow w9 w5.heap.size 24 (1) ([9, 0, 0, 0, 0, 0, 0, 0])) := Lib.hid (QRow.below (QRow.below RC_w8.out ((Below.refl _ _).alloc (Nat.le_refl _) _) RC_w8.out.lt) hB (Nat.lt_of_lt_of_le RC_w8.out.lt (by simp)))
         have RD_w9 : Hid (QRow w9 w7.heap.size 24 (0) ([0, 0, 0, 0, 0, 0, 0, 0])) := Lib.hid (QRow.below (QRow.below RD_w8.out ((Below.refl _ _).alloc (Nat.le_refl _) _) RD_w8.out.lt) hB (Nat.lt_of_lt_of_le RD_w8.out.lt (by simp)))
         have BB_w9 : Hid (Below w.heap.size w w9) := Lib.hid ((BB_w8.out.alloc BB_w8.out.size _).trans (hB.mono (Nat.le_trans BB_w8.out.size (by simp))))
         clear hB RN_w8 RA_w8 RB_w8 RC_w8 RD_w8 BB_w8)
      | ((with_reducible show wpList _ _ _ (⟨none, .store 24 (.tmp 10) (.tmp 38), _, _, _, _⟩ :: _) _ _); refine wpList_store_q rfl 24 _ _ rfl (w7.heap.size) (by exact rfl) (0) ([0, 0, 0, 0, 0, 0, 0, 0]) (by exact rfl) (rfl) (by kernel_rfl) 24 _ _ (show QRow _ _ _ 0 [0, 0, 0, 0, 0, 0, 0, 0] from alloc_at _ _) rfl ?_; intro w8 HN HO HB
         have RN_w8 : Hid (QRow w8 w.heap.size 24 (0) ([0, 0, 0, 0, 0, 0, 0, 0])) := Lib.hid ((HO.out _ (Nat.ne_of_lt RN_w7.out.lt)).trans (QRow.below RN_w7.out ((Below.refl _ _).alloc (Nat.le_refl _) _) RN_w7.out.lt))
         have RA_w8 : Hid (QRow w8 w1.heap.size 24 (1) ([7, 0, 0, 0, 0, 0, 0, 0])) := Lib.hid ((HO.out _ (Nat.ne_of_lt RA_w7.out.lt)).trans (QRow.below RA_w7.out ((Below.refl _ _).alloc (Nat.le_refl _) _) RA_w7.out.lt))
         have RB_w8 : Hid (QRow w8 w3.heap.size 24 (2) ([7, 9, 0, 0, 0, 0, 0, 0])) := Lib.hid ((HO.out _ (Nat.ne_of_lt RB_w7.out.lt)).trans (QRow.below RB_w7.out ((Below.refl _ _).alloc (Nat.le_refl _) _) RB_w7.out.lt))
         have RC_w8 : Hid (QRow w8 w5.heap.size 24 (1) ([9, 0, 0, 0, 0, 0, 0, 0])) := Lib.hid ((HO.out _ (Nat.ne_of_lt RC_w7.out.lt)).trans (QRow.below RC_w7.out ((Below.refl _ _).alloc (Nat.le_refl _) _) RC_w7.out.lt))
         have RD_w8 : Hid (QRow w8 w7.heap.size 24 (0) ([0, 0, 0, 0, 0, 0, 0, 0])) := HN
         have BB_w8 : Hid (Below w.heap.size w w8) := Lib.hid ((BB_w7.out.alloc BB_w7.out.size _).trans (HB.out.mono BB_w7.out.size))
         clear HO HB HN RN_w7 RA_w7 RB_w7 RC_w7 BB_w7)
      | (go_at_call 12; have hc := BB_w6; clear hc; refine (K4.out _).mono ?_; rintro e w7 ⟨rfl, hB⟩
         have RN_w7 : Hid (QRow w7 w.heap.size 24 (0) ([0, 0, 0, 0, 0, 0, 0, 0])) := Lib.hid (QRow.below RN_w6.out hB RN_w6.out.lt)
         have RA_w7 : Hid (QRow w7 w1.heap.size 24 (1) ([7, 0, 0, 0, 0, 0, 0, 0])) := Lib.hid (QRow.below RA_w6.out hB RA_w6.out.lt)
         have RB_w7 : Hid (QRow w7 w3.heap.size 24 (2) ([7, 9, 0, 0, 0, 0, 0, 0])) := Lib.hid (QRow.below RB_w6.out hB RB_w6.out.lt)
         have RC_w7 : Hid (QRow w7 w5.heap.size 24 (1) ([9, 0, 0, 0, 0, 0, 0, 0])) := Lib.hid (QRow.below RC_w6.out hB RC_w6.out.lt)
         have BB_w7 : Hid (Below w.heap.size w w7) := Lib.hid (BB_w6.out.trans (hB.mono BB_w6.out.size))
         clear hB RN_w6 RA_w6 RB_w6 RC_w6 BB_w6)
      | ((with_reducible show wpList _ _ _ (⟨some 35, .load 24 (.tmp 1), _, _, _, _⟩ :: _) _ _); refine wpList_load_w (by rfl) 24 _ rfl (w.heap.size) (by exact rfl) _ Try.underlying24 (by kernel_rfl) 24 _ _ (RN_w6.out) (rfl) ?_)
      | ((with_reducible show wpList _ _ _ (⟨none, .store 24 (.tmp 7) (.tmp 32), _, _, _, _⟩ :: _) _ _); refine wpList_store_q rfl 24 _ _ rfl (w5.heap.size) (by exact rfl) (1) ([9, 0, 0, 0, 0, 0, 0, 0]) (by exact rfl) (rfl) (by kernel_rfl) 24 _ _ (show QRow _ _ _ 0 [0, 0, 0, 0, 0, 0, 0, 0] from alloc_at _ _) rfl ?_; intro w6 HN HO HB
         have RN_w6 : Hid (QRow w6 w.heap.size 24 (0) ([0, 0, 0, 0, 0, 0, 0, 0])) := Lib.hid ((HO.out _ (Nat.ne_of_lt RN_w5.out.lt)).trans (QRow.below RN_w5.out ((Below.refl _ _).alloc (Nat.le_refl _) _) RN_w5.out.lt))
         have RA_w6 : Hid (QRow w6 w1.heap.size 24 (1) ([7, 0, 0, 0, 0, 0, 0, 0])) := Lib.hid ((HO.out _ (Nat.ne_of_lt RA_w5.out.lt)).trans (QRow.below RA_w5.out ((Below.refl _ _).alloc (Nat.le_refl _) _) RA_w5.out.lt))
         have RB_w6 : Hid (QRow w6 w3.heap.size 24 (2) ([7, 9, 0, 0, 0, 0, 0, 0])) := Lib.hid ((HO.out _ (Nat.ne_of_lt RB_w5.out.lt)).trans (QRow.below RB_w5.out ((Below.refl _ _).alloc (Nat.le_refl _) _) RB_w5.out.lt))
         have RC_w6 : Hid (QRow w6 w5.heap.size 24 (1) ([9, 0, 0, 0, 0, 0, 0, 0])) := HN
         have BB_w6 : Hid (Below w.heap.size w w6) := Lib.hid ((BB_w5.out.alloc BB_w5.out.size _).trans (HB.out.mono BB_w5.out.size))
         clear HO HB HN RN_w5 RA_w5 RB_w5 BB_w5)
      | (go_at_call 12; have hc := BB_w4; clear hc; refine (K3.out _).mono ?_; rintro e w5 ⟨rfl, hB⟩
         have RN_w5 : Hid (QRow w5 w.heap.size 24 (0) ([0, 0, 0, 0, 0, 0, 0, 0])) := Lib.hid (QRow.below RN_w4.out hB RN_w4.out.lt)
         have RA_w5 : Hid (QRow w5 w1.heap.size 24 (1) ([7, 0, 0, 0, 0, 0, 0, 0])) := Lib.hid (QRow.below RA_w4.out hB RA_w4.out.lt)
         have RB_w5 : Hid (QRow w5 w3.heap.size 24 (2) ([7, 9, 0, 0, 0, 0, 0, 0])) := Lib.hid (QRow.below RB_w4.out hB RB_w4.out.lt)
         have BB_w5 : Hid (Below w.heap.size w w5) := Lib.hid (BB_w4.out.trans (hB.mono BB_w4.out.size))
         clear hB RN_w4 RA_w4 RB_w4 BB_w4)
      | ((with_reducible show wpList _ _ _ (⟨some 29, .load 24 (.tmp 4), _, _, _, _⟩ :: _) _ _); refine wpList_load_w (by rfl) 24 _ rfl (w3.heap.size) (by exact rfl) _ Try.underlying24 (by kernel_rfl) 24 _ _ (RB_w4.out) (rfl) ?_)
      | ((with_reducible show wpList _ _ _ (⟨none, .store 24 (.tmp 4) (.tmp 26), _, _, _, _⟩ :: _) _ _); refine wpList_store_q rfl 24 _ _ rfl (w3.heap.size) (by exact rfl) (2) ([7, 9, 0, 0, 0, 0, 0, 0]) (by exact rfl) (rfl) (by kernel_rfl) 24 _ _ (show QRow _ _ _ 0 [0, 0, 0, 0, 0, 0, 0, 0] from alloc_at _ _) rfl ?_; intro w4 HN HO HB
         have RN_w4 : Hid (QRow w4 w.heap.size 24 (0) ([0, 0, 0, 0, 0, 0, 0, 0])) := Lib.hid ((HO.out _ (Nat.ne_of_lt RN_w3.out.lt)).trans (QRow.below RN_w3.out ((Below.refl _ _).alloc (Nat.le_refl _) _) RN_w3.out.lt))
         have RA_w4 : Hid (QRow w4 w1.heap.size 24 (1) ([7, 0, 0, 0, 0, 0, 0, 0])) := Lib.hid ((HO.out _ (Nat.ne_of_lt RA_w3.out.lt)).trans (QRow.below RA_w3.out ((Below.refl _ _).alloc (Nat.le_refl _) _) RA_w3.out.lt))
         have RB_w4 : Hid (QRow w4 w3.heap.size 24 (2) ([7, 9, 0, 0, 0, 0, 0, 0])) := HN
         have BB_w4 : Hid (Below w.heap.size w w4) := Lib.hid ((BB_w3.out.alloc BB_w3.out.size _).trans (HB.out.mono BB_w3.out.size))
         clear HO HB HN RN_w3 RA_w3 BB_w3)
      | (go_at_call 11; have hc := BB_w2; clear hc; refine (K2.out _).mono ?_; rintro e w3 ⟨rfl, hB⟩
         have RN_w3 : Hid (QRow w3 w.heap.size 24 (0) ([0, 0, 0, 0, 0, 0, 0, 0])) := Lib.hid (QRow.below RN_w2.out hB RN_w2.out.lt)
         have RA_w3 : Hid (QRow w3 w1.heap.size 24 (1) ([7, 0, 0, 0, 0, 0, 0, 0])) := Lib.hid (QRow.below RA_w2.out hB RA_w2.out.lt)
         have BB_w3 : Hid (Below w.heap.size w w3) := Lib.hid (BB_w2.out.trans (hB.mono BB_w2.out.size))
         clear hB RN_w2 RA_w2 BB_w2)
      | ((with_reducible show wpList _ _ _ (⟨some 24, .load 24 (.tmp 2), _, _, _, _⟩ :: _) _ _); refine wpList_load_w (by rfl) 24 _ rfl (w1.heap.size) (by exact rfl) _ Try.underlying24 (by kernel_rfl) 24 _ _ (RA_w2.out) (rfl) ?_)
      | ((with_reducible show wpList _ _ _ (⟨none, .store 24 (.tmp 2) (.tmp 21), _, _, _, _⟩ :: _) _ _); refine wpList_store_q rfl 24 _ _ rfl (w1.heap.size) (by exact rfl) (1) ([7, 0, 0, 0, 0, 0, 0, 0]) (by exact rfl) (rfl) (by kernel_rfl) 24 _ _ (show QRow _ _ _ 0 [0, 0, 0, 0, 0, 0, 0, 0] from alloc_at _ _) rfl ?_; intro w2 HN HO HB
         have RN_w2 : Hid (QRow w2 w.heap.size 24 (0) ([0, 0, 0, 0, 0, 0, 0, 0])) := Lib.hid ((HO.out _ (Nat.ne_of_lt RN_w1.out.lt)).trans (QRow.below RN_w1.out ((Below.refl _ _).alloc (Nat.le_refl _) _) RN_w1.out.lt))
         have RA_w2 : Hid (QRow w2 w1.heap.size 24 (1) ([7, 0, 0, 0, 0, 0, 0, 0])) := HN
         have BB_w2 : Hid (Below w.heap.size w w2) := Lib.hid ((BB_w1.out.alloc BB_w1.out.size _).trans (HB.out.mono BB_w1.out.size))
         clear HO HB HN RN_w1 BB_w1)
      | (go_at_call 11; refine (K1.out _).mono ?_; rintro e w1 ⟨rfl, hB⟩
         have RN_w1 : Hid (QRow w1 w.heap.size 24 (0) ([0, 0, 0, 0, 0, 0, 0, 0])) := Lib.hid (QRow.below (alloc_at _ _) hB (by simp))
         have BB_w1 : Hid (Below w.heap.size w w1) := Lib.hid (((Below.refl _ _).alloc (Nat.le_refl _) _).trans (hB.mono (by simp)))
         clear hB))
  simp only [List.append_eq, List.cons_append, List.nil_append]
  go_wp2_with (first
      | (go_at_call 13; have hc := BZ_6; clear hc; refine (is_any [] none 0 _ (by decide) (by decide) (RdB.nil_ _ _)).mono ?_; rintro e x7 ⟨rfl, hB⟩
         have BZ_7 : Hid (Below wz.heap.size wz x7) := Lib.hid (BZ_6.out.trans (hB.mono BZ_6.out.size))
         clear hB BZ_6)
      | ((with_reducible show wpList _ _ _ (⟨some 121, .load 24 (.tmp 17), _, _, _, _⟩ :: _) _ _); refine wpList_load_w (by kernel_rfl) 24 _ rfl (wh.heap.size) (by exact rfl) _ Try.underlying24 (by kernel_rfl) 24 _ _ (QRow.below RP_wz.out BZ_6.out RP_wz.out.lt) (rfl) ?_)
      | ((with_reducible show wpList _ _ _ (⟨some 117, .load 24 (.tmp 12), _, _, _, _⟩ :: _) _ _); refine wpList_load_w (by kernel_rfl) 24 _ rfl (w9.heap.size) (by exact rfl) _ Try.underlying24 (by kernel_rfl) 24 _ _ (QRow.below RF_wz.out BZ_6.out RF_wz.out.lt) (rfl) ?_)
      | ((with_reducible show wpList _ _ _ (⟨some 116, .load 24 (.tmp 16), _, _, _, _⟩ :: _) _ _); refine wpList_load_w (by kernel_rfl) 24 _ rfl (wf.heap.size) (by exact rfl) _ Try.underlying24 (by kernel_rfl) 24 _ _ (QRow.below RO_wz.out BZ_6.out RO_wz.out.lt) (rfl) ?_)
      | (go_at_call 13; have hc := BZ_5; clear hc; refine (is_any [1, 2] _ 2 _ (by decide) (by decide) (show RdB _ _ _ [1, 2] from rdb_new _ [1, 2] 5)).mono ?_; rintro e x6 ⟨rfl, hB⟩
         have BZ_6 : Hid (Below wz.heap.size wz x6) := Lib.hid ((BZ_5.out.alloc BZ_5.out.size _).trans (hB.mono (Nat.le_trans BZ_5.out.size (by simp))))
         clear hB BZ_5)
      | ((with_reducible show wpList _ _ _ (⟨some 111, .load 24 (.tmp 15), _, _, _, _⟩ :: _) _ _); refine wpList_load_w (by kernel_rfl) 24 _ rfl (wd.heap.size) (by exact rfl) _ Try.underlying24 (by kernel_rfl) 24 _ _ (QRow.below RM_wz.out BZ_5.out RM_wz.out.lt) (rfl) ?_)
      | (go_at_call 13; have hc := BZ_4; clear hc; refine (is_any [1, 2, 3, 4, 5, 6, 7, 8] _ 8 _ (by decide) (by decide) (show RdB _ _ _ [1, 2, 3, 4, 5, 6, 7, 8] from rdb_new _ [1, 2, 3, 4, 5, 6, 7, 8] 5)).mono ?_; rintro e x5 ⟨rfl, hB⟩
         have BZ_5 : Hid (Below wz.heap.size wz x5) := Lib.hid ((BZ_4.out.alloc BZ_4.out.size _).trans (hB.mono (Nat.le_trans BZ_4.out.size (by simp))))
         clear hB BZ_4)
      | ((with_reducible show wpList _ _ _ (⟨some 106, .load 24 (.tmp 12), _, _, _, _⟩ :: _) _ _); refine wpList_load_w (by kernel_rfl) 24 _ rfl (w9.heap.size) (by exact rfl) _ Try.underlying24 (by kernel_rfl) 24 _ _ (QRow.below RF_wz.out BZ_4.out RF_wz.out.lt) (rfl) ?_)
      | ((with_reducible show wpList _ _ _ (⟨some 102, .load 24 (.tmp 12), _, _, _, _⟩ :: _) _ _); refine wpList_load_w (by kernel_rfl) 24 _ rfl (w9.heap.size) (by exact rfl) _ Try.underlying24 (by kernel_rfl) 24 _ _ (QRow.below RF_wz.out BZ_4.out RF_wz.out.lt) (rfl) ?_)
      | ((with_reducible show wpList _ _ _ (⟨some 101, .load 24 (.tmp 13), _, _, _, _⟩ :: _) _ _); refine wpList_load_w (by kernel_rfl) 24 _ rfl (wb.heap.size) (by exact rfl) _ Try.underlying24 (by kernel_rfl) 24 _ _ (QRow.below RE_wz.out BZ_4.out RE_wz.out.lt) (rfl) ?_)
      | (go_at_call 13; have hc := BZ_3; clear hc; refine (is_any [] none 0 _ (by decide) (by decide) (RdB.nil_ _ _)).mono ?_; rintro e x4 ⟨rfl, hB⟩
         have BZ_4 : Hid (Below wz.heap.size wz x4) := Lib.hid (BZ_3.out.trans (hB.mono BZ_3.out.size))
         clear hB BZ_3)
      | ((with_reducible show wpList _ _ _ (⟨some 93, .load 24 (.tmp 10), _, _, _, _⟩ :: _) _ _); refine wpList_load_w (by kernel_rfl) 24 _ rfl (w7.heap.size) (by exact rfl) _ Try.underlying24 (by kernel_rfl) 24 _ _ (QRow.below RD_wz.out BZ_3.out RD_wz.out.lt) (rfl) ?_)
      | (go_at_call 13; have hc := BZ_2; clear hc; refine (is_any [9] _ 1 _ (by decide) (by decide) (show RdB _ _ _ [9] from rdb_new _ [9] 5)).mono ?_; rintro e x3 ⟨rfl, hB⟩
         have BZ_3 : Hid (Below wz.heap.size wz x3) := Lib.hid ((BZ_2.out.alloc BZ_2.out.size _).trans (hB.mono (Nat.le_trans BZ_2.out.size (by simp))))
         clear hB BZ_2)
      | ((with_reducible show wpList _ _ _ (⟨some 80, .load 24 (.tmp 7), _, _, _, _⟩ :: _) _ _); refine wpList_load_w (by kernel_rfl) 24 _ rfl (w5.heap.size) (by exact rfl) _ Try.underlying24 (by kernel_rfl) 24 _ _ (QRow.below RC_wz.out BZ_2.out RC_wz.out.lt) (rfl) ?_)
      | (go_at_call 13; have hc := BZ_1; clear hc; refine (is_any [7, 9] _ 2 _ (by decide) (by decide) (show RdB _ _ _ [7, 9] from rdb_new _ [7, 9] 5)).mono ?_; rintro e x2 ⟨rfl, hB⟩
         have BZ_2 : Hid (Below wz.heap.size wz x2) := Lib.hid ((BZ_1.out.alloc BZ_1.out.size _).trans (hB.mono (Nat.le_trans BZ_1.out.size (by simp))))
         clear hB BZ_1)
      | ((with_reducible show wpList _ _ _ (⟨some 68, .load 24 (.tmp 4), _, _, _, _⟩ :: _) _ _); refine wpList_load_w (by kernel_rfl) 24 _ rfl (w3.heap.size) (by exact rfl) _ Try.underlying24 (by kernel_rfl) 24 _ _ (QRow.below RB_wz.out BZ_1.out RB_wz.out.lt) (rfl) ?_)
      | (go_at_call 13; have hc := BZ_0; clear hc; refine (is_any [7] _ 1 _ (by decide) (by decide) (show RdB _ _ _ [7] from rdb_new _ [7] 5)).mono ?_; rintro e x1 ⟨rfl, hB⟩
         have BZ_1 : Hid (Below wz.heap.size wz x1) := Lib.hid ((BZ_0.out.alloc BZ_0.out.size _).trans (hB.mono (Nat.le_trans BZ_0.out.size (by simp))))
         clear hB BZ_0)
      | ((with_reducible show wpList _ _ _ (⟨some 60, .load 24 (.tmp 2), _, _, _, _⟩ :: _) _ _); refine wpList_load_w (by kernel_rfl) 24 _ rfl (w1.heap.size) (by exact rfl) _ Try.underlying24 (by kernel_rfl) 24 _ _ (QRow.below RA_wz.out BZ_0.out RA_wz.out.lt) (rfl) ?_))
  go_ret
  exact ⟨rfl, BB_wz.out.trans (BZ_7.out.mono BB_wz.out.size)⟩
end Go.Proofs.Ytebapciapnebgaa
