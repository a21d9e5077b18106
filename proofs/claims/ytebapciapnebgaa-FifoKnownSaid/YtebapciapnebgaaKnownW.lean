/-
  FifoKnown's walk: the chapter's examples, full ones, values that are none: true. Made by wip/genfifoknown.py.
-/
import Derived.Test.YtebapciapnebgaaWorks
namespace Go.Proofs.Ytebapciapnebgaa
open Go.RowKit
set_option linter.unusedVariables false
set_option maxHeartbeats 1000000 in
set_option maxRecDepth 100000 in
theorem known_walk (w : World) : Calls Try.prog 5 #[] w fun e w' => e = .returned (.bool true) ∧ Below w.heap.size w w' := by
  have K1 : Hid (∀ W : World, Calls Try.prog 11 #[qv (2) [5, 6, 1, 0, 0, 0, 0, 0], .int .u8 7] W fun e w' => e = .returned (.tuple #[qv (3) [5, 6, 7, 0, 0, 0, 0, 0], .bool true]) ∧ Below W.heap.size W w') := Lib.hid (fun W => by
    have h := push_any (2) [5, 6, 1, 0, 0, 0, 0, 0] 7 W rfl (by decide) (by decide)
    rw [show pushV (cutL (2) [5, 6, 1, 0, 0, 0, 0, 0]) 7 = .tuple #[qv (3) [5, 6, 7, 0, 0, 0, 0, 0], .bool true] from by kernel_rfl] at h
    exact h)
  have K2 : Hid (∀ W : World, Calls Try.prog 11 #[qv (9) [0, 0, 0, 0, 0, 0, 0, 0], .int .u8 7] W fun e w' => e = .returned (.tuple #[qv (8) [0, 0, 0, 0, 0, 0, 0, 0], .bool false]) ∧ Below W.heap.size W w') := Lib.hid (fun W => by
    have h := push_any (9) [0, 0, 0, 0, 0, 0, 0, 0] 7 W rfl (by decide) (by decide)
    rw [show pushV (cutL (9) [0, 0, 0, 0, 0, 0, 0, 0]) 7 = .tuple #[qv (8) [0, 0, 0, 0, 0, 0, 0, 0], .bool false] from by kernel_rfl] at h
    exact h)
  have K3 : Hid (∀ W : World, Calls Try.prog 12 #[qv (9) [0, 0, 0, 0, 0, 0, 0, 0]] W fun e w' => e = .returned (.tuple #[.int .u8 0, qv (7) [0, 0, 0, 0, 0, 0, 0, 0], .bool true]) ∧ Below W.heap.size W w') := Lib.hid (fun W => by
    have h := pop_any (9) [0, 0, 0, 0, 0, 0, 0, 0] W rfl (by decide) (by decide)
    rw [show popV (cutL (9) [0, 0, 0, 0, 0, 0, 0, 0]) = .tuple #[.int .u8 0, qv (7) [0, 0, 0, 0, 0, 0, 0, 0], .bool true] from by kernel_rfl] at h
    exact h)
  have K4 : Hid (∀ W : World, Calls Try.prog 12 #[qv (-9) [0, 0, 0, 0, 0, 0, 0, 0]] W fun e w' => e = .returned (.tuple #[.int .u8 0, qv (0) [0, 0, 0, 0, 0, 0, 0, 0], .bool false]) ∧ Below W.heap.size W w') := Lib.hid (fun W => by
    have h := pop_any (-9) [0, 0, 0, 0, 0, 0, 0, 0] W rfl (by decide) (by decide)
    rw [show popV (cutL (-9) [0, 0, 0, 0, 0, 0, 0, 0]) = .tuple #[.int .u8 0, qv (0) [0, 0, 0, 0, 0, 0, 0, 0], .bool false] from by kernel_rfl] at h
    exact h)
  have K5 : Hid (∀ W : World, Calls Try.prog 15 #[qv (2) [5, 6, 1, 0, 0, 0, 0, 0]] W fun e w' => e = .returned (.bool false) ∧ Below W.heap.size W w') := Lib.hid (fun W => by
    have h := right_any (2) [5, 6, 1, 0, 0, 0, 0, 0] W rfl (by decide) (by decide)
    rw [show rightB (2) [5, 6, 1, 0, 0, 0, 0, 0] = false from by kernel_rfl] at h
    exact h)
  have K6 : Hid (∀ W : World, Calls Try.prog 15 #[qv (-9) [0, 0, 0, 0, 0, 0, 0, 0]] W fun e w' => e = .returned (.bool false) ∧ Below W.heap.size W w') := Lib.hid (fun W => by
    have h := right_any (-9) [0, 0, 0, 0, 0, 0, 0, 0] W rfl (by decide) (by decide)
    rw [show rightB (-9) [0, 0, 0, 0, 0, 0, 0, 0] = false from by kernel_rfl] at h
    exact h)
  have K7 : Hid (∀ W : World, Calls Try.prog 15 #[qv (9) [0, 0, 0, 0, 0, 0, 0, 0]] W fun e w' => e = .returned (.bool false) ∧ Below W.heap.size W w') := Lib.hid (fun W => by
    have h := right_any (9) [0, 0, 0, 0, 0, 0, 0, 0] W rfl (by decide) (by decide)
    rw [show rightB (9) [0, 0, 0, 0, 0, 0, 0, 0] = false from by kernel_rfl] at h
    exact h)
  have K8 : Hid (∀ W : World, Calls Try.prog 15 #[qv (2) [5, 6, 0, 0, 0, 0, 0, 0]] W fun e w' => e = .returned (.bool true) ∧ Below W.heap.size W w') := Lib.hid (fun W => by
    have h := right_any (2) [5, 6, 0, 0, 0, 0, 0, 0] W rfl (by decide) (by decide)
    rw [show rightB (2) [5, 6, 0, 0, 0, 0, 0, 0] = true from by kernel_rfl] at h
    exact h)
  have K9 : Hid (∀ W : World, Calls Try.prog 15 #[qv (0) [0, 0, 0, 0, 0, 0, 0, 0]] W fun e w' => e = .returned (.bool true) ∧ Below W.heap.size W w') := Lib.hid (fun W => by
    have h := right_any (0) [0, 0, 0, 0, 0, 0, 0, 0] W rfl (by decide) (by decide)
    rw [show rightB (0) [0, 0, 0, 0, 0, 0, 0, 0] = true from by kernel_rfl] at h
    exact h)
  have KF : Hid (∀ W : World, Calls Try.prog 8 #[.slice (some ⟨W.heap.size, 0, none⟩) 2 2] (W.alloc (.cells (bvals [5, 6]).toArray 5)) fun e w' => e = .returned (qv 2 [5, 6, 0, 0, 0, 0, 0, 0]) ∧ Below (W.alloc (.cells (bvals [5, 6]).toArray 5)).heap.size (W.alloc (.cells (bvals [5, 6]).toArray 5)) w') := Lib.hid (fun W => by
    have h := of_any (some ⟨W.heap.size, 0, none⟩) 2 2 [5, 6] _ rfl (by decide) (rdb_new W [5, 6] 5)
    rw [show ofV [5, 6] = qv 2 [5, 6, 0, 0, 0, 0, 0, 0] from by kernel_rfl] at h
    exact h)
  have KN : Hid (∀ W : World, Calls Try.prog 8 #[.slice none 0 0] W fun e w' => e = .returned (qv 0 [0, 0, 0, 0, 0, 0, 0, 0]) ∧ Below W.heap.size W w') := Lib.hid (fun W => by
    have h := of_any none 0 0 [] W rfl (by decide) (RdB.nil_ _ _)
    rw [show ofV [] = qv 0 [0, 0, 0, 0, 0, 0, 0, 0] from by kernel_rfl] at h
    exact h)
  have KA : Hid (∀ W : World, Calls Try.prog 16 #[qv (-9) [0, 0, 0, 0, 0, 0, 0, 0]] W fun e w' => ∃ v, e = .returned v ∧ Own w' W.heap.size v [] ∧ Below W.heap.size W w') := Lib.hid (fun W => all_any (-9) [0, 0, 0, 0, 0, 0, 0, 0] W rfl (by decide) (by decide))
  go_enter Try.func5, Try.ntmps5
  go_upto_region 12 with (first
      | ((with_reducible show wpList _ _ _ (⟨none, .store 24 (.tmp 13) (.tmp 46), _, _, _, _⟩ :: _) _ _); refine wpList_store_q rfl 24 _ _ rfl (wd.heap.size) (by exact rfl) (0) ([0, 0, 0, 0, 0, 0, 0, 0]) (by exact rfl) (rfl) (by kernel_rfl) 24 _ _ (show QRow _ _ _ 0 [0, 0, 0, 0, 0, 0, 0, 0] from alloc_at _ _) rfl ?_; intro wz HN HO HB
         have RQ_wz : Hid (QRow wz w1.heap.size 24 (2) ([5, 6, 0, 0, 0, 0, 0, 0])) := Lib.hid ((HO.out _ (Nat.ne_of_lt RQ_wd.out.lt)).trans (QRow.below RQ_wd.out ((Below.refl _ _).alloc (Nat.le_refl _) _) RQ_wd.out.lt))
         have RB_wz : Hid (QRow wz w2.heap.size 24 (2) ([5, 6, 1, 0, 0, 0, 0, 0])) := Lib.hid ((HO.out _ (Nat.ne_of_lt RB_wd.out.lt)).trans (QRow.below RB_wd.out ((Below.refl _ _).alloc (Nat.le_refl _) _) RB_wd.out.lt))
         have RL_wz : Hid (QRow wz w4.heap.size 24 (-9) ([0, 0, 0, 0, 0, 0, 0, 0])) := Lib.hid ((HO.out _ (Nat.ne_of_lt RL_wd.out.lt)).trans (QRow.below RL_wd.out ((Below.refl _ _).alloc (Nat.le_refl _) _) RL_wd.out.lt))
         have RH_wz : Hid (QRow wz w5.heap.size 24 (9) ([0, 0, 0, 0, 0, 0, 0, 0])) := Lib.hid ((HO.out _ (Nat.ne_of_lt RH_wd.out.lt)).trans (QRow.below RH_wd.out ((Below.refl _ _).alloc (Nat.le_refl _) _) RH_wd.out.lt))
         have RP_wz : Hid (QRow wz w7.heap.size 24 (3) ([5, 6, 7, 0, 0, 0, 0, 0])) := Lib.hid ((HO.out _ (Nat.ne_of_lt RP_wd.out.lt)).trans (QRow.below RP_wd.out ((Below.refl _ _).alloc (Nat.le_refl _) _) RP_wd.out.lt))
         have RR_wz : Hid (QRow wz w9.heap.size 24 (8) ([0, 0, 0, 0, 0, 0, 0, 0])) := Lib.hid ((HO.out _ (Nat.ne_of_lt RR_wd.out.lt)).trans (QRow.below RR_wd.out ((Below.refl _ _).alloc (Nat.le_refl _) _) RR_wd.out.lt))
         have RS_wz : Hid (QRow wz wb.heap.size 24 (7) ([0, 0, 0, 0, 0, 0, 0, 0])) := Lib.hid ((HO.out _ (Nat.ne_of_lt RS_wd.out.lt)).trans (QRow.below RS_wd.out ((Below.refl _ _).alloc (Nat.le_refl _) _) RS_wd.out.lt))
         have RD_wz : Hid (QRow wz wd.heap.size 24 (0) ([0, 0, 0, 0, 0, 0, 0, 0])) := HN
         have BB_wz : Hid (Below w.heap.size w wz) := Lib.hid ((BB_wd.out.alloc BB_wd.out.size _).trans (HB.out.mono BB_wd.out.size))
         have BZ_0 : Hid (Below wz.heap.size wz wz) := Lib.hid (Below.refl _ _)
         clear HO HB HN RQ_wd RB_wd RL_wd RH_wd RP_wd RR_wd RS_wd BB_wd)
      | (go_at_call 12; have hc := BB_wc; clear hc; refine (K4.out _).mono ?_; rintro e wd ⟨rfl, hB⟩
         have RQ_wd : Hid (QRow wd w1.heap.size 24 (2) ([5, 6, 0, 0, 0, 0, 0, 0])) := Lib.hid (QRow.below RQ_wc.out hB RQ_wc.out.lt)
         have RB_wd : Hid (QRow wd w2.heap.size 24 (2) ([5, 6, 1, 0, 0, 0, 0, 0])) := Lib.hid (QRow.below RB_wc.out hB RB_wc.out.lt)
         have RL_wd : Hid (QRow wd w4.heap.size 24 (-9) ([0, 0, 0, 0, 0, 0, 0, 0])) := Lib.hid (QRow.below RL_wc.out hB RL_wc.out.lt)
         have RH_wd : Hid (QRow wd w5.heap.size 24 (9) ([0, 0, 0, 0, 0, 0, 0, 0])) := Lib.hid (QRow.below RH_wc.out hB RH_wc.out.lt)
         have RP_wd : Hid (QRow wd w7.heap.size 24 (3) ([5, 6, 7, 0, 0, 0, 0, 0])) := Lib.hid (QRow.below RP_wc.out hB RP_wc.out.lt)
         have RR_wd : Hid (QRow wd w9.heap.size 24 (8) ([0, 0, 0, 0, 0, 0, 0, 0])) := Lib.hid (QRow.below RR_wc.out hB RR_wc.out.lt)
         have RS_wd : Hid (QRow wd wb.heap.size 24 (7) ([0, 0, 0, 0, 0, 0, 0, 0])) := Lib.hid (QRow.below RS_wc.out hB RS_wc.out.lt)
         have BB_wd : Hid (Below w.heap.size w wd) := Lib.hid (BB_wc.out.trans (hB.mono BB_wc.out.size))
         clear hB RQ_wc RB_wc RL_wc RH_wc RP_wc RR_wc RS_wc BB_wc)
      | ((with_reducible show wpList _ _ _ (⟨some 43, .load 24 (.tmp 3), _, _, _, _⟩ :: _) _ _); refine wpList_load_w (by rfl) 24 _ rfl (w4.heap.size) (by exact rfl) _ Try.underlying24 (by kernel_rfl) 24 _ _ (RL_wc.out) (rfl) ?_)
      | ((with_reducible show wpList _ _ _ (⟨none, .store 24 (.tmp 10) (.tmp 40), _, _, _, _⟩ :: _) _ _); refine wpList_store_q rfl 24 _ _ rfl (wb.heap.size) (by exact rfl) (7) ([0, 0, 0, 0, 0, 0, 0, 0]) (by exact rfl) (rfl) (by kernel_rfl) 24 _ _ (show QRow _ _ _ 0 [0, 0, 0, 0, 0, 0, 0, 0] from alloc_at _ _) rfl ?_; intro wc HN HO HB
         have RQ_wc : Hid (QRow wc w1.heap.size 24 (2) ([5, 6, 0, 0, 0, 0, 0, 0])) := Lib.hid ((HO.out _ (Nat.ne_of_lt RQ_wb.out.lt)).trans (QRow.below RQ_wb.out ((Below.refl _ _).alloc (Nat.le_refl _) _) RQ_wb.out.lt))
         have RB_wc : Hid (QRow wc w2.heap.size 24 (2) ([5, 6, 1, 0, 0, 0, 0, 0])) := Lib.hid ((HO.out _ (Nat.ne_of_lt RB_wb.out.lt)).trans (QRow.below RB_wb.out ((Below.refl _ _).alloc (Nat.le_refl _) _) RB_wb.out.lt))
         have RL_wc : Hid (QRow wc w4.heap.size 24 (-9) ([0, 0, 0, 0, 0, 0, 0, 0])) := Lib.hid ((HO.out _ (Nat.ne_of_lt RL_wb.out.lt)).trans (QRow.below RL_wb.out ((Below.refl _ _).alloc (Nat.le_refl _) _) RL_wb.out.lt))
         have RH_wc : Hid (QRow wc w5.heap.size 24 (9) ([0, 0, 0, 0, 0, 0, 0, 0])) := Lib.hid ((HO.out _ (Nat.ne_of_lt RH_wb.out.lt)).trans (QRow.below RH_wb.out ((Below.refl _ _).alloc (Nat.le_refl _) _) RH_wb.out.lt))
         have RP_wc : Hid (QRow wc w7.heap.size 24 (3) ([5, 6, 7, 0, 0, 0, 0, 0])) := Lib.hid ((HO.out _ (Nat.ne_of_lt RP_wb.out.lt)).trans (QRow.below RP_wb.out ((Below.refl _ _).alloc (Nat.le_refl _) _) RP_wb.out.lt))
         have RR_wc : Hid (QRow wc w9.heap.size 24 (8) ([0, 0, 0, 0, 0, 0, 0, 0])) := Lib.hid ((HO.out _ (Nat.ne_of_lt RR_wb.out.lt)).trans (QRow.below RR_wb.out ((Below.refl _ _).alloc (Nat.le_refl _) _) RR_wb.out.lt))
         have RS_wc : Hid (QRow wc wb.heap.size 24 (7) ([0, 0, 0, 0, 0, 0, 0, 0])) := HN
         have BB_wc : Hid (Below w.heap.size w wc) := Lib.hid ((BB_wb.out.alloc BB_wb.out.size _).trans (HB.out.mono BB_wb.out.size))
         clear HO HB HN RQ_wb RB_wb RL_wb RH_wb RP_wb RR_wb BB_wb)
      | (go_at_call 12; have hc := BB_wa; clear hc; refine (K3.out _).mono ?_; rintro e wb ⟨rfl, hB⟩
         have RQ_wb : Hid (QRow wb w1.heap.size 24 (2) ([5, 6, 0, 0, 0, 0, 0, 0])) := Lib.hid (QRow.below RQ_wa.out hB RQ_wa.out.lt)
         have RB_wb : Hid (QRow wb w2.heap.size 24 (2) ([5, 6, 1, 0, 0, 0, 0, 0])) := Lib.hid (QRow.below RB_wa.out hB RB_wa.out.lt)
         have RL_wb : Hid (QRow wb w4.heap.size 24 (-9) ([0, 0, 0, 0, 0, 0, 0, 0])) := Lib.hid (QRow.below RL_wa.out hB RL_wa.out.lt)
         have RH_wb : Hid (QRow wb w5.heap.size 24 (9) ([0, 0, 0, 0, 0, 0, 0, 0])) := Lib.hid (QRow.below RH_wa.out hB RH_wa.out.lt)
         have RP_wb : Hid (QRow wb w7.heap.size 24 (3) ([5, 6, 7, 0, 0, 0, 0, 0])) := Lib.hid (QRow.below RP_wa.out hB RP_wa.out.lt)
         have RR_wb : Hid (QRow wb w9.heap.size 24 (8) ([0, 0, 0, 0, 0, 0, 0, 0])) := Lib.hid (QRow.below RR_wa.out hB RR_wa.out.lt)
         have BB_wb : Hid (Below w.heap.size w wb) := Lib.hid (BB_wa.out.trans (hB.mono BB_wa.out.size))
         clear hB RQ_wa RB_wa RL_wa RH_wa RP_wa RR_wa BB_wa)
      | ((with_reducible show wpList _ _ _ (⟨some 37, .load 24 (.tmp 4), _, _, _, _⟩ :: _) _ _); refine wpList_load_w (by rfl) 24 _ rfl (w5.heap.size) (by exact rfl) _ Try.underlying24 (by kernel_rfl) 24 _ _ (RH_wa.out) (rfl) ?_)
      | ((with_reducible show wpList _ _ _ (⟨none, .store 24 (.tmp 7) (.tmp 34), _, _, _, _⟩ :: _) _ _); refine wpList_store_q rfl 24 _ _ rfl (w9.heap.size) (by exact rfl) (8) ([0, 0, 0, 0, 0, 0, 0, 0]) (by exact rfl) (rfl) (by kernel_rfl) 24 _ _ (show QRow _ _ _ 0 [0, 0, 0, 0, 0, 0, 0, 0] from alloc_at _ _) rfl ?_; intro wa HN HO HB
         have RQ_wa : Hid (QRow wa w1.heap.size 24 (2) ([5, 6, 0, 0, 0, 0, 0, 0])) := Lib.hid ((HO.out _ (Nat.ne_of_lt RQ_w9.out.lt)).trans (QRow.below RQ_w9.out ((Below.refl _ _).alloc (Nat.le_refl _) _) RQ_w9.out.lt))
         have RB_wa : Hid (QRow wa w2.heap.size 24 (2) ([5, 6, 1, 0, 0, 0, 0, 0])) := Lib.hid ((HO.out _ (Nat.ne_of_lt RB_w9.out.lt)).trans (QRow.below RB_w9.out ((Below.refl _ _).alloc (Nat.le_refl _) _) RB_w9.out.lt))
         have RL_wa : Hid (QRow wa w4.heap.size 24 (-9) ([0, 0, 0, 0, 0, 0, 0, 0])) := Lib.hid ((HO.out _ (Nat.ne_of_lt RL_w9.out.lt)).trans (QRow.below RL_w9.out ((Below.refl _ _).alloc (Nat.le_refl _) _) RL_w9.out.lt))
         have RH_wa : Hid (QRow wa w5.heap.size 24 (9) ([0, 0, 0, 0, 0, 0, 0, 0])) := Lib.hid ((HO.out _ (Nat.ne_of_lt RH_w9.out.lt)).trans (QRow.below RH_w9.out ((Below.refl _ _).alloc (Nat.le_refl _) _) RH_w9.out.lt))
         have RP_wa : Hid (QRow wa w7.heap.size 24 (3) ([5, 6, 7, 0, 0, 0, 0, 0])) := Lib.hid ((HO.out _ (Nat.ne_of_lt RP_w9.out.lt)).trans (QRow.below RP_w9.out ((Below.refl _ _).alloc (Nat.le_refl _) _) RP_w9.out.lt))
         have RR_wa : Hid (QRow wa w9.heap.size 24 (8) ([0, 0, 0, 0, 0, 0, 0, 0])) := HN
         have BB_wa : Hid (Below w.heap.size w wa) := Lib.hid ((BB_w9.out.alloc BB_w9.out.size _).trans (HB.out.mono BB_w9.out.size))
         clear HO HB HN RQ_w9 RB_w9 RL_w9 RH_w9 RP_w9 BB_w9)
      | (go_at_call 11; have hc := BB_w8; clear hc; refine (K2.out _).mono ?_; rintro e w9 ⟨rfl, hB⟩
         have RQ_w9 : Hid (QRow w9 w1.heap.size 24 (2) ([5, 6, 0, 0, 0, 0, 0, 0])) := Lib.hid (QRow.below RQ_w8.out hB RQ_w8.out.lt)
         have RB_w9 : Hid (QRow w9 w2.heap.size 24 (2) ([5, 6, 1, 0, 0, 0, 0, 0])) := Lib.hid (QRow.below RB_w8.out hB RB_w8.out.lt)
         have RL_w9 : Hid (QRow w9 w4.heap.size 24 (-9) ([0, 0, 0, 0, 0, 0, 0, 0])) := Lib.hid (QRow.below RL_w8.out hB RL_w8.out.lt)
         have RH_w9 : Hid (QRow w9 w5.heap.size 24 (9) ([0, 0, 0, 0, 0, 0, 0, 0])) := Lib.hid (QRow.below RH_w8.out hB RH_w8.out.lt)
         have RP_w9 : Hid (QRow w9 w7.heap.size 24 (3) ([5, 6, 7, 0, 0, 0, 0, 0])) := Lib.hid (QRow.below RP_w8.out hB RP_w8.out.lt)
         have BB_w9 : Hid (Below w.heap.size w w9) := Lib.hid (BB_w8.out.trans (hB.mono BB_w8.out.size))
         clear hB RQ_w8 RB_w8 RL_w8 RH_w8 RP_w8 BB_w8)
      | ((with_reducible show wpList _ _ _ (⟨some 32, .load 24 (.tmp 4), _, _, _, _⟩ :: _) _ _); refine wpList_load_w (by rfl) 24 _ rfl (w5.heap.size) (by exact rfl) _ Try.underlying24 (by kernel_rfl) 24 _ _ (RH_w8.out) (rfl) ?_)
      | ((with_reducible show wpList _ _ _ (⟨none, .store 24 (.tmp 5) (.tmp 29), _, _, _, _⟩ :: _) _ _); refine wpList_store_q rfl 24 _ _ rfl (w7.heap.size) (by exact rfl) (3) ([5, 6, 7, 0, 0, 0, 0, 0]) (by exact rfl) (rfl) (by kernel_rfl) 24 _ _ (show QRow _ _ _ 0 [0, 0, 0, 0, 0, 0, 0, 0] from alloc_at _ _) rfl ?_; intro w8 HN HO HB
         have RQ_w8 : Hid (QRow w8 w1.heap.size 24 (2) ([5, 6, 0, 0, 0, 0, 0, 0])) := Lib.hid ((HO.out _ (Nat.ne_of_lt RQ_w7.out.lt)).trans (QRow.below RQ_w7.out ((Below.refl _ _).alloc (Nat.le_refl _) _) RQ_w7.out.lt))
         have RB_w8 : Hid (QRow w8 w2.heap.size 24 (2) ([5, 6, 1, 0, 0, 0, 0, 0])) := Lib.hid ((HO.out _ (Nat.ne_of_lt RB_w7.out.lt)).trans (QRow.below RB_w7.out ((Below.refl _ _).alloc (Nat.le_refl _) _) RB_w7.out.lt))
         have RL_w8 : Hid (QRow w8 w4.heap.size 24 (-9) ([0, 0, 0, 0, 0, 0, 0, 0])) := Lib.hid ((HO.out _ (Nat.ne_of_lt RL_w7.out.lt)).trans (QRow.below RL_w7.out ((Below.refl _ _).alloc (Nat.le_refl _) _) RL_w7.out.lt))
         have RH_w8 : Hid (QRow w8 w5.heap.size 24 (9) ([0, 0, 0, 0, 0, 0, 0, 0])) := Lib.hid ((HO.out _ (Nat.ne_of_lt RH_w7.out.lt)).trans (QRow.below RH_w7.out ((Below.refl _ _).alloc (Nat.le_refl _) _) RH_w7.out.lt))
         have RP_w8 : Hid (QRow w8 w7.heap.size 24 (3) ([5, 6, 7, 0, 0, 0, 0, 0])) := HN
         have BB_w8 : Hid (Below w.heap.size w w8) := Lib.hid ((BB_w7.out.alloc BB_w7.out.size _).trans (HB.out.mono BB_w7.out.size))
         clear HO HB HN RQ_w7 RB_w7 RL_w7 RH_w7 BB_w7)
      | (go_at_call 11; have hc := BB_w6; clear hc; refine (K1.out _).mono ?_; rintro e w7 ⟨rfl, hB⟩
         have RQ_w7 : Hid (QRow w7 w1.heap.size 24 (2) ([5, 6, 0, 0, 0, 0, 0, 0])) := Lib.hid (QRow.below RQ_w6.out hB RQ_w6.out.lt)
         have RB_w7 : Hid (QRow w7 w2.heap.size 24 (2) ([5, 6, 1, 0, 0, 0, 0, 0])) := Lib.hid (QRow.below RB_w6.out hB RB_w6.out.lt)
         have RL_w7 : Hid (QRow w7 w4.heap.size 24 (-9) ([0, 0, 0, 0, 0, 0, 0, 0])) := Lib.hid (QRow.below RL_w6.out hB RL_w6.out.lt)
         have RH_w7 : Hid (QRow w7 w5.heap.size 24 (9) ([0, 0, 0, 0, 0, 0, 0, 0])) := Lib.hid (QRow.below RH_w6.out hB RH_w6.out.lt)
         have BB_w7 : Hid (Below w.heap.size w w7) := Lib.hid (BB_w6.out.trans (hB.mono BB_w6.out.size))
         clear hB RQ_w6 RB_w6 RL_w6 RH_w6 BB_w6)
      | ((with_reducible show wpList _ _ _ (⟨some 27, .load 24 (.tmp 2), _, _, _, _⟩ :: _) _ _); refine wpList_load_w (by rfl) 24 _ rfl (w2.heap.size) (by exact rfl) _ Try.underlying24 (by kernel_rfl) 24 _ _ (RB_w6.out) (rfl) ?_)
      | ((with_reducible show wpList _ _ _ (⟨none, .store 24 (.tmp 4) (.tmp 25), _, _, _, _⟩ :: _) _ _); refine wpList_store_q rfl 24 _ _ rfl (w5.heap.size) (by exact rfl) (9) ([0, 0, 0, 0, 0, 0, 0, 0]) (by exact rfl) (rfl) (by kernel_rfl) 24 _ _ (show QRow _ _ _ 0 [0, 0, 0, 0, 0, 0, 0, 0] from alloc_at _ _) rfl ?_; intro w6 HN HO HB
         have RQ_w6 : Hid (QRow w6 w1.heap.size 24 (2) ([5, 6, 0, 0, 0, 0, 0, 0])) := Lib.hid ((HO.out _ (Nat.ne_of_lt RQ_w5.out.lt)).trans (QRow.below RQ_w5.out ((Below.refl _ _).alloc (Nat.le_refl _) _) RQ_w5.out.lt))
         have RB_w6 : Hid (QRow w6 w2.heap.size 24 (2) ([5, 6, 1, 0, 0, 0, 0, 0])) := Lib.hid ((HO.out _ (Nat.ne_of_lt RB_w5.out.lt)).trans (QRow.below RB_w5.out ((Below.refl _ _).alloc (Nat.le_refl _) _) RB_w5.out.lt))
         have RL_w6 : Hid (QRow w6 w4.heap.size 24 (-9) ([0, 0, 0, 0, 0, 0, 0, 0])) := Lib.hid ((HO.out _ (Nat.ne_of_lt RL_w5.out.lt)).trans (QRow.below RL_w5.out ((Below.refl _ _).alloc (Nat.le_refl _) _) RL_w5.out.lt))
         have RH_w6 : Hid (QRow w6 w5.heap.size 24 (9) ([0, 0, 0, 0, 0, 0, 0, 0])) := HN
         have BB_w6 : Hid (Below w.heap.size w w6) := Lib.hid ((BB_w5.out.alloc BB_w5.out.size _).trans (HB.out.mono BB_w5.out.size))
         clear HO HB HN RQ_w5 RB_w5 RL_w5 BB_w5)
      | ((with_reducible show wpList _ _ _ (⟨none, .store 24 (.tmp 3) (.tmp 24), _, _, _, _⟩ :: _) _ _); refine wpList_store_q rfl 24 _ _ rfl (w4.heap.size) (by exact rfl) (-9) ([0, 0, 0, 0, 0, 0, 0, 0]) (by exact rfl) (rfl) (by kernel_rfl) 24 _ _ (show QRow _ _ _ 0 [0, 0, 0, 0, 0, 0, 0, 0] from alloc_at _ _) rfl ?_; intro w5 HN HO HB
         have RQ_w5 : Hid (QRow w5 w1.heap.size 24 (2) ([5, 6, 0, 0, 0, 0, 0, 0])) := Lib.hid ((HO.out _ (Nat.ne_of_lt RQ_w4.out.lt)).trans (QRow.below RQ_w4.out ((Below.refl _ _).alloc (Nat.le_refl _) _) RQ_w4.out.lt))
         have RB_w5 : Hid (QRow w5 w2.heap.size 24 (2) ([5, 6, 1, 0, 0, 0, 0, 0])) := Lib.hid ((HO.out _ (Nat.ne_of_lt RB_w4.out.lt)).trans (QRow.below RB_w4.out ((Below.refl _ _).alloc (Nat.le_refl _) _) RB_w4.out.lt))
         have RL_w5 : Hid (QRow w5 w4.heap.size 24 (-9) ([0, 0, 0, 0, 0, 0, 0, 0])) := HN
         have BB_w5 : Hid (Below w.heap.size w w5) := Lib.hid ((BB_w4.out.alloc BB_w4.out.size _).trans (HB.out.mono BB_w4.out.size))
         clear HO HB HN RQ_w4 RB_w4 BB_w4)
      | ((with_reducible show wpList _ _ _ (⟨none, .store 5 (.tmp 23) _, _, _, _, _⟩ :: _) _ _); refine wpList_store_b rfl 5 _ _ rfl (w2.heap.size) 2 (by exact rfl) 1 (by exact rfl) (by kernel_rfl) 24 _ _ (RB_w3.out) (by decide) ?_; intro w4 HN HO HB
         have RQ_w4 : Hid (QRow w4 w1.heap.size 24 (2) ([5, 6, 0, 0, 0, 0, 0, 0])) := Lib.hid ((HO.out _ NE.out).trans RQ_w3.out)
         have RB_w4 : Hid (QRow w4 w2.heap.size 24 (2) ([5, 6, 1, 0, 0, 0, 0, 0])) := HN
         have BB_w4 : Hid (Below w.heap.size w w4) := Lib.hid (BB_w3.out.trans (HB.out.mono HZ.out))
         clear HO HB HN RQ_w3 RB_w3 BB_w3 NE HZ)
      | ((with_reducible show wpList _ _ _ (⟨none, .store 24 (.tmp 2) (.tmp 21), _, _, _, _⟩ :: _) _ _); refine wpList_store_q rfl 24 _ _ rfl (w2.heap.size) (by exact rfl) (2) ([5, 6, 0, 0, 0, 0, 0, 0]) (by exact rfl) (rfl) (by kernel_rfl) 24 _ _ (show QRow _ _ _ 0 [0, 0, 0, 0, 0, 0, 0, 0] from alloc_at _ _) rfl ?_; intro w3 HN HO HB
         have RQ_w3 : Hid (QRow w3 w1.heap.size 24 (2) ([5, 6, 0, 0, 0, 0, 0, 0])) := Lib.hid ((HO.out _ (Nat.ne_of_lt RQ_w2.out.lt)).trans (QRow.below RQ_w2.out ((Below.refl _ _).alloc (Nat.le_refl _) _) RQ_w2.out.lt))
         have RB_w3 : Hid (QRow w3 w2.heap.size 24 (2) ([5, 6, 0, 0, 0, 0, 0, 0])) := HN
         have BB_w3 : Hid (Below w.heap.size w w3) := Lib.hid ((BB_w2.out.alloc BB_w2.out.size _).trans (HB.out.mono BB_w2.out.size))
         have NE := Lib.hid (Nat.ne_of_lt RQ_w2.out.lt)
         have HZ := Lib.hid BB_w2.out.size
         clear HO HB HN RQ_w2 BB_w2)
      | ((with_reducible show wpList _ _ _ (⟨some 21, .load 24 (.tmp 1), _, _, _, _⟩ :: _) _ _); refine wpList_load_w (by rfl) 24 _ rfl (w1.heap.size) (by exact rfl) _ Try.underlying24 (by kernel_rfl) 24 _ _ (RQ_w2.out) (rfl) ?_)
      | ((with_reducible show wpList _ _ _ (⟨none, .store 24 (.tmp 1) (.tmp 20), _, _, _, _⟩ :: _) _ _); refine wpList_store_q rfl 24 _ _ rfl (w1.heap.size) (by exact rfl) (2) ([5, 6, 0, 0, 0, 0, 0, 0]) (by exact rfl) (rfl) (by kernel_rfl) 24 _ _ (show QRow _ _ _ 0 [0, 0, 0, 0, 0, 0, 0, 0] from alloc_at _ _) rfl ?_; intro w2 HN HO HB
         have RQ_w2 : Hid (QRow w2 w1.heap.size 24 (2) ([5, 6, 0, 0, 0, 0, 0, 0])) := HN
         have BB_w2 : Hid (Below w.heap.size w w2) := Lib.hid ((BB_w1.out.alloc BB_w1.out.size _).trans (HB.out.mono BB_w1.out.size))
         clear HO HB HN  BB_w1)
      | (go_at_call 8; have hc := BB_w0; clear hc; refine (KF.out _).mono ?_; rintro e w1 ⟨rfl, hB⟩
         have BB_w1 : Hid (Below w.heap.size w w1) := Lib.hid ((BB_w0.out.alloc BB_w0.out.size _).trans (hB.mono (Nat.le_trans BB_w0.out.size (by simp))))
         clear hB  BB_w0)
      | (go_at_call 10; refine (works_any _).mono ?_; rintro e w0 ⟨rfl, hB⟩
         have BB_w0 : Hid (Below w.heap.size w w0) := Lib.hid hB
         clear hB))
  simp only [List.append_eq, List.cons_append, List.nil_append]
  go_wp2_with (first
      | (go_at_call 16; have hc := BZ_9; clear hc; refine (KA.out _).mono ?_; rintro e x10 ⟨v, rfl, hv, hB⟩
         have BZ_10 : Hid (Below wz.heap.size wz x10) := Lib.hid (BZ_9.out.trans (hB.mono BZ_9.out.size))
         obtain ⟨A, c, rfl⟩ := own_form hv
         clear hB BZ_9)
      | ((with_reducible show wpList _ _ _ (⟨some 107, .load 24 (.tmp 3), _, _, _, _⟩ :: _) _ _); refine wpList_load_w (by kernel_rfl) 24 _ rfl (w4.heap.size) (by exact rfl) _ Try.underlying24 (by kernel_rfl) 24 _ _ (QRow.below RL_wz.out BZ_9.out RL_wz.out.lt) (rfl) ?_)
      | (go_at_call 13; have hc := BZ_8; clear hc; refine (is_any [] none 0 _ (by decide) (by decide) (RdB.nil_ _ _)).mono ?_; rintro e x9 ⟨rfl, hB⟩
         have BZ_9 : Hid (Below wz.heap.size wz x9) := Lib.hid (BZ_8.out.trans (hB.mono BZ_8.out.size))
         clear hB BZ_8)
      | (go_at_call 8; have hc := BZ_7; clear hc; refine (KN.out _).mono ?_; rintro e x8 ⟨rfl, hB⟩
         have BZ_8 : Hid (Below wz.heap.size wz x8) := Lib.hid (BZ_7.out.trans (hB.mono BZ_7.out.size))
         clear hB BZ_7)
      | (go_at_call 13; have hc := BZ_6; clear hc; refine (is_any [0, 0, 0, 0, 0, 0, 0, 0] _ 8 _ (by decide) (by decide) (show RdB _ _ _ [0, 0, 0, 0, 0, 0, 0, 0] from rdb_new _ [0, 0, 0, 0, 0, 0, 0, 0] 5)).mono ?_; rintro e x7 ⟨rfl, hB⟩
         have BZ_7 : Hid (Below wz.heap.size wz x7) := Lib.hid ((BZ_6.out.alloc BZ_6.out.size _).trans (hB.mono (Nat.le_trans BZ_6.out.size (by simp))))
         have cs := row_at (QRow.below RS_wz.out BZ_7.out RS_wz.out.lt) 0 _ rfl
         clear hB BZ_6)
      | ((with_reducible show wpList _ _ _ (⟨some 82, .load 24 (.tmp 7), _, _, _, _⟩ :: _) _ _); refine wpList_load_w (by kernel_rfl) 24 _ rfl (w9.heap.size) (by exact rfl) _ Try.underlying24 (by kernel_rfl) 24 _ _ (QRow.below RR_wz.out BZ_6.out RR_wz.out.lt) (rfl) ?_)
      | (go_at_call 13; have hc := BZ_5; clear hc; refine (is_any [5, 6, 7] _ 3 _ (by decide) (by decide) (show RdB _ _ _ [5, 6, 7] from rdb_new _ [5, 6, 7] 5)).mono ?_; rintro e x6 ⟨rfl, hB⟩
         have BZ_6 : Hid (Below wz.heap.size wz x6) := Lib.hid ((BZ_5.out.alloc BZ_5.out.size _).trans (hB.mono (Nat.le_trans BZ_5.out.size (by simp))))
         clear hB BZ_5)
      | ((with_reducible show wpList _ _ _ (⟨some 70, .load 24 (.tmp 5), _, _, _, _⟩ :: _) _ _); refine wpList_load_w (by kernel_rfl) 24 _ rfl (w7.heap.size) (by exact rfl) _ Try.underlying24 (by kernel_rfl) 24 _ _ (QRow.below RP_wz.out BZ_5.out RP_wz.out.lt) (rfl) ?_)
      | (go_at_call 15; have hc := BZ_4; clear hc; refine (K9.out _).mono ?_; rintro e x5 ⟨rfl, hB⟩
         have BZ_5 : Hid (Below wz.heap.size wz x5) := Lib.hid (BZ_4.out.trans (hB.mono BZ_4.out.size))
         clear hB BZ_4)
      | (go_at_call 15; have hc := BZ_3; clear hc; refine (K8.out _).mono ?_; rintro e x4 ⟨rfl, hB⟩
         have BZ_4 : Hid (Below wz.heap.size wz x4) := Lib.hid (BZ_3.out.trans (hB.mono BZ_3.out.size))
         clear hB BZ_3)
      | ((with_reducible show wpList _ _ _ (⟨some 62, .load 24 (.tmp 1), _, _, _, _⟩ :: _) _ _); refine wpList_load_w (by kernel_rfl) 24 _ rfl (w1.heap.size) (by exact rfl) _ Try.underlying24 (by kernel_rfl) 24 _ _ (QRow.below RQ_wz.out BZ_3.out RQ_wz.out.lt) (rfl) ?_)
      | (go_at_call 15; have hc := BZ_2; clear hc; refine (K7.out _).mono ?_; rintro e x3 ⟨rfl, hB⟩
         have BZ_3 : Hid (Below wz.heap.size wz x3) := Lib.hid (BZ_2.out.trans (hB.mono BZ_2.out.size))
         clear hB BZ_2)
      | ((with_reducible show wpList _ _ _ (⟨some 57, .load 24 (.tmp 4), _, _, _, _⟩ :: _) _ _); refine wpList_load_w (by kernel_rfl) 24 _ rfl (w5.heap.size) (by exact rfl) _ Try.underlying24 (by kernel_rfl) 24 _ _ (QRow.below RH_wz.out BZ_2.out RH_wz.out.lt) (rfl) ?_)
      | (go_at_call 15; have hc := BZ_1; clear hc; refine (K6.out _).mono ?_; rintro e x2 ⟨rfl, hB⟩
         have BZ_2 : Hid (Below wz.heap.size wz x2) := Lib.hid (BZ_1.out.trans (hB.mono BZ_1.out.size))
         clear hB BZ_1)
      | ((with_reducible show wpList _ _ _ (⟨some 52, .load 24 (.tmp 3), _, _, _, _⟩ :: _) _ _); refine wpList_load_w (by kernel_rfl) 24 _ rfl (w4.heap.size) (by exact rfl) _ Try.underlying24 (by kernel_rfl) 24 _ _ (QRow.below RL_wz.out BZ_1.out RL_wz.out.lt) (rfl) ?_)
      | (go_at_call 15; have hc := BZ_0; clear hc; refine (K5.out _).mono ?_; rintro e x1 ⟨rfl, hB⟩
         have BZ_1 : Hid (Below wz.heap.size wz x1) := Lib.hid (BZ_0.out.trans (hB.mono BZ_0.out.size))
         clear hB BZ_0)
      | ((with_reducible show wpList _ _ _ (⟨some 48, .load 24 (.tmp 2), _, _, _, _⟩ :: _) _ _); refine wpList_load_w (by kernel_rfl) 24 _ rfl (w2.heap.size) (by exact rfl) _ Try.underlying24 (by kernel_rfl) 24 _ _ (QRow.below RB_wz.out BZ_0.out RB_wz.out.lt) (rfl) ?_))
  go_ret
  exact ⟨rfl, BB_wz.out.trans (BZ_10.out.mono BB_wz.out.size)⟩
end Go.Proofs.Ytebapciapnebgaa
