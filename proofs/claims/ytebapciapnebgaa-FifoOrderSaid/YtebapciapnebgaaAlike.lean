/-
  as, alike: by their contracts: of any value and byte, alike answers true. Made by wip/genfifoalike.py.
-/
import Derived.Test.YtebapciapnebgaaRpop
namespace Go.Proofs.Ytebapciapnebgaa
open Go.RowKit
set_option linter.unusedVariables false
set_option maxRecDepth 100000 in
theorem as_any (n : Int) (bs : List Nat) (w : World) (hb : bs.length = 8) :
    Calls Try.prog 7 #[qv n bs] w fun e w' => e = .returned (qv n bs) ∧ Below w.heap.size w w' := by
  obtain ⟨b0, b1, b2, b3, b4, b5, b6, b7, rfl⟩ := eight hb
  rw [qv_eq]
  go_enter Try.func7, Try.ntmps7
  go_wp2_with ((with_reducible show wpList _ _ _ (⟨none, .store 27 (.tmp 2) (.tmp 7), _, _, _, _⟩ :: _) _ _); refine wpList_store_q rfl 27 _ _ rfl (w.heap.size + 1) (by exact rfl) n [b0, b1, b2, b3, b4, b5, b6, b7] (by exact rfl) rfl (by kernel_rfl) 27 _ _ (show QRow _ _ _ 0 [0, 0, 0, 0, 0, 0, 0, 0] from two_at _ _ _) rfl ?_; intro w4 HN HO4 HB4)
  have hlv := run_loadVar_q (P := Try.prog) w4 (w.heap.size + 1) 27 _ Try.underlying27 (by kernel_rfl) _ _ _ HN.out rfl
  exact bodyPost_ret (results_q Try.results7 _ _ _ _ _ rfl hlv) rfl ⟨rfl, (two_below _ _ _).trans (HB4.out.mono (by omega))⟩
theorem pushV_parts (L : List Nat) (b : Nat) : ∃ (n : Int) (bs : List Nat) (is : Bool), pushV L b = .tuple #[qv n bs, .bool is] ∧ bs.length = 8 := by
  unfold pushV
  split
  · exact ⟨_, _, _, rfl, pad_length _⟩
  · exact ⟨_, _, _, rfl, pad_length _⟩
theorem popV_parts (L : List Nat) : ∃ (x : Nat) (n : Int) (bs : List Nat) (is : Bool), popV L = .tuple #[.int .u8 (x : Int), qv n bs, .bool is] ∧ bs.length = 8 := by
  cases L with
  | nil => exact ⟨0, _, _, _, rfl, pad_length _⟩
  | cons x r => exact ⟨x, _, _, _, rfl, pad_length _⟩
theorem decide_swap (n m : Int) (bs cs : List Nat) : decide (m = n ∧ cs = bs) = decide (n = m ∧ bs = cs) := by
  rw [decide_eq_decide]
  exact ⟨fun h => ⟨h.1.symm, h.2.symm⟩, fun h => ⟨h.1.symm, h.2.symm⟩⟩
set_option maxHeartbeats 1000000 in
set_option maxRecDepth 100000 in
theorem alike_any (n : Int) (bs : List Nat) (b : Nat) (w : World) (hb : bs.length = 8) (hlt : ∀ x ∈ bs, x < 256) (hn : -9223372036854775808 ≤ n) (hn' : n ≤ 9223372036854775807) :
    Calls Try.prog 6 #[qv n bs, .int .u8 b] w fun e w' => e = .returned (.bool true) ∧ Below w.heap.size w w' := by
  obtain ⟨pn, pbs, pis, hpush, hp8⟩ := pushV_parts (cutL n bs) b
  obtain ⟨x, tn, tbs, tis, hpop, ht8⟩ := popV_parts (cutL n bs)
  obtain ⟨mn, mbs, hm, hm8, hrb⟩ : ∃ mn mbs, ofV (cutL n bs) = qv mn mbs ∧ mbs.length = 8 ∧ rightB n bs = decide (n = mn ∧ bs = mbs) := ⟨_, _, rfl, pad_length _, rfl⟩
  have C1 := Lib.hid (fun W => as_any n bs W hb)
  have C2 := Lib.hid (fun W => push_any n bs b W hb hn hn')
  have C3 := Lib.hid (fun W => rPush_any n bs b W hb hn hn')
  have C4 := Lib.hid (fun W => pop_any n bs W hb hn hn')
  have C5 := Lib.hid (fun W => rPop_any n bs W hb hn hn')
  have C6 := Lib.hid (fun W => as_any pn pbs W hp8)
  have C7 := Lib.hid (fun W => as_any tn tbs W ht8)
  have C8 := Lib.hid (fun W => mend_any n bs W hb hn hn')
  have C9 := Lib.hid (fun W => rMend_any n bs W hb hn hn')
  have C10 := Lib.hid (fun W => as_any mn mbs W hm8)
  have C11 := Lib.hid (fun W => right_any n bs W hb hn hn')
  have C12 := Lib.hid (fun W => all_any n bs W hb hn hn')
  have C13 := Lib.hid (fun W => rAll_any n bs W hb hn hn')
  have C14 : Hid (∀ (W W1 : World) (B1 B2 : Nat) (v1 v2 : Value), Own W1 B1 v1 (cutL n bs) → Below W1.heap.size W1 W → Own W B2 v2 (cutL n bs) → Calls Try.prog 20 #[v1, v2] W fun e w' => e = .returned (.bool true) ∧ Below W.heap.size W w') := Lib.hid (fun W W1 B1 B2 v1 v2 h1 hW h2 => by
    obtain ⟨A1, c1, rfl, _, _, _, r1, _⟩ := (h1.below hW (Nat.le_refl _)).form
    obtain ⟨A2, c2, rfl, _, _, _, r2, _⟩ := h2.form
    exact bytes_same A1 A2 c1 c2 _ W _ _ r1 r2 (cutL_lt hlt))
  rw [hpush] at C2 C3
  rw [hpop] at C4 C5
  rw [hm] at C8 C9
  have hE1 : ∀ W : World, (binOp .eql 27 (qv pn pbs) (qv pn pbs)).run Try.prog W = .ok (.bool true) W := fun W => by rw [run_eql_r W _ _ _ _ hp8 hp8]; simp
  have hE2 : ∀ W : World, (binOp .eql 27 (qv tn tbs) (qv tn tbs)).run Try.prog W = .ok (.bool true) W := fun W => by rw [run_eql_r W _ _ _ _ ht8 ht8]; simp
  have hE3 : ∀ W : World, (binOp .eql 27 (qv mn mbs) (qv mn mbs)).run Try.prog W = .ok (.bool true) W := fun W => by rw [run_eql_r W _ _ _ _ hm8 hm8]; simp
  have hE4 : ∀ W : World, (binOp .eql 27 (qv mn mbs) (qv n bs)).run Try.prog W = .ok (.bool (rightB n bs)) W := fun W => by rw [run_eql_r W _ _ _ _ hm8 hb, hrb, decide_swap]
  have hG : ∀ (x y : Operand) (W : World) (n m : Int) (bs cs : List Nat), (eqGuard .eql 27 x y (qv n bs) (qv m cs)).run Try.prog W = .ok () W := fun x y W n m bs cs => run_eqGuard_agg W _ _ _ _ _ _ Try.eqGuardType27
  clear hpush hpop hm hrb hlt
  generalize rightB n bs = rb at *
  generalize cutL n bs = L at *
  have HP8 := Lib.hid hp8
  have HT8 := Lib.hid ht8
  have HM8 := Lib.hid hm8
  have HB8 := Lib.hid hb
  obtain ⟨b0, b1, b2, b3, b4, b5, b6, b7, hbs⟩ := eight hb
  have hq8 : qv n bs = q8 n b0 b1 b2 b3 b4 b5 b6 b7 := by rw [hbs]; rfl
  have HQ0 : Hid (∀ t, QRow (w.alloc (.cells #[.int .i64 n, .int .u8 (b0 : Int), .int .u8 (b1 : Int), .int .u8 (b2 : Int), .int .u8 (b3 : Int), .int .u8 (b4 : Int), .int .u8 (b5 : Int), .int .u8 (b6 : Int), .int .u8 (b7 : Int)] t)) w.heap.size t n bs) := Lib.hid (fun t => by rw [hbs]; exact QRow.al w n b0 b1 b2 b3 b4 b5 b6 b7 t)
  clear hp8 ht8 hm8 hb hbs
  rw [hq8]
  replace hq8 := Lib.hid hq8
  go_enter Try.func6, Try.ntmps6
  go_wp2_with (first
      | ((with_reducible show wpList _ _ _ (⟨none, .store 27 (.tmp 14) (.tmp 40), _, _, _, _⟩ :: _) _ _); refine wpList_store_q rfl 27 _ _ rfl (w9.heap.size) (by exact rfl) tn tbs (by exact rfl) HT8.out (by kernel_rfl) 27 _ _ (show QRow _ _ _ 0 [0, 0, 0, 0, 0, 0, 0, 0] from alloc_at _ _) rfl ?_; intro wa HN HO HB
         have RQ_wa : Hid (QRow wa w.heap.size 24 n bs) := Lib.hid ((HO.out _ (Nat.ne_of_lt RQ_w9.out.lt)).trans (QRow.below RQ_w9.out ((Below.refl _ _).alloc (Nat.le_refl _) _) RQ_w9.out.lt))
         have RR_wa : Hid (QRow wa w1.heap.size 27 n bs) := Lib.hid ((HO.out _ (Nat.ne_of_lt RR_w9.out.lt)).trans (QRow.below RR_w9.out ((Below.refl _ _).alloc (Nat.le_refl _) _) RR_w9.out.lt))
         have RP_wa : Hid (QRow wa w3.heap.size 24 pn pbs) := Lib.hid ((HO.out _ (Nat.ne_of_lt RP_w9.out.lt)).trans (QRow.below RP_w9.out ((Below.refl _ _).alloc (Nat.le_refl _) _) RP_w9.out.lt))
         have RS_wa : Hid (QRow wa w5.heap.size 27 pn pbs) := Lib.hid ((HO.out _ (Nat.ne_of_lt RS_w9.out.lt)).trans (QRow.below RS_w9.out ((Below.refl _ _).alloc (Nat.le_refl _) _) RS_w9.out.lt))
         have RT_wa : Hid (QRow wa w7.heap.size 24 tn tbs) := Lib.hid ((HO.out _ (Nat.ne_of_lt RT_w9.out.lt)).trans (QRow.below RT_w9.out ((Below.refl _ _).alloc (Nat.le_refl _) _) RT_w9.out.lt))
         have RU_wa : Hid (QRow wa w9.heap.size 27 tn tbs) := HN
         have BB_wa : Hid (Below w.heap.size w wa) := Lib.hid ((BB_w9.out.alloc BB_w9.out.size _).trans (HB.out.mono BB_w9.out.size))
         clear HO HB HN RQ_w9 RR_w9 RP_w9 RS_w9 RT_w9 BB_w9)
      | (go_at_call 18; refine (C5.out _).mono ?_; rintro e w9 ⟨rfl, hB⟩
         have RQ_w9 : Hid (QRow w9 w.heap.size 24 n bs) := Lib.hid (QRow.below RQ_w8.out hB RQ_w8.out.lt)
         have RR_w9 : Hid (QRow w9 w1.heap.size 27 n bs) := Lib.hid (QRow.below RR_w8.out hB RR_w8.out.lt)
         have RP_w9 : Hid (QRow w9 w3.heap.size 24 pn pbs) := Lib.hid (QRow.below RP_w8.out hB RP_w8.out.lt)
         have RS_w9 : Hid (QRow w9 w5.heap.size 27 pn pbs) := Lib.hid (QRow.below RS_w8.out hB RS_w8.out.lt)
         have RT_w9 : Hid (QRow w9 w7.heap.size 24 tn tbs) := Lib.hid (QRow.below RT_w8.out hB RT_w8.out.lt)
         have BB_w9 : Hid (Below w.heap.size w w9) := Lib.hid (BB_w8.out.trans (hB.mono BB_w8.out.size))
         clear RQ_w8 RR_w8 RP_w8 RS_w8 RT_w8 BB_w8
         clear hB)
      | ((with_reducible show wpList _ _ _ (⟨some 37, .load 27 (.tmp 5), _, _, _, _⟩ :: _) _ _); refine wpList_load_q rfl 27 _ rfl (w1.heap.size) (by exact rfl) _ Try.underlying27 (by kernel_rfl) 27 _ _ (RR_w8.out) (HB8.out) ?_)
      | ((with_reducible show wpList _ _ _ (⟨none, .store 24 (.tmp 11) (.tmp 34), _, _, _, _⟩ :: _) _ _); refine wpList_store_q rfl 24 _ _ rfl (w7.heap.size) (by exact rfl) tn tbs (by exact rfl) HT8.out (by kernel_rfl) 24 _ _ (show QRow _ _ _ 0 [0, 0, 0, 0, 0, 0, 0, 0] from alloc_at _ _) rfl ?_; intro w8 HN HO HB
         have RQ_w8 : Hid (QRow w8 w.heap.size 24 n bs) := Lib.hid ((HO.out _ (Nat.ne_of_lt RQ_w7.out.lt)).trans (QRow.below RQ_w7.out ((Below.refl _ _).alloc (Nat.le_refl _) _) RQ_w7.out.lt))
         have RR_w8 : Hid (QRow w8 w1.heap.size 27 n bs) := Lib.hid ((HO.out _ (Nat.ne_of_lt RR_w7.out.lt)).trans (QRow.below RR_w7.out ((Below.refl _ _).alloc (Nat.le_refl _) _) RR_w7.out.lt))
         have RP_w8 : Hid (QRow w8 w3.heap.size 24 pn pbs) := Lib.hid ((HO.out _ (Nat.ne_of_lt RP_w7.out.lt)).trans (QRow.below RP_w7.out ((Below.refl _ _).alloc (Nat.le_refl _) _) RP_w7.out.lt))
         have RS_w8 : Hid (QRow w8 w5.heap.size 27 pn pbs) := Lib.hid ((HO.out _ (Nat.ne_of_lt RS_w7.out.lt)).trans (QRow.below RS_w7.out ((Below.refl _ _).alloc (Nat.le_refl _) _) RS_w7.out.lt))
         have RT_w8 : Hid (QRow w8 w7.heap.size 24 tn tbs) := HN
         have BB_w8 : Hid (Below w.heap.size w w8) := Lib.hid ((BB_w7.out.alloc BB_w7.out.size _).trans (HB.out.mono BB_w7.out.size))
         clear HO HB HN RQ_w7 RR_w7 RP_w7 RS_w7 BB_w7)
      | (go_at_call 12; refine (C4.out _).mono ?_; rintro e w7 ⟨rfl, hB⟩
         have RQ_w7 : Hid (QRow w7 w.heap.size 24 n bs) := Lib.hid (QRow.below RQ_w6.out hB RQ_w6.out.lt)
         have RR_w7 : Hid (QRow w7 w1.heap.size 27 n bs) := Lib.hid (QRow.below RR_w6.out hB RR_w6.out.lt)
         have RP_w7 : Hid (QRow w7 w3.heap.size 24 pn pbs) := Lib.hid (QRow.below RP_w6.out hB RP_w6.out.lt)
         have RS_w7 : Hid (QRow w7 w5.heap.size 27 pn pbs) := Lib.hid (QRow.below RS_w6.out hB RS_w6.out.lt)
         have BB_w7 : Hid (Below w.heap.size w w7) := Lib.hid (BB_w6.out.trans (hB.mono BB_w6.out.size))
         clear RQ_w6 RR_w6 RP_w6 RS_w6 BB_w6
         clear hB)
      | ((with_reducible show wpList _ _ _ (⟨some 31, .load 24 (.tmp 2), _, _, _, _⟩ :: _) _ _); refine wpList_load_q rfl 24 _ rfl (w.heap.size) (by exact rfl) _ Try.underlying24 (by kernel_rfl) 24 _ _ (RQ_w6.out) (HB8.out) ?_)
      | ((with_reducible show wpList _ _ _ (⟨none, .store 27 (.tmp 8) (.tmp 28), _, _, _, _⟩ :: _) _ _); refine wpList_store_q rfl 27 _ _ rfl (w5.heap.size) (by exact rfl) pn pbs (by exact rfl) HP8.out (by kernel_rfl) 27 _ _ (show QRow _ _ _ 0 [0, 0, 0, 0, 0, 0, 0, 0] from alloc_at _ _) rfl ?_; intro w6 HN HO HB
         have RQ_w6 : Hid (QRow w6 w.heap.size 24 n bs) := Lib.hid ((HO.out _ (Nat.ne_of_lt RQ_w5.out.lt)).trans (QRow.below RQ_w5.out ((Below.refl _ _).alloc (Nat.le_refl _) _) RQ_w5.out.lt))
         have RR_w6 : Hid (QRow w6 w1.heap.size 27 n bs) := Lib.hid ((HO.out _ (Nat.ne_of_lt RR_w5.out.lt)).trans (QRow.below RR_w5.out ((Below.refl _ _).alloc (Nat.le_refl _) _) RR_w5.out.lt))
         have RP_w6 : Hid (QRow w6 w3.heap.size 24 pn pbs) := Lib.hid ((HO.out _ (Nat.ne_of_lt RP_w5.out.lt)).trans (QRow.below RP_w5.out ((Below.refl _ _).alloc (Nat.le_refl _) _) RP_w5.out.lt))
         have RS_w6 : Hid (QRow w6 w5.heap.size 27 pn pbs) := HN
         have BB_w6 : Hid (Below w.heap.size w w6) := Lib.hid ((BB_w5.out.alloc BB_w5.out.size _).trans (HB.out.mono BB_w5.out.size))
         clear HO HB HN RQ_w5 RR_w5 RP_w5 BB_w5)
      | (go_at_call 17; refine (C3.out _).mono ?_; rintro e w5 ⟨rfl, hB⟩
         have RQ_w5 : Hid (QRow w5 w.heap.size 24 n bs) := Lib.hid (QRow.below RQ_w4.out hB RQ_w4.out.lt)
         have RR_w5 : Hid (QRow w5 w1.heap.size 27 n bs) := Lib.hid (QRow.below RR_w4.out hB RR_w4.out.lt)
         have RP_w5 : Hid (QRow w5 w3.heap.size 24 pn pbs) := Lib.hid (QRow.below RP_w4.out hB RP_w4.out.lt)
         have BB_w5 : Hid (Below w.heap.size w w5) := Lib.hid (BB_w4.out.trans (hB.mono BB_w4.out.size))
         clear RQ_w4 RR_w4 RP_w4 BB_w4
         clear hB)
      | ((with_reducible show wpList _ _ _ (⟨some 25, .load 27 (.tmp 5), _, _, _, _⟩ :: _) _ _); refine wpList_load_q rfl 27 _ rfl (w1.heap.size) (by exact rfl) _ Try.underlying27 (by kernel_rfl) 27 _ _ (RR_w4.out) (HB8.out) ?_)
      | ((with_reducible show wpList _ _ _ (⟨none, .store 24 (.tmp 6) (.tmp 22), _, _, _, _⟩ :: _) _ _); refine wpList_store_q rfl 24 _ _ rfl (w3.heap.size) (by exact rfl) pn pbs (by exact rfl) HP8.out (by kernel_rfl) 24 _ _ (show QRow _ _ _ 0 [0, 0, 0, 0, 0, 0, 0, 0] from alloc_at _ _) rfl ?_; intro w4 HN HO HB
         have RQ_w4 : Hid (QRow w4 w.heap.size 24 n bs) := Lib.hid ((HO.out _ (Nat.ne_of_lt RQ_w3.out.lt)).trans (QRow.below RQ_w3.out ((Below.refl _ _).alloc (Nat.le_refl _) _) RQ_w3.out.lt))
         have RR_w4 : Hid (QRow w4 w1.heap.size 27 n bs) := Lib.hid ((HO.out _ (Nat.ne_of_lt RR_w3.out.lt)).trans (QRow.below RR_w3.out ((Below.refl _ _).alloc (Nat.le_refl _) _) RR_w3.out.lt))
         have RP_w4 : Hid (QRow w4 w3.heap.size 24 pn pbs) := HN
         have BB_w4 : Hid (Below w.heap.size w w4) := Lib.hid ((BB_w3.out.alloc BB_w3.out.size _).trans (HB.out.mono BB_w3.out.size))
         clear HO HB HN RQ_w3 RR_w3 BB_w3)
      | (go_at_call 11; refine (C2.out _).mono ?_; rintro e w3 ⟨rfl, hB⟩
         have RQ_w3 : Hid (QRow w3 w.heap.size 24 n bs) := Lib.hid (QRow.below RQ_w2.out hB RQ_w2.out.lt)
         have RR_w3 : Hid (QRow w3 w1.heap.size 27 n bs) := Lib.hid (QRow.below RR_w2.out hB RR_w2.out.lt)
         have BB_w3 : Hid (Below w.heap.size w w3) := Lib.hid (BB_w2.out.trans (hB.mono BB_w2.out.size))
         clear RQ_w2 RR_w2 BB_w2
         clear hB)
      | ((with_reducible show wpList _ _ _ (⟨some 19, .load 24 (.tmp 2), _, _, _, _⟩ :: _) _ _); refine wpList_load_q rfl 24 _ rfl (w.heap.size) (by exact rfl) _ Try.underlying24 (by kernel_rfl) 24 _ _ (RQ_w2.out) (HB8.out) ?_)
      | ((with_reducible show wpList _ _ _ (⟨none, .store 27 (.tmp 5) (.tmp 17), _, _, _, _⟩ :: _) _ _); refine wpList_store_q rfl 27 _ _ rfl (w1.heap.size) (by exact rfl) n bs (by exact rfl) HB8.out (by kernel_rfl) 27 _ _ (show QRow _ _ _ 0 [0, 0, 0, 0, 0, 0, 0, 0] from alloc_at _ _) rfl ?_; intro w2 HN HO HB
         have RQ_w2 : Hid (QRow w2 w.heap.size 24 n bs) := Lib.hid ((HO.out _ (Nat.ne_of_lt RQ_w1.out.lt)).trans (QRow.below RQ_w1.out ((Below.refl _ _).alloc (Nat.le_refl _) _) RQ_w1.out.lt))
         have RR_w2 : Hid (QRow w2 w1.heap.size 27 n bs) := HN
         have BB_w2 : Hid (Below w.heap.size w w2) := Lib.hid ((BB_w1.out.alloc BB_w1.out.size _).trans (HB.out.mono BB_w1.out.size))
         clear HO HB HN RQ_w1 BB_w1)
      | (go_at_call 7; rw [← hq8.out]; refine (C1.out _).mono ?_; rintro e w1 ⟨rfl, hB⟩
         have RQ_w1 : Hid (QRow w1 w.heap.size 24 n bs) := Lib.hid ((HQ0.out _).below hB (by simp))
         have BB_w1 : Hid (Below w.heap.size w w1) := Lib.hid (((Below.refl _ _).alloc (Nat.le_refl _) _).trans (hB.mono (by simp)))
         clear hB)
      | ((with_reducible show wpList _ _ _ (⟨some 16, .load 24 (.tmp 2), _, _, _, _⟩ :: _) _ _); refine wpList_load_q rfl 24 _ rfl (w.heap.size) (by exact rfl) _ Try.underlying24 (by kernel_rfl) 24 _ _ (HQ0.out _) (HB8.out) ?_))
  generalize w1.heap.size = g1 at *
  generalize w3.heap.size = g3 at *
  generalize w5.heap.size = g5 at *
  generalize w7.heap.size = g7 at *
  generalize w9.heap.size = g9 at *
  refine wp_region_noPanic ?_
  refine wp_region_held_drew (S := fun X => Below wa.heap.size wa X) (by kernel_rfl) ((Below.refl _ wa).drew) (fun hHeld => ?_)
  refine' take_ 0 rfl (by kernel_rfl) (by kernel_rfl) (by kernel_rfl) (fun _ _ _ h => h) (by rfl) (fun wS hSw => run_load_q wS 24 _ _ rfl _ Try.underlying24 (by kernel_rfl) _ _ _ (QRow.below RP_wa.out hSw RP_wa.out.lt) HP8.out _ _ _ _ _) hHeld ?_
  try simp only [Act.put, List.setIfInBounds_toArray, List.set_cons_zero, List.set_cons_succ]
  refine' take_ 2 rfl (by kernel_rfl) (by kernel_rfl) (by kernel_rfl) (fun _ _ _ h => h) (by rfl) (fun wS hSw => run_load_q wS 27 _ _ rfl _ Try.underlying27 (by kernel_rfl) _ _ _ (QRow.below RS_wa.out hSw RS_wa.out.lt) HP8.out _ _ _ _ _) hHeld ?_
  try simp only [Act.put, List.setIfInBounds_toArray, List.set_cons_zero, List.set_cons_succ]
  refine only_ 1 rfl (by kernel_rfl) (by rfl) (fun K hK => ?_)
  go_simp
  (with_reducible refine (C6.out _).mono ?_)
  rintro e wn ⟨rfl, hBn⟩
  go_simp
  refine hK.out _ _ (hHeld.trans (hBn.mono hHeld.size)) (fun hHeld2 => ?_)
  clear hK K hHeld
  have hHeld := hHeld2
  clear hHeld2
  try simp only [Act.put, List.setIfInBounds_toArray, List.set_cons_zero, List.set_cons_succ]
  clear hBn
  refine' take_ 3 rfl (by kernel_rfl) (by kernel_rfl) (by kernel_rfl) (fun _ _ _ h => h) (by rfl) (fun wS hSw => ?_) hHeld ?_
  rotate_left
  focus (go_simp; (try with_reducible rfl); done)
  try simp only [Act.put, List.setIfInBounds_toArray, List.set_cons_zero, List.set_cons_succ]
  refine' take_ 4 rfl (by kernel_rfl) (by kernel_rfl) (by kernel_rfl) (fun _ _ _ h => h) (by rfl) (fun wS hSw => ?_) hHeld ?_
  rotate_left
  focus (go_simp; (try with_reducible rfl); done)
  try simp only [Act.put, List.setIfInBounds_toArray, List.set_cons_zero, List.set_cons_succ]
  refine' take_ 5 rfl (by kernel_rfl) (by kernel_rfl) (by kernel_rfl) (fun _ _ _ h => h) (by rfl) (fun wS hSw => ?_) hHeld ?_
  rotate_left
  focus (go_simp; (try with_reducible rfl); done)
  try simp only [Act.put, List.setIfInBounds_toArray, List.set_cons_zero, List.set_cons_succ]
  refine' take_ 6 rfl (by kernel_rfl) (by kernel_rfl) (by kernel_rfl) (fun _ _ _ h => h) (by rfl) (fun wS hSw => ?_) hHeld ?_
  rotate_left
  focus (go_simp; (try with_reducible rfl); done)
  try simp only [Act.put, List.setIfInBounds_toArray, List.set_cons_zero, List.set_cons_succ]
  refine' take_ 7 rfl (by kernel_rfl) (by kernel_rfl) (by kernel_rfl) (fun _ _ _ h => h) (by rfl) (fun wS hSw => ?_) hHeld ?_
  rotate_left
  focus (go_simp; (try with_reducible rfl); done)
  try simp only [Act.put, List.setIfInBounds_toArray, List.set_cons_zero, List.set_cons_succ]
  refine' take_ 8 rfl (by kernel_rfl) (by kernel_rfl) (by kernel_rfl) (fun _ _ _ h => h) (by rfl) (fun wS hSw => ?_) hHeld ?_
  rotate_left
  focus (go_simp; (try with_reducible rfl); done)
  try simp only [Act.put, List.setIfInBounds_toArray, List.set_cons_zero, List.set_cons_succ]
  refine' take_ 9 rfl (by kernel_rfl) (by kernel_rfl) (by kernel_rfl) (fun _ _ _ h => h) (by rfl) (fun wS hSw => ?_) hHeld ?_
  rotate_left
  focus (go_simp; (try with_reducible rfl); done)
  try simp only [Act.put, List.setIfInBounds_toArray, List.set_cons_zero, List.set_cons_succ]
  refine' take_ 10 rfl (by kernel_rfl) (by kernel_rfl) (by kernel_rfl) (fun _ _ _ h => h) (by rfl) (fun wS hSw => ?_) hHeld ?_
  rotate_left
  focus (go_simp; (try with_reducible rfl); done)
  try simp only [Act.put, List.setIfInBounds_toArray, List.set_cons_zero, List.set_cons_succ]
  refine' take_ 11 rfl (by kernel_rfl) (by kernel_rfl) (by kernel_rfl) (fun _ _ _ h => h) (by rfl) (fun wS hSw => ?_) hHeld ?_
  rotate_left
  focus (go_simp; (try with_reducible rfl); done)
  try simp only [Act.put, List.setIfInBounds_toArray, List.set_cons_zero, List.set_cons_succ]
  refine' take_ 12 rfl (by kernel_rfl) (by kernel_rfl) (by kernel_rfl) (fun _ _ _ h => h) (by rfl) (fun wS hSw => ?_) hHeld ?_
  rotate_left
  focus (go_simp; (try with_reducible rfl); done)
  try simp only [Act.put, List.setIfInBounds_toArray, List.set_cons_zero, List.set_cons_succ]
  refine' take_ 13 rfl (by kernel_rfl) (by kernel_rfl) (by kernel_rfl) (fun _ _ _ h => h) (by rfl) (fun wS hSw => ?_) hHeld ?_
  rotate_left
  focus (go_simp; (try with_reducible rfl); done)
  try simp only [Act.put, List.setIfInBounds_toArray, List.set_cons_zero, List.set_cons_succ]
  refine' take_ 14 rfl (by kernel_rfl) (by kernel_rfl) (by kernel_rfl) (fun _ _ _ h => h) (by rfl) (fun wS hSw => ?_) hHeld ?_
  rotate_left
  focus (go_simp; (try with_reducible rfl); done)
  try simp only [Act.put, List.setIfInBounds_toArray, List.set_cons_zero, List.set_cons_succ]
  refine' take_ 15 rfl (by kernel_rfl) (by kernel_rfl) (by kernel_rfl) (fun _ _ _ h => h) (by rfl) (fun wS hSw => run_load_q wS 24 _ _ rfl _ Try.underlying24 (by kernel_rfl) _ _ _ (QRow.below RT_wa.out hSw RT_wa.out.lt) HT8.out _ _ _ _ _) hHeld ?_
  try simp only [Act.put, List.setIfInBounds_toArray, List.set_cons_zero, List.set_cons_succ]
  refine' take_ 17 rfl (by kernel_rfl) (by kernel_rfl) (by kernel_rfl) (fun _ _ _ h => h) (by rfl) (fun wS hSw => run_load_q wS 27 _ _ rfl _ Try.underlying27 (by kernel_rfl) _ _ _ (QRow.below RU_wa.out hSw RU_wa.out.lt) HT8.out _ _ _ _ _) hHeld ?_
  try simp only [Act.put, List.setIfInBounds_toArray, List.set_cons_zero, List.set_cons_succ]
  refine only_ 16 rfl (by kernel_rfl) (by rfl) (fun K hK => ?_)
  go_simp
  (with_reducible refine (C7.out _).mono ?_)
  rintro e wn ⟨rfl, hBn⟩
  go_simp
  refine hK.out _ _ (hHeld.trans (hBn.mono hHeld.size)) (fun hHeld2 => ?_)
  clear hK K hHeld
  have hHeld := hHeld2
  clear hHeld2
  try simp only [Act.put, List.setIfInBounds_toArray, List.set_cons_zero, List.set_cons_succ]
  clear hBn
  refine' take_ 18 rfl (by kernel_rfl) (by kernel_rfl) (by kernel_rfl) (fun _ _ _ h => h) (by rfl) (fun wS hSw => ?_) hHeld ?_
  rotate_left
  focus (go_simp; (try with_reducible rfl); done)
  try simp only [Act.put, List.setIfInBounds_toArray, List.set_cons_zero, List.set_cons_succ]
  refine' take_ 19 rfl (by kernel_rfl) (by kernel_rfl) (by kernel_rfl) (fun _ _ _ h => h) (by rfl) (fun wS hSw => ?_) hHeld ?_
  rotate_left
  focus (go_simp; (try with_reducible rfl); done)
  try simp only [Act.put, List.setIfInBounds_toArray, List.set_cons_zero, List.set_cons_succ]
  refine' take_ 20 rfl (by kernel_rfl) (by kernel_rfl) (by kernel_rfl) (fun _ _ _ h => h) (by rfl) (fun wS hSw => ?_) hHeld ?_
  rotate_left
  focus (go_simp; (try with_reducible rfl); done)
  try simp only [Act.put, List.setIfInBounds_toArray, List.set_cons_zero, List.set_cons_succ]
  refine' take_ 21 rfl (by kernel_rfl) (by kernel_rfl) (by kernel_rfl) (fun _ _ _ h => h) (by rfl) (fun wS hSw => ?_) hHeld ?_
  rotate_left
  focus (go_simp; (try with_reducible rfl); done)
  try simp only [Act.put, List.setIfInBounds_toArray, List.set_cons_zero, List.set_cons_succ]
  refine' take_ 22 rfl (by kernel_rfl) (by kernel_rfl) (by kernel_rfl) (fun _ _ _ h => h) (by rfl) (fun wS hSw => ?_) hHeld ?_
  rotate_left
  focus (go_simp; (try with_reducible rfl); done)
  try simp only [Act.put, List.setIfInBounds_toArray, List.set_cons_zero, List.set_cons_succ]
  refine' take_ 23 rfl (by kernel_rfl) (by kernel_rfl) (by kernel_rfl) (fun _ _ _ h => h) (by rfl) (fun wS hSw => ?_) hHeld ?_
  rotate_left
  focus (go_simp; (try with_reducible rfl); done)
  try simp only [Act.put, List.setIfInBounds_toArray, List.set_cons_zero, List.set_cons_succ]
  refine' take_ 24 rfl (by kernel_rfl) (by kernel_rfl) (by kernel_rfl) (fun _ _ _ h => h) (by rfl) (fun wS hSw => ?_) hHeld ?_
  rotate_left
  focus (go_simp; (try with_reducible rfl); done)
  try simp only [Act.put, List.setIfInBounds_toArray, List.set_cons_zero, List.set_cons_succ]
  refine' take_ 25 rfl (by kernel_rfl) (by kernel_rfl) (by kernel_rfl) (fun _ _ _ h => h) (by rfl) (fun wS hSw => ?_) hHeld ?_
  rotate_left
  focus (go_simp; (try with_reducible rfl); done)
  try simp only [Act.put, List.setIfInBounds_toArray, List.set_cons_zero, List.set_cons_succ]
  refine' take_ 26 rfl (by kernel_rfl) (by kernel_rfl) (by kernel_rfl) (fun _ _ _ h => h) (by rfl) (fun wS hSw => run_load_q wS 24 _ _ rfl _ Try.underlying24 (by kernel_rfl) _ _ _ (QRow.below RQ_wa.out hSw RQ_wa.out.lt) HB8.out _ _ _ _ _) hHeld ?_
  try simp only [Act.put, List.setIfInBounds_toArray, List.set_cons_zero, List.set_cons_succ]
  refine' take_ 29 rfl (by kernel_rfl) (by kernel_rfl) (by kernel_rfl) (fun _ _ _ h => h) (by rfl) (fun wS hSw => run_load_q wS 27 _ _ rfl _ Try.underlying27 (by kernel_rfl) _ _ _ (QRow.below RR_wa.out hSw RR_wa.out.lt) HB8.out _ _ _ _ _) hHeld ?_
  try simp only [Act.put, List.setIfInBounds_toArray, List.set_cons_zero, List.set_cons_succ]
  refine only_ 27 rfl (by kernel_rfl) (by rfl) (fun K hK => ?_)
  go_simp
  (with_reducible refine (C8.out _).mono ?_)
  rintro e wn ⟨rfl, hBn⟩
  go_simp
  refine hK.out _ _ (hHeld.trans (hBn.mono hHeld.size)) (fun hHeld2 => ?_)
  clear hK K hHeld
  have hHeld := hHeld2
  clear hHeld2
  try simp only [Act.put, List.setIfInBounds_toArray, List.set_cons_zero, List.set_cons_succ]
  clear hBn
  refine only_ 28 rfl (by kernel_rfl) (by rfl) (fun K hK => ?_)
  go_simp
  (with_reducible refine (C10.out _).mono ?_)
  rintro e wn ⟨rfl, hBn⟩
  go_simp
  refine hK.out _ _ (hHeld.trans (hBn.mono hHeld.size)) (fun hHeld2 => ?_)
  clear hK K hHeld
  have hHeld := hHeld2
  clear hHeld2
  try simp only [Act.put, List.setIfInBounds_toArray, List.set_cons_zero, List.set_cons_succ]
  clear hBn
  refine only_ 30 rfl (by kernel_rfl) (by rfl) (fun K hK => ?_)
  go_simp
  (with_reducible refine (C9.out _).mono ?_)
  rintro e wn ⟨rfl, hBn⟩
  go_simp
  refine hK.out _ _ (hHeld.trans (hBn.mono hHeld.size)) (fun hHeld2 => ?_)
  clear hK K hHeld
  have hHeld := hHeld2
  clear hHeld2
  try simp only [Act.put, List.setIfInBounds_toArray, List.set_cons_zero, List.set_cons_succ]
  clear hBn
  refine' take_ 31 rfl (by kernel_rfl) (by kernel_rfl) (by kernel_rfl) (fun _ _ _ h => h) (by rfl) (fun wS hSw => ?_) hHeld ?_
  rotate_left
  focus (go_simp; (try with_reducible rfl); done)
  try simp only [Act.put, List.setIfInBounds_toArray, List.set_cons_zero, List.set_cons_succ]
  refine' take_ 32 rfl (by kernel_rfl) (by kernel_rfl) (by kernel_rfl) (fun _ _ _ h => h) (by rfl) (fun wS hSw => ?_) hHeld ?_
  rotate_left
  focus (go_simp; (try with_reducible rfl); done)
  try simp only [Act.put, List.setIfInBounds_toArray, List.set_cons_zero, List.set_cons_succ]
  refine' take_ 33 rfl (by kernel_rfl) (by kernel_rfl) (by kernel_rfl) (fun _ _ _ h => h) (by rfl) (fun wS hSw => ?_) hHeld ?_
  rotate_left
  focus (go_simp; (try with_reducible rfl); done)
  try simp only [Act.put, List.setIfInBounds_toArray, List.set_cons_zero, List.set_cons_succ]
  refine' take_ 34 rfl (by kernel_rfl) (by kernel_rfl) (by kernel_rfl) (fun _ _ _ h => h) (by rfl) (fun wS hSw => run_load_q wS 24 _ _ rfl _ Try.underlying24 (by kernel_rfl) _ _ _ (QRow.below RQ_wa.out hSw RQ_wa.out.lt) HB8.out _ _ _ _ _) hHeld ?_
  try simp only [Act.put, List.setIfInBounds_toArray, List.set_cons_zero, List.set_cons_succ]
  refine' take_ 36 rfl (by kernel_rfl) (by kernel_rfl) (by kernel_rfl) (fun _ _ _ h => h) (by rfl) (fun wS hSw => run_load_q wS 27 _ _ rfl _ Try.underlying27 (by kernel_rfl) _ _ _ (QRow.below RR_wa.out hSw RR_wa.out.lt) HB8.out _ _ _ _ _) hHeld ?_
  try simp only [Act.put, List.setIfInBounds_toArray, List.set_cons_zero, List.set_cons_succ]
  refine' take_ 38 rfl (by kernel_rfl) (by kernel_rfl) (by kernel_rfl) (fun _ _ _ h => h) (by rfl) (fun wS hSw => run_load_q wS 27 _ _ rfl _ Try.underlying27 (by kernel_rfl) _ _ _ (QRow.below RR_wa.out hSw RR_wa.out.lt) HB8.out _ _ _ _ _) hHeld ?_
  try simp only [Act.put, List.setIfInBounds_toArray, List.set_cons_zero, List.set_cons_succ]
  refine only_ 35 rfl (by kernel_rfl) (by rfl) (fun K hK => ?_)
  go_simp
  (with_reducible refine (C11.out _).mono ?_)
  rintro e wn ⟨rfl, hBn⟩
  go_simp
  refine hK.out _ _ (hHeld.trans (hBn.mono hHeld.size)) (fun hHeld2 => ?_)
  clear hK K hHeld
  have hHeld := hHeld2
  clear hHeld2
  try simp only [Act.put, List.setIfInBounds_toArray, List.set_cons_zero, List.set_cons_succ]
  clear hBn
  refine only_ 37 rfl (by kernel_rfl) (by rfl) (fun K hK => ?_)
  go_simp
  (with_reducible refine (C9.out _).mono ?_)
  rintro e wn ⟨rfl, hBn⟩
  go_simp
  refine hK.out _ _ (hHeld.trans (hBn.mono hHeld.size)) (fun hHeld2 => ?_)
  clear hK K hHeld
  have hHeld := hHeld2
  clear hHeld2
  try simp only [Act.put, List.setIfInBounds_toArray, List.set_cons_zero, List.set_cons_succ]
  clear hBn
  refine' take_ 39 rfl (by kernel_rfl) (by kernel_rfl) (by kernel_rfl) (fun _ _ _ h => h) (by rfl) (fun wS hSw => ?_) hHeld ?_
  rotate_left
  focus (go_simp; (try with_reducible rfl); done)
  try simp only [Act.put, List.setIfInBounds_toArray, List.set_cons_zero, List.set_cons_succ]
  refine' take_ 40 rfl (by kernel_rfl) (by kernel_rfl) (by kernel_rfl) (fun _ _ _ h => h) (by rfl) (fun wS hSw => ?_) hHeld ?_
  rotate_left
  focus (go_simp; (try with_reducible rfl); done)
  try simp only [Act.put, List.setIfInBounds_toArray, List.set_cons_zero, List.set_cons_succ]
  refine' take_ 41 rfl (by kernel_rfl) (by kernel_rfl) (by kernel_rfl) (fun _ _ _ h => h) (by rfl) (fun wS hSw => ?_) hHeld ?_
  rotate_left
  focus (go_simp; (try with_reducible rfl); done)
  try simp only [Act.put, List.setIfInBounds_toArray, List.set_cons_zero, List.set_cons_succ]
  refine' take_ 42 rfl (by kernel_rfl) (by kernel_rfl) (by kernel_rfl) (fun _ _ _ h => h) (by rfl) (fun wS hSw => ?_) hHeld ?_
  rotate_left
  focus (go_simp; (try with_reducible rfl); done)
  try simp only [Act.put, List.setIfInBounds_toArray, List.set_cons_zero, List.set_cons_succ]
  refine' take_ 43 rfl (by kernel_rfl) (by kernel_rfl) (by kernel_rfl) (fun _ _ _ h => h) (by rfl) (fun wS hSw => run_load_q wS 24 _ _ rfl _ Try.underlying24 (by kernel_rfl) _ _ _ (QRow.below RQ_wa.out hSw RQ_wa.out.lt) HB8.out _ _ _ _ _) hHeld ?_
  try simp only [Act.put, List.setIfInBounds_toArray, List.set_cons_zero, List.set_cons_succ]
  refine' take_ 45 rfl (by kernel_rfl) (by kernel_rfl) (by kernel_rfl) (fun _ _ _ h => h) (by rfl) (fun wS hSw => run_load_q wS 27 _ _ rfl _ Try.underlying27 (by kernel_rfl) _ _ _ (QRow.below RR_wa.out hSw RR_wa.out.lt) HB8.out _ _ _ _ _) hHeld ?_
  try simp only [Act.put, List.setIfInBounds_toArray, List.set_cons_zero, List.set_cons_succ]
  refine only_ 44 rfl (by kernel_rfl) (by rfl) (fun K hK => ?_)
  go_simp
  (with_reducible refine (C12.out _).mono ?_)
  rintro e wl ⟨v1, rfl, hv1, hBn⟩
  go_simp
  refine hK.out _ _ (hHeld.trans (hBn.mono hHeld.size)) (fun hHeld2 => ?_)
  clear hK K hHeld
  have hHeld := hHeld2
  clear hHeld2
  try simp only [Act.put, List.setIfInBounds_toArray, List.set_cons_zero, List.set_cons_succ]
  clear hBn
  refine only_ 46 rfl (by kernel_rfl) (by rfl) (fun K hK => ?_)
  go_simp
  (with_reducible refine (C13.out _).mono ?_)
  rintro e wm ⟨v2, rfl, hv2, hBm⟩
  go_simp
  refine hK.out _ _ (hHeld.trans (hBm.mono hHeld.size)) (fun hHeld2 => ?_)
  clear hK K hHeld
  have hHeld := hHeld2
  clear hHeld2
  try simp only [Act.put, List.setIfInBounds_toArray, List.set_cons_zero, List.set_cons_succ]
  refine only_ 47 rfl (by kernel_rfl) (by rfl) (fun K hK => ?_)
  go_simp
  refine (C14.out _ _ _ _ _ _ hv1 hBm hv2).mono ?_
  rintro e wn ⟨rfl, hBn⟩
  go_simp
  refine hK.out _ _ (hHeld.trans (hBn.mono hHeld.size)) (fun hHeld2 => ?_)
  clear hK K hHeld
  have hHeld := hHeld2
  clear hHeld2
  try simp only [Act.put, List.setIfInBounds_toArray, List.set_cons_zero, List.set_cons_succ]
  refine' take_ 48 rfl (by kernel_rfl) (by kernel_rfl) (by kernel_rfl) (fun _ _ _ h => h) (by rfl) (fun wS hSw => ?_) hHeld ?_
  rotate_left
  focus (go_simp; (try with_reducible rfl); done)
  try simp only [Act.put, List.setIfInBounds_toArray, List.set_cons_zero, List.set_cons_succ]
  refine' take_ 49 rfl (by kernel_rfl) (by kernel_rfl) (by kernel_rfl) (fun _ _ _ h => h) (by rfl) (fun wS hSw => ?_) hHeld ?_
  rotate_left
  focus (go_simp; (try with_reducible rfl); done)
  try simp only [Act.put, List.setIfInBounds_toArray, List.set_cons_zero, List.set_cons_succ]
  refine wpAnyH_done (by kernel_rfl) ?_ _
  refine NoPanic.normal ?_
  go_wp2
  go_ret
  exact ⟨rfl, BB_wa.out.trans (hHeld.mono BB_wa.out.size)⟩
end Go.Proofs.Ytebapciapnebgaa
