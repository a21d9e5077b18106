/-
  UartTells' walk, if the program's functions are what they must be: true. Made by wip/genuarttells.py.
-/
import Derived.Test.YtgpgijdciaieaaaWorks
namespace Go.Proofs.Ytgpgijdciaieaaa
open Go.RowKit
set_option linter.unusedVariables false
theorem mend_twice {n : Int} {bs : List Nat} {m : Int} {cs : List Nat} {c k : Nat} (l : Bool) (h : UIn n bs m cs c k) : ∃ N p M q k', uq (cutL n bs) (cutL m cs) l c (kM (cutL m cs) k) = uv N p M q l c k' ∧ UIn N p M q c k' ∧ uq (cutL N p) (cutL M q) l c (kM (cutL M q) k') = uv N p M q l c k' ∧ rightB N p = true ∧ rightB M q = true := by
  have hR := cutL_le n bs h.hb
  have hT := cutL_le m cs h.hc
  obtain ⟨hin, e1, e2⟩ := mended_in (c := c) hR hT rfl rfl rfl rfl (cutL_lt h.lb) (cutL_lt h.lc) h.c8 (kM_lt (cutL m cs) k)
  refine ⟨_, _, _, _, _, rfl, hin, ?_, rightB_ofV _, rightB_ofV _⟩
  rw [e1, e2, kM_kM]
  rfl
theorem smN_range (n : Int) : 0 ≤ smN n ∧ smN n ≤ 9 := by
  unfold smN
  omega
theorem small_in {n : Int} {bs : List Nat} {m : Int} {cs : List Nat} {c k : Nat} (h : UIn n bs m cs c k) : UIn (smN n) bs (smN m) cs c (k % 6) := by
  have h1 := smN_range n
  have h2 := smN_range m
  exact ⟨h.hb, h.hc, by omega, by omega, by omega, by omega, h.lb, h.lc, h.c8, by omega⟩
set_option maxHeartbeats 4000000 in
set_option maxRecDepth 100000 in
theorem tells_walk (H : UartOk) (n : Int) (bs : List Nat) (m : Int) (cs : List Nat) (l : Bool) (c k : Nat) (reg v : Int) (w : World) (h : UIn n bs m cs c k) (hg0 : -9223372036854775808 ≤ reg) (hg1 : reg ≤ 9223372036854775807) (hv0 : -2147483648 ≤ v) (hv1 : v ≤ 2147483647) :
    Calls Try.prog 3 #[uv n bs m cs l c k, .int .i64 reg, .int .i32 v] w fun e w' => e = .returned (.bool true) ∧ Below w.heap.size w w' := by
  have hs := small_in h
  obtain ⟨N, p, M, q, k2, e1, hin, e2, hr1, hr2⟩ := mend_twice l hs
  have KA := Lib.hid (fun reg W h0 h1 => alike_any H n bs m cs l c k reg v W h h0 h1 hv0 hv1)
  have KS := Lib.hid (fun reg W h0 h1 => alike_any H (smN n) bs (smN m) cs l c (k % 6) reg v W hs h0 h1 hv0 hv1)
  have KG := Lib.hid (fun W => small_any n bs m cs l c k W h.hb h.hc)
  have KM1 := Lib.hid (fun W => H.mend (smN n) bs (smN m) cs l c (k % 6) W hs)
  have KM2 := Lib.hid (fun W => H.mend N p M q l c k2 W hin)
  have KR1 := Lib.hid (fun W => right_any N p W hin.hb hin.n0 hin.n1)
  have KR2 := Lib.hid (fun W => right_any M q W hin.hc hin.m0 hin.m1)
  have KW := Lib.hid (works_any H)
  rw [e1] at KM1
  rw [e2] at KM2
  rw [hr1] at KR1
  rw [hr2] at KR2
  have hb := h.hb
  have hc := h.hc
  have hp := hin.hb
  have hq := hin.hc
  have HI := Lib.hid (And.intro hg0 hg1)
  clear e1 e2 hr1 hr2 hin hs h hv0 hv1 hg0 hg1
  generalize smN n = n9 at *
  generalize smN m = m9 at *
  generalize k % 6 = k6 at *
  unfold uv
  go_enter Try.func3, Try.ntmps3
  go_upto_region 1 with (fail)
  refine name_one (Q := fun X => Code.wp _ _ _ _ X) ?_
  intro w0 hq1 hB0 hZ0
  have RQ_w0 : Hid (URow w0 w.heap.size 26 n bs m cs l c k) := Lib.hid ⟨hq1, hb, hc⟩
  have BB_w0 : Hid (Below w.heap.size w w0) := Lib.hid hB0
  clear hq1 hB0 hZ0
  obtain ⟨g, hg⟩ : ∃ g, w.heap.size = g := ⟨_, rfl⟩
  have HG := Lib.hid hg
  rw [hg] at RQ_w0 ⊢
  clear hg
  go_wp2
  go_loopw [7] (fun iv wr => ∃ i : Nat, i ≤ 15 ∧ iv = .int .i64 i ∧ URow wr g 26 n bs m cs l c k ∧ Below w.heap.size w wr) (fun iv _ => 15 - (intOf iv).toNat)
  case atStart => exact ⟨0, by omega, rfl, RQ_w0.out, BB_w0.out⟩
  case round =>
    obtain ⟨i, hi, rfl, hr, hb2⟩ := hrel
    have RQ_wr := Lib.hid hr
    have BB_wr := Lib.hid hb2
    clear hr hb2 RQ_w0 BB_w0
    by_cases hlt : i < 15
    · have d1 : (i : Int) ≤ 14 := by omega
      have HI0 : Hid (-9223372036854775808 ≤ (i : Int)) := Lib.hid (by omega)
      have HI1 : Hid ((i : Int) ≤ 9223372036854775807) := Lib.hid (by omega)
      go_wp2_with (first
      | (go_at_call 7; have hc := BB_wb; clear hc; refine (KS.out _ _ HI0.out HI1.out).mono ?_; rintro e wc ⟨rfl, hB⟩
         have RQ_wc : Hid (URow wc (g) 26 n bs m cs l c k) := Lib.hid (URow.below RQ_wb.out hB RQ_wb.out.lt)
         have BB_wc : Hid (Below w.heap.size w wc) := Lib.hid (BB_wb.out.trans (hB.mono BB_wb.out.size))
         clear hB RQ_wb BB_wb)
      | (go_at_call 8; have hc := BB_wa; clear hc; refine (KG.out _).mono ?_; rintro e wb ⟨rfl, hB⟩
         have RQ_wb : Hid (URow wb (g) 26 n bs m cs l c k) := Lib.hid (URow.below RQ_wa.out hB RQ_wa.out.lt)
         have BB_wb : Hid (Below w.heap.size w wb) := Lib.hid (BB_wa.out.trans (hB.mono BB_wa.out.size))
         clear hB RQ_wa BB_wa)
      | ((with_reducible show wpList _ _ _ (⟨some 19, .load 26 (.tmp 3), _, _, _, _⟩ :: _) _ _); refine wpList_load_u (by kernel_rfl) 26 _ rfl (g) (by exact rfl) _ Try.underlying26 (by kernel_rfl) 26 (RQ_wa.out) ?_)
      | (go_at_call 7; have hc := BB_wr; clear hc; refine (KA.out _ _ HI0.out HI1.out).mono ?_; rintro e wa ⟨rfl, hB⟩
         have RQ_wa : Hid (URow wa (g) 26 n bs m cs l c k) := Lib.hid (URow.below RQ_wr.out hB RQ_wr.out.lt)
         have BB_wa : Hid (Below w.heap.size w wa) := Lib.hid (BB_wr.out.trans (hB.mono BB_wr.out.size))
         clear hB RQ_wr BB_wr)
      | ((with_reducible show wpList _ _ _ (⟨some 13, .load 26 (.tmp 3), _, _, _, _⟩ :: _) _ _); refine wpList_load_u (by rfl) 26 _ rfl (g) (by exact rfl) _ Try.underlying26 (by kernel_rfl) 26 (RQ_wr.out) ?_))
      go_roundw
      case rel => exact ⟨i + 1, by omega, by go_num, RQ_wc.out, BB_wc.out⟩
      case measure =>
        simp [intOf]
        omega
    · have d1 : ¬ (i : Int) ≤ 14 := by omega
      go_upto_region 7 with (first
      | ((with_reducible show wpList _ _ _ (⟨none, .store 26 (.tmp 8) (.tmp 28), _, _, _, _⟩ :: _) _ _); refine wpList_store_u rfl 26 _ _ rfl (wb.heap.size) (by exact rfl) (by exact rfl) (by first | assumption | exact rfl) (by first | assumption | exact rfl) (by kernel_rfl) 26 (show URow _ _ _ 0 Z8 0 Z8 false 0 0 from ⟨alloc_at _ _, rfl, rfl⟩) ?_; intro wz HN HO HB
         have RQ_wz : Hid (URow wz (g) 26 n bs m cs l c k) := Lib.hid (URow.other (URow.below RQ_wb.out ((Below.refl _ _).alloc (Nat.le_refl _) _) RQ_wb.out.lt) HO.out (Nat.ne_of_lt RQ_wb.out.lt))
         have RM_wz : Hid (URow wz wb.heap.size 26 N p M q l c k2) := HN
         have BB_wz : Hid (Below w.heap.size w wz) := Lib.hid ((BB_wb.out.alloc BB_wb.out.size _).trans (HB.out.mono BB_wb.out.size))
         clear HO HB HN RQ_wb BB_wb)
      | (go_at_call 9; have hc := BB_wa; clear hc; refine (KM1.out _).mono ?_; rintro e wb ⟨rfl, hB⟩
         have RQ_wb : Hid (URow wb (g) 26 n bs m cs l c k) := Lib.hid (URow.below RQ_wa.out hB RQ_wa.out.lt)
         have BB_wb : Hid (Below w.heap.size w wb) := Lib.hid (BB_wa.out.trans (hB.mono BB_wa.out.size))
         clear hB RQ_wa BB_wa)
      | (go_at_call 8; have hc := BB_wr; clear hc; refine (KG.out _).mono ?_; rintro e wa ⟨rfl, hB⟩
         have RQ_wa : Hid (URow wa (g) 26 n bs m cs l c k) := Lib.hid (URow.below RQ_wr.out hB RQ_wr.out.lt)
         have BB_wa : Hid (Below w.heap.size w wa) := Lib.hid (BB_wr.out.trans (hB.mono BB_wr.out.size))
         clear hB RQ_wr BB_wr)
      | ((with_reducible show wpList _ _ _ (⟨some 26, .load 26 (.tmp 3), _, _, _, _⟩ :: _) _ _); refine wpList_load_u (by rfl) 26 _ rfl (g) (by exact rfl) _ Try.underlying26 (by kernel_rfl) 26 (RQ_wr.out) ?_))
      generalize wb.heap.size = gm at *
      refine wp_region_noPanic ?_
      refine wp_region_held_drew (S := fun X => Below wz.heap.size wz X) (by kernel_rfl) ((Below.refl _ wz).drew) (fun hHeld => ?_)
      refine' take_ 0 rfl (by kernel_rfl) (by kernel_rfl) (by kernel_rfl) (fun _ _ _ h => h) (by rfl) (fun wS hSw => run_load_u wS 26 _ g rfl _ Try.underlying26 (by kernel_rfl) 26 (RQ_wz.out.below hSw RQ_wz.out.lt) _ _ _ _ _) hHeld ?_
      try simp only [Act.put, List.setIfInBounds_toArray, List.set_cons_zero, List.set_cons_succ]
      refine' take_ 1 rfl (by kernel_rfl) (by kernel_rfl) (by kernel_rfl) (fun _ _ _ h => h) (by rfl) (fun wS hSw => ?_) hHeld ?_
      rotate_left
      focus (go_simp; (try with_reducible rfl); done)
      try simp only [Act.put, List.setIfInBounds_toArray, List.set_cons_zero, List.set_cons_succ]
      refine' take_ 2 rfl (by kernel_rfl) (by kernel_rfl) (by kernel_rfl) (fun _ _ _ h => h) (by rfl) (fun wS hSw => ?_) hHeld ?_
      rotate_left
      focus (go_simp; (try with_reducible rfl); done)
      try simp only [Act.put, List.setIfInBounds_toArray, List.set_cons_zero, List.set_cons_succ]
      refine only_ 3 rfl (by kernel_rfl) (by rfl) (fun K hK => ?_)
      go_simp
      (with_reducible refine (KA.out _ _ HI.out.1 HI.out.2).mono ?_)
      rintro e wn ⟨rfl, hBn⟩
      go_simp
      refine hK.out _ _ (hHeld.trans (hBn.mono hHeld.size)) (fun hHeld2 => ?_)
      clear hK K hHeld
      have hHeld := hHeld2
      clear hHeld2
      try simp only [Act.put, List.setIfInBounds_toArray, List.set_cons_zero, List.set_cons_succ]
      clear hBn
      refine' take_ 4 rfl (by kernel_rfl) (by kernel_rfl) (by kernel_rfl) (fun _ _ _ h => h) (by rfl) (fun wS hSw => ?_) hHeld ?_
      rotate_left
      focus (go_simp; (try with_reducible rfl); done)
      try simp only [Act.put, List.setIfInBounds_toArray, List.set_cons_zero, List.set_cons_succ]
      refine' take_ 5 rfl (by kernel_rfl) (by kernel_rfl) (by kernel_rfl) (fun _ _ _ h => h) (by rfl) (fun wS hSw => run_load_u wS 26 _ gm rfl _ Try.underlying26 (by kernel_rfl) 26 (RM_wz.out.below hSw RM_wz.out.lt) _ _ _ _ _) hHeld ?_
      try simp only [Act.put, List.setIfInBounds_toArray, List.set_cons_zero, List.set_cons_succ]
      refine' take_ 6 rfl (by kernel_rfl) (by kernel_rfl) (by kernel_rfl) (fun _ _ _ h => h) (by rfl) (fun wS hSw => run_load_u wS 26 _ gm rfl _ Try.underlying26 (by kernel_rfl) 26 (RM_wz.out.below hSw RM_wz.out.lt) _ _ _ _ _) hHeld ?_
      try simp only [Act.put, List.setIfInBounds_toArray, List.set_cons_zero, List.set_cons_succ]
      refine only_ 7 rfl (by kernel_rfl) (by rfl) (fun K hK => ?_)
      go_simp
      (with_reducible refine (KM2.out _).mono ?_)
      rintro e wn ⟨rfl, hBn⟩
      go_simp
      refine hK.out _ _ (hHeld.trans (hBn.mono hHeld.size)) (fun hHeld2 => ?_)
      clear hK K hHeld
      have hHeld := hHeld2
      clear hHeld2
      try simp only [Act.put, List.setIfInBounds_toArray, List.set_cons_zero, List.set_cons_succ]
      clear hBn
      refine' take_ 8 rfl (by kernel_rfl) (by kernel_rfl) (by kernel_rfl) (fun _ _ _ h => h) (by rfl) (fun wS hSw => ?_) hHeld ?_
      rotate_left
      focus ((go_simp; rw [guard_u]; go_simp; rw [run_eql_u _ _ _ _ _ _ _ _ (by assumption) (by assumption)]; (try go_simp); (try with_reducible rfl); done))
      try simp only [Act.put, List.setIfInBounds_toArray, List.set_cons_zero, List.set_cons_succ]
      refine' take_ 9 rfl (by kernel_rfl) (by kernel_rfl) (by kernel_rfl) (fun _ _ _ h => h) (by rfl) (fun wS hSw => ?_) hHeld ?_
      rotate_left
      focus (go_simp; (try with_reducible rfl); done)
      try simp only [Act.put, List.setIfInBounds_toArray, List.set_cons_zero, List.set_cons_succ]
      refine' take_ 10 rfl (by kernel_rfl) (by kernel_rfl) (by kernel_rfl) (fun _ _ _ h => h) (by rfl) (fun wS hSw => ?_) hHeld ?_
      rotate_left
      focus (go_simp; (try with_reducible rfl); done)
      try simp only [Act.put, List.setIfInBounds_toArray, List.set_cons_zero, List.set_cons_succ]
      refine' take_ 11 rfl (by kernel_rfl) (by kernel_rfl) (by kernel_rfl) (fun _ _ _ h => h) (by rfl) (fun wS hSw => ?_) hHeld ?_
      rotate_left
      focus (go_simp; (try with_reducible rfl); done)
      try simp only [Act.put, List.setIfInBounds_toArray, List.set_cons_zero, List.set_cons_succ]
      refine' take_ 12 rfl (by kernel_rfl) (by kernel_rfl) (by kernel_rfl) (fun _ _ _ h => h) (by rfl) (fun wS hSw => run_load_q9 wS 24 _ gm 0 rfl _ Try.underlying24 (by kernel_rfl) (RM_wz.out.below hSw RM_wz.out.lt).rx (by assumption) _ _ _ _ _) hHeld ?_
      try simp only [Act.put, List.setIfInBounds_toArray, List.set_cons_zero, List.set_cons_succ]
      refine only_ 13 rfl (by kernel_rfl) (by rfl) (fun K hK => ?_)
      go_simp
      (with_reducible refine (KR1.out _).mono ?_)
      rintro e wn ⟨rfl, hBn⟩
      go_simp
      refine hK.out _ _ (hHeld.trans (hBn.mono hHeld.size)) (fun hHeld2 => ?_)
      clear hK K hHeld
      have hHeld := hHeld2
      clear hHeld2
      try simp only [Act.put, List.setIfInBounds_toArray, List.set_cons_zero, List.set_cons_succ]
      clear hBn
      refine' take_ 14 rfl (by kernel_rfl) (by kernel_rfl) (by kernel_rfl) (fun _ _ _ h => h) (by rfl) (fun wS hSw => ?_) hHeld ?_
      rotate_left
      focus (go_simp; (try with_reducible rfl); done)
      try simp only [Act.put, List.setIfInBounds_toArray, List.set_cons_zero, List.set_cons_succ]
      refine' take_ 15 rfl (by kernel_rfl) (by kernel_rfl) (by kernel_rfl) (fun _ _ _ h => h) (by rfl) (fun wS hSw => ?_) hHeld ?_
      rotate_left
      focus (go_simp; (try with_reducible rfl); done)
      try simp only [Act.put, List.setIfInBounds_toArray, List.set_cons_zero, List.set_cons_succ]
      refine' take_ 16 rfl (by kernel_rfl) (by kernel_rfl) (by kernel_rfl) (fun _ _ _ h => h) (by rfl) (fun wS hSw => ?_) hHeld ?_
      rotate_left
      focus (go_simp; (try with_reducible rfl); done)
      try simp only [Act.put, List.setIfInBounds_toArray, List.set_cons_zero, List.set_cons_succ]
      refine' take_ 17 rfl (by kernel_rfl) (by kernel_rfl) (by kernel_rfl) (fun _ _ _ h => h) (by rfl) (fun wS hSw => run_load_q9 wS 24 _ gm 9 rfl _ Try.underlying24 (by kernel_rfl) (RM_wz.out.below hSw RM_wz.out.lt).tx (by assumption) _ _ _ _ _) hHeld ?_
      try simp only [Act.put, List.setIfInBounds_toArray, List.set_cons_zero, List.set_cons_succ]
      refine only_ 18 rfl (by kernel_rfl) (by rfl) (fun K hK => ?_)
      go_simp
      (with_reducible refine (KR2.out _).mono ?_)
      rintro e wn ⟨rfl, hBn⟩
      go_simp
      refine hK.out _ _ (hHeld.trans (hBn.mono hHeld.size)) (fun hHeld2 => ?_)
      clear hK K hHeld
      have hHeld := hHeld2
      clear hHeld2
      try simp only [Act.put, List.setIfInBounds_toArray, List.set_cons_zero, List.set_cons_succ]
      clear hBn
      refine' take_ 19 rfl (by kernel_rfl) (by kernel_rfl) (by kernel_rfl) (fun _ _ _ h => h) (by rfl) (fun wS hSw => ?_) hHeld ?_
      rotate_left
      focus (go_simp; (try with_reducible rfl); done)
      try simp only [Act.put, List.setIfInBounds_toArray, List.set_cons_zero, List.set_cons_succ]
      refine' take_ 20 rfl (by kernel_rfl) (by kernel_rfl) (by kernel_rfl) (fun _ _ _ h => h) (by rfl) (fun wS hSw => ?_) hHeld ?_
      rotate_left
      focus (go_simp; (try with_reducible rfl); done)
      try simp only [Act.put, List.setIfInBounds_toArray, List.set_cons_zero, List.set_cons_succ]
      refine only_ 21 rfl (by kernel_rfl) (by rfl) (fun K hK => ?_)
      go_simp
      (with_reducible refine (KW.out _).mono ?_)
      rintro e wn ⟨rfl, hBn⟩
      go_simp
      refine hK.out _ _ (hHeld.trans (hBn.mono hHeld.size)) (fun hHeld2 => ?_)
      clear hK K hHeld
      have hHeld := hHeld2
      clear hHeld2
      try simp only [Act.put, List.setIfInBounds_toArray, List.set_cons_zero, List.set_cons_succ]
      clear hBn
      refine' take_ 22 rfl (by kernel_rfl) (by kernel_rfl) (by kernel_rfl) (fun _ _ _ h => h) (by rfl) (fun wS hSw => ?_) hHeld ?_
      rotate_left
      focus (go_simp; (try with_reducible rfl); done)
      try simp only [Act.put, List.setIfInBounds_toArray, List.set_cons_zero, List.set_cons_succ]
      refine' take_ 23 rfl (by kernel_rfl) (by kernel_rfl) (by kernel_rfl) (fun _ _ _ h => h) (by rfl) (fun wS hSw => ?_) hHeld ?_
      rotate_left
      focus (go_simp; (try with_reducible rfl); done)
      try simp only [Act.put, List.setIfInBounds_toArray, List.set_cons_zero, List.set_cons_succ]
      refine wpAnyH_done (by kernel_rfl) ?_ _
      refine NoPanic.normal ?_
      go_wp2
      go_ret
      exact ⟨rfl, BB_wz.out.trans (hHeld.mono BB_wz.out.size)⟩
end Go.Proofs.Ytgpgijdciaieaaa
