/-
  does: an act of both banks, by its contract. Made by wip/genbankplays2.py. Made by wip/genbankref.py.
-/
import Derived.Test.YtkodoldkfeopdaaGreatPd
import Derived.Test.YtkodoldkfeopdaaGreatBe
import Derived.Test.YtkodoldkfeopdaaGreatRk
import Derived.Deep.DeepCutAuto
import Derived.Deep.CutBlock
namespace Go.Proofs.YtkodoldkfeopdaaGreat
open Go.RowKit
set_option linter.unusedVariables false
set_option maxRecDepth 100000
set_option maxHeartbeats 16000000 in
theorem does_any (H : BankOk) (b : Bk) (x : Ax) (gb gr B : Nat) (w : World) (h : b.ok) (hwh : x.wh < 256) (hr1 : -128 ≤ x.rg) (hr2 : x.rg ≤ 127) (hv1 : -2147483648 ≤ x.v) (hv2 : x.v ≤ 2147483647) (h1 : BRow w gb 37 b) (h2 : BRow w gr 46 b) (hne : gb ≠ gr) (hb1 : B ≤ gb) (hb2 : B ≤ gr) (hBw : B ≤ w.heap.size) :
    Calls Tryz.prog 4 #[.agg (xc x).toArray, .pointer (some ⟨gb, 0, none⟩), .pointer (some ⟨gr, 0, none⟩)] w fun e w' => (e = .returned (.bool true) ∧ ∃ d : Bk, d.ok ∧ BRow w' gb 37 d ∧ BRow w' gr 46 d) ∧ Below B w w' := by
  have HOK := Lib.hid h
  have HBw := Lib.hid hBw
  have LE_RB := Lib.hid hb1
  have LE_RR := Lib.hid hb2
  have NE_RB_RR := Lib.hid hne
  have NE_RR_RB := Lib.hid hne.symm
  have NX1 : Hid (w.heap.size ≠ gb) := Lib.hid (Nat.ne_of_gt h1.lt)
  have NX2 : Hid (w.heap.size ≠ gr) := Lib.hid (Nat.ne_of_gt h2.lt)
  have Q1 := Lib.hid h1
  have Q2 := Lib.hid h2
  obtain ⟨mm, hm, hm6⟩ : ∃ m : Nat, (x.wh : Int) % 12 = (m : Int) ∧ m < 12 := ⟨x.wh % 12, by omega, by omega⟩
  clear h h1 h2 hne hb1 hb2 hBw
  unfold xc
  go_enter Tryz.func4, Tryz.ntmps4
  go_upto_region 1 with (fail)
  refine name_one (Q := fun X => Code.wp _ _ _ _ X) ?_
  intro W0 hq hB0 hz
  have RX_W0 : Hid (ARow W0 w.heap.size 49 x) := Lib.hid hq
  have RB_W0 := Lib.hid (BRow.below Q1.out hB0 Q1.out.lt)
  have RR_W0 := Lib.hid (BRow.below Q2.out hB0 Q2.out.lt)
  have BB_W0 : Hid (Below B w W0) := Lib.hid (hB0.mono HBw.out)
  clear hq hB0 hz Q1 Q2
  obtain ⟨gx, hgx⟩ : ∃ g, w.heap.size = g := ⟨_, rfl⟩
  rw [hgx] at NX1 NX2
  have NE_RX_RB := NX1
  have NE_RX_RR := NX2
  rw [hgx] at RX_W0 ⊢
  clear hgx NX1 NX2
  have z0 := RX_W0.out.c0
  have z1 := RX_W0.out.c1
  have z2 := RX_W0.out.c2
  by_cases h4 : mm < 4
  · have d4 : (mm : Int) < 4 := by omega
    have K1 := Lib.hid (fun W => H.write b x.rg x.v W HOK.out (by omega) (by omega) hv1 hv2)
    have K2 := Lib.hid (fun W => rWriteB_any b x.rg x.v W HOK.out (by omega) (by omega) hv1 hv2)
    have HO2 := Lib.hid (writeB_ok HOK.out x.rg x.v)
    go_upto_region 9 with fail
    refine wp_region_noPanic ?_
    refine wp_region_held_drew (S := fun X => Below B w X ∧ X.cell? ⟨gx, 2, none⟩ = some (.int .i32 x.v)) (by kernel_rfl) (⟨BB_W0.out.trans ((Below.refl _ _).drew.mono (Nat.le_trans HBw.out BB_W0.out.size)), (ARow.below RX_W0.out (Below.refl _ _).drew RX_W0.out.lt).c2⟩) (fun hHeld => ?_)
    have RA0 := Lib.hid (BRow.below RB_W0.out (Below.refl _ _).drew RB_W0.out.lt)
    have RO0 := Lib.hid (BRow.below RR_W0.out (Below.refl _ _).drew RR_W0.out.lt)
    have RX0 := Lib.hid (ARow.below RX_W0.out (Below.refl _ _).drew RX_W0.out.lt)
    obtain ⟨Y0, hY0⟩ : ∃ Y, W0.drew = Y := ⟨_, rfl⟩
    rw [hY0] at hHeld RA0 RO0 RX0 ⊢
    clear hY0 RB_W0 RR_W0 RX_W0 BB_W0 z0 z1 z2
    refine' take_ 0 rfl (by kernel_rfl) (by kernel_rfl) (by kernel_rfl) (fun _ _ _ h => h) (by rfl) (fun wS hSw => ?_) hHeld ?_
    rotate_left
    focus (have hz := hSw.2; go_simp; (try with_reducible rfl); done)
    try simp only [Act.put, List.setIfInBounds_toArray, List.set_cons_zero, List.set_cons_succ]
    refine' take_ 1 rfl (by kernel_rfl) (by kernel_rfl) (by kernel_rfl) (fun _ _ _ h => h) (by rfl) (fun wS hSw => ?_) hHeld ?_
    rotate_left
    focus (have hz := hSw.2; go_simp; (try with_reducible rfl); done)
    try simp only [Act.put, List.setIfInBounds_toArray, List.set_cons_zero, List.set_cons_succ]
    refine' take_ 2 rfl (by kernel_rfl) (by kernel_rfl) (by kernel_rfl) (fun _ _ _ h => h) (by rfl) (fun wS hSw => ?_) hHeld ?_
    rotate_left
    focus (have hz := hSw.2; go_simp; (try with_reducible rfl); done)
    try simp only [Act.put, List.setIfInBounds_toArray, List.set_cons_zero, List.set_cons_succ]
    refine' take_ 4 rfl (by kernel_rfl) (by kernel_rfl) (by kernel_rfl) (fun _ _ _ h => h) (by rfl) (fun wS hSw => ?_) hHeld ?_
    rotate_left
    focus (have hz := hSw.2; go_simp; (try with_reducible rfl); done)
    try simp only [Act.put, List.setIfInBounds_toArray, List.set_cons_zero, List.set_cons_succ]
    refine' take_ 5 rfl (by kernel_rfl) (by kernel_rfl) (by kernel_rfl) (fun _ _ _ h => h) (by rfl) (fun wS hSw => ?_) hHeld ?_
    rotate_left
    focus (have hz := hSw.2; go_simp; (try with_reducible rfl); done)
    try simp only [Act.put, List.setIfInBounds_toArray, List.set_cons_zero, List.set_cons_succ]
    refine' take_ 6 rfl (by kernel_rfl) (by kernel_rfl) (by kernel_rfl) (fun _ _ _ h => h) (by rfl) (fun wS hSw => ?_) hHeld ?_
    rotate_left
    focus (have hz := hSw.2; go_simp; (try with_reducible rfl); done)
    try simp only [Act.put, List.setIfInBounds_toArray, List.set_cons_zero, List.set_cons_succ]
    refine only_ 3 rfl (by kernel_rfl) (by rfl) (fun K hK => ?_)
    refine wp_of_run (bv b) (run_load_b Y0 37 _ gb rfl _ Tryz.underlying37 (by kernel_rfl) 37 RA0.out _ _ _ _ _) (hK.out _ _ hHeld (fun _ => ?_))
    clear hK K
    show wpAnyH _ _ _ _ _ _ _ (Act.put _ (some 59) _) _
    try simp only [Act.put, List.setIfInBounds_toArray, List.set_cons_zero, List.set_cons_succ]
    refine only_ 7 rfl (by kernel_rfl) (by rfl) (fun K hK => ?_)
    refine wp_call_ret 7 _ _ rfl _ (by rfl) (by kernel_rfl) _ (K1.out _) (fun Y1 hB => ?_)
    have RA1 := Lib.hid (BRow.below RA0.out hB RA0.out.lt)
    have RO1 := Lib.hid (BRow.below RO0.out hB RO0.out.lt)
    have RX1 := Lib.hid (ARow.below RX0.out hB RX0.out.lt)
    have BB1 := Lib.hid (hHeld.1.trans (hB.mono (Nat.le_trans HBw.out hHeld.1.size)))
    have hH2 : Below B w Y1 ∧ Y1.cell? ⟨gx, 2, none⟩ = some (.int .i32 x.v) := ⟨BB1.out, RX1.out.c2⟩
    refine hK.out _ _ hH2 (fun _ => ?_)
    clear hK K hB hHeld RA0 RO0 RX0
    have hHeld := hH2
    clear hH2
    show wpAnyH _ _ _ _ _ _ _ (Act.put _ (some 63) _) _
    try simp only [Act.put, List.setIfInBounds_toArray, List.set_cons_zero, List.set_cons_succ]
    refine' take_ 8 rfl (by kernel_rfl) (by kernel_rfl) (by kernel_rfl) (fun _ _ _ h => h) (by rfl) (fun wS hSw => ?_) hHeld ?_
    rotate_left
    focus (go_simp; (try with_reducible rfl); done)
    try simp only [Act.put, List.setIfInBounds_toArray, List.set_cons_zero, List.set_cons_succ]
    refine only_ 9 rfl (by kernel_rfl) (by rfl) (fun K hK => ?_)
    refine wp_store_b (b := b) 37 _ _ rfl gb rfl rfl (by kernel_rfl) 37 RA1.out ?_
    intro Y2 HN HO HB
    have RB_W0x : Hid (BRow Y2 gb 37 (writeB b x.rg x.v)) := HN
    have RR_W0x : Hid (BRow Y2 gr 46 (b)) := Lib.hid (BRow.other RO1.out HO.out NE_RR_RB.out)
    have RX_W0x : Hid (ARow Y2 gx 49 x) := Lib.hid (ARow.other RX1.out HO.out NE_RX_RB.out)
    have BB_W0x : Hid (Below B w Y2) := Lib.hid (BB1.out.trans (HB.out.mono LE_RB.out))
    have hH2 : Below B w Y2 ∧ Y2.cell? ⟨gx, 2, none⟩ = some (.int .i32 x.v) := ⟨BB_W0x.out, RX_W0x.out.c2⟩
    refine hK.out _ _ hH2 (fun _ => ?_)
    clear hK K hHeld HN HO HB RA1 RO1 RX1 BB1 hH2
    show wpAnyH _ _ _ _ _ _ _ (Act.put _ none _) _
    try simp only [Act.put]
    refine wpAnyH_done (by kernel_rfl) ?_ _
    refine NoPanic.normal ?_
    have z0 := RX_W0x.out.c0
    have z1 := RX_W0x.out.c1
    have z2 := RX_W0x.out.c2
    obtain ⟨W0x, hYY⟩ : ∃ Y, Y2 = Y := ⟨_, rfl⟩
    rw [hYY] at RB_W0x RR_W0x RX_W0x BB_W0x z0 z1 z2 ⊢
    clear hYY
    go_upto_region 10 with fail
    refine wp_region_noPanic ?_
    refine wp_region_held_drew (S := fun X => Below B w X ∧ X.cell? ⟨gx, 2, none⟩ = some (.int .i32 x.v)) (by kernel_rfl) (⟨BB_W0x.out.trans ((Below.refl _ _).drew.mono (Nat.le_trans HBw.out BB_W0x.out.size)), (ARow.below RX_W0x.out (Below.refl _ _).drew RX_W0x.out.lt).c2⟩) (fun hHeld => ?_)
    have RA0 := Lib.hid (BRow.below RR_W0x.out (Below.refl _ _).drew RR_W0x.out.lt)
    have RO0 := Lib.hid (BRow.below RB_W0x.out (Below.refl _ _).drew RB_W0x.out.lt)
    have RX0 := Lib.hid (ARow.below RX_W0x.out (Below.refl _ _).drew RX_W0x.out.lt)
    obtain ⟨Y0, hY0⟩ : ∃ Y, W0x.drew = Y := ⟨_, rfl⟩
    rw [hY0] at hHeld RA0 RO0 RX0 ⊢
    clear hY0 RB_W0x RR_W0x RX_W0x BB_W0x z0 z1 z2
    refine' take_ 0 rfl (by kernel_rfl) (by kernel_rfl) (by kernel_rfl) (fun _ _ _ h => h) (by rfl) (fun wS hSw => ?_) hHeld ?_
    rotate_left
    focus (have hz := hSw.2; go_simp; (try with_reducible rfl); done)
    try simp only [Act.put, List.setIfInBounds_toArray, List.set_cons_zero, List.set_cons_succ]
    refine' take_ 1 rfl (by kernel_rfl) (by kernel_rfl) (by kernel_rfl) (fun _ _ _ h => h) (by rfl) (fun wS hSw => ?_) hHeld ?_
    rotate_left
    focus (have hz := hSw.2; go_simp; (try with_reducible rfl); done)
    try simp only [Act.put, List.setIfInBounds_toArray, List.set_cons_zero, List.set_cons_succ]
    refine' take_ 2 rfl (by kernel_rfl) (by kernel_rfl) (by kernel_rfl) (fun _ _ _ h => h) (by rfl) (fun wS hSw => ?_) hHeld ?_
    rotate_left
    focus (have hz := hSw.2; go_simp; (try with_reducible rfl); done)
    try simp only [Act.put, List.setIfInBounds_toArray, List.set_cons_zero, List.set_cons_succ]
    refine' take_ 4 rfl (by kernel_rfl) (by kernel_rfl) (by kernel_rfl) (fun _ _ _ h => h) (by rfl) (fun wS hSw => ?_) hHeld ?_
    rotate_left
    focus (have hz := hSw.2; go_simp; (try with_reducible rfl); done)
    try simp only [Act.put, List.setIfInBounds_toArray, List.set_cons_zero, List.set_cons_succ]
    refine' take_ 5 rfl (by kernel_rfl) (by kernel_rfl) (by kernel_rfl) (fun _ _ _ h => h) (by rfl) (fun wS hSw => ?_) hHeld ?_
    rotate_left
    focus (have hz := hSw.2; go_simp; (try with_reducible rfl); done)
    try simp only [Act.put, List.setIfInBounds_toArray, List.set_cons_zero, List.set_cons_succ]
    refine' take_ 6 rfl (by kernel_rfl) (by kernel_rfl) (by kernel_rfl) (fun _ _ _ h => h) (by rfl) (fun wS hSw => ?_) hHeld ?_
    rotate_left
    focus (have hz := hSw.2; go_simp; (try with_reducible rfl); done)
    try simp only [Act.put, List.setIfInBounds_toArray, List.set_cons_zero, List.set_cons_succ]
    refine only_ 3 rfl (by kernel_rfl) (by rfl) (fun K hK => ?_)
    refine wp_of_run (bv b) (run_load_b Y0 46 _ gr rfl _ Tryz.underlying46 (by kernel_rfl) 46 RA0.out _ _ _ _ _) (hK.out _ _ hHeld (fun _ => ?_))
    clear hK K
    show wpAnyH _ _ _ _ _ _ _ (Act.put _ (some 68) _) _
    try simp only [Act.put, List.setIfInBounds_toArray, List.set_cons_zero, List.set_cons_succ]
    refine only_ 7 rfl (by kernel_rfl) (by rfl) (fun K hK => ?_)
    refine wp_call_ret 8 _ _ rfl _ (by rfl) (by kernel_rfl) _ (K2.out _) (fun Y1 hB => ?_)
    have RA1 := Lib.hid (BRow.below RA0.out hB RA0.out.lt)
    have RO1 := Lib.hid (BRow.below RO0.out hB RO0.out.lt)
    have RX1 := Lib.hid (ARow.below RX0.out hB RX0.out.lt)
    have BB1 := Lib.hid (hHeld.1.trans (hB.mono (Nat.le_trans HBw.out hHeld.1.size)))
    have hH2 : Below B w Y1 ∧ Y1.cell? ⟨gx, 2, none⟩ = some (.int .i32 x.v) := ⟨BB1.out, RX1.out.c2⟩
    refine hK.out _ _ hH2 (fun _ => ?_)
    clear hK K hB hHeld RA0 RO0 RX0
    have hHeld := hH2
    clear hH2
    show wpAnyH _ _ _ _ _ _ _ (Act.put _ (some 72) _) _
    try simp only [Act.put, List.setIfInBounds_toArray, List.set_cons_zero, List.set_cons_succ]
    refine' take_ 8 rfl (by kernel_rfl) (by kernel_rfl) (by kernel_rfl) (fun _ _ _ h => h) (by rfl) (fun wS hSw => ?_) hHeld ?_
    rotate_left
    focus (go_simp; (try with_reducible rfl); done)
    try simp only [Act.put, List.setIfInBounds_toArray, List.set_cons_zero, List.set_cons_succ]
    refine only_ 9 rfl (by kernel_rfl) (by rfl) (fun K hK => ?_)
    refine wp_store_b (b := b) 46 _ _ rfl gr rfl rfl (by kernel_rfl) 46 RA1.out ?_
    intro Y2 HN HO HB
    have RR_W0xx : Hid (BRow Y2 gr 46 (writeB b x.rg x.v)) := HN
    have RB_W0xx : Hid (BRow Y2 gb 37 (writeB b x.rg x.v)) := Lib.hid (BRow.other RO1.out HO.out NE_RB_RR.out)
    have RX_W0xx : Hid (ARow Y2 gx 49 x) := Lib.hid (ARow.other RX1.out HO.out NE_RX_RR.out)
    have BB_W0xx : Hid (Below B w Y2) := Lib.hid (BB1.out.trans (HB.out.mono LE_RR.out))
    have hH2 : Below B w Y2 ∧ Y2.cell? ⟨gx, 2, none⟩ = some (.int .i32 x.v) := ⟨BB_W0xx.out, RX_W0xx.out.c2⟩
    refine hK.out _ _ hH2 (fun _ => ?_)
    clear hK K hHeld HN HO HB RA1 RO1 RX1 BB1 hH2
    show wpAnyH _ _ _ _ _ _ _ (Act.put _ none _) _
    try simp only [Act.put]
    refine wpAnyH_done (by kernel_rfl) ?_ _
    refine NoPanic.normal ?_
    have z0 := RX_W0xx.out.c0
    have z1 := RX_W0xx.out.c1
    have z2 := RX_W0xx.out.c2
    obtain ⟨W0xx, hYY⟩ : ∃ Y, Y2 = Y := ⟨_, rfl⟩
    rw [hYY] at RB_W0xx RR_W0xx RX_W0xx BB_W0xx z0 z1 z2 ⊢
    clear hYY
    go_wp2_with fail
    go_ret
    exact ⟨⟨rfl, _, HO2.out, RB_W0xx.out, RR_W0xx.out⟩, BB_W0xx.out⟩
  have d4 : ¬ (mm : Int) < 4 := by omega
  by_cases h6 : mm < 6
  · have d6 : (mm : Int) < 6 := by omega
    have K1 := Lib.hid (fun W => H.read b x.rg W HOK.out (by omega) (by omega))
    have K2 := Lib.hid (fun W => rReadB_any b x.rg W HOK.out (by omega) (by omega))
    have HO2 := Lib.hid (readB_ok HOK.out x.rg)
    have KP := Lib.hid (fun W => H.peek b x.rg W HOK.out (by omega) (by omega))
    generalize peekB b x.rg = pk at *
    go_wp2_with (first
      | ((with_reducible show wpList _ _ _ (⟨none, .store 46 (.tmp 112) (.tmp 111), _, _, _, _⟩ :: _) _ _); refine wpList_store_b rfl 46 _ _ rfl (gr) (by exact rfl) (by exact rfl) (by kernel_rfl) 46 RR_w6.out ?_; intro w7 HN HO HB
         have RB_w7 : Hid (BRow w7 (gb) 37 (readB b x.rg)) := Lib.hid (BRow.other RB_w6.out HO.out (NE_RB_RR.out))
         have RX_w7 : Hid (ARow w7 (gx) 49 (x)) := Lib.hid (ARow.other RX_w6.out HO.out (NE_RX_RR.out))
         have RN_w7 : Hid (BRow w7 (w1.heap.size) 37 (readB b x.rg)) := Lib.hid (BRow.other RN_w6.out HO.out (NE_RN_RR.out))
         have RM_w7 : Hid (BRow w7 (w3.heap.size) 46 (readB b x.rg)) := Lib.hid (BRow.other RM_w6.out HO.out (NE_RM_RR.out))
         have RR_w7 : Hid (BRow w7 (gr) 46 (readB b x.rg)) := HN
         have BB_w7 : Hid (Below B w w7) := Lib.hid (BB_w6.out.trans (HB.out.mono LE_RR.out))
         clear HO HB HN RB_w6 RR_w6 RX_w6 RN_w6 RM_w6 BB_w6)
      | ((with_reducible show wpList _ _ _ (⟨some 111, .load 46 (.tmp 11), _, _, _, _⟩ :: _) _ _); refine wpList_load_b (by rfl) 46 _ rfl (w3.heap.size) (by exact rfl) _ Tryz.underlying46 (by kernel_rfl) 46 RM_w6.out ?_)
      | ((with_reducible show wpList _ _ _ (⟨none, .store 37 (.tmp 109) (.tmp 108), _, _, _, _⟩ :: _) _ _); refine wpList_store_b rfl 37 _ _ rfl (gb) (by exact rfl) (by exact rfl) (by kernel_rfl) 37 RB_w5.out ?_; intro w6 HN HO HB
         have RR_w6 : Hid (BRow w6 (gr) 46 (b)) := Lib.hid (BRow.other RR_w5.out HO.out (NE_RR_RB.out))
         have RX_w6 : Hid (ARow w6 (gx) 49 (x)) := Lib.hid (ARow.other RX_w5.out HO.out (NE_RX_RB.out))
         have RN_w6 : Hid (BRow w6 (w1.heap.size) 37 (readB b x.rg)) := Lib.hid (BRow.other RN_w5.out HO.out (NE_RN_RB.out))
         have RM_w6 : Hid (BRow w6 (w3.heap.size) 46 (readB b x.rg)) := Lib.hid (BRow.other RM_w5.out HO.out (NE_RM_RB.out))
         have RB_w6 : Hid (BRow w6 (gb) 37 (readB b x.rg)) := HN
         have BB_w6 : Hid (Below B w w6) := Lib.hid (BB_w5.out.trans (HB.out.mono LE_RB.out))
         clear HO HB HN RB_w5 RR_w5 RX_w5 RN_w5 RM_w5 BB_w5)
      | ((with_reducible show wpList _ _ _ (⟨some 108, .load 37 (.tmp 9), _, _, _, _⟩ :: _) _ _); refine wpList_load_b (by rfl) 37 _ rfl (w1.heap.size) (by exact rfl) _ Tryz.underlying37 (by kernel_rfl) 37 RN_w5.out ?_)
      | (go_at_call 11; have hc := BB_w4; clear hc; (with_reducible refine (KP.out _).mono ?_); rintro e w5 ⟨rfl, hB⟩
         have RB_w5 : Hid (BRow w5 (gb) 37 (b)) := Lib.hid (BRow.below RB_w4.out hB RB_w4.out.lt)
         have RR_w5 : Hid (BRow w5 (gr) 46 (b)) := Lib.hid (BRow.below RR_w4.out hB RR_w4.out.lt)
         have RX_w5 : Hid (ARow w5 (gx) 49 (x)) := Lib.hid (ARow.below RX_w4.out hB RX_w4.out.lt)
         have RN_w5 : Hid (BRow w5 (w1.heap.size) 37 (readB b x.rg)) := Lib.hid (BRow.below RN_w4.out hB RN_w4.out.lt)
         have RM_w5 : Hid (BRow w5 (w3.heap.size) 46 (readB b x.rg)) := Lib.hid (BRow.below RM_w4.out hB RM_w4.out.lt)
         have BB_w5 : Hid (Below B w w5) := Lib.hid (BB_w4.out.trans (hB.mono (Nat.le_trans HBw.out BB_w4.out.size)))
         clear hB RB_w4 RR_w4 RX_w4 RN_w4 RM_w4 BB_w4)
      | ((with_reducible show wpList _ _ _ (⟨some 101, .load 37 (.tmp 100), _, _, _, _⟩ :: _) _ _); refine wpList_load_b (by kernel_rfl) 37 _ rfl (gb) (by exact rfl) _ Tryz.underlying37 (by kernel_rfl) 37 RB_w4.out ?_)
      | ((with_reducible show wpList _ _ _ (⟨none, .store 46 (.tmp 11) (.tmp 94), _, _, _, _⟩ :: _) _ _); refine wpList_store_b  rfl 46 _ _ rfl (w3.heap.size) (by exact rfl) (by exact rfl) (by kernel_rfl) 46 (show BRow _ _ _ bare from alloc_at _ _) ?_; intro w4 HN HO HB
         have RB_w4 : Hid (BRow w4 (gb) 37 (b)) := Lib.hid (BRow.other (BRow.below RB_w3.out ((Below.refl _ _).alloc (Nat.le_refl _) _) RB_w3.out.lt) HO.out (Nat.ne_of_lt RB_w3.out.lt))
         have RR_w4 : Hid (BRow w4 (gr) 46 (b)) := Lib.hid (BRow.other (BRow.below RR_w3.out ((Below.refl _ _).alloc (Nat.le_refl _) _) RR_w3.out.lt) HO.out (Nat.ne_of_lt RR_w3.out.lt))
         have RX_w4 : Hid (ARow w4 (gx) 49 (x)) := Lib.hid (ARow.other (ARow.below RX_w3.out ((Below.refl _ _).alloc (Nat.le_refl _) _) RX_w3.out.lt) HO.out (Nat.ne_of_lt RX_w3.out.lt))
         have RN_w4 : Hid (BRow w4 (w1.heap.size) 37 (readB b x.rg)) := Lib.hid (BRow.other (BRow.below RN_w3.out ((Below.refl _ _).alloc (Nat.le_refl _) _) RN_w3.out.lt) HO.out (Nat.ne_of_lt RN_w3.out.lt))
         have RM_w4 : Hid (BRow w4 w3.heap.size 46 (readB b x.rg)) := HN
         have BB_w4 : Hid (Below B w w4) := Lib.hid ((BB_w3.out.alloc (Nat.le_trans HBw.out BB_w3.out.size) _).trans (HB.out.mono (Nat.le_trans HBw.out BB_w3.out.size)))
         have NE_RM_RB : Hid (w3.heap.size ≠ gb) := Lib.hid (Nat.ne_of_gt RB_w3.out.lt)
         have NE_RM_RR : Hid (w3.heap.size ≠ gr) := Lib.hid (Nat.ne_of_gt RR_w3.out.lt)
         clear HO HB HN RB_w3 RR_w3 RX_w3 RN_w3 BB_w3)
      | (go_at_call 10; have hc := BB_w2; clear hc; (with_reducible refine (K2.out _).mono ?_); rintro e w3 ⟨rfl, hB⟩
         have RB_w3 : Hid (BRow w3 (gb) 37 (b)) := Lib.hid (BRow.below RB_w2.out hB RB_w2.out.lt)
         have RR_w3 : Hid (BRow w3 (gr) 46 (b)) := Lib.hid (BRow.below RR_w2.out hB RR_w2.out.lt)
         have RX_w3 : Hid (ARow w3 (gx) 49 (x)) := Lib.hid (ARow.below RX_w2.out hB RX_w2.out.lt)
         have RN_w3 : Hid (BRow w3 (w1.heap.size) 37 (readB b x.rg)) := Lib.hid (BRow.below RN_w2.out hB RN_w2.out.lt)
         have BB_w3 : Hid (Below B w w3) := Lib.hid (BB_w2.out.trans (hB.mono (Nat.le_trans HBw.out BB_w2.out.size)))
         clear hB RB_w2 RR_w2 RX_w2 RN_w2 BB_w2)
      | ((with_reducible show wpList _ _ _ (⟨some 90, .load 46 (.tmp 89), _, _, _, _⟩ :: _) _ _); refine wpList_load_b (by rfl) 46 _ rfl (gr) (by exact rfl) _ Tryz.underlying46 (by kernel_rfl) 46 RR_w2.out ?_)
      | ((with_reducible show wpList _ _ _ (⟨none, .store 37 (.tmp 9) (.tmp 86), _, _, _, _⟩ :: _) _ _); refine wpList_store_b  rfl 37 _ _ rfl (w1.heap.size) (by exact rfl) (by exact rfl) (by kernel_rfl) 37 (show BRow _ _ _ bare from alloc_at _ _) ?_; intro w2 HN HO HB
         have RB_w2 : Hid (BRow w2 (gb) 37 (b)) := Lib.hid (BRow.other (BRow.below RB_w1.out ((Below.refl _ _).alloc (Nat.le_refl _) _) RB_w1.out.lt) HO.out (Nat.ne_of_lt RB_w1.out.lt))
         have RR_w2 : Hid (BRow w2 (gr) 46 (b)) := Lib.hid (BRow.other (BRow.below RR_w1.out ((Below.refl _ _).alloc (Nat.le_refl _) _) RR_w1.out.lt) HO.out (Nat.ne_of_lt RR_w1.out.lt))
         have RX_w2 : Hid (ARow w2 (gx) 49 (x)) := Lib.hid (ARow.other (ARow.below RX_w1.out ((Below.refl _ _).alloc (Nat.le_refl _) _) RX_w1.out.lt) HO.out (Nat.ne_of_lt RX_w1.out.lt))
         have RN_w2 : Hid (BRow w2 w1.heap.size 37 (readB b x.rg)) := HN
         have BB_w2 : Hid (Below B w w2) := Lib.hid ((BB_w1.out.alloc (Nat.le_trans HBw.out BB_w1.out.size) _).trans (HB.out.mono (Nat.le_trans HBw.out BB_w1.out.size)))
         have NE_RN_RB : Hid (w1.heap.size ≠ gb) := Lib.hid (Nat.ne_of_gt RB_w1.out.lt)
         have NE_RN_RR : Hid (w1.heap.size ≠ gr) := Lib.hid (Nat.ne_of_gt RR_w1.out.lt)
         clear HO HB HN RB_w1 RR_w1 RX_w1 BB_w1)
      | (go_at_call 9; have hc := BB_W0; clear hc; (with_reducible refine (K1.out _).mono ?_); rintro e w1 ⟨rfl, hB⟩
         have RB_w1 : Hid (BRow w1 (gb) 37 (b)) := Lib.hid (BRow.below RB_W0.out hB RB_W0.out.lt)
         have RR_w1 : Hid (BRow w1 (gr) 46 (b)) := Lib.hid (BRow.below RR_W0.out hB RR_W0.out.lt)
         have RX_w1 : Hid (ARow w1 (gx) 49 (x)) := Lib.hid (ARow.below RX_W0.out hB RX_W0.out.lt)
         have BB_w1 : Hid (Below B w w1) := Lib.hid (BB_W0.out.trans (hB.mono (Nat.le_trans HBw.out BB_W0.out.size)))
         clear hB RB_W0 RR_W0 RX_W0 BB_W0)
      | ((with_reducible show wpList _ _ _ (⟨some 82, .load 37 (.tmp 81), _, _, _, _⟩ :: _) _ _); refine wpList_load_b (by rfl) 37 _ rfl (gb) (by exact rfl) _ Tryz.underlying37 (by kernel_rfl) 37 RB_W0.out ?_))
    go_ret
    exact ⟨⟨rfl, _, HO2.out, RB_w7.out, RR_w7.out⟩, BB_w7.out⟩
  have d6 : ¬ (mm : Int) < 6 := by omega
  obtain ⟨lo, hlo, hlo2⟩ : ∃ m : Nat, x.v % 256 = (m : Int) ∧ m < 256 := ⟨(x.v % 256).toNat, by omega, by omega⟩
  have HLO := Lib.hid hlo
  have HLO2 : Hid (IntKind.u8.wrap x.v = (lo : Int)) := Lib.hid (by rw [← hlo]; simp [IntKind.wrap, IntKind.bits, IntKind.signed])
  by_cases h7 : mm = 6
  · have e6 : ((mm : Int) == 6) = true := by simp; omega
    clear hlo
    have K1 := Lib.hid (fun W => H.pins b lo W HOK.out hlo2)
    have K2 := Lib.hid (fun W => rPinsB_any b lo W HOK.out hlo2)
    have HO2 := Lib.hid (pinsB_ok HOK.out hlo2)
    go_upto_region 19 with fail
    refine wp_region_noPanic ?_
    refine wp_region_held_drew (S := fun X => Below B w X ∧ X.cell? ⟨gx, 2, none⟩ = some (.int .i32 x.v)) (by kernel_rfl) (⟨BB_W0.out.trans ((Below.refl _ _).drew.mono (Nat.le_trans HBw.out BB_W0.out.size)), (ARow.below RX_W0.out (Below.refl _ _).drew RX_W0.out.lt).c2⟩) (fun hHeld => ?_)
    have RA0 := Lib.hid (BRow.below RB_W0.out (Below.refl _ _).drew RB_W0.out.lt)
    have RO0 := Lib.hid (BRow.below RR_W0.out (Below.refl _ _).drew RR_W0.out.lt)
    have RX0 := Lib.hid (ARow.below RX_W0.out (Below.refl _ _).drew RX_W0.out.lt)
    obtain ⟨Y0, hY0⟩ : ∃ Y, W0.drew = Y := ⟨_, rfl⟩
    rw [hY0] at hHeld RA0 RO0 RX0 ⊢
    clear hY0 RB_W0 RR_W0 RX_W0 BB_W0 z0 z1 z2
    refine' take_ 0 rfl (by kernel_rfl) (by kernel_rfl) (by kernel_rfl) (fun _ _ _ h => h) (by rfl) (fun wS hSw => ?_) hHeld ?_
    rotate_left
    focus (have hz := hSw.2; go_simp; (try with_reducible rfl); done)
    try simp only [Act.put, List.setIfInBounds_toArray, List.set_cons_zero, List.set_cons_succ]
    refine' take_ 1 rfl (by kernel_rfl) (by kernel_rfl) (by kernel_rfl) (fun _ _ _ h => h) (by rfl) (fun wS hSw => ?_) hHeld ?_
    rotate_left
    focus (have hz := hSw.2; go_simp; (try with_reducible rfl); done)
    try simp only [Act.put, List.setIfInBounds_toArray, List.set_cons_zero, List.set_cons_succ]
    refine' take_ 2 rfl (by kernel_rfl) (by kernel_rfl) (by kernel_rfl) (fun _ _ _ h => h) (by rfl) (fun wS hSw => ?_) hHeld ?_
    rotate_left
    focus (have hz := hSw.2; go_simp; (try with_reducible rfl); done)
    try simp only [Act.put, List.setIfInBounds_toArray, List.set_cons_zero, List.set_cons_succ]
    refine' take_ 4 rfl (by kernel_rfl) (by kernel_rfl) (by kernel_rfl) (fun _ _ _ h => h) (by rfl) (fun wS hSw => ?_) hHeld ?_
    rotate_left
    focus (have hz := hSw.2; go_simp; (try with_reducible rfl); done)
    try simp only [Act.put, List.setIfInBounds_toArray, List.set_cons_zero, List.set_cons_succ]
    refine' take_ 5 rfl (by kernel_rfl) (by kernel_rfl) (by kernel_rfl) (fun _ _ _ h => h) (by rfl) (fun wS hSw => ?_) hHeld ?_
    rotate_left
    focus (have hz := hSw.2; go_simp; (try with_reducible rfl); done)
    try simp only [Act.put, List.setIfInBounds_toArray, List.set_cons_zero, List.set_cons_succ]
    refine' take_ (v := .int .u8 (lo : Int)) 6 rfl (by kernel_rfl) (by kernel_rfl) (by kernel_rfl) (fun _ _ _ h => h) (by rfl) (fun wS hSw => ?_) hHeld ?_
    focus (go_simp; (first | rw [HLO.out] | rw [HLO2.out]); (try with_reducible rfl); done)
    try simp only [Act.put, List.setIfInBounds_toArray, List.set_cons_zero, List.set_cons_succ]
    refine only_ 3 rfl (by kernel_rfl) (by rfl) (fun K hK => ?_)
    refine wp_of_run (bv b) (run_load_b Y0 37 _ gb rfl _ Tryz.underlying37 (by kernel_rfl) 37 RA0.out _ _ _ _ _) (hK.out _ _ hHeld (fun _ => ?_))
    clear hK K
    show wpAnyH _ _ _ _ _ _ _ (Act.put _ (some 121) _) _
    try simp only [Act.put, List.setIfInBounds_toArray, List.set_cons_zero, List.set_cons_succ]
    refine only_ 7 rfl (by kernel_rfl) (by rfl) (fun K hK => ?_)
    refine wp_call_ret 12 _ _ rfl _ (by rfl) (by kernel_rfl) _ (K1.out _) (fun Y1 hB => ?_)
    have RA1 := Lib.hid (BRow.below RA0.out hB RA0.out.lt)
    have RO1 := Lib.hid (BRow.below RO0.out hB RO0.out.lt)
    have RX1 := Lib.hid (ARow.below RX0.out hB RX0.out.lt)
    have BB1 := Lib.hid (hHeld.1.trans (hB.mono (Nat.le_trans HBw.out hHeld.1.size)))
    have hH2 : Below B w Y1 ∧ Y1.cell? ⟨gx, 2, none⟩ = some (.int .i32 x.v) := ⟨BB1.out, RX1.out.c2⟩
    refine hK.out _ _ hH2 (fun _ => ?_)
    clear hK K hB hHeld RA0 RO0 RX0
    have hHeld := hH2
    clear hH2
    show wpAnyH _ _ _ _ _ _ _ (Act.put _ (some 125) _) _
    try simp only [Act.put, List.setIfInBounds_toArray, List.set_cons_zero, List.set_cons_succ]
    refine' take_ 8 rfl (by kernel_rfl) (by kernel_rfl) (by kernel_rfl) (fun _ _ _ h => h) (by rfl) (fun wS hSw => ?_) hHeld ?_
    rotate_left
    focus (go_simp; (try with_reducible rfl); done)
    try simp only [Act.put, List.setIfInBounds_toArray, List.set_cons_zero, List.set_cons_succ]
    refine only_ 9 rfl (by kernel_rfl) (by rfl) (fun K hK => ?_)
    refine wp_store_b (b := b) 37 _ _ rfl gb rfl rfl (by kernel_rfl) 37 RA1.out ?_
    intro Y2 HN HO HB
    have RB_W0x : Hid (BRow Y2 gb 37 (pinsB b lo)) := HN
    have RR_W0x : Hid (BRow Y2 gr 46 (b)) := Lib.hid (BRow.other RO1.out HO.out NE_RR_RB.out)
    have RX_W0x : Hid (ARow Y2 gx 49 x) := Lib.hid (ARow.other RX1.out HO.out NE_RX_RB.out)
    have BB_W0x : Hid (Below B w Y2) := Lib.hid (BB1.out.trans (HB.out.mono LE_RB.out))
    have hH2 : Below B w Y2 ∧ Y2.cell? ⟨gx, 2, none⟩ = some (.int .i32 x.v) := ⟨BB_W0x.out, RX_W0x.out.c2⟩
    refine hK.out _ _ hH2 (fun _ => ?_)
    clear hK K hHeld HN HO HB RA1 RO1 RX1 BB1 hH2
    show wpAnyH _ _ _ _ _ _ _ (Act.put _ none _) _
    try simp only [Act.put]
    refine wpAnyH_done (by kernel_rfl) ?_ _
    refine NoPanic.normal ?_
    have z0 := RX_W0x.out.c0
    have z1 := RX_W0x.out.c1
    have z2 := RX_W0x.out.c2
    obtain ⟨W0x, hYY⟩ : ∃ Y, Y2 = Y := ⟨_, rfl⟩
    rw [hYY] at RB_W0x RR_W0x RX_W0x BB_W0x z0 z1 z2 ⊢
    clear hYY
    go_upto_region 20 with fail
    refine wp_region_noPanic ?_
    refine wp_region_held_drew (S := fun X => Below B w X ∧ X.cell? ⟨gx, 2, none⟩ = some (.int .i32 x.v)) (by kernel_rfl) (⟨BB_W0x.out.trans ((Below.refl _ _).drew.mono (Nat.le_trans HBw.out BB_W0x.out.size)), (ARow.below RX_W0x.out (Below.refl _ _).drew RX_W0x.out.lt).c2⟩) (fun hHeld => ?_)
    have RA0 := Lib.hid (BRow.below RR_W0x.out (Below.refl _ _).drew RR_W0x.out.lt)
    have RO0 := Lib.hid (BRow.below RB_W0x.out (Below.refl _ _).drew RB_W0x.out.lt)
    have RX0 := Lib.hid (ARow.below RX_W0x.out (Below.refl _ _).drew RX_W0x.out.lt)
    obtain ⟨Y0, hY0⟩ : ∃ Y, W0x.drew = Y := ⟨_, rfl⟩
    rw [hY0] at hHeld RA0 RO0 RX0 ⊢
    clear hY0 RB_W0x RR_W0x RX_W0x BB_W0x z0 z1 z2
    refine' take_ 0 rfl (by kernel_rfl) (by kernel_rfl) (by kernel_rfl) (fun _ _ _ h => h) (by rfl) (fun wS hSw => ?_) hHeld ?_
    rotate_left
    focus (have hz := hSw.2; go_simp; (try with_reducible rfl); done)
    try simp only [Act.put, List.setIfInBounds_toArray, List.set_cons_zero, List.set_cons_succ]
    refine' take_ 1 rfl (by kernel_rfl) (by kernel_rfl) (by kernel_rfl) (fun _ _ _ h => h) (by rfl) (fun wS hSw => ?_) hHeld ?_
    rotate_left
    focus (have hz := hSw.2; go_simp; (try with_reducible rfl); done)
    try simp only [Act.put, List.setIfInBounds_toArray, List.set_cons_zero, List.set_cons_succ]
    refine' take_ 2 rfl (by kernel_rfl) (by kernel_rfl) (by kernel_rfl) (fun _ _ _ h => h) (by rfl) (fun wS hSw => ?_) hHeld ?_
    rotate_left
    focus (have hz := hSw.2; go_simp; (try with_reducible rfl); done)
    try simp only [Act.put, List.setIfInBounds_toArray, List.set_cons_zero, List.set_cons_succ]
    refine' take_ 4 rfl (by kernel_rfl) (by kernel_rfl) (by kernel_rfl) (fun _ _ _ h => h) (by rfl) (fun wS hSw => ?_) hHeld ?_
    rotate_left
    focus (have hz := hSw.2; go_simp; (try with_reducible rfl); done)
    try simp only [Act.put, List.setIfInBounds_toArray, List.set_cons_zero, List.set_cons_succ]
    refine' take_ 5 rfl (by kernel_rfl) (by kernel_rfl) (by kernel_rfl) (fun _ _ _ h => h) (by rfl) (fun wS hSw => ?_) hHeld ?_
    rotate_left
    focus (have hz := hSw.2; go_simp; (try with_reducible rfl); done)
    try simp only [Act.put, List.setIfInBounds_toArray, List.set_cons_zero, List.set_cons_succ]
    refine' take_ (v := .int .u8 (lo : Int)) 6 rfl (by kernel_rfl) (by kernel_rfl) (by kernel_rfl) (fun _ _ _ h => h) (by rfl) (fun wS hSw => ?_) hHeld ?_
    focus (go_simp; (first | rw [HLO.out] | rw [HLO2.out]); (try with_reducible rfl); done)
    try simp only [Act.put, List.setIfInBounds_toArray, List.set_cons_zero, List.set_cons_succ]
    refine only_ 3 rfl (by kernel_rfl) (by rfl) (fun K hK => ?_)
    refine wp_of_run (bv b) (run_load_b Y0 46 _ gr rfl _ Tryz.underlying46 (by kernel_rfl) 46 RA0.out _ _ _ _ _) (hK.out _ _ hHeld (fun _ => ?_))
    clear hK K
    show wpAnyH _ _ _ _ _ _ _ (Act.put _ (some 130) _) _
    try simp only [Act.put, List.setIfInBounds_toArray, List.set_cons_zero, List.set_cons_succ]
    refine only_ 7 rfl (by kernel_rfl) (by rfl) (fun K hK => ?_)
    refine wp_call_ret 13 _ _ rfl _ (by rfl) (by kernel_rfl) _ (K2.out _) (fun Y1 hB => ?_)
    have RA1 := Lib.hid (BRow.below RA0.out hB RA0.out.lt)
    have RO1 := Lib.hid (BRow.below RO0.out hB RO0.out.lt)
    have RX1 := Lib.hid (ARow.below RX0.out hB RX0.out.lt)
    have BB1 := Lib.hid (hHeld.1.trans (hB.mono (Nat.le_trans HBw.out hHeld.1.size)))
    have hH2 : Below B w Y1 ∧ Y1.cell? ⟨gx, 2, none⟩ = some (.int .i32 x.v) := ⟨BB1.out, RX1.out.c2⟩
    refine hK.out _ _ hH2 (fun _ => ?_)
    clear hK K hB hHeld RA0 RO0 RX0
    have hHeld := hH2
    clear hH2
    show wpAnyH _ _ _ _ _ _ _ (Act.put _ (some 134) _) _
    try simp only [Act.put, List.setIfInBounds_toArray, List.set_cons_zero, List.set_cons_succ]
    refine' take_ 8 rfl (by kernel_rfl) (by kernel_rfl) (by kernel_rfl) (fun _ _ _ h => h) (by rfl) (fun wS hSw => ?_) hHeld ?_
    rotate_left
    focus (go_simp; (try with_reducible rfl); done)
    try simp only [Act.put, List.setIfInBounds_toArray, List.set_cons_zero, List.set_cons_succ]
    refine only_ 9 rfl (by kernel_rfl) (by rfl) (fun K hK => ?_)
    refine wp_store_b (b := b) 46 _ _ rfl gr rfl rfl (by kernel_rfl) 46 RA1.out ?_
    intro Y2 HN HO HB
    have RR_W0xx : Hid (BRow Y2 gr 46 (pinsB b lo)) := HN
    have RB_W0xx : Hid (BRow Y2 gb 37 (pinsB b lo)) := Lib.hid (BRow.other RO1.out HO.out NE_RB_RR.out)
    have RX_W0xx : Hid (ARow Y2 gx 49 x) := Lib.hid (ARow.other RX1.out HO.out NE_RX_RR.out)
    have BB_W0xx : Hid (Below B w Y2) := Lib.hid (BB1.out.trans (HB.out.mono LE_RR.out))
    have hH2 : Below B w Y2 ∧ Y2.cell? ⟨gx, 2, none⟩ = some (.int .i32 x.v) := ⟨BB_W0xx.out, RX_W0xx.out.c2⟩
    refine hK.out _ _ hH2 (fun _ => ?_)
    clear hK K hHeld HN HO HB RA1 RO1 RX1 BB1 hH2
    show wpAnyH _ _ _ _ _ _ _ (Act.put _ none _) _
    try simp only [Act.put]
    refine wpAnyH_done (by kernel_rfl) ?_ _
    refine NoPanic.normal ?_
    have z0 := RX_W0xx.out.c0
    have z1 := RX_W0xx.out.c1
    have z2 := RX_W0xx.out.c2
    obtain ⟨W0xx, hYY⟩ : ∃ Y, Y2 = Y := ⟨_, rfl⟩
    rw [hYY] at RB_W0xx RR_W0xx RX_W0xx BB_W0xx z0 z1 z2 ⊢
    clear hYY
    go_wp2_with fail
    go_ret
    exact ⟨⟨rfl, _, HO2.out, RB_W0xx.out, RR_W0xx.out⟩, BB_W0xx.out⟩
  have e6 : ((mm : Int) == 6) = false := by simp; omega
  by_cases h8 : mm = 7
  · have e7 : ((mm : Int) == 7) = true := by simp; omega
    clear hlo
    have K1 := Lib.hid (fun W => H.arrive b lo W HOK.out hlo2)
    have K2 := Lib.hid (fun W => rArriveB_any b lo W HOK.out hlo2)
    have HO2 := Lib.hid (arriveB_ok HOK.out hlo2)
    go_upto_region 22 with fail
    refine wp_region_noPanic ?_
    refine wp_region_held_drew (S := fun X => Below B w X ∧ X.cell? ⟨gx, 2, none⟩ = some (.int .i32 x.v)) (by kernel_rfl) (⟨BB_W0.out.trans ((Below.refl _ _).drew.mono (Nat.le_trans HBw.out BB_W0.out.size)), (ARow.below RX_W0.out (Below.refl _ _).drew RX_W0.out.lt).c2⟩) (fun hHeld => ?_)
    have RA0 := Lib.hid (BRow.below RB_W0.out (Below.refl _ _).drew RB_W0.out.lt)
    have RO0 := Lib.hid (BRow.below RR_W0.out (Below.refl _ _).drew RR_W0.out.lt)
    have RX0 := Lib.hid (ARow.below RX_W0.out (Below.refl _ _).drew RX_W0.out.lt)
    obtain ⟨Y0, hY0⟩ : ∃ Y, W0.drew = Y := ⟨_, rfl⟩
    rw [hY0] at hHeld RA0 RO0 RX0 ⊢
    clear hY0 RB_W0 RR_W0 RX_W0 BB_W0 z0 z1 z2
    refine' take_ 0 rfl (by kernel_rfl) (by kernel_rfl) (by kernel_rfl) (fun _ _ _ h => h) (by rfl) (fun wS hSw => ?_) hHeld ?_
    rotate_left
    focus (have hz := hSw.2; go_simp; (try with_reducible rfl); done)
    try simp only [Act.put, List.setIfInBounds_toArray, List.set_cons_zero, List.set_cons_succ]
    refine' take_ 1 rfl (by kernel_rfl) (by kernel_rfl) (by kernel_rfl) (fun _ _ _ h => h) (by rfl) (fun wS hSw => ?_) hHeld ?_
    rotate_left
    focus (have hz := hSw.2; go_simp; (try with_reducible rfl); done)
    try simp only [Act.put, List.setIfInBounds_toArray, List.set_cons_zero, List.set_cons_succ]
    refine' take_ 2 rfl (by kernel_rfl) (by kernel_rfl) (by kernel_rfl) (fun _ _ _ h => h) (by rfl) (fun wS hSw => ?_) hHeld ?_
    rotate_left
    focus (have hz := hSw.2; go_simp; (try with_reducible rfl); done)
    try simp only [Act.put, List.setIfInBounds_toArray, List.set_cons_zero, List.set_cons_succ]
    refine' take_ 4 rfl (by kernel_rfl) (by kernel_rfl) (by kernel_rfl) (fun _ _ _ h => h) (by rfl) (fun wS hSw => ?_) hHeld ?_
    rotate_left
    focus (have hz := hSw.2; go_simp; (try with_reducible rfl); done)
    try simp only [Act.put, List.setIfInBounds_toArray, List.set_cons_zero, List.set_cons_succ]
    refine' take_ 5 rfl (by kernel_rfl) (by kernel_rfl) (by kernel_rfl) (fun _ _ _ h => h) (by rfl) (fun wS hSw => ?_) hHeld ?_
    rotate_left
    focus (have hz := hSw.2; go_simp; (try with_reducible rfl); done)
    try simp only [Act.put, List.setIfInBounds_toArray, List.set_cons_zero, List.set_cons_succ]
    refine' take_ (v := .int .u8 (lo : Int)) 6 rfl (by kernel_rfl) (by kernel_rfl) (by kernel_rfl) (fun _ _ _ h => h) (by rfl) (fun wS hSw => ?_) hHeld ?_
    focus (go_simp; (first | rw [HLO.out] | rw [HLO2.out]); (try with_reducible rfl); done)
    try simp only [Act.put, List.setIfInBounds_toArray, List.set_cons_zero, List.set_cons_succ]
    refine only_ 3 rfl (by kernel_rfl) (by rfl) (fun K hK => ?_)
    refine wp_of_run (bv b) (run_load_b Y0 37 _ gb rfl _ Tryz.underlying37 (by kernel_rfl) 37 RA0.out _ _ _ _ _) (hK.out _ _ hHeld (fun _ => ?_))
    clear hK K
    show wpAnyH _ _ _ _ _ _ _ (Act.put _ (some 144) _) _
    try simp only [Act.put, List.setIfInBounds_toArray, List.set_cons_zero, List.set_cons_succ]
    refine only_ 7 rfl (by kernel_rfl) (by rfl) (fun K hK => ?_)
    refine wp_call_ret 14 _ _ rfl _ (by rfl) (by kernel_rfl) _ (K1.out _) (fun Y1 hB => ?_)
    have RA1 := Lib.hid (BRow.below RA0.out hB RA0.out.lt)
    have RO1 := Lib.hid (BRow.below RO0.out hB RO0.out.lt)
    have RX1 := Lib.hid (ARow.below RX0.out hB RX0.out.lt)
    have BB1 := Lib.hid (hHeld.1.trans (hB.mono (Nat.le_trans HBw.out hHeld.1.size)))
    have hH2 : Below B w Y1 ∧ Y1.cell? ⟨gx, 2, none⟩ = some (.int .i32 x.v) := ⟨BB1.out, RX1.out.c2⟩
    refine hK.out _ _ hH2 (fun _ => ?_)
    clear hK K hB hHeld RA0 RO0 RX0
    have hHeld := hH2
    clear hH2
    show wpAnyH _ _ _ _ _ _ _ (Act.put _ (some 148) _) _
    try simp only [Act.put, List.setIfInBounds_toArray, List.set_cons_zero, List.set_cons_succ]
    refine' take_ 8 rfl (by kernel_rfl) (by kernel_rfl) (by kernel_rfl) (fun _ _ _ h => h) (by rfl) (fun wS hSw => ?_) hHeld ?_
    rotate_left
    focus (go_simp; (try with_reducible rfl); done)
    try simp only [Act.put, List.setIfInBounds_toArray, List.set_cons_zero, List.set_cons_succ]
    refine only_ 9 rfl (by kernel_rfl) (by rfl) (fun K hK => ?_)
    refine wp_store_b (b := b) 37 _ _ rfl gb rfl rfl (by kernel_rfl) 37 RA1.out ?_
    intro Y2 HN HO HB
    have RB_W0x : Hid (BRow Y2 gb 37 (arriveB b lo)) := HN
    have RR_W0x : Hid (BRow Y2 gr 46 (b)) := Lib.hid (BRow.other RO1.out HO.out NE_RR_RB.out)
    have RX_W0x : Hid (ARow Y2 gx 49 x) := Lib.hid (ARow.other RX1.out HO.out NE_RX_RB.out)
    have BB_W0x : Hid (Below B w Y2) := Lib.hid (BB1.out.trans (HB.out.mono LE_RB.out))
    have hH2 : Below B w Y2 ∧ Y2.cell? ⟨gx, 2, none⟩ = some (.int .i32 x.v) := ⟨BB_W0x.out, RX_W0x.out.c2⟩
    refine hK.out _ _ hH2 (fun _ => ?_)
    clear hK K hHeld HN HO HB RA1 RO1 RX1 BB1 hH2
    show wpAnyH _ _ _ _ _ _ _ (Act.put _ none _) _
    try simp only [Act.put]
    refine wpAnyH_done (by kernel_rfl) ?_ _
    refine NoPanic.normal ?_
    have z0 := RX_W0x.out.c0
    have z1 := RX_W0x.out.c1
    have z2 := RX_W0x.out.c2
    obtain ⟨W0x, hYY⟩ : ∃ Y, Y2 = Y := ⟨_, rfl⟩
    rw [hYY] at RB_W0x RR_W0x RX_W0x BB_W0x z0 z1 z2 ⊢
    clear hYY
    go_upto_region 23 with fail
    refine wp_region_noPanic ?_
    refine wp_region_held_drew (S := fun X => Below B w X ∧ X.cell? ⟨gx, 2, none⟩ = some (.int .i32 x.v)) (by kernel_rfl) (⟨BB_W0x.out.trans ((Below.refl _ _).drew.mono (Nat.le_trans HBw.out BB_W0x.out.size)), (ARow.below RX_W0x.out (Below.refl _ _).drew RX_W0x.out.lt).c2⟩) (fun hHeld => ?_)
    have RA0 := Lib.hid (BRow.below RR_W0x.out (Below.refl _ _).drew RR_W0x.out.lt)
    have RO0 := Lib.hid (BRow.below RB_W0x.out (Below.refl _ _).drew RB_W0x.out.lt)
    have RX0 := Lib.hid (ARow.below RX_W0x.out (Below.refl _ _).drew RX_W0x.out.lt)
    obtain ⟨Y0, hY0⟩ : ∃ Y, W0x.drew = Y := ⟨_, rfl⟩
    rw [hY0] at hHeld RA0 RO0 RX0 ⊢
    clear hY0 RB_W0x RR_W0x RX_W0x BB_W0x z0 z1 z2
    refine' take_ 0 rfl (by kernel_rfl) (by kernel_rfl) (by kernel_rfl) (fun _ _ _ h => h) (by rfl) (fun wS hSw => ?_) hHeld ?_
    rotate_left
    focus (have hz := hSw.2; go_simp; (try with_reducible rfl); done)
    try simp only [Act.put, List.setIfInBounds_toArray, List.set_cons_zero, List.set_cons_succ]
    refine' take_ 1 rfl (by kernel_rfl) (by kernel_rfl) (by kernel_rfl) (fun _ _ _ h => h) (by rfl) (fun wS hSw => ?_) hHeld ?_
    rotate_left
    focus (have hz := hSw.2; go_simp; (try with_reducible rfl); done)
    try simp only [Act.put, List.setIfInBounds_toArray, List.set_cons_zero, List.set_cons_succ]
    refine' take_ 2 rfl (by kernel_rfl) (by kernel_rfl) (by kernel_rfl) (fun _ _ _ h => h) (by rfl) (fun wS hSw => ?_) hHeld ?_
    rotate_left
    focus (have hz := hSw.2; go_simp; (try with_reducible rfl); done)
    try simp only [Act.put, List.setIfInBounds_toArray, List.set_cons_zero, List.set_cons_succ]
    refine' take_ 4 rfl (by kernel_rfl) (by kernel_rfl) (by kernel_rfl) (fun _ _ _ h => h) (by rfl) (fun wS hSw => ?_) hHeld ?_
    rotate_left
    focus (have hz := hSw.2; go_simp; (try with_reducible rfl); done)
    try simp only [Act.put, List.setIfInBounds_toArray, List.set_cons_zero, List.set_cons_succ]
    refine' take_ 5 rfl (by kernel_rfl) (by kernel_rfl) (by kernel_rfl) (fun _ _ _ h => h) (by rfl) (fun wS hSw => ?_) hHeld ?_
    rotate_left
    focus (have hz := hSw.2; go_simp; (try with_reducible rfl); done)
    try simp only [Act.put, List.setIfInBounds_toArray, List.set_cons_zero, List.set_cons_succ]
    refine' take_ (v := .int .u8 (lo : Int)) 6 rfl (by kernel_rfl) (by kernel_rfl) (by kernel_rfl) (fun _ _ _ h => h) (by rfl) (fun wS hSw => ?_) hHeld ?_
    focus (go_simp; (first | rw [HLO.out] | rw [HLO2.out]); (try with_reducible rfl); done)
    try simp only [Act.put, List.setIfInBounds_toArray, List.set_cons_zero, List.set_cons_succ]
    refine only_ 3 rfl (by kernel_rfl) (by rfl) (fun K hK => ?_)
    refine wp_of_run (bv b) (run_load_b Y0 46 _ gr rfl _ Tryz.underlying46 (by kernel_rfl) 46 RA0.out _ _ _ _ _) (hK.out _ _ hHeld (fun _ => ?_))
    clear hK K
    show wpAnyH _ _ _ _ _ _ _ (Act.put _ (some 153) _) _
    try simp only [Act.put, List.setIfInBounds_toArray, List.set_cons_zero, List.set_cons_succ]
    refine only_ 7 rfl (by kernel_rfl) (by rfl) (fun K hK => ?_)
    refine wp_call_ret 15 _ _ rfl _ (by rfl) (by kernel_rfl) _ (K2.out _) (fun Y1 hB => ?_)
    have RA1 := Lib.hid (BRow.below RA0.out hB RA0.out.lt)
    have RO1 := Lib.hid (BRow.below RO0.out hB RO0.out.lt)
    have RX1 := Lib.hid (ARow.below RX0.out hB RX0.out.lt)
    have BB1 := Lib.hid (hHeld.1.trans (hB.mono (Nat.le_trans HBw.out hHeld.1.size)))
    have hH2 : Below B w Y1 ∧ Y1.cell? ⟨gx, 2, none⟩ = some (.int .i32 x.v) := ⟨BB1.out, RX1.out.c2⟩
    refine hK.out _ _ hH2 (fun _ => ?_)
    clear hK K hB hHeld RA0 RO0 RX0
    have hHeld := hH2
    clear hH2
    show wpAnyH _ _ _ _ _ _ _ (Act.put _ (some 157) _) _
    try simp only [Act.put, List.setIfInBounds_toArray, List.set_cons_zero, List.set_cons_succ]
    refine' take_ 8 rfl (by kernel_rfl) (by kernel_rfl) (by kernel_rfl) (fun _ _ _ h => h) (by rfl) (fun wS hSw => ?_) hHeld ?_
    rotate_left
    focus (go_simp; (try with_reducible rfl); done)
    try simp only [Act.put, List.setIfInBounds_toArray, List.set_cons_zero, List.set_cons_succ]
    refine only_ 9 rfl (by kernel_rfl) (by rfl) (fun K hK => ?_)
    refine wp_store_b (b := b) 46 _ _ rfl gr rfl rfl (by kernel_rfl) 46 RA1.out ?_
    intro Y2 HN HO HB
    have RR_W0xx : Hid (BRow Y2 gr 46 (arriveB b lo)) := HN
    have RB_W0xx : Hid (BRow Y2 gb 37 (arriveB b lo)) := Lib.hid (BRow.other RO1.out HO.out NE_RB_RR.out)
    have RX_W0xx : Hid (ARow Y2 gx 49 x) := Lib.hid (ARow.other RX1.out HO.out NE_RX_RR.out)
    have BB_W0xx : Hid (Below B w Y2) := Lib.hid (BB1.out.trans (HB.out.mono LE_RR.out))
    have hH2 : Below B w Y2 ∧ Y2.cell? ⟨gx, 2, none⟩ = some (.int .i32 x.v) := ⟨BB_W0xx.out, RX_W0xx.out.c2⟩
    refine hK.out _ _ hH2 (fun _ => ?_)
    clear hK K hHeld HN HO HB RA1 RO1 RX1 BB1 hH2
    show wpAnyH _ _ _ _ _ _ _ (Act.put _ none _) _
    try simp only [Act.put]
    refine wpAnyH_done (by kernel_rfl) ?_ _
    refine NoPanic.normal ?_
    have z0 := RX_W0xx.out.c0
    have z1 := RX_W0xx.out.c1
    have z2 := RX_W0xx.out.c2
    obtain ⟨W0xx, hYY⟩ : ∃ Y, Y2 = Y := ⟨_, rfl⟩
    rw [hYY] at RB_W0xx RR_W0xx RX_W0xx BB_W0xx z0 z1 z2 ⊢
    clear hYY
    go_wp2_with fail
    go_ret
    exact ⟨⟨rfl, _, HO2.out, RB_W0xx.out, RR_W0xx.out⟩, BB_W0xx.out⟩
  have e7 : ((mm : Int) == 7) = false := by simp; omega
  clear hlo
  have K1 := Lib.hid (fun W => H.tick b W HOK.out)
  have K2 := Lib.hid (fun W => rTickB_any b W HOK.out)
  have HO2 := Lib.hid (tickB_ok HOK.out)
  generalize Ua.tickB b.T b.k = sn at *
  generalize Ua.sendsU b.T b.k = is at *
  go_wp2_with (first
      | ((with_reducible show wpList _ _ _ (⟨none, .store 46 (.tmp 50) (.tmp 49), _, _, _, _⟩ :: _) _ _); refine wpList_store_b rfl 46 _ _ rfl (gr) (by exact rfl) (by exact rfl) (by kernel_rfl) 46 RR_w5.out ?_; intro w6 HN HO HB
         have RB_w6 : Hid (BRow w6 (gb) 37 (tickB b)) := Lib.hid (BRow.other RB_w5.out HO.out (NE_RB_RR.out))
         have RX_w6 : Hid (ARow w6 (gx) 49 (x)) := Lib.hid (ARow.other RX_w5.out HO.out (NE_RX_RR.out))
         have RN_w6 : Hid (BRow w6 (w1.heap.size) 37 (tickB b)) := Lib.hid (BRow.other RN_w5.out HO.out (NE_RN_RR.out))
         have RM_w6 : Hid (BRow w6 (w3.heap.size) 46 (tickB b)) := Lib.hid (BRow.other RM_w5.out HO.out (NE_RM_RR.out))
         have RR_w6 : Hid (BRow w6 (gr) 46 (tickB b)) := HN
         have BB_w6 : Hid (Below B w w6) := Lib.hid (BB_w5.out.trans (HB.out.mono LE_RR.out))
         clear HO HB HN RB_w5 RR_w5 RX_w5 RN_w5 RM_w5 BB_w5)
      | ((with_reducible show wpList _ _ _ (⟨some 49, .load 46 (.tmp 15), _, _, _, _⟩ :: _) _ _); refine wpList_load_b (by rfl) 46 _ rfl (w3.heap.size) (by exact rfl) _ Tryz.underlying46 (by kernel_rfl) 46 RM_w5.out ?_)
      | ((with_reducible show wpList _ _ _ (⟨none, .store 37 (.tmp 47) (.tmp 46), _, _, _, _⟩ :: _) _ _); refine wpList_store_b rfl 37 _ _ rfl (gb) (by exact rfl) (by exact rfl) (by kernel_rfl) 37 RB_w4.out ?_; intro w5 HN HO HB
         have RR_w5 : Hid (BRow w5 (gr) 46 (b)) := Lib.hid (BRow.other RR_w4.out HO.out (NE_RR_RB.out))
         have RX_w5 : Hid (ARow w5 (gx) 49 (x)) := Lib.hid (ARow.other RX_w4.out HO.out (NE_RX_RB.out))
         have RN_w5 : Hid (BRow w5 (w1.heap.size) 37 (tickB b)) := Lib.hid (BRow.other RN_w4.out HO.out (NE_RN_RB.out))
         have RM_w5 : Hid (BRow w5 (w3.heap.size) 46 (tickB b)) := Lib.hid (BRow.other RM_w4.out HO.out (NE_RM_RB.out))
         have RB_w5 : Hid (BRow w5 (gb) 37 (tickB b)) := HN
         have BB_w5 : Hid (Below B w w5) := Lib.hid (BB_w4.out.trans (HB.out.mono LE_RB.out))
         clear HO HB HN RB_w4 RR_w4 RX_w4 RN_w4 RM_w4 BB_w4)
      | ((with_reducible show wpList _ _ _ (⟨some 46, .load 37 (.tmp 12), _, _, _, _⟩ :: _) _ _); refine wpList_load_b (by rfl) 37 _ rfl (w1.heap.size) (by exact rfl) _ Tryz.underlying37 (by kernel_rfl) 37 RN_w4.out ?_)
      | ((with_reducible show wpList _ _ _ (⟨none, .store 46 (.tmp 15) (.tmp 34), _, _, _, _⟩ :: _) _ _); refine wpList_store_b  rfl 46 _ _ rfl (w3.heap.size) (by exact rfl) (by exact rfl) (by kernel_rfl) 46 (show BRow _ _ _ bare from alloc_at _ _) ?_; intro w4 HN HO HB
         have RB_w4 : Hid (BRow w4 (gb) 37 (b)) := Lib.hid (BRow.other (BRow.below RB_w3.out ((Below.refl _ _).alloc (Nat.le_refl _) _) RB_w3.out.lt) HO.out (Nat.ne_of_lt RB_w3.out.lt))
         have RR_w4 : Hid (BRow w4 (gr) 46 (b)) := Lib.hid (BRow.other (BRow.below RR_w3.out ((Below.refl _ _).alloc (Nat.le_refl _) _) RR_w3.out.lt) HO.out (Nat.ne_of_lt RR_w3.out.lt))
         have RX_w4 : Hid (ARow w4 (gx) 49 (x)) := Lib.hid (ARow.other (ARow.below RX_w3.out ((Below.refl _ _).alloc (Nat.le_refl _) _) RX_w3.out.lt) HO.out (Nat.ne_of_lt RX_w3.out.lt))
         have RN_w4 : Hid (BRow w4 (w1.heap.size) 37 (tickB b)) := Lib.hid (BRow.other (BRow.below RN_w3.out ((Below.refl _ _).alloc (Nat.le_refl _) _) RN_w3.out.lt) HO.out (Nat.ne_of_lt RN_w3.out.lt))
         have RM_w4 : Hid (BRow w4 w3.heap.size 46 (tickB b)) := HN
         have BB_w4 : Hid (Below B w w4) := Lib.hid ((BB_w3.out.alloc (Nat.le_trans HBw.out BB_w3.out.size) _).trans (HB.out.mono (Nat.le_trans HBw.out BB_w3.out.size)))
         have NE_RM_RB : Hid (w3.heap.size ≠ gb) := Lib.hid (Nat.ne_of_gt RB_w3.out.lt)
         have NE_RM_RR : Hid (w3.heap.size ≠ gr) := Lib.hid (Nat.ne_of_gt RR_w3.out.lt)
         clear HO HB HN RB_w3 RR_w3 RX_w3 RN_w3 BB_w3)
      | (go_at_call 17; have hc := BB_w2; clear hc; (with_reducible refine (K2.out _).mono ?_); rintro e w3 ⟨rfl, hB⟩
         have RB_w3 : Hid (BRow w3 (gb) 37 (b)) := Lib.hid (BRow.below RB_w2.out hB RB_w2.out.lt)
         have RR_w3 : Hid (BRow w3 (gr) 46 (b)) := Lib.hid (BRow.below RR_w2.out hB RR_w2.out.lt)
         have RX_w3 : Hid (ARow w3 (gx) 49 (x)) := Lib.hid (ARow.below RX_w2.out hB RX_w2.out.lt)
         have RN_w3 : Hid (BRow w3 (w1.heap.size) 37 (tickB b)) := Lib.hid (BRow.below RN_w2.out hB RN_w2.out.lt)
         have BB_w3 : Hid (Below B w w3) := Lib.hid (BB_w2.out.trans (hB.mono (Nat.le_trans HBw.out BB_w2.out.size)))
         clear hB RB_w2 RR_w2 RX_w2 RN_w2 BB_w2)
      | ((with_reducible show wpList _ _ _ (⟨some 32, .load 46 (.tmp 31), _, _, _, _⟩ :: _) _ _); refine wpList_load_b (by rfl) 46 _ rfl (gr) (by exact rfl) _ Tryz.underlying46 (by kernel_rfl) 46 RR_w2.out ?_)
      | ((with_reducible show wpList _ _ _ (⟨none, .store 37 (.tmp 12) (.tmp 26), _, _, _, _⟩ :: _) _ _); refine wpList_store_b  rfl 37 _ _ rfl (w1.heap.size) (by exact rfl) (by exact rfl) (by kernel_rfl) 37 (show BRow _ _ _ bare from alloc_at _ _) ?_; intro w2 HN HO HB
         have RB_w2 : Hid (BRow w2 (gb) 37 (b)) := Lib.hid (BRow.other (BRow.below RB_w1.out ((Below.refl _ _).alloc (Nat.le_refl _) _) RB_w1.out.lt) HO.out (Nat.ne_of_lt RB_w1.out.lt))
         have RR_w2 : Hid (BRow w2 (gr) 46 (b)) := Lib.hid (BRow.other (BRow.below RR_w1.out ((Below.refl _ _).alloc (Nat.le_refl _) _) RR_w1.out.lt) HO.out (Nat.ne_of_lt RR_w1.out.lt))
         have RX_w2 : Hid (ARow w2 (gx) 49 (x)) := Lib.hid (ARow.other (ARow.below RX_w1.out ((Below.refl _ _).alloc (Nat.le_refl _) _) RX_w1.out.lt) HO.out (Nat.ne_of_lt RX_w1.out.lt))
         have RN_w2 : Hid (BRow w2 w1.heap.size 37 (tickB b)) := HN
         have BB_w2 : Hid (Below B w w2) := Lib.hid ((BB_w1.out.alloc (Nat.le_trans HBw.out BB_w1.out.size) _).trans (HB.out.mono (Nat.le_trans HBw.out BB_w1.out.size)))
         have NE_RN_RB : Hid (w1.heap.size ≠ gb) := Lib.hid (Nat.ne_of_gt RB_w1.out.lt)
         have NE_RN_RR : Hid (w1.heap.size ≠ gr) := Lib.hid (Nat.ne_of_gt RR_w1.out.lt)
         clear HO HB HN RB_w1 RR_w1 RX_w1 BB_w1)
      | (go_at_call 16; have hc := BB_W0; clear hc; (with_reducible refine (K1.out _).mono ?_); rintro e w1 ⟨rfl, hB⟩
         have RB_w1 : Hid (BRow w1 (gb) 37 (b)) := Lib.hid (BRow.below RB_W0.out hB RB_W0.out.lt)
         have RR_w1 : Hid (BRow w1 (gr) 46 (b)) := Lib.hid (BRow.below RR_W0.out hB RR_W0.out.lt)
         have RX_w1 : Hid (ARow w1 (gx) 49 (x)) := Lib.hid (ARow.below RX_W0.out hB RX_W0.out.lt)
         have BB_w1 : Hid (Below B w w1) := Lib.hid (BB_W0.out.trans (hB.mono (Nat.le_trans HBw.out BB_W0.out.size)))
         clear hB RB_W0 RR_W0 RX_W0 BB_W0)
      | ((with_reducible show wpList _ _ _ (⟨some 24, .load 37 (.tmp 23), _, _, _, _⟩ :: _) _ _); refine wpList_load_b (by rfl) 37 _ rfl (gb) (by exact rfl) _ Tryz.underlying37 (by kernel_rfl) 37 RB_W0.out ?_))
  go_ret
  exact ⟨⟨rfl, _, HO2.out, RB_w6.out, RR_w6.out⟩, BB_w6.out⟩
end Go.Proofs.YtkodoldkfeopdaaGreat
