/-
  Ua: my texts of that device in one, in a namespace of its own. Made by wip/tools/merge.py.
-/
import Derived.Test.YtkodoldkfeopdaaGreatVRow
import Derived.Test.YtkodoldkfeopdaaGreatDUart
import Derived.IntWalk
/- OkMend -/
namespace Go.Proofs.YtkodoldkfeopdaaGreat.Ua
open Go.RowKit
set_option linter.unusedVariables false
set_option maxRecDepth 100000
set_option maxHeartbeats 1000000 in
set_option maxRecDepth 100000 in
theorem mendU_any : MendC 53 := by
  intro n bs m cs l c k w h
  have C1 := Lib.hid (fun W => mend_any n bs W h.hb h.n0 h.n1)
  have C2 := Lib.hid (fun W => mend_any m cs W h.hc h.m0 h.m1)
  have hRl := cutL_le n bs h.hb
  have hTl := cutL_le m cs h.hc
  generalize cutL n bs = R at *
  generalize cutL m cs = T at *
  obtain ⟨N, p, hN, hp, hp8, hN2, hE1⟩ := ofV_parts R hRl
  obtain ⟨M, q, hM, hq, hq8, hM2, hE2⟩ := ofV_parts T hTl
  have HC : Hid ((M = 0 ∧ True ∧ kM T k = 0) ∨ (M ≠ 0 ∧ (4 : Int) ≤ (k : Int) ∧ kM T k = 0) ∨ (M ≠ 0 ∧ ¬ (4 : Int) ≤ (k : Int) ∧ kM T k = k)) := Lib.hid (by
    by_cases h0 : T = []
    · exact .inl ⟨by rw [hM2, h0]; rfl, trivial, if_pos (.inr h0)⟩
    · have h1 : M ≠ 0 := by
        have := List.length_pos_iff.2 h0
        omega
      by_cases h4 : 4 ≤ k
      · exact .inr (.inl ⟨h1, by omega, if_pos (.inl h4)⟩)
      · exact .inr (.inr ⟨h1, by omega, if_neg (by rintro (h2 | h2); exact h4 h2; exact h0 h2)⟩))
  unfold uq
  rw [hN, hp, hM, hq]
  rw [hE1] at C1
  rw [hE2] at C2
  clear hN hp hM hq hE1 hE2 hN2 hM2 hRl hTl
  unfold uv
  go_enter Tryz.func53, Tryz.ntmps53
  go_upto_region 1 with (fail)
  refine name_two (Q := fun X => Code.wp _ _ _ _ X) ?_
  intro W0 hq1 hq2 hB0
  have T0 := Lib.hid (Tw.new h.hb h.hc 29 hq1 hq2 hB0)
  clear hq1 hq2 hB0
  obtain ⟨g, hg⟩ : ∃ g, w.heap.size = g := ⟨_, rfl⟩
  obtain ⟨r, hr⟩ : ∃ r, w.heap.size + 1 = r := ⟨_, rfl⟩
  rw [hr, hg] at T0 ⊢
  clear hr hg
  refine wp_region_noPanic ?_
  refine wp_region_held_drew (S := fun X => Below w.heap.size w X) (by kernel_rfl) (T0.out.b.drew) (fun hHeld => ?_)
  have S0 := Lib.hid (T0.out.under ((Below.refl _ _).drew))
  clear T0
  obtain ⟨Y0, hY0⟩ : ∃ Y, W0.drew = Y := ⟨_, rfl⟩
  rw [hY0] at hHeld S0 ⊢
  clear hY0
  refine' take_ 0 rfl (by kernel_rfl) (by kernel_rfl) (by kernel_rfl) (fun _ _ _ h => h) (by rfl) (fun wS hSw => ?_) hHeld ?_
  rotate_left
  focus (go_simp; (try with_reducible rfl); done)
  try simp only [Act.put, List.setIfInBounds_toArray, List.set_cons_zero, List.set_cons_succ]
  refine' take_ 3 rfl (by kernel_rfl) (by kernel_rfl) (by kernel_rfl) (fun _ _ _ h => h) (by rfl) (fun wS hSw => ?_) hHeld ?_
  rotate_left
  focus (go_simp; (try with_reducible rfl); done)
  try simp only [Act.put, List.setIfInBounds_toArray, List.set_cons_zero, List.set_cons_succ]
  refine both_ 1 4 rfl rfl (by kernel_rfl) (by rfl) (by rfl) (fun K hK => ?_) (fun K hK => ?_)
  · refine wp_of_run (qv n bs) (run_load_q9 Y0 27 (.tmp 3) g 0 rfl _ Tryz.underlying27 (by kernel_rfl) S0.out.q.rx S0.out.q.hb _ _ _ _ _) (hK.out _ _ hHeld (fun hHeld2 => ?_))
    clear hK K hHeld
    have hHeld := hHeld2
    clear hHeld2
    try simp only [Act.put, List.setIfInBounds_toArray, List.set_cons_zero, List.set_cons_succ]
    refine both_ 2 4 rfl rfl (by kernel_rfl) (by rfl) (by rfl) (fun K hK => ?_) (fun K hK => ?_)
    · go_simp
      with_reducible refine (C1.out _).mono ?_
      rintro e Y1 ⟨rfl, hB⟩
      have S1 := Lib.hid (S0.out.under hB)
      go_simp
      refine hK.out _ _ (S1.out.b) (fun hHeld2 => ?_)
      clear hK K hHeld
      have hHeld := hHeld2
      clear hHeld2
      clear hB S0
      try simp only [Act.put, List.setIfInBounds_toArray, List.set_cons_zero, List.set_cons_succ]
      refine only_ 4 rfl (by kernel_rfl) (by rfl) (fun K hK => ?_)
      refine wp_of_run (qv m cs) (run_load_q9 Y1 27 (.tmp 6) g 9 rfl _ Tryz.underlying27 (by kernel_rfl) S1.out.q.tx S1.out.q.hc _ _ _ _ _) (hK.out _ _ hHeld (fun hHeld2 => ?_))
      clear hK K hHeld
      have hHeld := hHeld2
      clear hHeld2
      try simp only [Act.put, List.setIfInBounds_toArray, List.set_cons_zero, List.set_cons_succ]
      refine' take_ 6 rfl (by kernel_rfl) (by kernel_rfl) (by kernel_rfl) (fun _ _ _ h => h) (by rfl) (fun wS hSw => ?_) hHeld ?_
      rotate_left
      focus (go_simp; (try with_reducible rfl); done)
      try simp only [Act.put, List.setIfInBounds_toArray, List.set_cons_zero, List.set_cons_succ]
      refine only_ 5 rfl (by kernel_rfl) (by rfl) (fun K hK => ?_)
      go_simp
      with_reducible refine (C2.out _).mono ?_
      rintro e Y2 ⟨rfl, hB⟩
      have S2 := Lib.hid (S1.out.under hB)
      go_simp
      refine hK.out _ _ (S2.out.b) (fun hHeld2 => ?_)
      clear hK K hHeld
      have hHeld := hHeld2
      clear hHeld2
      clear hB S1
      try simp only [Act.put, List.setIfInBounds_toArray, List.set_cons_zero, List.set_cons_succ]
      refine only_ 7 rfl (by kernel_rfl) (by rfl) (fun K hK => ?_)
      refine wp_store_rx 27 _ _ rfl g rfl rfl (by assumption) (by kernel_rfl) 29 S2.out.q ?_
      intro Y3 HN HO HB
      have S3 := Lib.hid (S2.out.setG HN.out HO.out HB.out)
      refine hK.out _ _ (S3.out.b) (fun hHeld2 => ?_)
      clear hK K hHeld
      have hHeld := hHeld2
      clear hHeld2
      clear HN HO HB S2
      try simp only [Act.put]
      refine' take_ 8 rfl (by kernel_rfl) (by kernel_rfl) (by kernel_rfl) (fun _ _ _ h => h) (by rfl) (fun wS hSw => ?_) hHeld ?_
      rotate_left
      focus (go_simp; (try with_reducible rfl); done)
      try simp only [Act.put, List.setIfInBounds_toArray, List.set_cons_zero, List.set_cons_succ]
      refine only_ 9 rfl (by kernel_rfl) (by rfl) (fun K hK => ?_)
      refine wp_store_tx 27 _ _ rfl g rfl rfl (by assumption) (by kernel_rfl) 29 S3.out.q ?_
      intro Y4 HN HO HB
      have S4 := Lib.hid (S3.out.setG HN.out HO.out HB.out)
      refine hK.out _ _ (S4.out.b) (fun hHeld2 => ?_)
      clear hK K hHeld
      have hHeld := hHeld2
      clear hHeld2
      clear HN HO HB S3
      try simp only [Act.put]
      refine wpAnyH_done (by kernel_rfl) ?_ _
      refine NoPanic.normal ?_
      clear hHeld
      have ck := S4.out.q.c20
      have cm := S4.out.q.n9
      rcases HC.out with ⟨e1, e2, e3⟩ | ⟨e1, e2, e3⟩ | ⟨e1, e2, e3⟩
      · have HK := Lib.hid e3
        subst e1
        clear e2 e3
        go_wp2_with (first
          | ((with_reducible show wpList _ _ _ (⟨none, .store 29 (.tmp 2) (.tmp 21), _, _, _, _⟩ :: _) _ _); refine wpList_store_u rfl 29 _ _ rfl r (by exact rfl) (by exact rfl) T1.out.q.hb T1.out.q.hc (by kernel_rfl) 29 T1.out.z ?_; intro WZ HN HO HB
             have HZ := HN
             have BZ := Lib.hid (T1.out.b.trans (HB.out.mono T1.out.lr))
             clear HN HO HB)
          | ((with_reducible show wpList _ _ _ (⟨some 21, .load 29 (.tmp 1), _, _, _, _⟩ :: _) _ _); refine wpList_load_u (by rfl) 29 _ rfl g (by exact rfl) _ Tryz.underlying29 (by kernel_rfl) 29 T1.out.q ?_)
          | ((with_reducible show wpList _ _ _ (⟨none, .store 5 (.tmp 20) _, _, _, _, _⟩ :: _) _ _); refine wpList_store_j rfl 5 _ _ rfl g 20 (by exact rfl) (.int .u8 ((0 : Nat) : Int)) (by exact rfl) rfl (by kernel_rfl) 29 S4.out.q (by decide) (uc_set_k S4.out.q.hb S4.out.q.hc) S4.out.q.hb S4.out.q.hc ?_; intro WT1 HN HO HB
             have T1 := Lib.hid (S4.out.setG HN.out HO.out HB.out)
             clear HN HO HB S4))
        exact bodyPost_ret (v := uv N p (0) q l c (0)) (results_c Tryz.results53 _ _ _ _ _ rfl (run_loadVar_u WZ r 29 _ Tryz.underlying29 (by kernel_rfl) 29 HZ.out)) rfl ⟨by rw [HK.out]; rfl, BZ.out⟩
      · have HK := Lib.hid e3
        clear e3
        go_wp2_with (first
          | ((with_reducible show wpList _ _ _ (⟨none, .store 29 (.tmp 2) (.tmp 21), _, _, _, _⟩ :: _) _ _); refine wpList_store_u rfl 29 _ _ rfl r (by exact rfl) (by exact rfl) T1.out.q.hb T1.out.q.hc (by kernel_rfl) 29 T1.out.z ?_; intro WZ HN HO HB
             have HZ := HN
             have BZ := Lib.hid (T1.out.b.trans (HB.out.mono T1.out.lr))
             clear HN HO HB)
          | ((with_reducible show wpList _ _ _ (⟨some 21, .load 29 (.tmp 1), _, _, _, _⟩ :: _) _ _); refine wpList_load_u (by rfl) 29 _ rfl g (by exact rfl) _ Tryz.underlying29 (by kernel_rfl) 29 T1.out.q ?_)
          | ((with_reducible show wpList _ _ _ (⟨none, .store 5 (.tmp 20) _, _, _, _, _⟩ :: _) _ _); refine wpList_store_j rfl 5 _ _ rfl g 20 (by exact rfl) (.int .u8 ((0 : Nat) : Int)) (by exact rfl) rfl (by kernel_rfl) 29 S4.out.q (by decide) (uc_set_k S4.out.q.hb S4.out.q.hc) S4.out.q.hb S4.out.q.hc ?_; intro WT1 HN HO HB
             have T1 := Lib.hid (S4.out.setG HN.out HO.out HB.out)
             clear HN HO HB S4))
        exact bodyPost_ret (v := uv N p (M) q l c (0)) (results_c Tryz.results53 _ _ _ _ _ rfl (run_loadVar_u WZ r 29 _ Tryz.underlying29 (by kernel_rfl) 29 HZ.out)) rfl ⟨by rw [HK.out]; rfl, BZ.out⟩
      · have HK := Lib.hid e3
        clear e3
        go_wp2_with (first
          | ((with_reducible show wpList _ _ _ (⟨none, .store 29 (.tmp 2) (.tmp 21), _, _, _, _⟩ :: _) _ _); refine wpList_store_u rfl 29 _ _ rfl r (by exact rfl) (by exact rfl) S4.out.q.hb S4.out.q.hc (by kernel_rfl) 29 S4.out.z ?_; intro WZ HN HO HB
             have HZ := HN
             have BZ := Lib.hid (S4.out.b.trans (HB.out.mono S4.out.lr))
             clear HN HO HB)
          | ((with_reducible show wpList _ _ _ (⟨some 21, .load 29 (.tmp 1), _, _, _, _⟩ :: _) _ _); refine wpList_load_u (by rfl) 29 _ rfl g (by exact rfl) _ Tryz.underlying29 (by kernel_rfl) 29 S4.out.q ?_))
        exact bodyPost_ret (v := uv N p (M) q l c (k)) (results_c Tryz.results53 _ _ _ _ _ rfl (run_loadVar_u WZ r 29 _ Tryz.underlying29 (by kernel_rfl) 29 HZ.out)) rfl ⟨by rw [HK.out]; rfl, BZ.out⟩
    · refine wp_of_run (qv m cs) (run_load_q9 Y0 27 (.tmp 6) g 9 rfl _ Tryz.underlying27 (by kernel_rfl) S0.out.q.tx S0.out.q.hc _ _ _ _ _) (hK.out _ _ hHeld (fun hHeld2 => ?_))
      clear hK K hHeld
      have hHeld := hHeld2
      clear hHeld2
      try simp only [Act.put, List.setIfInBounds_toArray, List.set_cons_zero, List.set_cons_succ]
      refine only_ 2 rfl (by kernel_rfl) (by rfl) (fun K hK => ?_)
      go_simp
      with_reducible refine (C1.out _).mono ?_
      rintro e Y1 ⟨rfl, hB⟩
      have S1 := Lib.hid (S0.out.under hB)
      go_simp
      refine hK.out _ _ (S1.out.b) (fun hHeld2 => ?_)
      clear hK K hHeld
      have hHeld := hHeld2
      clear hHeld2
      clear hB S0
      try simp only [Act.put, List.setIfInBounds_toArray, List.set_cons_zero, List.set_cons_succ]
      refine' take_ 6 rfl (by kernel_rfl) (by kernel_rfl) (by kernel_rfl) (fun _ _ _ h => h) (by rfl) (fun wS hSw => ?_) hHeld ?_
      rotate_left
      focus (go_simp; (try with_reducible rfl); done)
      try simp only [Act.put, List.setIfInBounds_toArray, List.set_cons_zero, List.set_cons_succ]
      refine only_ 5 rfl (by kernel_rfl) (by rfl) (fun K hK => ?_)
      go_simp
      with_reducible refine (C2.out _).mono ?_
      rintro e Y2 ⟨rfl, hB⟩
      have S2 := Lib.hid (S1.out.under hB)
      go_simp
      refine hK.out _ _ (S2.out.b) (fun hHeld2 => ?_)
      clear hK K hHeld
      have hHeld := hHeld2
      clear hHeld2
      clear hB S1
      try simp only [Act.put, List.setIfInBounds_toArray, List.set_cons_zero, List.set_cons_succ]
      refine only_ 7 rfl (by kernel_rfl) (by rfl) (fun K hK => ?_)
      refine wp_store_rx 27 _ _ rfl g rfl rfl (by assumption) (by kernel_rfl) 29 S2.out.q ?_
      intro Y3 HN HO HB
      have S3 := Lib.hid (S2.out.setG HN.out HO.out HB.out)
      refine hK.out _ _ (S3.out.b) (fun hHeld2 => ?_)
      clear hK K hHeld
      have hHeld := hHeld2
      clear hHeld2
      clear HN HO HB S2
      try simp only [Act.put]
      refine' take_ 8 rfl (by kernel_rfl) (by kernel_rfl) (by kernel_rfl) (fun _ _ _ h => h) (by rfl) (fun wS hSw => ?_) hHeld ?_
      rotate_left
      focus (go_simp; (try with_reducible rfl); done)
      try simp only [Act.put, List.setIfInBounds_toArray, List.set_cons_zero, List.set_cons_succ]
      refine only_ 9 rfl (by kernel_rfl) (by rfl) (fun K hK => ?_)
      refine wp_store_tx 27 _ _ rfl g rfl rfl (by assumption) (by kernel_rfl) 29 S3.out.q ?_
      intro Y4 HN HO HB
      have S4 := Lib.hid (S3.out.setG HN.out HO.out HB.out)
      refine hK.out _ _ (S4.out.b) (fun hHeld2 => ?_)
      clear hK K hHeld
      have hHeld := hHeld2
      clear hHeld2
      clear HN HO HB S3
      try simp only [Act.put]
      refine wpAnyH_done (by kernel_rfl) ?_ _
      refine NoPanic.normal ?_
      clear hHeld
      have ck := S4.out.q.c20
      have cm := S4.out.q.n9
      rcases HC.out with ⟨e1, e2, e3⟩ | ⟨e1, e2, e3⟩ | ⟨e1, e2, e3⟩
      · have HK := Lib.hid e3
        subst e1
        clear e2 e3
        go_wp2_with (first
          | ((with_reducible show wpList _ _ _ (⟨none, .store 29 (.tmp 2) (.tmp 21), _, _, _, _⟩ :: _) _ _); refine wpList_store_u rfl 29 _ _ rfl r (by exact rfl) (by exact rfl) T1.out.q.hb T1.out.q.hc (by kernel_rfl) 29 T1.out.z ?_; intro WZ HN HO HB
             have HZ := HN
             have BZ := Lib.hid (T1.out.b.trans (HB.out.mono T1.out.lr))
             clear HN HO HB)
          | ((with_reducible show wpList _ _ _ (⟨some 21, .load 29 (.tmp 1), _, _, _, _⟩ :: _) _ _); refine wpList_load_u (by rfl) 29 _ rfl g (by exact rfl) _ Tryz.underlying29 (by kernel_rfl) 29 T1.out.q ?_)
          | ((with_reducible show wpList _ _ _ (⟨none, .store 5 (.tmp 20) _, _, _, _, _⟩ :: _) _ _); refine wpList_store_j rfl 5 _ _ rfl g 20 (by exact rfl) (.int .u8 ((0 : Nat) : Int)) (by exact rfl) rfl (by kernel_rfl) 29 S4.out.q (by decide) (uc_set_k S4.out.q.hb S4.out.q.hc) S4.out.q.hb S4.out.q.hc ?_; intro WT1 HN HO HB
             have T1 := Lib.hid (S4.out.setG HN.out HO.out HB.out)
             clear HN HO HB S4))
        exact bodyPost_ret (v := uv N p (0) q l c (0)) (results_c Tryz.results53 _ _ _ _ _ rfl (run_loadVar_u WZ r 29 _ Tryz.underlying29 (by kernel_rfl) 29 HZ.out)) rfl ⟨by rw [HK.out]; rfl, BZ.out⟩
      · have HK := Lib.hid e3
        clear e3
        go_wp2_with (first
          | ((with_reducible show wpList _ _ _ (⟨none, .store 29 (.tmp 2) (.tmp 21), _, _, _, _⟩ :: _) _ _); refine wpList_store_u rfl 29 _ _ rfl r (by exact rfl) (by exact rfl) T1.out.q.hb T1.out.q.hc (by kernel_rfl) 29 T1.out.z ?_; intro WZ HN HO HB
             have HZ := HN
             have BZ := Lib.hid (T1.out.b.trans (HB.out.mono T1.out.lr))
             clear HN HO HB)
          | ((with_reducible show wpList _ _ _ (⟨some 21, .load 29 (.tmp 1), _, _, _, _⟩ :: _) _ _); refine wpList_load_u (by rfl) 29 _ rfl g (by exact rfl) _ Tryz.underlying29 (by kernel_rfl) 29 T1.out.q ?_)
          | ((with_reducible show wpList _ _ _ (⟨none, .store 5 (.tmp 20) _, _, _, _, _⟩ :: _) _ _); refine wpList_store_j rfl 5 _ _ rfl g 20 (by exact rfl) (.int .u8 ((0 : Nat) : Int)) (by exact rfl) rfl (by kernel_rfl) 29 S4.out.q (by decide) (uc_set_k S4.out.q.hb S4.out.q.hc) S4.out.q.hb S4.out.q.hc ?_; intro WT1 HN HO HB
             have T1 := Lib.hid (S4.out.setG HN.out HO.out HB.out)
             clear HN HO HB S4))
        exact bodyPost_ret (v := uv N p (M) q l c (0)) (results_c Tryz.results53 _ _ _ _ _ rfl (run_loadVar_u WZ r 29 _ Tryz.underlying29 (by kernel_rfl) 29 HZ.out)) rfl ⟨by rw [HK.out]; rfl, BZ.out⟩
      · have HK := Lib.hid e3
        clear e3
        go_wp2_with (first
          | ((with_reducible show wpList _ _ _ (⟨none, .store 29 (.tmp 2) (.tmp 21), _, _, _, _⟩ :: _) _ _); refine wpList_store_u rfl 29 _ _ rfl r (by exact rfl) (by exact rfl) S4.out.q.hb S4.out.q.hc (by kernel_rfl) 29 S4.out.z ?_; intro WZ HN HO HB
             have HZ := HN
             have BZ := Lib.hid (S4.out.b.trans (HB.out.mono S4.out.lr))
             clear HN HO HB)
          | ((with_reducible show wpList _ _ _ (⟨some 21, .load 29 (.tmp 1), _, _, _, _⟩ :: _) _ _); refine wpList_load_u (by rfl) 29 _ rfl g (by exact rfl) _ Tryz.underlying29 (by kernel_rfl) 29 S4.out.q ?_))
        exact bodyPost_ret (v := uv N p (M) q l c (k)) (results_c Tryz.results53 _ _ _ _ _ rfl (run_loadVar_u WZ r 29 _ Tryz.underlying29 (by kernel_rfl) 29 HZ.out)) rfl ⟨by rw [HK.out]; rfl, BZ.out⟩
  · refine wp_of_run (qv m cs) (run_load_q9 Y0 27 (.tmp 6) g 9 rfl _ Tryz.underlying27 (by kernel_rfl) S0.out.q.tx S0.out.q.hc _ _ _ _ _) (hK.out _ _ hHeld (fun hHeld2 => ?_))
    clear hK K hHeld
    have hHeld := hHeld2
    clear hHeld2
    try simp only [Act.put, List.setIfInBounds_toArray, List.set_cons_zero, List.set_cons_succ]
    refine only_ 1 rfl (by kernel_rfl) (by rfl) (fun K hK => ?_)
    refine wp_of_run (qv n bs) (run_load_q9 Y0 27 (.tmp 3) g 0 rfl _ Tryz.underlying27 (by kernel_rfl) S0.out.q.rx S0.out.q.hb _ _ _ _ _) (hK.out _ _ hHeld (fun hHeld2 => ?_))
    clear hK K hHeld
    have hHeld := hHeld2
    clear hHeld2
    try simp only [Act.put, List.setIfInBounds_toArray, List.set_cons_zero, List.set_cons_succ]
    refine only_ 2 rfl (by kernel_rfl) (by rfl) (fun K hK => ?_)
    go_simp
    with_reducible refine (C1.out _).mono ?_
    rintro e Y1 ⟨rfl, hB⟩
    have S1 := Lib.hid (S0.out.under hB)
    go_simp
    refine hK.out _ _ (S1.out.b) (fun hHeld2 => ?_)
    clear hK K hHeld
    have hHeld := hHeld2
    clear hHeld2
    clear hB S0
    try simp only [Act.put, List.setIfInBounds_toArray, List.set_cons_zero, List.set_cons_succ]
    refine' take_ 6 rfl (by kernel_rfl) (by kernel_rfl) (by kernel_rfl) (fun _ _ _ h => h) (by rfl) (fun wS hSw => ?_) hHeld ?_
    rotate_left
    focus (go_simp; (try with_reducible rfl); done)
    try simp only [Act.put, List.setIfInBounds_toArray, List.set_cons_zero, List.set_cons_succ]
    refine only_ 5 rfl (by kernel_rfl) (by rfl) (fun K hK => ?_)
    go_simp
    with_reducible refine (C2.out _).mono ?_
    rintro e Y2 ⟨rfl, hB⟩
    have S2 := Lib.hid (S1.out.under hB)
    go_simp
    refine hK.out _ _ (S2.out.b) (fun hHeld2 => ?_)
    clear hK K hHeld
    have hHeld := hHeld2
    clear hHeld2
    clear hB S1
    try simp only [Act.put, List.setIfInBounds_toArray, List.set_cons_zero, List.set_cons_succ]
    refine only_ 7 rfl (by kernel_rfl) (by rfl) (fun K hK => ?_)
    refine wp_store_rx 27 _ _ rfl g rfl rfl (by assumption) (by kernel_rfl) 29 S2.out.q ?_
    intro Y3 HN HO HB
    have S3 := Lib.hid (S2.out.setG HN.out HO.out HB.out)
    refine hK.out _ _ (S3.out.b) (fun hHeld2 => ?_)
    clear hK K hHeld
    have hHeld := hHeld2
    clear hHeld2
    clear HN HO HB S2
    try simp only [Act.put]
    refine' take_ 8 rfl (by kernel_rfl) (by kernel_rfl) (by kernel_rfl) (fun _ _ _ h => h) (by rfl) (fun wS hSw => ?_) hHeld ?_
    rotate_left
    focus (go_simp; (try with_reducible rfl); done)
    try simp only [Act.put, List.setIfInBounds_toArray, List.set_cons_zero, List.set_cons_succ]
    refine only_ 9 rfl (by kernel_rfl) (by rfl) (fun K hK => ?_)
    refine wp_store_tx 27 _ _ rfl g rfl rfl (by assumption) (by kernel_rfl) 29 S3.out.q ?_
    intro Y4 HN HO HB
    have S4 := Lib.hid (S3.out.setG HN.out HO.out HB.out)
    refine hK.out _ _ (S4.out.b) (fun hHeld2 => ?_)
    clear hK K hHeld
    have hHeld := hHeld2
    clear hHeld2
    clear HN HO HB S3
    try simp only [Act.put]
    refine wpAnyH_done (by kernel_rfl) ?_ _
    refine NoPanic.normal ?_
    clear hHeld
    have ck := S4.out.q.c20
    have cm := S4.out.q.n9
    rcases HC.out with ⟨e1, e2, e3⟩ | ⟨e1, e2, e3⟩ | ⟨e1, e2, e3⟩
    · have HK := Lib.hid e3
      subst e1
      clear e2 e3
      go_wp2_with (first
        | ((with_reducible show wpList _ _ _ (⟨none, .store 29 (.tmp 2) (.tmp 21), _, _, _, _⟩ :: _) _ _); refine wpList_store_u rfl 29 _ _ rfl r (by exact rfl) (by exact rfl) T1.out.q.hb T1.out.q.hc (by kernel_rfl) 29 T1.out.z ?_; intro WZ HN HO HB
           have HZ := HN
           have BZ := Lib.hid (T1.out.b.trans (HB.out.mono T1.out.lr))
           clear HN HO HB)
        | ((with_reducible show wpList _ _ _ (⟨some 21, .load 29 (.tmp 1), _, _, _, _⟩ :: _) _ _); refine wpList_load_u (by rfl) 29 _ rfl g (by exact rfl) _ Tryz.underlying29 (by kernel_rfl) 29 T1.out.q ?_)
        | ((with_reducible show wpList _ _ _ (⟨none, .store 5 (.tmp 20) _, _, _, _, _⟩ :: _) _ _); refine wpList_store_j rfl 5 _ _ rfl g 20 (by exact rfl) (.int .u8 ((0 : Nat) : Int)) (by exact rfl) rfl (by kernel_rfl) 29 S4.out.q (by decide) (uc_set_k S4.out.q.hb S4.out.q.hc) S4.out.q.hb S4.out.q.hc ?_; intro WT1 HN HO HB
           have T1 := Lib.hid (S4.out.setG HN.out HO.out HB.out)
           clear HN HO HB S4))
      exact bodyPost_ret (v := uv N p (0) q l c (0)) (results_c Tryz.results53 _ _ _ _ _ rfl (run_loadVar_u WZ r 29 _ Tryz.underlying29 (by kernel_rfl) 29 HZ.out)) rfl ⟨by rw [HK.out]; rfl, BZ.out⟩
    · have HK := Lib.hid e3
      clear e3
      go_wp2_with (first
        | ((with_reducible show wpList _ _ _ (⟨none, .store 29 (.tmp 2) (.tmp 21), _, _, _, _⟩ :: _) _ _); refine wpList_store_u rfl 29 _ _ rfl r (by exact rfl) (by exact rfl) T1.out.q.hb T1.out.q.hc (by kernel_rfl) 29 T1.out.z ?_; intro WZ HN HO HB
           have HZ := HN
           have BZ := Lib.hid (T1.out.b.trans (HB.out.mono T1.out.lr))
           clear HN HO HB)
        | ((with_reducible show wpList _ _ _ (⟨some 21, .load 29 (.tmp 1), _, _, _, _⟩ :: _) _ _); refine wpList_load_u (by rfl) 29 _ rfl g (by exact rfl) _ Tryz.underlying29 (by kernel_rfl) 29 T1.out.q ?_)
        | ((with_reducible show wpList _ _ _ (⟨none, .store 5 (.tmp 20) _, _, _, _, _⟩ :: _) _ _); refine wpList_store_j rfl 5 _ _ rfl g 20 (by exact rfl) (.int .u8 ((0 : Nat) : Int)) (by exact rfl) rfl (by kernel_rfl) 29 S4.out.q (by decide) (uc_set_k S4.out.q.hb S4.out.q.hc) S4.out.q.hb S4.out.q.hc ?_; intro WT1 HN HO HB
           have T1 := Lib.hid (S4.out.setG HN.out HO.out HB.out)
           clear HN HO HB S4))
      exact bodyPost_ret (v := uv N p (M) q l c (0)) (results_c Tryz.results53 _ _ _ _ _ rfl (run_loadVar_u WZ r 29 _ Tryz.underlying29 (by kernel_rfl) 29 HZ.out)) rfl ⟨by rw [HK.out]; rfl, BZ.out⟩
    · have HK := Lib.hid e3
      clear e3
      go_wp2_with (first
        | ((with_reducible show wpList _ _ _ (⟨none, .store 29 (.tmp 2) (.tmp 21), _, _, _, _⟩ :: _) _ _); refine wpList_store_u rfl 29 _ _ rfl r (by exact rfl) (by exact rfl) S4.out.q.hb S4.out.q.hc (by kernel_rfl) 29 S4.out.z ?_; intro WZ HN HO HB
           have HZ := HN
           have BZ := Lib.hid (S4.out.b.trans (HB.out.mono S4.out.lr))
           clear HN HO HB)
        | ((with_reducible show wpList _ _ _ (⟨some 21, .load 29 (.tmp 1), _, _, _, _⟩ :: _) _ _); refine wpList_load_u (by rfl) 29 _ rfl g (by exact rfl) _ Tryz.underlying29 (by kernel_rfl) 29 S4.out.q ?_))
      exact bodyPost_ret (v := uv N p (M) q l c (k)) (results_c Tryz.results53 _ _ _ _ _ rfl (run_loadVar_u WZ r 29 _ Tryz.underlying29 (by kernel_rfl) 29 HZ.out)) rfl ⟨by rw [HK.out]; rfl, BZ.out⟩
end Go.Proofs.YtkodoldkfeopdaaGreat.Ua
/- OkMeth -/
namespace Go.Proofs.YtkodoldkfeopdaaGreat.Ua
open Go.RowKit
set_option linter.unusedVariables false
set_option maxRecDepth 100000
set_option maxRecDepth 100000 in
theorem takeByte_any {w X : World} {g r : Nat} {N M : Int} {p q : List Nat} {l : Bool} {c k : Nat} (hT : Tw w X g r 29 N p M q l c k) (x : Nat) (N' : Int) (p' : List Nat) (b : Bool) (hp' : p'.length = 8) (hx : x < 256)
    (hP : ∀ W : World, Calls Tryz.prog 58 #[qv N p] W fun e w' => e = .returned (.tuple #[.int .u8 x, qv N' p', .bool b]) ∧ Below W.heap.size W w') :
    Calls Tryz.prog 86 #[.pointer (some ⟨g, 0, none⟩)] X fun e w' => e = .returned (.int .i32 x) ∧ Tw w w' g r 29 N' p' M q l c k := by
  have HP := Lib.hid hP
  have HW : Hid (IntKind.i32.wrap (x : Int) = (x : Int)) := Lib.hid (by simp [IntKind.wrap, IntKind.bits, IntKind.signed]; omega)
  clear hP
  have T0 := Lib.hid hT
  clear hT
  go_enter Tryz.func86, Tryz.ntmps86
  go_wp2_with (first
      | ((with_reducible show wpList _ _ _ (⟨none, .store 27 (.tmp 18) (.tmp 16), _, _, _, _⟩ :: _) _ _); refine wpList_store_rx rfl 27 _ _ rfl g (by exact rfl) (by exact rfl) (by assumption) (by kernel_rfl) 29 T2.out.q ?_; intro WT3 HN HO HB
         have T3 := Lib.hid (T2.out.setG HN.out HO.out HB.out)
         clear HN HO HB T2)
      | ((with_reducible show wpList _ _ _ (⟨some 16, .load 27 (.tmp 4), _, _, _, _⟩ :: _) _ _); refine wpList_load_q rfl 27 _ rfl (WT1.heap.size) (by exact rfl) _ Tryz.underlying27 (by kernel_rfl) 27 _ _ HQ.out (by assumption) ?_)
      | ((with_reducible show wpList _ _ _ (⟨none, .store 27 (.tmp 4) (.tmp 13), _, _, _, _⟩ :: _) _ _); refine wpList_store_q rfl 27 _ _ rfl (WT1.heap.size) (by exact rfl) (N') (p') (by exact rfl) (by assumption) (by kernel_rfl) 27 _ _ (show QRow _ _ _ 0 Z8 from alloc_at _ _) rfl ?_; intro WT2 HN HO HB
         have HQ := HN
         have T2 := Lib.hid (T1.out.under (((Below.refl _ _).alloc (Nat.le_refl _) _).trans HB.out))
         have HS := Lib.hid (Nat.ne_of_lt T1.out.q.lt)
         clear HN HO HB T1)
      | (go_at_call 58; refine (HP.out _).mono ?_; rintro e WT1 ⟨rfl, hB⟩
         have T1 := Lib.hid (T0.out.under hB)
         clear hB T0)
      | ((with_reducible show wpList _ _ _ (⟨some 10, .load 27 (.tmp 9), _, _, _, _⟩ :: _) _ _); refine wpList_load_q9 rfl 27 _ rfl g 0 (by exact rfl) _ Tryz.underlying27 (by kernel_rfl) T0.out.q.rx T0.out.q.hb ?_))
  go_ret
  exact ⟨by first | rfl | (rw [HW.out]), T3.out⟩
set_option maxRecDepth 100000 in
theorem takeState_any {w X : World} {g r : Nat} {N M : Int} {p q : List Nat} {l : Bool} {c k : Nat} (hT : Tw w X g r 29 N p M q l c k) (R T : List Nat) (hN : N = (R.length : Int)) (hM : M = (T.length : Int)) :
    Calls Tryz.prog 87 #[.pointer (some ⟨g, 0, none⟩)] X fun e w' => e = .returned (.int .i32 (statU R T l)) ∧ Tw w w' g r 29 N p M q false c k := by
  have hr : (0 < N ∧ R ≠ []) ∨ (N = 0 ∧ R = []) := by
    rw [hN]
    cases R with
    | nil => exact .inr ⟨rfl, rfl⟩
    | cons y R => exact .inl ⟨by simp, by simp⟩
  have ht : (M = 8 ∧ T.length = 8) ∨ (M ≠ 8 ∧ T.length ≠ 8) := by
    rw [hM]
    omega
  have T0 := Lib.hid hT
  clear hT hN hM
  rcases hr with ⟨d1, e1⟩ | ⟨d1, e1⟩ <;> rcases ht with ⟨d2, e2⟩ | ⟨d2, e2⟩ <;> cases l
  · have HE : Hid (statU R T false = 3) := Lib.hid (by simp [statU, e1, e2])
    clear e1 e2
    subst d2
    have b0 := T0.out.q.n0
    have b9 := T0.out.q.n9
    have b18 := T0.out.q.c18
    go_enter Tryz.func87, Tryz.ntmps87
    go_wp2_with (first
        | ((with_reducible show wpList _ _ _ (⟨none, .store 4 (.tmp 28) _, _, _, _, _⟩ :: _) _ _); refine wpList_store_j rfl 4 _ _ rfl g 18 (by exact rfl) (.bool false) (by exact rfl) rfl (by kernel_rfl) 29 T0.out.q (by decide) (uc_set_l T0.out.q.hb T0.out.q.hc) T0.out.q.hb T0.out.q.hc ?_; intro WT1 HN HO HB
           have T1 := Lib.hid (T0.out.setG HN.out HO.out HB.out)
           clear HN HO HB T0))
    go_ret
    exact ⟨by rw [HE.out]; rfl, T1.out⟩
  · have HE : Hid (statU R T true = 7) := Lib.hid (by simp [statU, e1, e2])
    clear e1 e2
    subst d2
    have b0 := T0.out.q.n0
    have b9 := T0.out.q.n9
    have b18 := T0.out.q.c18
    go_enter Tryz.func87, Tryz.ntmps87
    go_wp2_with (first
        | ((with_reducible show wpList _ _ _ (⟨none, .store 4 (.tmp 28) _, _, _, _, _⟩ :: _) _ _); refine wpList_store_j rfl 4 _ _ rfl g 18 (by exact rfl) (.bool false) (by exact rfl) rfl (by kernel_rfl) 29 T0.out.q (by decide) (uc_set_l T0.out.q.hb T0.out.q.hc) T0.out.q.hb T0.out.q.hc ?_; intro WT1 HN HO HB
           have T1 := Lib.hid (T0.out.setG HN.out HO.out HB.out)
           clear HN HO HB T0))
    go_ret
    exact ⟨by rw [HE.out]; rfl, T1.out⟩
  · have HE : Hid (statU R T false = 1) := Lib.hid (by simp [statU, e1, e2])
    clear e1 e2
    have b0 := T0.out.q.n0
    have b9 := T0.out.q.n9
    have b18 := T0.out.q.c18
    go_enter Tryz.func87, Tryz.ntmps87
    go_wp2_with (first
        | ((with_reducible show wpList _ _ _ (⟨none, .store 4 (.tmp 28) _, _, _, _, _⟩ :: _) _ _); refine wpList_store_j rfl 4 _ _ rfl g 18 (by exact rfl) (.bool false) (by exact rfl) rfl (by kernel_rfl) 29 T0.out.q (by decide) (uc_set_l T0.out.q.hb T0.out.q.hc) T0.out.q.hb T0.out.q.hc ?_; intro WT1 HN HO HB
           have T1 := Lib.hid (T0.out.setG HN.out HO.out HB.out)
           clear HN HO HB T0))
    go_ret
    exact ⟨by rw [HE.out]; rfl, T1.out⟩
  · have HE : Hid (statU R T true = 5) := Lib.hid (by simp [statU, e1, e2])
    clear e1 e2
    have b0 := T0.out.q.n0
    have b9 := T0.out.q.n9
    have b18 := T0.out.q.c18
    go_enter Tryz.func87, Tryz.ntmps87
    go_wp2_with (first
        | ((with_reducible show wpList _ _ _ (⟨none, .store 4 (.tmp 28) _, _, _, _, _⟩ :: _) _ _); refine wpList_store_j rfl 4 _ _ rfl g 18 (by exact rfl) (.bool false) (by exact rfl) rfl (by kernel_rfl) 29 T0.out.q (by decide) (uc_set_l T0.out.q.hb T0.out.q.hc) T0.out.q.hb T0.out.q.hc ?_; intro WT1 HN HO HB
           have T1 := Lib.hid (T0.out.setG HN.out HO.out HB.out)
           clear HN HO HB T0))
    go_ret
    exact ⟨by rw [HE.out]; rfl, T1.out⟩
  · have HE : Hid (statU R T false = 2) := Lib.hid (by simp [statU, e1, e2])
    clear e1 e2
    subst d1
    subst d2
    have b0 := T0.out.q.n0
    have b9 := T0.out.q.n9
    have b18 := T0.out.q.c18
    go_enter Tryz.func87, Tryz.ntmps87
    go_wp2_with (first
        | ((with_reducible show wpList _ _ _ (⟨none, .store 4 (.tmp 28) _, _, _, _, _⟩ :: _) _ _); refine wpList_store_j rfl 4 _ _ rfl g 18 (by exact rfl) (.bool false) (by exact rfl) rfl (by kernel_rfl) 29 T0.out.q (by decide) (uc_set_l T0.out.q.hb T0.out.q.hc) T0.out.q.hb T0.out.q.hc ?_; intro WT1 HN HO HB
           have T1 := Lib.hid (T0.out.setG HN.out HO.out HB.out)
           clear HN HO HB T0))
    go_ret
    exact ⟨by rw [HE.out]; rfl, T1.out⟩
  · have HE : Hid (statU R T true = 6) := Lib.hid (by simp [statU, e1, e2])
    clear e1 e2
    subst d1
    subst d2
    have b0 := T0.out.q.n0
    have b9 := T0.out.q.n9
    have b18 := T0.out.q.c18
    go_enter Tryz.func87, Tryz.ntmps87
    go_wp2_with (first
        | ((with_reducible show wpList _ _ _ (⟨none, .store 4 (.tmp 28) _, _, _, _, _⟩ :: _) _ _); refine wpList_store_j rfl 4 _ _ rfl g 18 (by exact rfl) (.bool false) (by exact rfl) rfl (by kernel_rfl) 29 T0.out.q (by decide) (uc_set_l T0.out.q.hb T0.out.q.hc) T0.out.q.hb T0.out.q.hc ?_; intro WT1 HN HO HB
           have T1 := Lib.hid (T0.out.setG HN.out HO.out HB.out)
           clear HN HO HB T0))
    go_ret
    exact ⟨by rw [HE.out]; rfl, T1.out⟩
  · have HE : Hid (statU R T false = 0) := Lib.hid (by simp [statU, e1, e2])
    clear e1 e2
    subst d1
    have b0 := T0.out.q.n0
    have b9 := T0.out.q.n9
    have b18 := T0.out.q.c18
    go_enter Tryz.func87, Tryz.ntmps87
    go_wp2_with (first
        | ((with_reducible show wpList _ _ _ (⟨none, .store 4 (.tmp 28) _, _, _, _, _⟩ :: _) _ _); refine wpList_store_j rfl 4 _ _ rfl g 18 (by exact rfl) (.bool false) (by exact rfl) rfl (by kernel_rfl) 29 T0.out.q (by decide) (uc_set_l T0.out.q.hb T0.out.q.hc) T0.out.q.hb T0.out.q.hc ?_; intro WT1 HN HO HB
           have T1 := Lib.hid (T0.out.setG HN.out HO.out HB.out)
           clear HN HO HB T0))
    go_ret
    exact ⟨by rw [HE.out]; rfl, T1.out⟩
  · have HE : Hid (statU R T true = 4) := Lib.hid (by simp [statU, e1, e2])
    clear e1 e2
    subst d1
    have b0 := T0.out.q.n0
    have b9 := T0.out.q.n9
    have b18 := T0.out.q.c18
    go_enter Tryz.func87, Tryz.ntmps87
    go_wp2_with (first
        | ((with_reducible show wpList _ _ _ (⟨none, .store 4 (.tmp 28) _, _, _, _, _⟩ :: _) _ _); refine wpList_store_j rfl 4 _ _ rfl g 18 (by exact rfl) (.bool false) (by exact rfl) rfl (by kernel_rfl) 29 T0.out.q (by decide) (uc_set_l T0.out.q.hb T0.out.q.hc) T0.out.q.hb T0.out.q.hc ?_; intro WT1 HN HO HB
           have T1 := Lib.hid (T0.out.setG HN.out HO.out HB.out)
           clear HN HO HB T0))
    go_ret
    exact ⟨by rw [HE.out]; rfl, T1.out⟩
set_option maxRecDepth 100000 in
theorem control_any {w X : World} {g r : Nat} {N M : Int} {p q : List Nat} {l : Bool} {c k : Nat} (hT : Tw w X g r 29 N p M q l c k) (hc : c < 256) :
    Calls Tryz.prog 88 #[.pointer (some ⟨g, 0, none⟩)] X fun e w' => e = .returned (.int .i32 c) ∧ Tw w w' g r 29 N p M q l c k := by
  have HW : Hid (IntKind.i32.wrap (c : Int) = (c : Int)) := Lib.hid (by simp [IntKind.wrap, IntKind.bits, IntKind.signed]; omega)
  have T0 := Lib.hid hT
  clear hT
  have b19 := T0.out.q.c19
  go_enter Tryz.func88, Tryz.ntmps88
  go_wp2
  go_ret
  exact ⟨by first | rfl | (rw [HW.out]), T0.out⟩
set_option maxRecDepth 100000 in
theorem layByte_any {w X : World} {g r : Nat} {N M : Int} {p q : List Nat} {l : Bool} {c k : Nat} (hT : Tw w X g r 29 N p M q l c k) (x : Nat) (M' : Int) (q' : List Nat) (b : Bool) (hq' : q'.length = 8)
    (hP : ∀ W : World, Calls Tryz.prog 54 #[qv M q, .int .u8 x] W fun e w' => e = .returned (.tuple #[qv M' q', .bool b]) ∧ Below W.heap.size W w') :
    Calls Tryz.prog 115 #[.pointer (some ⟨g, 0, none⟩), .int .u8 x] X fun e w' => e = .returned (.tuple #[]) ∧ Tw w w' g r 29 N p M' q' l c k := by
  have HP := Lib.hid hP
  clear hP
  have T0 := Lib.hid hT
  clear hT
  go_enter Tryz.func115, Tryz.ntmps115
  go_wp2_with (first
      | ((with_reducible show wpList _ _ _ (⟨none, .store 27 (.tmp 15) (.tmp 12), _, _, _, _⟩ :: _) _ _); refine wpList_store_tx rfl 27 _ _ rfl g (by exact rfl) (by exact rfl) (by assumption) (by kernel_rfl) 29 T1.out.q ?_; intro WT2 HN HO HB
         have T2 := Lib.hid (T1.out.setG HN.out HO.out HB.out)
         clear HN HO HB T1)
      | (go_at_call 54; refine (HP.out _).mono ?_; rintro e WT1 ⟨rfl, hB⟩
         have T1 := Lib.hid (T0.out.under hB)
         clear hB T0)
      | ((with_reducible show wpList _ _ _ (⟨some 9, .load 27 (.tmp 8), _, _, _, _⟩ :: _) _ _); refine wpList_load_q9 rfl 27 _ rfl g 9 (by exact rfl) _ Tryz.underlying27 (by kernel_rfl) T0.out.q.tx T0.out.q.hc ?_))
  go_end0
  exact ⟨rfl, T2.out⟩
set_option maxRecDepth 100000 in
theorem setControl_any {w X : World} {g r : Nat} {N M : Int} {p q : List Nat} {l : Bool} {c k : Nat} (hT : Tw w X g r 29 N p M q l c k) (x : Nat) :
    Calls Tryz.prog 116 #[.pointer (some ⟨g, 0, none⟩), .int .u8 x] X fun e w' => e = .returned (.tuple #[]) ∧ Tw w w' g r 29 N p M q l x k := by
  have T0 := Lib.hid hT
  clear hT
  go_enter Tryz.func116, Tryz.ntmps116
  go_wp2_with (first
      | ((with_reducible show wpList _ _ _ (⟨none, .store 5 (.tmp 7) (.tmp 5), _, _, _, _⟩ :: _) _ _); refine wpList_store_j rfl 5 _ _ rfl g 19 (by exact rfl) (.int .u8 (x : Int)) (by exact rfl) rfl (by kernel_rfl) 29 T0.out.q (by decide) (uc_set_c T0.out.q.hb T0.out.q.hc) T0.out.q.hb T0.out.q.hc ?_; intro WT1 HN HO HB
         have T1 := Lib.hid (T0.out.setG HN.out HO.out HB.out)
         clear HN HO HB T0))
  go_end0
  exact ⟨rfl, T1.out⟩
end Go.Proofs.YtkodoldkfeopdaaGreat.Ua
/- OkRegs -/
namespace Go.Proofs.YtkodoldkfeopdaaGreat.Ua
open Go.RowKit
set_option linter.unusedVariables false
set_option maxRecDepth 100000
theorem uInt : Tryz.prog.underlying 3 = some (.int .i64) := by kernel_rfl
theorem mtyR : Tryz.prog.underlying 163 = some (.map 3 161) := by kernel_rfl
theorem mtyW : Tryz.prog.underlying 187 = some (.map 3 185) := by kernel_rfl
abbrev cl (f b : Nat) : Value := .func (.func f) #[.pointer (some ⟨b, 0, none⟩)] #[]
abbrev en (k : Int) (x : Value) (b : Nat) : MapEntry := { key := .int .i64 k, val := x, born := b }
abbrev rds (b : Nat) : Array MapEntry := #[en 3 (cl 86 b) 0, en 4 (cl 87 b) 1, en 5 (cl 88 b) 2]
abbrev wrs (b : Nat) : Array MapEntry := #[en 3 (cl 115 b) 0, en 5 (cl 116 b) 1]
set_option maxRecDepth 100000 in
theorem readers_any (b : Nat) (w : World) : Calls Tryz.prog 84 #[.pointer (some ⟨b, 0, none⟩)] w fun x w' => x = .returned (.map (some w.heap.size)) ∧ w' = w.alloc (.map (rds b) 3) := by
  have hmm := @run_makeMap Tryz.prog
  have i0 := run_ins mtyR uInt w #[] #[en 3 (cl 86 b) 0] 0 1 3 (cl 86 b) rfl rfl rfl
  have i1 := run_ins mtyR uInt w #[en 3 (cl 86 b) 0] #[en 3 (cl 86 b) 0, en 4 (cl 87 b) 1] 1 2 4 (cl 87 b) rfl rfl rfl
  have i2 := run_ins mtyR uInt w #[en 3 (cl 86 b) 0, en 4 (cl 87 b) 1] (rds b) 2 3 5 (cl 88 b) rfl rfl rfl
  go_enter Tryz.func84, Tryz.ntmps84
  go_wp2
  go_ret
  exact ⟨rfl, rfl⟩
set_option maxRecDepth 100000 in
theorem writers_any (b : Nat) (w : World) : Calls Tryz.prog 114 #[.pointer (some ⟨b, 0, none⟩)] w fun x w' => x = .returned (.map (some w.heap.size)) ∧ w' = w.alloc (.map (wrs b) 2) := by
  have hmm := @run_makeMap Tryz.prog
  have i0 := run_ins mtyW uInt w #[] #[en 3 (cl 115 b) 0] 0 1 3 (cl 115 b) rfl rfl rfl
  have i1 := run_ins mtyW uInt w #[en 3 (cl 115 b) 0] (wrs b) 1 2 5 (cl 116 b) rfl rfl rfl
  go_enter Tryz.func114, Tryz.ntmps114
  go_wp2
  go_ret
  exact ⟨rfl, rfl⟩
theorem zrd (w : World) : (zeroValue 161).run Tryz.prog w = .ok .nilFunc w := by kernel_rfl
theorem zwr (w : World) : (zeroValue 185).run Tryz.prog w = .ok .nilFunc w := by kernel_rfl
theorem find_none (reg : Int) (b : Nat) (h0 : reg ≠ 3) (h1 : reg ≠ 4) (h2 : reg ≠ 5) : Instr.findNow (.int .i64) (.int .i64 reg) (rds b).toList 0 = some none := by
  have f0 : (reg == (3 : Int)) = false := by simpa using h0
  have f1 : (reg == (4 : Int)) = false := by simpa using h1
  have f2 : (reg == (5 : Int)) = false := by simpa using h2
  simp only [Instr.findNow, Instr.sameNow, f0, f1, f2, if_true]
theorem find_noneW (reg : Int) (b : Nat) (h0 : reg ≠ 3) (h2 : reg ≠ 5) : Instr.findNow (.int .i64) (.int .i64 reg) (wrs b).toList 0 = some none := by
  have f0 : (reg == (3 : Int)) = false := by simpa using h0
  have f2 : (reg == (5 : Int)) = false := by simpa using h2
  simp only [Instr.findNow, Instr.sameNow, f0, f2, if_true]
end Go.Proofs.YtkodoldkfeopdaaGreat.Ua
/- OkRead -/
namespace Go.Proofs.YtkodoldkfeopdaaGreat.Ua
open Go.RowKit
set_option linter.unusedVariables false
set_option maxRecDepth 100000
set_option maxHeartbeats 1000000 in
set_option maxRecDepth 100000 in
theorem readU_any : ReadC 78 := by
  intro n bs m cs l c k reg w h hg0 hg1
  have C1 := Lib.hid (fun W => mendU_any n bs m cs l c k W h)
  have hRl := cutL_le n bs h.hb
  have hTl := cutL_le m cs h.hc
  have hlR : ∀ x ∈ cutL n bs, x < 256 := cutL_lt h.lb
  have hlT : ∀ x ∈ cutL m cs, x < 256 := cutL_lt h.lc
  have hc8 := h.c8
  generalize cutL n bs = R at *
  generalize cutL m cs = T at *
  have hk4 := kM_lt T k
  have hk0 : T = [] → kM T k = 0 := fun h => by rw [h, kM_nil]
  generalize hkk : kM T k = k2 at *
  clear hkk
  obtain ⟨N, p, hN, hp, hp8, hN2, hE1⟩ := ofV_parts R hRl
  obtain ⟨M, q, hM, hq, hq8, hM2, hE2⟩ := ofV_parts T hTl
  have HC1 : Hid (∀ W : World, Calls Tryz.prog 53 #[uv n bs m cs l c k] W fun x w' => x = .returned (uv N p M q l c k2) ∧ Below W.heap.size W w') := Lib.hid (fun W => by
    have h1 := C1.out W
    unfold uq at h1
    rw [hN, hp, hM, hq] at h1
    exact h1)
  have HM2 := Lib.hid hM2
  have HN2 := Lib.hid hN2
  have HIN := Lib.hid (mended_in (c := c) hRl hTl hN hp hM hq hlR hlT hc8 hk4)
  clear C1
  have HC3 : Hid (∀ W : World, Calls Tryz.prog 58 #[qv N p] W fun x w' => x = .returned (popV R) ∧ Below W.heap.size W w') := Lib.hid (fun W => by
    have h1 := pop_any N p W hp8 HIN.out.1.n0 HIN.out.1.n1
    rw [HIN.out.2.1] at h1
    exact h1)
  have HUT : Hid (∀ (R' : List Nat) (l' : Bool) (c' k' : Nat), uq R' T l' c' k' = uv ((min R'.length 8 : Nat) : Int) (pad R') M q l' c' k') := Lib.hid (fun R' l' c' k' => by unfold uq; rw [hM, hq])
  have HU : Hid (uq R T l c k2 = uv N p M q l c k2) := Lib.hid (by rw [HUT.out, hN, hp])
  have HU4 : Hid (uq R T false c k2 = uv N p M q false c k2) := Lib.hid (by rw [HUT.out, hN, hp])
  have HR := Lib.hid readers_any
  have HLR := Lib.hid hlR
  clear hN hp hM hq hE1 hE2 hN2 hM2 hlR hlT hTl
  unfold uv
  go_enter Tryz.func78, Tryz.ntmps78
  go_upto_region 1 with (fail)
  refine name_two (Q := fun X => Code.wp _ _ _ _ X) ?_
  intro W0 hq1 hq2 hB0
  have T0 := Lib.hid (Tw.new h.hb h.hc 29 hq1 hq2 hB0)
  clear hq1 hq2 hB0
  obtain ⟨g, hg⟩ : ∃ g, w.heap.size = g := ⟨_, rfl⟩
  obtain ⟨r, hr⟩ : ∃ r, w.heap.size + 1 = r := ⟨_, rfl⟩
  rw [hr, hg] at T0 ⊢
  clear hr hg
  go_upto_region 2 with (first
      | ((with_reducible show wpList _ _ _ (⟨none, .store 29 (.tmp 2) (.tmp 10), _, _, _, _⟩ :: _) _ _); refine wpList_store_u rfl 29 _ _ rfl g (by exact rfl) (by exact rfl) (by assumption) (by assumption) (by kernel_rfl) 29 T1.out.q ?_; intro WT2 HN HO HB
         have T2 := Lib.hid (T1.out.setG HN.out HO.out HB.out)
         clear HN HO HB T1)
      | (go_at_call 53; refine (HC1.out _).mono ?_; rintro e WT1 ⟨rfl, hB⟩
         have T1 := Lib.hid (T0.out.under hB)
         clear hB T0)
      | ((with_reducible show wpList _ _ _ (⟨some 9, .load 29 (.tmp 2), _, _, _, _⟩ :: _) _ _); refine wpList_load_u (by rfl) 29 _ rfl g (by exact rfl) _ Tryz.underlying29 (by kernel_rfl) 29 T0.out.q ?_))
  have HC8 := Lib.hid hc8
  by_cases h3 : reg = 3
  · subst h3
    cases R with
    | nil =>
      have HE : Hid (uq (readR [] 3) T (readL l 3) c k2 = uv 0 Z8 M q l c k2) := Lib.hid (HUT.out [] l c k2)
      have HP : Hid (peekU [] T l c 3 = ((0 : Nat) : Int)) := Lib.hid rfl
      rw [show popV [] = .tuple #[.int .u8 ((0 : Nat) : Int), qv 0 Z8, .bool false] from rfl] at HC3
      have hp8' : Z8.length = 8 := rfl
      have hx : 0 < 256 := by decide
      clear hRl hc8
      go_wp2_with (first
      | (go_at_call 86; refine (takeByte_any T3.out 0 0 Z8 false hp8' hx HC3.out).mono ?_; rintro e WT4 ⟨rfl, hTT⟩
         have T4 := Lib.hid hTT
         clear hTT T3)
      | (go_at_call 84; refine (HR.out _ _).mono ?_; rintro e WT3 ⟨rfl, hwT3⟩
         have T3 := Lib.hid (T2.out.under (W' := WT3) (by rw [hwT3]; exact (Below.refl _ _).alloc (Nat.le_refl _) _))
         have hm : WT3.heap[WT2.heap.size]? = some (.map (rds g) 3) := by rw [hwT3]; exact alloc_at _ _
         have hl := run_look mtyR uInt WT3 (WT2.heap.size) _ _ hm 3 0 _ rfl
         clear hwT3 hm T2))
      refine wp_region_noPanic ?_
      refine wp_region_held_drew (S := fun X => URow X g 29 0 Z8 M q l c k2) (by kernel_rfl) (T4.out.q.below (Below.refl _ _).drew T4.out.q.lt) (fun hHeld => ?_)
      refine' take_ 0 rfl (by kernel_rfl) (by kernel_rfl) (by kernel_rfl) (fun _ _ _ h => h) (by rfl) (fun wS hSw => ?_) hHeld ?_
      rotate_left
      focus (go_simp; (try with_reducible rfl); done)
      try simp only [Act.put, List.setIfInBounds_toArray, List.set_cons_zero, List.set_cons_succ]
      refine' take_ 1 rfl (by kernel_rfl) (by kernel_rfl) (by kernel_rfl) (fun _ _ _ h => h) (by rfl) (fun wS hSw => run_load_u wS 29 _ g rfl _ Tryz.underlying29 (by kernel_rfl) 29 hSw _ _ _ _ _) hHeld ?_
      try simp only [Act.put, List.setIfInBounds_toArray, List.set_cons_zero, List.set_cons_succ]
      refine' take_ 2 rfl (by kernel_rfl) (by kernel_rfl) (by kernel_rfl) (fun _ _ _ h => h) (by rfl) (fun wS hSw => ?_) hHeld ?_
      rotate_left
      focus (go_simp; (try with_reducible rfl); done)
      try simp only [Act.put, List.setIfInBounds_toArray, List.set_cons_zero, List.set_cons_succ]
      refine only_ 3 rfl (by kernel_rfl) (by rfl) (fun K hK => ?_)
      refine wp_store_u 29 _ _ rfl r rfl rfl hHeld.hb hHeld.hc (by kernel_rfl) 29 (T4.out.z.below (w' := _) (Below.refl _ _).drew T4.out.z.lt) ?_
      intro WZ HN HO HB
      have HZ := HN
      have BZ := Lib.hid (T4.out.b.drew.trans (HB.out.mono T4.out.lr))
      refine hK.out _ _ (hHeld.other HO.out T4.out.gr) (fun hHeld2 => ?_)
      clear hK K hHeld HN HO HB
      have hHeld := hHeld2
      clear hHeld2
      try simp only [Act.put]
      refine wpAnyH_done (by kernel_rfl) ?_ _
      refine NoPanic.normal ?_
      go_wp2
      exact bodyPost_ret (v := .tuple #[.int .i32 (((0 : Nat) : Int)), uv (0) (Z8) M q l c k2]) (results_tc Tryz.results78 _ _ _ _ _ _ rfl (run_loadVar_u WZ r 29 _ Tryz.underlying29 (by kernel_rfl) 29 HZ.out) rfl) rfl ⟨by rw [HE.out, HP.out], BZ.out⟩
    | cons x rs =>
      have hr8 : rs.length ≤ 8 := by simp at hRl; omega
      obtain ⟨N', p', hN', hp', hp8', -, hE'⟩ := ofV_parts rs hr8
      have HE : Hid (uq (readR (x :: rs) 3) T (readL l 3) c k2 = uv N' p' M q l c k2) := Lib.hid (by rw [show readR (x :: rs) 3 = rs from rfl, show readL l 3 = l from rfl, HUT.out, hN', hp'])
      have HP : Hid (peekU (x :: rs) T l c 3 = (x : Int)) := Lib.hid rfl
      have hx : x < 256 := HLR.out x List.mem_cons_self
      rw [show popV (x :: rs) = .tuple #[.int .u8 (x : Int), ofV rs, .bool true] from rfl, hE'] at HC3
      clear hN' hp' hE' hRl hr8 hc8
      go_wp2_with (first
      | (go_at_call 86; refine (takeByte_any T3.out x N' p' true hp8' hx HC3.out).mono ?_; rintro e WT4 ⟨rfl, hTT⟩
         have T4 := Lib.hid hTT
         clear hTT T3)
      | (go_at_call 84; refine (HR.out _ _).mono ?_; rintro e WT3 ⟨rfl, hwT3⟩
         have T3 := Lib.hid (T2.out.under (W' := WT3) (by rw [hwT3]; exact (Below.refl _ _).alloc (Nat.le_refl _) _))
         have hm : WT3.heap[WT2.heap.size]? = some (.map (rds g) 3) := by rw [hwT3]; exact alloc_at _ _
         have hl := run_look mtyR uInt WT3 (WT2.heap.size) _ _ hm 3 0 _ rfl
         clear hwT3 hm T2))
      refine wp_region_noPanic ?_
      refine wp_region_held_drew (S := fun X => URow X g 29 N' p' M q l c k2) (by kernel_rfl) (T4.out.q.below (Below.refl _ _).drew T4.out.q.lt) (fun hHeld => ?_)
      refine' take_ 0 rfl (by kernel_rfl) (by kernel_rfl) (by kernel_rfl) (fun _ _ _ h => h) (by rfl) (fun wS hSw => ?_) hHeld ?_
      rotate_left
      focus (go_simp; (try with_reducible rfl); done)
      try simp only [Act.put, List.setIfInBounds_toArray, List.set_cons_zero, List.set_cons_succ]
      refine' take_ 1 rfl (by kernel_rfl) (by kernel_rfl) (by kernel_rfl) (fun _ _ _ h => h) (by rfl) (fun wS hSw => run_load_u wS 29 _ g rfl _ Tryz.underlying29 (by kernel_rfl) 29 hSw _ _ _ _ _) hHeld ?_
      try simp only [Act.put, List.setIfInBounds_toArray, List.set_cons_zero, List.set_cons_succ]
      refine' take_ 2 rfl (by kernel_rfl) (by kernel_rfl) (by kernel_rfl) (fun _ _ _ h => h) (by rfl) (fun wS hSw => ?_) hHeld ?_
      rotate_left
      focus (go_simp; (try with_reducible rfl); done)
      try simp only [Act.put, List.setIfInBounds_toArray, List.set_cons_zero, List.set_cons_succ]
      refine only_ 3 rfl (by kernel_rfl) (by rfl) (fun K hK => ?_)
      refine wp_store_u 29 _ _ rfl r rfl rfl hHeld.hb hHeld.hc (by kernel_rfl) 29 (T4.out.z.below (w' := _) (Below.refl _ _).drew T4.out.z.lt) ?_
      intro WZ HN HO HB
      have HZ := HN
      have BZ := Lib.hid (T4.out.b.drew.trans (HB.out.mono T4.out.lr))
      refine hK.out _ _ (hHeld.other HO.out T4.out.gr) (fun hHeld2 => ?_)
      clear hK K hHeld HN HO HB
      have hHeld := hHeld2
      clear hHeld2
      try simp only [Act.put]
      refine wpAnyH_done (by kernel_rfl) ?_ _
      refine NoPanic.normal ?_
      go_wp2
      exact bodyPost_ret (v := .tuple #[.int .i32 ((x : Int)), uv (N') (p') M q l c k2]) (results_tc Tryz.results78 _ _ _ _ _ _ rfl (run_loadVar_u WZ r 29 _ Tryz.underlying29 (by kernel_rfl) 29 HZ.out) rfl) rfl ⟨by rw [HE.out, HP.out], BZ.out⟩
  by_cases h4 : reg = 4
  · subst h4
    have HE : Hid (uq (readR R 4) T (readL l 4) c k2 = uv N p M q false c k2) := Lib.hid HU4.out
    have HP : Hid (peekU R T l c 4 = statU R T l) := Lib.hid ((if_neg (by decide)).trans (if_pos rfl))
    clear hRl hc8 h3
    go_wp2_with (first
      | (go_at_call 87; refine (takeState_any T3.out R T HN2.out HM2.out).mono ?_; rintro e WT4 ⟨rfl, hTT⟩
         have T4 := Lib.hid hTT
         clear hTT T3)
      | (go_at_call 84; refine (HR.out _ _).mono ?_; rintro e WT3 ⟨rfl, hwT3⟩
         have T3 := Lib.hid (T2.out.under (W' := WT3) (by rw [hwT3]; exact (Below.refl _ _).alloc (Nat.le_refl _) _))
         have hm : WT3.heap[WT2.heap.size]? = some (.map (rds g) 3) := by rw [hwT3]; exact alloc_at _ _
         have hl := run_look mtyR uInt WT3 (WT2.heap.size) _ _ hm 4 1 _ rfl
         clear hwT3 hm T2))
    refine wp_region_noPanic ?_
    refine wp_region_held_drew (S := fun X => URow X g 29 N p M q false c k2) (by kernel_rfl) (T4.out.q.below (Below.refl _ _).drew T4.out.q.lt) (fun hHeld => ?_)
    refine' take_ 0 rfl (by kernel_rfl) (by kernel_rfl) (by kernel_rfl) (fun _ _ _ h => h) (by rfl) (fun wS hSw => ?_) hHeld ?_
    rotate_left
    focus (go_simp; (try with_reducible rfl); done)
    try simp only [Act.put, List.setIfInBounds_toArray, List.set_cons_zero, List.set_cons_succ]
    refine' take_ 1 rfl (by kernel_rfl) (by kernel_rfl) (by kernel_rfl) (fun _ _ _ h => h) (by rfl) (fun wS hSw => run_load_u wS 29 _ g rfl _ Tryz.underlying29 (by kernel_rfl) 29 hSw _ _ _ _ _) hHeld ?_
    try simp only [Act.put, List.setIfInBounds_toArray, List.set_cons_zero, List.set_cons_succ]
    refine' take_ 2 rfl (by kernel_rfl) (by kernel_rfl) (by kernel_rfl) (fun _ _ _ h => h) (by rfl) (fun wS hSw => ?_) hHeld ?_
    rotate_left
    focus (go_simp; (try with_reducible rfl); done)
    try simp only [Act.put, List.setIfInBounds_toArray, List.set_cons_zero, List.set_cons_succ]
    refine only_ 3 rfl (by kernel_rfl) (by rfl) (fun K hK => ?_)
    refine wp_store_u 29 _ _ rfl r rfl rfl hHeld.hb hHeld.hc (by kernel_rfl) 29 (T4.out.z.below (w' := _) (Below.refl _ _).drew T4.out.z.lt) ?_
    intro WZ HN HO HB
    have HZ := HN
    have BZ := Lib.hid (T4.out.b.drew.trans (HB.out.mono T4.out.lr))
    refine hK.out _ _ (hHeld.other HO.out T4.out.gr) (fun hHeld2 => ?_)
    clear hK K hHeld HN HO HB
    have hHeld := hHeld2
    clear hHeld2
    try simp only [Act.put]
    refine wpAnyH_done (by kernel_rfl) ?_ _
    refine NoPanic.normal ?_
    go_wp2
    exact bodyPost_ret (v := .tuple #[.int .i32 (statU R T l), uv (N) (p) M q false c k2]) (results_tc Tryz.results78 _ _ _ _ _ _ rfl (run_loadVar_u WZ r 29 _ Tryz.underlying29 (by kernel_rfl) 29 HZ.out) rfl) rfl ⟨by rw [HE.out, HP.out], BZ.out⟩
  by_cases h5 : reg = 5
  · subst h5
    have HE : Hid (uq (readR R 5) T (readL l 5) c k2 = uv N p M q l c k2) := Lib.hid HU.out
    have HP : Hid (peekU R T l c 5 = (c : Int)) := Lib.hid ((if_neg (by decide)).trans ((if_neg (by decide)).trans (if_pos rfl)))
    clear hRl hc8 h3 h4
    go_wp2_with (first
      | (go_at_call 88; refine (control_any T3.out HC8.out).mono ?_; rintro e WT4 ⟨rfl, hTT⟩
         have T4 := Lib.hid hTT
         clear hTT T3)
      | (go_at_call 84; refine (HR.out _ _).mono ?_; rintro e WT3 ⟨rfl, hwT3⟩
         have T3 := Lib.hid (T2.out.under (W' := WT3) (by rw [hwT3]; exact (Below.refl _ _).alloc (Nat.le_refl _) _))
         have hm : WT3.heap[WT2.heap.size]? = some (.map (rds g) 3) := by rw [hwT3]; exact alloc_at _ _
         have hl := run_look mtyR uInt WT3 (WT2.heap.size) _ _ hm 5 2 _ rfl
         clear hwT3 hm T2))
    refine wp_region_noPanic ?_
    refine wp_region_held_drew (S := fun X => URow X g 29 N p M q l c k2) (by kernel_rfl) (T4.out.q.below (Below.refl _ _).drew T4.out.q.lt) (fun hHeld => ?_)
    refine' take_ 0 rfl (by kernel_rfl) (by kernel_rfl) (by kernel_rfl) (fun _ _ _ h => h) (by rfl) (fun wS hSw => ?_) hHeld ?_
    rotate_left
    focus (go_simp; (try with_reducible rfl); done)
    try simp only [Act.put, List.setIfInBounds_toArray, List.set_cons_zero, List.set_cons_succ]
    refine' take_ 1 rfl (by kernel_rfl) (by kernel_rfl) (by kernel_rfl) (fun _ _ _ h => h) (by rfl) (fun wS hSw => run_load_u wS 29 _ g rfl _ Tryz.underlying29 (by kernel_rfl) 29 hSw _ _ _ _ _) hHeld ?_
    try simp only [Act.put, List.setIfInBounds_toArray, List.set_cons_zero, List.set_cons_succ]
    refine' take_ 2 rfl (by kernel_rfl) (by kernel_rfl) (by kernel_rfl) (fun _ _ _ h => h) (by rfl) (fun wS hSw => ?_) hHeld ?_
    rotate_left
    focus (go_simp; (try with_reducible rfl); done)
    try simp only [Act.put, List.setIfInBounds_toArray, List.set_cons_zero, List.set_cons_succ]
    refine only_ 3 rfl (by kernel_rfl) (by rfl) (fun K hK => ?_)
    refine wp_store_u 29 _ _ rfl r rfl rfl hHeld.hb hHeld.hc (by kernel_rfl) 29 (T4.out.z.below (w' := _) (Below.refl _ _).drew T4.out.z.lt) ?_
    intro WZ HN HO HB
    have HZ := HN
    have BZ := Lib.hid (T4.out.b.drew.trans (HB.out.mono T4.out.lr))
    refine hK.out _ _ (hHeld.other HO.out T4.out.gr) (fun hHeld2 => ?_)
    clear hK K hHeld HN HO HB
    have hHeld := hHeld2
    clear hHeld2
    try simp only [Act.put]
    refine wpAnyH_done (by kernel_rfl) ?_ _
    refine NoPanic.normal ?_
    go_wp2
    exact bodyPost_ret (v := .tuple #[.int .i32 ((c : Int)), uv (N) (p) M q l c k2]) (results_tc Tryz.results78 _ _ _ _ _ _ rfl (run_loadVar_u WZ r 29 _ Tryz.underlying29 (by kernel_rfl) 29 HZ.out) rfl) rfl ⟨by rw [HE.out, HP.out], BZ.out⟩
  · have HE : Hid (uq (readR R reg) T (readL l reg) c k2 = uv N p M q l c k2) := Lib.hid (by rw [show readR R reg = R from if_neg h3, show readL l reg = l from if_neg h4, HU.out])
    have HP : Hid (peekU R T l c reg = 0) := Lib.hid ((if_neg h3).trans ((if_neg h4).trans (if_neg h5)))
    have HFN := Lib.hid (find_none reg g h3 h4 h5)
    clear hRl hc8 h3 h4 h5
    go_wp2_with (first
      | (go_at_call 84; refine (HR.out _ _).mono ?_; rintro e WT3 ⟨rfl, hwT3⟩
         have T3 := Lib.hid (T2.out.under (W' := WT3) (by rw [hwT3]; exact (Below.refl _ _).alloc (Nat.le_refl _) _))
         have hm : WT3.heap[WT2.heap.size]? = some (.map (rds g) 3) := by rw [hwT3]; exact alloc_at _ _
         have hl := run_look_none mtyR uInt WT3 (WT2.heap.size) _ _ hm reg _ (zrd _) HFN.out
         clear hwT3 hm T2))
    refine wp_region_noPanic ?_
    refine wp_region_held_drew (S := fun X => URow X g 29 N p M q l c k2) (by kernel_rfl) (T3.out.q.below (Below.refl _ _).drew T3.out.q.lt) (fun hHeld => ?_)
    refine' take_ 0 rfl (by kernel_rfl) (by kernel_rfl) (by kernel_rfl) (fun _ _ _ h => h) (by rfl) (fun wS hSw => run_load_u wS 29 _ g rfl _ Tryz.underlying29 (by kernel_rfl) 29 hSw _ _ _ _ _) hHeld ?_
    try simp only [Act.put, List.setIfInBounds_toArray, List.set_cons_zero, List.set_cons_succ]
    refine' take_ 1 rfl (by kernel_rfl) (by kernel_rfl) (by kernel_rfl) (fun _ _ _ h => h) (by rfl) (fun wS hSw => ?_) hHeld ?_
    rotate_left
    focus (go_simp; (try with_reducible rfl); done)
    try simp only [Act.put, List.setIfInBounds_toArray, List.set_cons_zero, List.set_cons_succ]
    refine only_ 2 rfl (by kernel_rfl) (by rfl) (fun K hK => ?_)
    refine wp_store_u 29 _ _ rfl r rfl rfl hHeld.hb hHeld.hc (by kernel_rfl) 29 (T3.out.z.below (w' := _) (Below.refl _ _).drew T3.out.z.lt) ?_
    intro WZ HN HO HB
    have HZ := HN
    have BZ := Lib.hid (T3.out.b.drew.trans (HB.out.mono T3.out.lr))
    refine hK.out _ _ (hHeld.other HO.out T3.out.gr) (fun hHeld2 => ?_)
    clear hK K hHeld HN HO HB
    have hHeld := hHeld2
    clear hHeld2
    try simp only [Act.put]
    refine wpAnyH_done (by kernel_rfl) ?_ _
    refine NoPanic.normal ?_
    go_wp2
    exact bodyPost_ret (v := .tuple #[.int .i32 (0), uv (N) (p) M q l c k2]) (results_tc Tryz.results78 _ _ _ _ _ _ rfl (run_loadVar_u WZ r 29 _ Tryz.underlying29 (by kernel_rfl) 29 HZ.out) rfl) rfl ⟨by rw [HE.out, HP.out], BZ.out⟩
set_option maxRecDepth 100000 in
theorem peekU_any : PeekC 73 := by
  intro n bs m cs l c k reg w h hg0 hg1
  have HC := Lib.hid (fun W => readU_any n bs m cs l c k reg W h hg0 hg1)
  obtain ⟨N2, p2, M2, q2, l2, k2, hu, h8, h9⟩ : ∃ (N2 : Int) (p2 : List Nat) (M2 : Int) (q2 : List Nat) (l2 : Bool) (k2 : Nat), uq (readR (cutL n bs) reg) (cutL m cs) (readL l reg) c (kM (cutL m cs) k) = uv N2 p2 M2 q2 l2 c k2 ∧ p2.length = 8 ∧ q2.length = 8 := ⟨_, _, _, _, _, _, rfl, pad_length _, pad_length _⟩
  rw [hu] at HC
  clear hu
  generalize peekU (cutL n bs) (cutL m cs) l c reg = pv at *
  have h8' := h.hb
  have h9' := h.hc
  clear h
  unfold uv
  go_enter Tryz.func73, Tryz.ntmps73
  go_upto_region 1 with (fail)
  refine name_one (Q := fun X => Code.wp _ _ _ _ X) ?_
  intro W0 hq1 hB0 hZ0
  have T0 := Lib.hid (On.new h8' h9' 29 hq1 hB0)
  clear hq1 hB0 hZ0
  obtain ⟨g, hg⟩ : ∃ g, w.heap.size = g := ⟨_, rfl⟩
  rw [hg] at T0 ⊢
  clear hg
  go_wp2_with (first
      | ((with_reducible show wpList _ _ _ (⟨none, .store 29 (.tmp 6) (.tmp 12), _, _, _, _⟩ :: _) _ _); refine wpList_store_u rfl 29 _ _ rfl (WT1.heap.size) (by exact rfl) (by exact rfl) h8 h9 (by kernel_rfl) 29 (show URow _ _ _ 0 Z8 0 Z8 false 0 0 from ⟨alloc_at _ _, rfl, rfl⟩) ?_; intro WT2 HN HO HB
         have T2 := Lib.hid (T1.out.under (((Below.refl _ _).alloc (Nat.le_refl _) _).trans HB.out))
         clear HN HO HB T1)
      | (go_at_call 78; refine (HC.out _).mono ?_; rintro e WT1 ⟨rfl, hB⟩
         have T1 := Lib.hid (T0.out.under hB)
         clear hB T0)
      | ((with_reducible show wpList _ _ _ (⟨some 8, .load 29 (.tmp 2), _, _, _, _⟩ :: _) _ _); refine wpList_load_u (by rfl) 29 _ rfl g (by exact rfl) _ Tryz.underlying29 (by kernel_rfl) 29 T0.out.q ?_))
  go_ret
  exact ⟨rfl, T2.out.b⟩
end Go.Proofs.YtkodoldkfeopdaaGreat.Ua
/- OkWrite -/
namespace Go.Proofs.YtkodoldkfeopdaaGreat.Ua
open Go.RowKit
set_option linter.unusedVariables false
set_option maxRecDepth 100000
set_option maxHeartbeats 1000000 in
set_option maxRecDepth 100000 in
theorem writeU_any : WriteC 113 := by
  intro n bs m cs l c k reg v w h hg0 hg1 hv0 hv1
  have C1 := Lib.hid (fun W => mendU_any n bs m cs l c k W h)
  have hRl := cutL_le n bs h.hb
  have hTl := cutL_le m cs h.hc
  have hlR : ∀ x ∈ cutL n bs, x < 256 := cutL_lt h.lb
  have hlT : ∀ x ∈ cutL m cs, x < 256 := cutL_lt h.lc
  have hc8 := h.c8
  generalize cutL n bs = R at *
  generalize cutL m cs = T at *
  have hk4 := kM_lt T k
  have hk0 : T = [] → kM T k = 0 := fun h => by rw [h, kM_nil]
  generalize hkk : kM T k = k2 at *
  clear hkk
  obtain ⟨N, p, hN, hp, hp8, hN2, hE1⟩ := ofV_parts R hRl
  obtain ⟨M, q, hM, hq, hq8, hM2, hE2⟩ := ofV_parts T hTl
  have HC1 : Hid (∀ W : World, Calls Tryz.prog 53 #[uv n bs m cs l c k] W fun x w' => x = .returned (uv N p M q l c k2) ∧ Below W.heap.size W w') := Lib.hid (fun W => by
    have h1 := C1.out W
    unfold uq at h1
    rw [hN, hp, hM, hq] at h1
    exact h1)
  have HM2 := Lib.hid hM2
  have HN2 := Lib.hid hN2
  have HIN := Lib.hid (mended_in (c := c) hRl hTl hN hp hM hq hlR hlT hc8 hk4)
  clear C1
  have HC2 : Hid (∀ W : World, Calls Tryz.prog 54 #[qv M q, .int .u8 (lowN v : Nat)] W fun x w' => x = .returned (pushV T (lowN v)) ∧ Below W.heap.size W w') := Lib.hid (fun W => by
    have h1 := push_any M q (lowN v) W hq8 HIN.out.1.m0 HIN.out.1.m1
    rw [HIN.out.2.2] at h1
    exact h1)
  have HW : Hid (v % 256 = ((lowN v : Nat) : Int)) := Lib.hid (lowN_cast v).symm
  have HUR : Hid (∀ (T' : List Nat) (l' : Bool) (c' k' : Nat), uq R T' l' c' k' = uv N p ((min T'.length 8 : Nat) : Int) (pad T') l' c' k') := Lib.hid (fun T' l' c' k' => by unfold uq; rw [hN, hp])
  have HU : Hid (∀ c', uq R T l c' k2 = uv N p M q l c' k2) := Lib.hid (fun c' => by rw [HUR.out, hM, hq])
  have HE2 := Lib.hid hE2
  have HR := Lib.hid writers_any
  clear hN hp hE1 hN2 hlR hlT hRl hM hq hE2 hM2 hc8 hk4 hk0
  unfold uv
  go_enter Tryz.func113, Tryz.ntmps113
  go_upto_region 1 with (fail)
  refine name_two (Q := fun X => Code.wp _ _ _ _ X) ?_
  intro W0 hq1 hq2 hB0
  have T0 := Lib.hid (Tw.new h.hb h.hc 29 hq1 hq2 hB0)
  clear hq1 hq2 hB0
  obtain ⟨g, hg⟩ : ∃ g, w.heap.size = g := ⟨_, rfl⟩
  obtain ⟨r, hr⟩ : ∃ r, w.heap.size + 1 = r := ⟨_, rfl⟩
  rw [hr, hg] at T0 ⊢
  clear hr hg
  go_upto_region 2 with (first
      | ((with_reducible show wpList _ _ _ (⟨none, .store 29 (.tmp 3) (.tmp 10), _, _, _, _⟩ :: _) _ _); refine wpList_store_u rfl 29 _ _ rfl g (by exact rfl) (by exact rfl) (by assumption) (by assumption) (by kernel_rfl) 29 T1.out.q ?_; intro WT2 HN HO HB
         have T2 := Lib.hid (T1.out.setG HN.out HO.out HB.out)
         clear HN HO HB T1)
      | (go_at_call 53; refine (HC1.out _).mono ?_; rintro e WT1 ⟨rfl, hB⟩
         have T1 := Lib.hid (T0.out.under hB)
         clear hB T0)
      | ((with_reducible show wpList _ _ _ (⟨some 9, .load 29 (.tmp 3), _, _, _, _⟩ :: _) _ _); refine wpList_load_u (by rfl) 29 _ rfl g (by exact rfl) _ Tryz.underlying29 (by kernel_rfl) 29 T0.out.q ?_))
  by_cases h3 : reg = 3
  · subst h3
    by_cases h8 : T.length = 8
    · have HE : Hid (uq R (writeT T 3 v) l (writeC c 3 v) k2 = uv N p M q l c k2) := Lib.hid (by rw [show writeT T 3 v = addL T (lowN v) from if_pos rfl, show addL T (lowN v) = T from if_neg (by omega), show writeC c 3 v = c from if_neg (by decide), HU.out])
      rw [pushV_full h8, HE2.out] at HC2
      have hq88 := hq8
      clear hTl h8
      go_wp2_with (first
      | ((with_reducible show wpList _ _ _ (⟨none, .store 29 (.tmp 6) (.tmp 22), _, _, _, _⟩ :: _) _ _); refine wpList_store_u rfl 29 _ _ rfl r (by exact rfl) (by exact rfl) T4.out.q.hb T4.out.q.hc (by kernel_rfl) 29 T4.out.z ?_; intro WZ HN HO HB
         have HZ := HN
         have BZ := Lib.hid (T4.out.b.trans (HB.out.mono T4.out.lr))
         clear HN HO HB)
      | ((with_reducible show wpList _ _ _ (⟨some 22, .load 29 (.tmp 3), _, _, _, _⟩ :: _) _ _); refine wpList_load_u (by rfl) 29 _ rfl g (by exact rfl) _ Tryz.underlying29 (by kernel_rfl) 29 T4.out.q ?_)
      | (go_at_call 115; rw [HW.out]; refine (layByte_any T3.out (lowN v) M q false hq88 HC2.out).mono ?_; rintro e WT4 ⟨rfl, hTT⟩
         have T4 := Lib.hid hTT
         clear hTT T3)
      | (go_at_call 114; refine (HR.out _ _).mono ?_; rintro e WT3 ⟨rfl, hwT3⟩
         have T3 := Lib.hid (T2.out.under (W' := WT3) (by rw [hwT3]; exact (Below.refl _ _).alloc (Nat.le_refl _) _))
         have hm : WT3.heap[WT2.heap.size]? = some (.map (wrs g) 2) := by rw [hwT3]; exact alloc_at _ _
         have hl := run_look mtyW uInt WT3 (WT2.heap.size) _ _ hm 3 0 _ rfl
         clear hwT3 hm T2))
      exact bodyPost_ret (v := uv N p (M) (q) l (c) k2) (results_c Tryz.results113 _ _ _ _ _ rfl (run_loadVar_u WZ r 29 _ Tryz.underlying29 (by kernel_rfl) 29 HZ.out)) rfl ⟨by first | (rw [HE.out]; done) | (rw [HE.out]; rfl), BZ.out⟩
    · have hT' : (T ++ [lowN v]).length ≤ 8 := by simp; omega
      obtain ⟨M', q', hM', hq', hq8', -, hE'⟩ := ofV_parts (T ++ [lowN v]) hT'
      have HE : Hid (uq R (writeT T 3 v) l (writeC c 3 v) k2 = uv N p M' q' l c k2) := Lib.hid (by rw [show writeT T 3 v = addL T (lowN v) from if_pos rfl, show addL T (lowN v) = T ++ [lowN v] from if_pos (by omega), show writeC c 3 v = c from if_neg (by decide), HUR.out, hM', hq'])
      rw [pushV_room (by omega), hE'] at HC2
      have hq88 := hq8'
      clear hTl h8 hT' hM' hq' hE'
      go_wp2_with (first
      | ((with_reducible show wpList _ _ _ (⟨none, .store 29 (.tmp 6) (.tmp 22), _, _, _, _⟩ :: _) _ _); refine wpList_store_u rfl 29 _ _ rfl r (by exact rfl) (by exact rfl) T4.out.q.hb T4.out.q.hc (by kernel_rfl) 29 T4.out.z ?_; intro WZ HN HO HB
         have HZ := HN
         have BZ := Lib.hid (T4.out.b.trans (HB.out.mono T4.out.lr))
         clear HN HO HB)
      | ((with_reducible show wpList _ _ _ (⟨some 22, .load 29 (.tmp 3), _, _, _, _⟩ :: _) _ _); refine wpList_load_u (by rfl) 29 _ rfl g (by exact rfl) _ Tryz.underlying29 (by kernel_rfl) 29 T4.out.q ?_)
      | (go_at_call 115; rw [HW.out]; refine (layByte_any T3.out (lowN v) M' q' true hq88 HC2.out).mono ?_; rintro e WT4 ⟨rfl, hTT⟩
         have T4 := Lib.hid hTT
         clear hTT T3)
      | (go_at_call 114; refine (HR.out _ _).mono ?_; rintro e WT3 ⟨rfl, hwT3⟩
         have T3 := Lib.hid (T2.out.under (W' := WT3) (by rw [hwT3]; exact (Below.refl _ _).alloc (Nat.le_refl _) _))
         have hm : WT3.heap[WT2.heap.size]? = some (.map (wrs g) 2) := by rw [hwT3]; exact alloc_at _ _
         have hl := run_look mtyW uInt WT3 (WT2.heap.size) _ _ hm 3 0 _ rfl
         clear hwT3 hm T2))
      exact bodyPost_ret (v := uv N p (M') (q') l (c) k2) (results_c Tryz.results113 _ _ _ _ _ rfl (run_loadVar_u WZ r 29 _ Tryz.underlying29 (by kernel_rfl) 29 HZ.out)) rfl ⟨by first | (rw [HE.out]; done) | (rw [HE.out]; rfl), BZ.out⟩
  by_cases h5 : reg = 5
  · subst h5
    have HE : Hid (uq R (writeT T 5 v) l (writeC c 5 v) k2 = uv N p M q l (lowN v) k2) := Lib.hid (by rw [show writeT T 5 v = T from if_neg (by decide), show writeC c 5 v = lowN v from if_pos rfl, HU.out])
    clear hTl h3
    go_wp2_with (first
      | ((with_reducible show wpList _ _ _ (⟨none, .store 29 (.tmp 6) (.tmp 22), _, _, _, _⟩ :: _) _ _); refine wpList_store_u rfl 29 _ _ rfl r (by exact rfl) (by exact rfl) T4.out.q.hb T4.out.q.hc (by kernel_rfl) 29 T4.out.z ?_; intro WZ HN HO HB
         have HZ := HN
         have BZ := Lib.hid (T4.out.b.trans (HB.out.mono T4.out.lr))
         clear HN HO HB)
      | ((with_reducible show wpList _ _ _ (⟨some 22, .load 29 (.tmp 3), _, _, _, _⟩ :: _) _ _); refine wpList_load_u (by rfl) 29 _ rfl g (by exact rfl) _ Tryz.underlying29 (by kernel_rfl) 29 T4.out.q ?_)
      | (go_at_call 116; rw [HW.out]; refine (setControl_any T3.out (lowN v)).mono ?_; rintro e WT4 ⟨rfl, hTT⟩
         have T4 := Lib.hid hTT
         clear hTT T3)
      | (go_at_call 114; refine (HR.out _ _).mono ?_; rintro e WT3 ⟨rfl, hwT3⟩
         have T3 := Lib.hid (T2.out.under (W' := WT3) (by rw [hwT3]; exact (Below.refl _ _).alloc (Nat.le_refl _) _))
         have hm : WT3.heap[WT2.heap.size]? = some (.map (wrs g) 2) := by rw [hwT3]; exact alloc_at _ _
         have hl := run_look mtyW uInt WT3 (WT2.heap.size) _ _ hm 5 1 _ rfl
         clear hwT3 hm T2))
    exact bodyPost_ret (v := uv N p (M) (q) l (lowN v) k2) (results_c Tryz.results113 _ _ _ _ _ rfl (run_loadVar_u WZ r 29 _ Tryz.underlying29 (by kernel_rfl) 29 HZ.out)) rfl ⟨by first | (rw [HE.out]; done) | (rw [HE.out]; rfl), BZ.out⟩
  · have HE : Hid (uq R (writeT T reg v) l (writeC c reg v) k2 = uv N p M q l c k2) := Lib.hid (by rw [show writeT T reg v = T from if_neg h3, show writeC c reg v = c from if_neg h5, HU.out])
    have HFN := Lib.hid (find_noneW reg g h3 h5)
    clear hTl h3 h5
    go_wp2_with (first
      | ((with_reducible show wpList _ _ _ (⟨none, .store 29 (.tmp 6) (.tmp 22), _, _, _, _⟩ :: _) _ _); refine wpList_store_u rfl 29 _ _ rfl r (by exact rfl) (by exact rfl) T3.out.q.hb T3.out.q.hc (by kernel_rfl) 29 T3.out.z ?_; intro WZ HN HO HB
         have HZ := HN
         have BZ := Lib.hid (T3.out.b.trans (HB.out.mono T3.out.lr))
         clear HN HO HB)
      | ((with_reducible show wpList _ _ _ (⟨some 22, .load 29 (.tmp 3), _, _, _, _⟩ :: _) _ _); refine wpList_load_u (by rfl) 29 _ rfl g (by exact rfl) _ Tryz.underlying29 (by kernel_rfl) 29 T3.out.q ?_)
      | (go_at_call 114; refine (HR.out _ _).mono ?_; rintro e WT3 ⟨rfl, hwT3⟩
         have T3 := Lib.hid (T2.out.under (W' := WT3) (by rw [hwT3]; exact (Below.refl _ _).alloc (Nat.le_refl _) _))
         have hm : WT3.heap[WT2.heap.size]? = some (.map (wrs g) 2) := by rw [hwT3]; exact alloc_at _ _
         have hl := run_look_none mtyW uInt WT3 (WT2.heap.size) _ _ hm reg _ (zwr _) HFN.out
         clear hwT3 hm T2))
    exact bodyPost_ret (v := uv N p (M) (q) l (c) k2) (results_c Tryz.results113 _ _ _ _ _ rfl (run_loadVar_u WZ r 29 _ Tryz.underlying29 (by kernel_rfl) 29 HZ.out)) rfl ⟨by first | (rw [HE.out]; done) | (rw [HE.out]; rfl), BZ.out⟩
end Go.Proofs.YtkodoldkfeopdaaGreat.Ua
/- OkArrive -/
namespace Go.Proofs.YtkodoldkfeopdaaGreat.Ua
open Go.RowKit
set_option linter.unusedVariables false
set_option maxRecDepth 100000
set_option maxHeartbeats 1000000 in
set_option maxRecDepth 100000 in
theorem arriveU_any : ArriveC 32 := by
  intro n bs m cs l c k b w h hb8
  have C1 := Lib.hid (fun W => mendU_any n bs m cs l c k W h)
  have hRl := cutL_le n bs h.hb
  have hTl := cutL_le m cs h.hc
  have hlR : ∀ x ∈ cutL n bs, x < 256 := cutL_lt h.lb
  have hlT : ∀ x ∈ cutL m cs, x < 256 := cutL_lt h.lc
  have hc8 := h.c8
  generalize cutL n bs = R at *
  generalize cutL m cs = T at *
  have hk4 := kM_lt T k
  have hk0 : T = [] → kM T k = 0 := fun h => by rw [h, kM_nil]
  generalize hkk : kM T k = k2 at *
  clear hkk
  obtain ⟨N, p, hN, hp, hp8, hN2, hE1⟩ := ofV_parts R hRl
  obtain ⟨M, q, hM, hq, hq8, hM2, hE2⟩ := ofV_parts T hTl
  have HC1 : Hid (∀ W : World, Calls Tryz.prog 53 #[uv n bs m cs l c k] W fun x w' => x = .returned (uv N p M q l c k2) ∧ Below W.heap.size W w') := Lib.hid (fun W => by
    have h1 := C1.out W
    unfold uq at h1
    rw [hN, hp, hM, hq] at h1
    exact h1)
  have HM2 := Lib.hid hM2
  have HN2 := Lib.hid hN2
  have HIN := Lib.hid (mended_in (c := c) hRl hTl hN hp hM hq hlR hlT hc8 hk4)
  clear C1
  have HC2 : Hid (∀ W : World, Calls Tryz.prog 54 #[qv N p, .int .u8 b] W fun x w' => x = .returned (pushV R b) ∧ Below W.heap.size W w') := Lib.hid (fun W => by
    have h1 := push_any N p b W hp8 HIN.out.1.n0 HIN.out.1.n1
    rw [HIN.out.2.1] at h1
    exact h1)
  have HUT : Hid (∀ (R' : List Nat) (l' : Bool) (c' k' : Nat), uq R' T l' c' k' = uv ((min R'.length 8 : Nat) : Int) (pad R') M q l' c' k') := Lib.hid (fun R' l' c' k' => by unfold uq; rw [hM, hq])
  have HU : Hid (∀ l', uq R T l' c k2 = uv N p M q l' c k2) := Lib.hid (fun l' => by rw [HUT.out, hN, hp])
  have HE1 := Lib.hid hE1
  clear hN hp hE1 hN2 hlR hlT hTl hM hq hE2 hM2
  unfold uv
  go_enter Tryz.func32, Tryz.ntmps32
  go_upto_region 1 with (fail)
  refine name_two (Q := fun X => Code.wp _ _ _ _ X) ?_
  intro W0 hq1 hq2 hB0
  have T0 := Lib.hid (Tw.new h.hb h.hc 29 hq1 hq2 hB0)
  clear hq1 hq2 hB0
  obtain ⟨g, hg⟩ : ∃ g, w.heap.size = g := ⟨_, rfl⟩
  obtain ⟨r, hr⟩ : ∃ r, w.heap.size + 1 = r := ⟨_, rfl⟩
  rw [hr, hg] at T0 ⊢
  clear hr hg
  by_cases h8 : R.length = 8
  · have HE : Hid (uq (addL R b) T (arriveL R l) c k2 = uv N p M q true c k2) := Lib.hid (by rw [show addL R b = R from if_neg (by omega), show arriveL R l = true from if_neg (by omega), HU.out])
    have HA : Hid (asksU R c = false) := Lib.hid (by unfold asksU; rw [decide_eq_false (by omega)]; rfl)
    rw [pushV_full h8, HE1.out] at HC2
    clear hRl h8
    go_wp2_with (first
      | ((with_reducible show wpList _ _ _ (⟨none, .store 29 (.tmp 4) (.tmp 20), _, _, _, _⟩ :: _) _ _); refine wpList_store_u rfl 29 _ _ rfl r (by exact rfl) (by exact rfl) T5.out.q.hb T5.out.q.hc (by kernel_rfl) 29 T5.out.z ?_; intro WZ HN HO HB
         have HZ := HN
         have BZ := Lib.hid (T5.out.b.trans (HB.out.mono T5.out.lr))
         clear HN HO HB)
      | ((with_reducible show wpList _ _ _ (⟨some 20, .load 29 (.tmp 2), _, _, _, _⟩ :: _) _ _); refine wpList_load_u (by rfl) 29 _ rfl g (by exact rfl) _ Tryz.underlying29 (by kernel_rfl) 29 T5.out.q ?_)
      | ((with_reducible show wpList _ _ _ (⟨none, .store 4 (.tmp 19) _, _, _, _, _⟩ :: _) _ _); refine wpList_store_j rfl 4 _ _ rfl g 18 (by exact rfl) (.bool true) (by exact rfl) rfl (by kernel_rfl) 29 T4.out.q (by decide) (uc_set_l T4.out.q.hb T4.out.q.hc) T4.out.q.hb T4.out.q.hc ?_; intro WT5 HN HO HB
         have T5 := Lib.hid (T4.out.setG HN.out HO.out HB.out)
         clear HN HO HB T4)
      | ((with_reducible show wpList _ _ _ (⟨none, .store 27 (.tmp 6) (.tmp 15), _, _, _, _⟩ :: _) _ _); refine wpList_store_q rfl 27 _ _ rfl (WT3.heap.size) (by exact rfl) (N) (p) (by exact rfl) (by assumption) (by kernel_rfl) 27 _ _ (show QRow _ _ _ 0 Z8 from alloc_at _ _) rfl ?_; intro WT4 HN HO HB
         have HQ := HN
         have T4 := Lib.hid (T3.out.under (((Below.refl _ _).alloc (Nat.le_refl _) _).trans HB.out))
         have HS := Lib.hid (Nat.ne_of_lt T3.out.q.lt)
         clear HN HO HB T3)
      | (go_at_call 54; refine (HC2.out _).mono ?_; rintro e WT3 ⟨rfl, hB⟩
         have T3 := Lib.hid (T2.out.under hB)
         clear hB T2)
      | ((with_reducible show wpList _ _ _ (⟨some 12, .load 27 (.tmp 11), _, _, _, _⟩ :: _) _ _); refine wpList_load_q9 rfl 27 _ rfl g 0 (by exact rfl) _ Tryz.underlying27 (by kernel_rfl) T2.out.q.rx T2.out.q.hb ?_)
      | ((with_reducible show wpList _ _ _ (⟨none, .store 29 (.tmp 2) (.tmp 9), _, _, _, _⟩ :: _) _ _); refine wpList_store_u rfl 29 _ _ rfl g (by exact rfl) (by exact rfl) (by assumption) (by assumption) (by kernel_rfl) 29 T1.out.q ?_; intro WT2 HN HO HB
         have T2 := Lib.hid (T1.out.setG HN.out HO.out HB.out)
         clear HN HO HB T1)
      | (go_at_call 53; refine (HC1.out _).mono ?_; rintro e WT1 ⟨rfl, hB⟩
         have T1 := Lib.hid (T0.out.under hB)
         clear hB T0)
      | ((with_reducible show wpList _ _ _ (⟨some 8, .load 29 (.tmp 2), _, _, _, _⟩ :: _) _ _); refine wpList_load_u (by rfl) 29 _ rfl g (by exact rfl) _ Tryz.underlying29 (by kernel_rfl) 29 T0.out.q ?_))
    exact bodyPost_ret (v := .tuple #[uv (N) (p) M q true c k2, .bool false]) (results_ct Tryz.results32 _ _ _ _ _ _ rfl (run_loadVar_u WZ r 29 _ Tryz.underlying29 (by kernel_rfl) 29 HZ.out) rfl) rfl ⟨by first | (rw [HE.out, HA.out]; done) | (rw [HE.out, HA.out]; rfl), BZ.out⟩
  · have hR' : (R ++ [b]).length ≤ 8 := by simp; omega
    obtain ⟨N', p', hN', hp', hp8', -, hE'⟩ := ofV_parts (R ++ [b]) hR'
    have HE : Hid (uq (addL R b) T (arriveL R l) c k2 = uv N' p' M q l c k2) := Lib.hid (by rw [show addL R b = R ++ [b] from if_pos (by omega), show arriveL R l = l from if_pos (by omega), HUT.out, hN', hp'])
    have hs := bit_and1 c hc8
    obtain ⟨b2, hb2⟩ : ∃ b2, decide (c % 2 = 1) = b2 := ⟨_, rfl⟩
    have HA : Hid (asksU R c = b2) := Lib.hid (by unfold asksU; rw [decide_eq_true (by omega), Bool.true_and, hb2])
    have HS1 : Hid (bits .and .u8 (c : Int) 1 = if b2 = true then 1 else 0) := Lib.hid (by rw [hs, ← hb2]; simp)
    rw [pushV_room (by omega), hE'] at HC2
    clear hRl h8 hN' hp' hE' hR' hb2 hs
    cases b2
    · replace HS1 : Hid (bits .and .u8 (c : Int) 1 = 0) := HS1
      go_wp2_with (first
      | ((with_reducible show wpList _ _ _ (⟨none, .store 27 (.tmp 22) (.tmp 21), _, _, _, _⟩ :: _) _ _); refine wpList_store_rx rfl 27 _ _ rfl g (by exact rfl) (by exact rfl) (by assumption) (by kernel_rfl) 29 T4.out.q ?_; intro WT5 HN HO HB
         have T5 := Lib.hid (T4.out.setG HN.out HO.out HB.out)
         clear HN HO HB T4)
      | ((with_reducible show wpList _ _ _ (⟨some 21, .load 27 (.tmp 6), _, _, _, _⟩ :: _) _ _); refine wpList_load_q rfl 27 _ rfl (WT3.heap.size) (by exact rfl) _ Tryz.underlying27 (by kernel_rfl) 27 _ _ HQ.out (by assumption) ?_)
      | ((with_reducible show wpList _ _ _ (⟨none, .store 27 (.tmp 6) (.tmp 15), _, _, _, _⟩ :: _) _ _); refine wpList_store_q rfl 27 _ _ rfl (WT3.heap.size) (by exact rfl) (N') (p') (by exact rfl) (by assumption) (by kernel_rfl) 27 _ _ (show QRow _ _ _ 0 Z8 from alloc_at _ _) rfl ?_; intro WT4 HN HO HB
         have HQ := HN
         have T4 := Lib.hid (T3.out.under (((Below.refl _ _).alloc (Nat.le_refl _) _).trans HB.out))
         have HS := Lib.hid (Nat.ne_of_lt T3.out.q.lt)
         clear HN HO HB T3)
      | (go_at_call 54; refine (HC2.out _).mono ?_; rintro e WT3 ⟨rfl, hB⟩
         have T3 := Lib.hid (T2.out.under hB)
         clear hB T2)
      | ((with_reducible show wpList _ _ _ (⟨some 12, .load 27 (.tmp 11), _, _, _, _⟩ :: _) _ _); refine wpList_load_q9 rfl 27 _ rfl g 0 (by exact rfl) _ Tryz.underlying27 (by kernel_rfl) T2.out.q.rx T2.out.q.hb ?_)
      | ((with_reducible show wpList _ _ _ (⟨none, .store 29 (.tmp 2) (.tmp 9), _, _, _, _⟩ :: _) _ _); refine wpList_store_u rfl 29 _ _ rfl g (by exact rfl) (by exact rfl) (by assumption) (by assumption) (by kernel_rfl) 29 T1.out.q ?_; intro WT2 HN HO HB
         have T2 := Lib.hid (T1.out.setG HN.out HO.out HB.out)
         clear HN HO HB T1)
      | (go_at_call 53; refine (HC1.out _).mono ?_; rintro e WT1 ⟨rfl, hB⟩
         have T1 := Lib.hid (T0.out.under hB)
         clear hB T0)
      | ((with_reducible show wpList _ _ _ (⟨some 8, .load 29 (.tmp 2), _, _, _, _⟩ :: _) _ _); refine wpList_load_u (by rfl) 29 _ rfl g (by exact rfl) _ Tryz.underlying29 (by kernel_rfl) 29 T0.out.q ?_))
      refine wp_region_noPanic ?_
      refine wp_region_held_drew (S := fun X => URow X g 29 N' p' M q l c k2) (by kernel_rfl) (T5.out.q.below (Below.refl _ _).drew T5.out.q.lt) (fun hHeld => ?_)
      refine' take_ 0 rfl (by kernel_rfl) (by kernel_rfl) (by kernel_rfl) (fun _ _ _ h => h) (by rfl) (fun wS hSw => run_load_u wS 29 _ g rfl _ Tryz.underlying29 (by kernel_rfl) 29 hSw _ _ _ _ _) hHeld ?_
      try simp only [Act.put, List.setIfInBounds_toArray, List.set_cons_zero, List.set_cons_succ]
      refine' take_ 1 rfl (by kernel_rfl) (by kernel_rfl) (by kernel_rfl) (fun _ _ _ h => h) (by rfl) (fun wS hSw => ?_) hHeld ?_
      rotate_left
      focus (go_simp; (try with_reducible rfl); done)
      try simp only [Act.put, List.setIfInBounds_toArray, List.set_cons_zero, List.set_cons_succ]
      refine' take_ 2 rfl (by kernel_rfl) (by kernel_rfl) (by kernel_rfl) (fun _ _ _ h => h) (by rfl) (fun wS hSw => ?_) hHeld ?_
      rotate_left
      focus (have s0 := hSw.c19; clear hSw; go_simp; (try with_reducible rfl); done)
      try simp only [Act.put, List.setIfInBounds_toArray, List.set_cons_zero, List.set_cons_succ]
      refine' take_ 3 rfl (by kernel_rfl) (by kernel_rfl) (by kernel_rfl) (fun _ _ _ h => h) (by rfl) (fun wS hSw => ?_) hHeld ?_
      rotate_left
      focus (go_simp; rw [HS1.out]; (try with_reducible rfl); done)
      try simp only [Act.put, List.setIfInBounds_toArray, List.set_cons_zero, List.set_cons_succ]
      refine' take_ 4 rfl (by kernel_rfl) (by kernel_rfl) (by kernel_rfl) (fun _ _ _ h => h) (by rfl) (fun wS hSw => ?_) hHeld ?_
      rotate_left
      focus (go_simp; (try with_reducible rfl); done)
      try simp only [Act.put, List.setIfInBounds_toArray, List.set_cons_zero, List.set_cons_succ]
      refine only_ 5 rfl (by kernel_rfl) (by rfl) (fun K hK => ?_)
      refine wp_store_u 29 _ _ rfl r rfl rfl hHeld.hb hHeld.hc (by kernel_rfl) 29 (T5.out.z.below (w' := _) (Below.refl _ _).drew T5.out.z.lt) ?_
      intro WZ HN HO HB
      have HZ := HN
      have BZ := Lib.hid (T5.out.b.drew.trans (HB.out.mono T5.out.lr))
      refine hK.out _ _ (hHeld.other HO.out T5.out.gr) (fun hHeld2 => ?_)
      clear hK K hHeld HN HO HB
      have hHeld := hHeld2
      clear hHeld2
      try simp only [Act.put]
      refine' take_ 6 rfl (by kernel_rfl) (by kernel_rfl) (by kernel_rfl) (fun _ _ _ h => h) (by rfl) (fun wS hSw => ?_) hHeld ?_
      rotate_left
      focus (go_simp; (try with_reducible rfl); done)
      try simp only [Act.put, List.setIfInBounds_toArray, List.set_cons_zero, List.set_cons_succ]
      refine wpAnyH_done (by kernel_rfl) ?_ _
      refine NoPanic.normal ?_
      go_wp2
      exact bodyPost_ret (v := .tuple #[uv (N') (p') M q l c k2, .bool false]) (results_ct Tryz.results32 _ _ _ _ _ _ rfl (run_loadVar_u WZ r 29 _ Tryz.underlying29 (by kernel_rfl) 29 HZ.out) rfl) rfl ⟨by first | (rw [HE.out, HA.out]; done) | (rw [HE.out, HA.out]; rfl), BZ.out⟩
    · replace HS1 : Hid (bits .and .u8 (c : Int) 1 = 1) := HS1
      go_wp2_with (first
      | ((with_reducible show wpList _ _ _ (⟨none, .store 27 (.tmp 22) (.tmp 21), _, _, _, _⟩ :: _) _ _); refine wpList_store_rx rfl 27 _ _ rfl g (by exact rfl) (by exact rfl) (by assumption) (by kernel_rfl) 29 T4.out.q ?_; intro WT5 HN HO HB
         have T5 := Lib.hid (T4.out.setG HN.out HO.out HB.out)
         clear HN HO HB T4)
      | ((with_reducible show wpList _ _ _ (⟨some 21, .load 27 (.tmp 6), _, _, _, _⟩ :: _) _ _); refine wpList_load_q rfl 27 _ rfl (WT3.heap.size) (by exact rfl) _ Tryz.underlying27 (by kernel_rfl) 27 _ _ HQ.out (by assumption) ?_)
      | ((with_reducible show wpList _ _ _ (⟨none, .store 27 (.tmp 6) (.tmp 15), _, _, _, _⟩ :: _) _ _); refine wpList_store_q rfl 27 _ _ rfl (WT3.heap.size) (by exact rfl) (N') (p') (by exact rfl) (by assumption) (by kernel_rfl) 27 _ _ (show QRow _ _ _ 0 Z8 from alloc_at _ _) rfl ?_; intro WT4 HN HO HB
         have HQ := HN
         have T4 := Lib.hid (T3.out.under (((Below.refl _ _).alloc (Nat.le_refl _) _).trans HB.out))
         have HS := Lib.hid (Nat.ne_of_lt T3.out.q.lt)
         clear HN HO HB T3)
      | (go_at_call 54; refine (HC2.out _).mono ?_; rintro e WT3 ⟨rfl, hB⟩
         have T3 := Lib.hid (T2.out.under hB)
         clear hB T2)
      | ((with_reducible show wpList _ _ _ (⟨some 12, .load 27 (.tmp 11), _, _, _, _⟩ :: _) _ _); refine wpList_load_q9 rfl 27 _ rfl g 0 (by exact rfl) _ Tryz.underlying27 (by kernel_rfl) T2.out.q.rx T2.out.q.hb ?_)
      | ((with_reducible show wpList _ _ _ (⟨none, .store 29 (.tmp 2) (.tmp 9), _, _, _, _⟩ :: _) _ _); refine wpList_store_u rfl 29 _ _ rfl g (by exact rfl) (by exact rfl) (by assumption) (by assumption) (by kernel_rfl) 29 T1.out.q ?_; intro WT2 HN HO HB
         have T2 := Lib.hid (T1.out.setG HN.out HO.out HB.out)
         clear HN HO HB T1)
      | (go_at_call 53; refine (HC1.out _).mono ?_; rintro e WT1 ⟨rfl, hB⟩
         have T1 := Lib.hid (T0.out.under hB)
         clear hB T0)
      | ((with_reducible show wpList _ _ _ (⟨some 8, .load 29 (.tmp 2), _, _, _, _⟩ :: _) _ _); refine wpList_load_u (by rfl) 29 _ rfl g (by exact rfl) _ Tryz.underlying29 (by kernel_rfl) 29 T0.out.q ?_))
      refine wp_region_noPanic ?_
      refine wp_region_held_drew (S := fun X => URow X g 29 N' p' M q l c k2) (by kernel_rfl) (T5.out.q.below (Below.refl _ _).drew T5.out.q.lt) (fun hHeld => ?_)
      refine' take_ 0 rfl (by kernel_rfl) (by kernel_rfl) (by kernel_rfl) (fun _ _ _ h => h) (by rfl) (fun wS hSw => run_load_u wS 29 _ g rfl _ Tryz.underlying29 (by kernel_rfl) 29 hSw _ _ _ _ _) hHeld ?_
      try simp only [Act.put, List.setIfInBounds_toArray, List.set_cons_zero, List.set_cons_succ]
      refine' take_ 1 rfl (by kernel_rfl) (by kernel_rfl) (by kernel_rfl) (fun _ _ _ h => h) (by rfl) (fun wS hSw => ?_) hHeld ?_
      rotate_left
      focus (go_simp; (try with_reducible rfl); done)
      try simp only [Act.put, List.setIfInBounds_toArray, List.set_cons_zero, List.set_cons_succ]
      refine' take_ 2 rfl (by kernel_rfl) (by kernel_rfl) (by kernel_rfl) (fun _ _ _ h => h) (by rfl) (fun wS hSw => ?_) hHeld ?_
      rotate_left
      focus (have s0 := hSw.c19; clear hSw; go_simp; (try with_reducible rfl); done)
      try simp only [Act.put, List.setIfInBounds_toArray, List.set_cons_zero, List.set_cons_succ]
      refine' take_ 3 rfl (by kernel_rfl) (by kernel_rfl) (by kernel_rfl) (fun _ _ _ h => h) (by rfl) (fun wS hSw => ?_) hHeld ?_
      rotate_left
      focus (go_simp; rw [HS1.out]; (try with_reducible rfl); done)
      try simp only [Act.put, List.setIfInBounds_toArray, List.set_cons_zero, List.set_cons_succ]
      refine' take_ 4 rfl (by kernel_rfl) (by kernel_rfl) (by kernel_rfl) (fun _ _ _ h => h) (by rfl) (fun wS hSw => ?_) hHeld ?_
      rotate_left
      focus (go_simp; (try with_reducible rfl); done)
      try simp only [Act.put, List.setIfInBounds_toArray, List.set_cons_zero, List.set_cons_succ]
      refine only_ 5 rfl (by kernel_rfl) (by rfl) (fun K hK => ?_)
      refine wp_store_u 29 _ _ rfl r rfl rfl hHeld.hb hHeld.hc (by kernel_rfl) 29 (T5.out.z.below (w' := _) (Below.refl _ _).drew T5.out.z.lt) ?_
      intro WZ HN HO HB
      have HZ := HN
      have BZ := Lib.hid (T5.out.b.drew.trans (HB.out.mono T5.out.lr))
      refine hK.out _ _ (hHeld.other HO.out T5.out.gr) (fun hHeld2 => ?_)
      clear hK K hHeld HN HO HB
      have hHeld := hHeld2
      clear hHeld2
      try simp only [Act.put]
      refine' take_ 6 rfl (by kernel_rfl) (by kernel_rfl) (by kernel_rfl) (fun _ _ _ h => h) (by rfl) (fun wS hSw => ?_) hHeld ?_
      rotate_left
      focus (go_simp; (try with_reducible rfl); done)
      try simp only [Act.put, List.setIfInBounds_toArray, List.set_cons_zero, List.set_cons_succ]
      refine wpAnyH_done (by kernel_rfl) ?_ _
      refine NoPanic.normal ?_
      go_wp2
      exact bodyPost_ret (v := .tuple #[uv (N') (p') M q l c k2, .bool true]) (results_ct Tryz.results32 _ _ _ _ _ _ rfl (run_loadVar_u WZ r 29 _ Tryz.underlying29 (by kernel_rfl) 29 HZ.out) rfl) rfl ⟨by first | (rw [HE.out, HA.out]; done) | (rw [HE.out, HA.out]; rfl), BZ.out⟩
end Go.Proofs.YtkodoldkfeopdaaGreat.Ua
/- OkTick -/
namespace Go.Proofs.YtkodoldkfeopdaaGreat.Ua
open Go.RowKit
set_option linter.unusedVariables false
set_option maxRecDepth 100000
structure Tk (w X : World) (ga gs gi gq : Nat) (n : Int) (bs : List Nat) (m : Int) (cs : List Nat) (l : Bool) (c k : Nat) (x : Nat) (ib qb : Bool) : Prop where
  u : URow X ga 29 n bs m cs l c k
  s : VRow X gs 5 [.int .u8 (x : Int)]
  i : VRow X gi 4 [.bool ib]
  q : VRow X gq 4 [.bool qb]
  b : Below w.heap.size w X
  la : w.heap.size ≤ ga
  ls : ga < gs
  li : gs < gi
  lq : gi < gq
section
variable {w X X' : World} {ga gs gi gq : Nat} {n : Int} {bs : List Nat} {m : Int} {cs : List Nat} {l : Bool} {c k : Nat} {x : Nat} {ib qb : Bool} {n' : Int} {bs' : List Nat} {m' : Int} {cs' : List Nat} {l' : Bool} {c' k' : Nat} {x' : Nat} {ib' qb' : Bool}
theorem _root_.Go.Proofs.YtkodoldkfeopdaaGreat.VRow.other {t : TypeId} {g r : Nat} {vs : List Value} (h : VRow X g t vs) (ho : ∀ j, j ≠ r → X'.heap[j]? = X.heap[j]?) (hr : g ≠ r) : VRow X' g t vs := (ho g hr).trans h
theorem Tk.under (h : Tk w X ga gs gi gq n bs m cs l c k x ib qb) (hb : Below X.heap.size X X') : Tk w X' ga gs gi gq n bs m cs l c k x ib qb :=
  ⟨h.u.below hb h.u.lt, h.s.below hb h.s.lt, h.i.below hb h.i.lt, h.q.below hb h.q.lt, h.b.trans (hb.mono h.b.size), h.la, h.ls, h.li, h.lq⟩
theorem Tk.setA (h : Tk w X ga gs gi gq n bs m cs l c k x ib qb) (hn : URow X' ga 29 n' bs' m' cs' l' c' k') (ho : ∀ j, j ≠ ga → X'.heap[j]? = X.heap[j]?) (hb : Below ga X X') : Tk w X' ga gs gi gq n' bs' m' cs' l' c' k' x ib qb :=
  have := h.la; have := h.ls; have := h.li; have := h.lq
  ⟨hn, h.s.other ho (by omega), h.i.other ho (by omega), h.q.other ho (by omega), h.b.trans (hb.mono h.la), h.la, h.ls, h.li, h.lq⟩
theorem Tk.setS (h : Tk w X ga gs gi gq n bs m cs l c k x ib qb) (hn : VRow X' gs 5 [.int .u8 (x' : Int)]) (ho : ∀ j, j ≠ gs → X'.heap[j]? = X.heap[j]?) (hb : Below gs X X') : Tk w X' ga gs gi gq n bs m cs l c k x' ib qb :=
  have := h.la; have := h.ls; have := h.li; have := h.lq
  ⟨h.u.other ho (by omega), hn, h.i.other ho (by omega), h.q.other ho (by omega), h.b.trans (hb.mono (by omega)), h.la, h.ls, h.li, h.lq⟩
theorem Tk.setI (h : Tk w X ga gs gi gq n bs m cs l c k x ib qb) (hn : VRow X' gi 4 [.bool ib']) (ho : ∀ j, j ≠ gi → X'.heap[j]? = X.heap[j]?) (hb : Below gi X X') : Tk w X' ga gs gi gq n bs m cs l c k x ib' qb :=
  have := h.la; have := h.ls; have := h.li; have := h.lq
  ⟨h.u.other ho (by omega), h.s.other ho (by omega), hn, h.q.other ho (by omega), h.b.trans (hb.mono (by omega)), h.la, h.ls, h.li, h.lq⟩
theorem Tk.setQ (h : Tk w X ga gs gi gq n bs m cs l c k x ib qb) (hn : VRow X' gq 4 [.bool qb']) (ho : ∀ j, j ≠ gq → X'.heap[j]? = X.heap[j]?) (hb : Below gq X X') : Tk w X' ga gs gi gq n bs m cs l c k x ib qb' :=
  have := h.la; have := h.ls; have := h.li; have := h.lq
  ⟨h.u.other ho (by omega), h.s.other ho (by omega), h.i.other ho (by omega), hn, h.b.trans (hb.mono (by omega)), h.la, h.ls, h.li, h.lq⟩
end
set_option maxRecDepth 100000 in
theorem and_two_bit (c : Nat) (h : c < 256) : bits .and .u8 (c : Int) 2 = if decide (c / 2 % 2 = 1) = true then 2 else 0 := by
  rw [show (2 : Int) = ((2 : Nat) : Int) from rfl, u8_and_nat c 2 h (by decide)]
  have h2 : ∀ c : Fin 256, (((c.val &&& 2 : Nat)) : Int) = if decide (c.val / 2 % 2 = 1) = true then ((2 : Nat) : Int) else 0 := by decide
  exact h2 ⟨c, h⟩
theorem alloc_keep {X : World} {o o' : Obj} {j : Nat} (h : X.heap[j]? = some o) : (X.alloc o').heap[j]? = some o := by
  have hl : j < X.heap.size := by
    rcases Nat.lt_or_ge j X.heap.size with h1 | h1
    · exact h1
    · rw [Array.getElem?_eq_none h1] at h; cases h
  exact (((Below.refl X.heap.size X).alloc (Nat.le_refl _) o').block j hl).trans h
theorem name_five {Q : World → Prop} {w : World} {o1 o2 o3 o4 o5 : Obj} (F : ∀ X : World, X.heap[w.heap.size]? = some o1 → X.heap[w.heap.size + 1]? = some o2 → X.heap[w.heap.size + 1 + 1]? = some o3 → X.heap[w.heap.size + 1 + 1 + 1]? = some o4 → X.heap[w.heap.size + 1 + 1 + 1 + 1]? = some o5 → Below w.heap.size w X → Q X) : Q (((((w.alloc o1).alloc o2).alloc o3).alloc o4).alloc o5) := by
  refine F _ ?_ ?_ ?_ ?_ ?_ ?_
  · exact alloc_keep (alloc_keep (alloc_keep (alloc_keep (alloc_at _ _))))
  · have h := alloc_at (w.alloc o1) o2
    rw [World.size_alloc] at h
    exact alloc_keep (alloc_keep (alloc_keep h))
  · have h := alloc_at ((w.alloc o1).alloc o2) o3
    rw [World.size_alloc, World.size_alloc] at h
    exact alloc_keep (alloc_keep h)
  · have h := alloc_at (((w.alloc o1).alloc o2).alloc o3) o4
    rw [World.size_alloc, World.size_alloc, World.size_alloc] at h
    exact alloc_keep h
  · have h := alloc_at ((((w.alloc o1).alloc o2).alloc o3).alloc o4) o5
    rw [World.size_alloc, World.size_alloc, World.size_alloc, World.size_alloc] at h
    exact h
  · exact (((((Below.refl _ _).alloc (Nat.le_refl _) _).alloc (by simp) _).alloc (by simp; omega) _).alloc (by simp; omega) _).alloc (by simp; omega) _
section
variable {P : Program}
theorem run_loadVar_one (w : World) (a : Addr) (ty : TypeId) (d : TypeDesc) (v : Value) (hu : P.underlying ty = some d) (hd : (match d with | .struct _ | .array _ _ => true | _ => false) = false) (hc : w.cell? a = some v) : (loadVar ty a).run P w = .ok v w := by
  have hagg : (isAgg ty).run P w = .ok false w := by
    unfold isAgg
    rw [Sem.run_bind, run_underlying hu w]
    cases d <;> simp_all
  simp [loadVar, Sem.run_bind, hagg, hc]
theorem results_cccc {fn : Func} {t1 t2 t3 t4 : Tmp} {y1 y2 y3 y4 : TypeId} (h : fn.results = #[.cell t1 y1, .cell t2 y2, .cell t3 y3, .cell t4 y4]) (tmps : Array Value) (w : World) (a1 a2 a3 a4 : Addr) (v1 v2 v3 v4 : Value)
    (h1 : tmps.getD t1 undef = .pointer (some a1)) (h2 : tmps.getD t2 undef = .pointer (some a2)) (h3 : tmps.getD t3 undef = .pointer (some a3)) (h4 : tmps.getD t4 undef = .pointer (some a4))
    (l1 : (loadVar y1 a1).run P w = .ok v1 w) (l2 : (loadVar y2 a2).run P w = .ok v2 w) (l3 : (loadVar y3 a3).run P w = .ok v3 w) (l4 : (loadVar y4 a4).run P w = .ok v4 w) : (results fn tmps).run P w = .ok (.tuple #[v1, v2, v3, v4]) w := by
  rw [Array.getD_eq_getD_getElem?] at h1 h2 h3 h4
  simp [results, h, h1, h2, h3, h4, asAddr, l1, l2, l3, l4]
end
theorem wp_store_one {P : Program} {o : Oper} {a : Act} {w : World} {K : Act → World → Prop} {Q : Exit → Act → World → Prop} (ty : TypeId) (x v : Operand) (ho : o.op = .store ty x v) (g : Nat) (hx : a.eval x = .pointer (some ⟨g, 0, none⟩))
    (u : Value) (hv : (a.eval v).cells = [u].toArray) (hu1 : u.oneCell' = true) (hi : (P.info? ty).map (·.size) = some 1) (t : TypeId) (old : Value) (hr : VRow w g t [old])
    (h : ∀ W, Hid (VRow W g t [u]) → Hid (∀ k, k ≠ g → W.heap[k]? = w.heap[k]?) → Hid (Below g w W) → K (a.put o.dst undef) W) : o.wp P a w K Q :=
  wp_store_row rfl ty x v ho g 0 hx [u] hv (by rw [hi]; rfl) [old] [u] t hr (by simp) (one_one _ hu1) rfl (h _ (Lib.hid (hr.set [u])) (Lib.hid fun k hk => setRow_other w g k _ hk) (Lib.hid (setRow_below (Below.refl _ _) (Nat.le_refl _) _)))
theorem uBool : Tryz.prog.underlying 4 = some .bool := by kernel_rfl
theorem uU8 : Tryz.prog.underlying 5 = some (.int .u8) := by kernel_rfl
set_option maxRecDepth 100000 in
theorem tickNo_any {w X : World} {ga gs gi gq : Nat} {N M : Int} {p q : List Nat} {l : Bool} {c k : Nat} {x0 : Nat} {ib qb : Bool} (hT : Tk w X ga gs gi gq N p M q l c k x0 ib qb) (hk : k + 1 < 4) : Calls Tryz.prog 57 #[.pointer (some ⟨ga, 0, none⟩), .pointer (some ⟨gs, 0, none⟩), .pointer (some ⟨gi, 0, none⟩), .pointer (some ⟨gq, 0, none⟩)] X fun e w' => e = .returned (.tuple #[]) ∧ Tk w w' ga gs gi gq N p M q l c (k + 1) x0 ib qb := by
  have d2 : ((k + 1 : Nat) : Int) < 4 := by omega
  have T0 := Lib.hid hT
  clear hT
  have ck := T0.out.u.c20
  go_enter Tryz.func57, Tryz.ntmps57
  go_wp2_with (first
      | ((with_reducible show wpList _ _ _ (⟨none, .store 5 (.tmp 7) (.tmp 6), _, _, _, _⟩ :: _) _ _); refine wpList_store_j rfl 5 _ _ rfl ga 20 (by exact rfl) (.int .u8 ((k + 1 : Nat) : Int)) (by exact rfl) rfl (by kernel_rfl) 29 T0.out.u (by decide) (uc_set_k T0.out.u.hb T0.out.u.hc) T0.out.u.hb T0.out.u.hc ?_; intro WT1 HN HO HB
         have T1 := Lib.hid (T0.out.setA HN.out HO.out HB.out)
         have d20 := T1.out.u.c20
         clear HN HO HB T0))
  (try simp only [Exit.inBlock, Exit.then])
  refine bodyPost_ret (results_none rfl _ _ _) rfl ?_
  exact ⟨rfl, T1.out⟩
set_option maxRecDepth 100000 in
theorem tickMore_any {w X : World} {ga gs gi gq : Nat} {N M : Int} {p q : List Nat} {l : Bool} {c k : Nat} {x0 : Nat} {ib qb : Bool} (hT : Tk w X ga gs gi gq N p M q l c k x0 ib qb) (x : Nat) (M' : Int) (q' : List Nat) (b : Bool) (hq' : q'.length = 8)
    (hP : ∀ W : World, Calls Tryz.prog 58 #[qv M q] W fun e w' => e = .returned (.tuple #[.int .u8 x, qv M' q', .bool b]) ∧ Below W.heap.size W w') (hk : k = 3) (hM : M' ≠ 0) : Calls Tryz.prog 57 #[.pointer (some ⟨ga, 0, none⟩), .pointer (some ⟨gs, 0, none⟩), .pointer (some ⟨gi, 0, none⟩), .pointer (some ⟨gq, 0, none⟩)] X fun e w' => e = .returned (.tuple #[]) ∧ Tk w w' ga gs gi gq N p M' q' l c 0 x b false := by
  have HP := Lib.hid hP
  clear hP
  subst hk
  have T0 := Lib.hid hT
  clear hT
  have ck := T0.out.u.c20
  go_enter Tryz.func57, Tryz.ntmps57
  go_wp2_with (first
      | ((with_reducible show wpList _ _ _ (⟨none, .store 4 (.tmp 3) (.tmp 29), _, _, _, _⟩ :: _) _ _); refine wpList_store_c rfl 4 _ _ rfl gq 0 (by exact rfl) (.bool false) (by exact rfl) rfl (by kernel_rfl) 4 _ T6.out.q (show 0 < 1 by decide) ?_; intro WT7 HN HO HB
         have T7 := Lib.hid (T6.out.setQ HN.out HO.out HB.out)
         clear HN HO HB T6)
      | ((with_reducible show wpList _ _ _ (⟨none, .store 4 (.tmp 2) (.tmp 18), _, _, _, _⟩ :: _) _ _); refine wpList_store_c rfl 4 _ _ rfl gi 0 (by exact rfl) (.bool b) (by exact rfl) rfl (by kernel_rfl) 4 _ T5.out.i (show 0 < 1 by decide) ?_; intro WT6 HN HO HB
         have T6 := Lib.hid (T5.out.setI HN.out HO.out HB.out)
         have d9 := T6.out.u.n9
         have d19 := T6.out.u.c19
         clear HN HO HB T5)
      | ((with_reducible show wpList _ _ _ (⟨none, .store 27 (.tmp 19) (.tmp 17), _, _, _, _⟩ :: _) _ _); refine wpList_store_tx rfl 27 _ _ rfl ga (by exact rfl) (by exact rfl) (by assumption) (by kernel_rfl) 29 T4.out.u ?_; intro WT5 HN HO HB
         have T5 := Lib.hid (T4.out.setA HN.out HO.out HB.out)
         have d9 := T5.out.u.n9
         clear HN HO HB T4)
      | ((with_reducible show wpList _ _ _ (⟨none, .store 5 (.tmp 1) (.tmp 16), _, _, _, _⟩ :: _) _ _); refine wpList_store_c rfl 5 _ _ rfl gs 0 (by exact rfl) (.int .u8 (x : Int)) (by exact rfl) rfl (by kernel_rfl) 5 _ T3.out.s (show 0 < 1 by decide) ?_; intro WT4 HN HO HB
         have T4 := Lib.hid (T3.out.setS HN.out HO.out HB.out)
         clear HN HO HB T3)
      | (go_at_call 58; refine (HP.out _).mono ?_; rintro e WT3 ⟨rfl, hB⟩
         have T3 := Lib.hid (T2.out.under hB)
         clear hB T2)
      | ((with_reducible show wpList _ _ _ (⟨some 14, .load 27 (.tmp 13), _, _, _, _⟩ :: _) _ _); refine wpList_load_q9 rfl 27 _ rfl ga 9 (by exact rfl) _ Tryz.underlying27 (by kernel_rfl) T2.out.u.tx T2.out.u.hc ?_)
      | ((with_reducible show wpList _ _ _ (⟨none, .store 5 (.tmp 11) _, _, _, _, _⟩ :: _) _ _); refine wpList_store_j rfl 5 _ _ rfl ga 20 (by exact rfl) (.int .u8 ((0 : Nat) : Int)) (by exact rfl) rfl (by kernel_rfl) 29 T1.out.u (by decide) (uc_set_k T1.out.u.hb T1.out.u.hc) T1.out.u.hb T1.out.u.hc ?_; intro WT2 HN HO HB
         have T2 := Lib.hid (T1.out.setA HN.out HO.out HB.out)
         clear d20
         clear HN HO HB T1)
      | ((with_reducible show wpList _ _ _ (⟨none, .store 5 (.tmp 7) (.tmp 6), _, _, _, _⟩ :: _) _ _); refine wpList_store_j rfl 5 _ _ rfl ga 20 (by exact rfl) (.int .u8 ((4 : Nat) : Int)) (by exact rfl) rfl (by kernel_rfl) 29 T0.out.u (by decide) (uc_set_k T0.out.u.hb T0.out.u.hc) T0.out.u.hb T0.out.u.hc ?_; intro WT1 HN HO HB
         have T1 := Lib.hid (T0.out.setA HN.out HO.out HB.out)
         have d20 := T1.out.u.c20
         clear HN HO HB T0))
  go_end0
  exact ⟨rfl, T7.out⟩
set_option maxRecDepth 100000 in
theorem tickLastN_any {w X : World} {ga gs gi gq : Nat} {N M : Int} {p q : List Nat} {l : Bool} {c k : Nat} {x0 : Nat} {ib qb : Bool} (hT : Tk w X ga gs gi gq N p M q l c k x0 ib qb) (x : Nat) (M' : Int) (q' : List Nat) (b : Bool) (hq' : q'.length = 8)
    (hP : ∀ W : World, Calls Tryz.prog 58 #[qv M q] W fun e w' => e = .returned (.tuple #[.int .u8 x, qv M' q', .bool b]) ∧ Below W.heap.size W w') (hk : k = 3) (hM : M' = 0) (hb : bits .and .u8 (c : Int) 2 = 0) : Calls Tryz.prog 57 #[.pointer (some ⟨ga, 0, none⟩), .pointer (some ⟨gs, 0, none⟩), .pointer (some ⟨gi, 0, none⟩), .pointer (some ⟨gq, 0, none⟩)] X fun e w' => e = .returned (.tuple #[]) ∧ Tk w w' ga gs gi gq N p 0 q' l c 0 x b false := by
  have HP := Lib.hid hP
  clear hP
  subst hk
  subst hM
  have T0 := Lib.hid hT
  clear hT
  have ck := T0.out.u.c20
  go_enter Tryz.func57, Tryz.ntmps57
  go_wp2_with (first
      | ((with_reducible show wpList _ _ _ (⟨none, .store 4 (.tmp 3) (.tmp 29), _, _, _, _⟩ :: _) _ _); refine wpList_store_c rfl 4 _ _ rfl gq 0 (by exact rfl) (.bool false) (by exact rfl) rfl (by kernel_rfl) 4 _ T6.out.q (show 0 < 1 by decide) ?_; intro WT7 HN HO HB
         have T7 := Lib.hid (T6.out.setQ HN.out HO.out HB.out)
         clear HN HO HB T6)
      | ((with_reducible show wpList _ _ _ (⟨none, .store 4 (.tmp 2) (.tmp 18), _, _, _, _⟩ :: _) _ _); refine wpList_store_c rfl 4 _ _ rfl gi 0 (by exact rfl) (.bool b) (by exact rfl) rfl (by kernel_rfl) 4 _ T5.out.i (show 0 < 1 by decide) ?_; intro WT6 HN HO HB
         have T6 := Lib.hid (T5.out.setI HN.out HO.out HB.out)
         have d9 := T6.out.u.n9
         have d19 := T6.out.u.c19
         clear HN HO HB T5)
      | ((with_reducible show wpList _ _ _ (⟨none, .store 27 (.tmp 19) (.tmp 17), _, _, _, _⟩ :: _) _ _); refine wpList_store_tx rfl 27 _ _ rfl ga (by exact rfl) (by exact rfl) (by assumption) (by kernel_rfl) 29 T4.out.u ?_; intro WT5 HN HO HB
         have T5 := Lib.hid (T4.out.setA HN.out HO.out HB.out)
         have d9 := T5.out.u.n9
         clear HN HO HB T4)
      | ((with_reducible show wpList _ _ _ (⟨none, .store 5 (.tmp 1) (.tmp 16), _, _, _, _⟩ :: _) _ _); refine wpList_store_c rfl 5 _ _ rfl gs 0 (by exact rfl) (.int .u8 (x : Int)) (by exact rfl) rfl (by kernel_rfl) 5 _ T3.out.s (show 0 < 1 by decide) ?_; intro WT4 HN HO HB
         have T4 := Lib.hid (T3.out.setS HN.out HO.out HB.out)
         clear HN HO HB T3)
      | (go_at_call 58; refine (HP.out _).mono ?_; rintro e WT3 ⟨rfl, hB⟩
         have T3 := Lib.hid (T2.out.under hB)
         clear hB T2)
      | ((with_reducible show wpList _ _ _ (⟨some 14, .load 27 (.tmp 13), _, _, _, _⟩ :: _) _ _); refine wpList_load_q9 rfl 27 _ rfl ga 9 (by exact rfl) _ Tryz.underlying27 (by kernel_rfl) T2.out.u.tx T2.out.u.hc ?_)
      | ((with_reducible show wpList _ _ _ (⟨none, .store 5 (.tmp 11) _, _, _, _, _⟩ :: _) _ _); refine wpList_store_j rfl 5 _ _ rfl ga 20 (by exact rfl) (.int .u8 ((0 : Nat) : Int)) (by exact rfl) rfl (by kernel_rfl) 29 T1.out.u (by decide) (uc_set_k T1.out.u.hb T1.out.u.hc) T1.out.u.hb T1.out.u.hc ?_; intro WT2 HN HO HB
         have T2 := Lib.hid (T1.out.setA HN.out HO.out HB.out)
         clear d20
         clear HN HO HB T1)
      | ((with_reducible show wpList _ _ _ (⟨none, .store 5 (.tmp 7) (.tmp 6), _, _, _, _⟩ :: _) _ _); refine wpList_store_j rfl 5 _ _ rfl ga 20 (by exact rfl) (.int .u8 ((4 : Nat) : Int)) (by exact rfl) rfl (by kernel_rfl) 29 T0.out.u (by decide) (uc_set_k T0.out.u.hb T0.out.u.hc) T0.out.u.hb T0.out.u.hc ?_; intro WT1 HN HO HB
         have T1 := Lib.hid (T0.out.setA HN.out HO.out HB.out)
         have d20 := T1.out.u.c20
         clear HN HO HB T0))
  go_end0
  exact ⟨rfl, T7.out⟩
set_option maxRecDepth 100000 in
theorem tickLastY_any {w X : World} {ga gs gi gq : Nat} {N M : Int} {p q : List Nat} {l : Bool} {c k : Nat} {x0 : Nat} {ib qb : Bool} (hT : Tk w X ga gs gi gq N p M q l c k x0 ib qb) (x : Nat) (M' : Int) (q' : List Nat) (b : Bool) (hq' : q'.length = 8)
    (hP : ∀ W : World, Calls Tryz.prog 58 #[qv M q] W fun e w' => e = .returned (.tuple #[.int .u8 x, qv M' q', .bool b]) ∧ Below W.heap.size W w') (hk : k = 3) (hM : M' = 0) (hb : bits .and .u8 (c : Int) 2 = 2) : Calls Tryz.prog 57 #[.pointer (some ⟨ga, 0, none⟩), .pointer (some ⟨gs, 0, none⟩), .pointer (some ⟨gi, 0, none⟩), .pointer (some ⟨gq, 0, none⟩)] X fun e w' => e = .returned (.tuple #[]) ∧ Tk w w' ga gs gi gq N p 0 q' l c 0 x b true := by
  have HP := Lib.hid hP
  clear hP
  subst hk
  subst hM
  have T0 := Lib.hid hT
  clear hT
  have ck := T0.out.u.c20
  go_enter Tryz.func57, Tryz.ntmps57
  go_wp2_with (first
      | ((with_reducible show wpList _ _ _ (⟨none, .store 4 (.tmp 3) (.tmp 29), _, _, _, _⟩ :: _) _ _); refine wpList_store_c rfl 4 _ _ rfl gq 0 (by exact rfl) (.bool true) (by exact rfl) rfl (by kernel_rfl) 4 _ T6.out.q (show 0 < 1 by decide) ?_; intro WT7 HN HO HB
         have T7 := Lib.hid (T6.out.setQ HN.out HO.out HB.out)
         clear HN HO HB T6)
      | ((with_reducible show wpList _ _ _ (⟨none, .store 4 (.tmp 2) (.tmp 18), _, _, _, _⟩ :: _) _ _); refine wpList_store_c rfl 4 _ _ rfl gi 0 (by exact rfl) (.bool b) (by exact rfl) rfl (by kernel_rfl) 4 _ T5.out.i (show 0 < 1 by decide) ?_; intro WT6 HN HO HB
         have T6 := Lib.hid (T5.out.setI HN.out HO.out HB.out)
         have d9 := T6.out.u.n9
         have d19 := T6.out.u.c19
         clear HN HO HB T5)
      | ((with_reducible show wpList _ _ _ (⟨none, .store 27 (.tmp 19) (.tmp 17), _, _, _, _⟩ :: _) _ _); refine wpList_store_tx rfl 27 _ _ rfl ga (by exact rfl) (by exact rfl) (by assumption) (by kernel_rfl) 29 T4.out.u ?_; intro WT5 HN HO HB
         have T5 := Lib.hid (T4.out.setA HN.out HO.out HB.out)
         have d9 := T5.out.u.n9
         clear HN HO HB T4)
      | ((with_reducible show wpList _ _ _ (⟨none, .store 5 (.tmp 1) (.tmp 16), _, _, _, _⟩ :: _) _ _); refine wpList_store_c rfl 5 _ _ rfl gs 0 (by exact rfl) (.int .u8 (x : Int)) (by exact rfl) rfl (by kernel_rfl) 5 _ T3.out.s (show 0 < 1 by decide) ?_; intro WT4 HN HO HB
         have T4 := Lib.hid (T3.out.setS HN.out HO.out HB.out)
         clear HN HO HB T3)
      | (go_at_call 58; refine (HP.out _).mono ?_; rintro e WT3 ⟨rfl, hB⟩
         have T3 := Lib.hid (T2.out.under hB)
         clear hB T2)
      | ((with_reducible show wpList _ _ _ (⟨some 14, .load 27 (.tmp 13), _, _, _, _⟩ :: _) _ _); refine wpList_load_q9 rfl 27 _ rfl ga 9 (by exact rfl) _ Tryz.underlying27 (by kernel_rfl) T2.out.u.tx T2.out.u.hc ?_)
      | ((with_reducible show wpList _ _ _ (⟨none, .store 5 (.tmp 11) _, _, _, _, _⟩ :: _) _ _); refine wpList_store_j rfl 5 _ _ rfl ga 20 (by exact rfl) (.int .u8 ((0 : Nat) : Int)) (by exact rfl) rfl (by kernel_rfl) 29 T1.out.u (by decide) (uc_set_k T1.out.u.hb T1.out.u.hc) T1.out.u.hb T1.out.u.hc ?_; intro WT2 HN HO HB
         have T2 := Lib.hid (T1.out.setA HN.out HO.out HB.out)
         clear d20
         clear HN HO HB T1)
      | ((with_reducible show wpList _ _ _ (⟨none, .store 5 (.tmp 7) (.tmp 6), _, _, _, _⟩ :: _) _ _); refine wpList_store_j rfl 5 _ _ rfl ga 20 (by exact rfl) (.int .u8 ((4 : Nat) : Int)) (by exact rfl) rfl (by kernel_rfl) 29 T0.out.u (by decide) (uc_set_k T0.out.u.hb T0.out.u.hc) T0.out.u.hb T0.out.u.hc ?_; intro WT1 HN HO HB
         have T1 := Lib.hid (T0.out.setA HN.out HO.out HB.out)
         have d20 := T1.out.u.c20
         clear HN HO HB T0))
  go_end0
  exact ⟨rfl, T7.out⟩
set_option maxHeartbeats 1000000 in
set_option maxRecDepth 100000 in
theorem tickU_any : TickC 35 := by
  intro n bs m cs l c k w h
  have C1 := Lib.hid (fun W => mendU_any n bs m cs l c k W h)
  have hRl := cutL_le n bs h.hb
  have hTl := cutL_le m cs h.hc
  have hlR : ∀ x ∈ cutL n bs, x < 256 := cutL_lt h.lb
  have hlT : ∀ x ∈ cutL m cs, x < 256 := cutL_lt h.lc
  have hc8 := h.c8
  generalize cutL n bs = R at *
  generalize cutL m cs = T at *
  have hk4 := kM_lt T k
  have hk0 : T = [] → kM T k = 0 := fun h => by rw [h, kM_nil]
  generalize hkk : kM T k = k2 at *
  clear hkk
  obtain ⟨N, p, hN, hp, hp8, hN2, hE1⟩ := ofV_parts R hRl
  obtain ⟨M, q, hM, hq, hq8, hM2, hE2⟩ := ofV_parts T hTl
  have HC1 : Hid (∀ W : World, Calls Tryz.prog 53 #[uv n bs m cs l c k] W fun x w' => x = .returned (uv N p M q l c k2) ∧ Below W.heap.size W w') := Lib.hid (fun W => by
    have h1 := C1.out W
    unfold uq at h1
    rw [hN, hp, hM, hq] at h1
    exact h1)
  have HM2 := Lib.hid hM2
  have HN2 := Lib.hid hN2
  have HIN := Lib.hid (mended_in (c := c) hRl hTl hN hp hM hq hlR hlT hc8 hk4)
  clear C1
  have HC2 : Hid (∀ W : World, Calls Tryz.prog 58 #[qv M q] W fun x w' => x = .returned (popV T) ∧ Below W.heap.size W w') := Lib.hid (fun W => by
    have h1 := pop_any M q W hq8 HIN.out.1.m0 HIN.out.1.m1
    rw [HIN.out.2.2] at h1
    exact h1)
  have HUR : Hid (∀ (T' : List Nat) (l' : Bool) (c' k' : Nat), uq R T' l' c' k' = uv N p ((min T'.length 8 : Nat) : Int) (pad T') l' c' k') := Lib.hid (fun T' l' c' k' => by unfold uq; rw [hN, hp])
  have HU : Hid (∀ k', uq R T l c k' = uv N p M q l c k') := Lib.hid (fun k' => by rw [HUR.out, hM, hq])
  clear hN hp hE1 hN2 hlR hlT hRl hM hq hE2 hM2
  have hb := h.hb
  have hc := h.hc
  clear h
  unfold uv
  go_enter Tryz.func35, Tryz.ntmps35
  go_upto_region 1 with (fail)
  refine name_five (Q := fun X => Code.wp _ _ _ _ X) ?_
  intro W0 hq1 hq2 hq3 hq4 hq5 hB0
  have RG : Hid (URow W0 w.heap.size 29 n bs m cs l c k) := Lib.hid ⟨hq1, hb, hc⟩
  have T0 : Hid (Tk w W0 (w.heap.size + 1) (w.heap.size + 1 + 1) (w.heap.size + 1 + 1 + 1) (w.heap.size + 1 + 1 + 1 + 1) 0 Z8 0 Z8 false 0 0 0 false false) := Lib.hid ⟨⟨hq2, rfl, rfl⟩, hq3, hq4, hq5, hB0, by omega, by omega, by omega, by omega⟩
  clear hq1 hq2 hq3 hq4 hq5 hB0
  obtain ⟨g, hg⟩ : ∃ g, w.heap.size = g := ⟨_, rfl⟩
  obtain ⟨ga, hga⟩ : ∃ g, w.heap.size + 1 = g := ⟨_, rfl⟩
  obtain ⟨gs, hgs⟩ : ∃ g, w.heap.size + 1 + 1 = g := ⟨_, rfl⟩
  obtain ⟨gi, hgi⟩ : ∃ g, w.heap.size + 1 + 1 + 1 = g := ⟨_, rfl⟩
  obtain ⟨gq, hgq⟩ : ∃ g, w.heap.size + 1 + 1 + 1 + 1 = g := ⟨_, rfl⟩
  rw [hgq, hgi, hgs, hga] at T0 ⊢
  rw [hg] at RG ⊢
  clear hgq hgi hgs hga hg
  go_upto_region 3 with (first
      | ((with_reducible show wpList _ _ _ (⟨none, .store 29 (.tmp 2) (.tmp 8), _, _, _, _⟩ :: _) _ _); refine wpList_store_u rfl 29 _ _ rfl ga (by exact rfl) (by exact rfl) (by assumption) (by assumption) (by kernel_rfl) 29 T1.out.u ?_; intro WT2 HN HO HB
         have T2 := Lib.hid (T1.out.setA HN.out HO.out HB.out)
         have b9 := T2.out.u.n9
         clear HN HO HB RG T1)
      | (go_at_call 53; refine (HC1.out _).mono ?_; rintro e WT1 ⟨rfl, hB⟩
         have T1 := Lib.hid (T0.out.under hB)
         clear hB T0)
      | ((with_reducible show wpList _ _ _ (⟨some 7, .load 29 (.tmp 1), _, _, _, _⟩ :: _) _ _); refine wpList_load_u (by rfl) 29 _ rfl g (by exact rfl) _ Tryz.underlying29 (by kernel_rfl) 29 RG.out ?_))
  cases T with
  | nil =>
    have HE : Hid (uq R (tickT [] k2) l c (tickK [] k2) = uv N p M q l c 0) := Lib.hid (HU.out 0)
    have HE2 : Hid (tickB [] k2 = 0 ∧ sendsU [] k2 = false ∧ tickQ [] c k2 = false) := Lib.hid ⟨rfl, rfl, rfl⟩
    have hk20 : k2 = 0 := hk0 rfl
    have d1 : M = 0 := by simpa using HM2.out
    subst hk20
    subst d1
    clear hTl
    go_upto_region 5 with fail
    refine wp_region_noPanic ?_
    refine wp_region_held_drew (S := fun X => Tk w X ga gs gi gq N p 0 q l c 0 0 false false) (by kernel_rfl) (T2.out.under (Below.refl _ _).drew) (fun hHeld => ?_)
    refine' take_ 0 rfl (by kernel_rfl) (by kernel_rfl) (by kernel_rfl) (fun _ _ _ h => h) (by rfl) (fun wS hSw => run_load_u wS 29 _ ga rfl _ Tryz.underlying29 (by kernel_rfl) 29 hSw.u _ _ _ _ _) hHeld ?_
    try simp only [Act.put, List.setIfInBounds_toArray, List.set_cons_zero, List.set_cons_succ]
    refine' take_ 1 rfl (by kernel_rfl) (by kernel_rfl) (by kernel_rfl) (fun _ _ _ h => h) (by rfl) (fun wS hSw => ?_) hHeld ?_
    rotate_left
    focus (have s0 := hSw.s.cell 0 _ rfl; clear hSw; go_simp; (try with_reducible rfl); done)
    try simp only [Act.put, List.setIfInBounds_toArray, List.set_cons_zero, List.set_cons_succ]
    refine' take_ 2 rfl (by kernel_rfl) (by kernel_rfl) (by kernel_rfl) (fun _ _ _ h => h) (by rfl) (fun wS hSw => ?_) hHeld ?_
    rotate_left
    focus (have s0 := hSw.i.cell 0 _ rfl; clear hSw; go_simp; (try with_reducible rfl); done)
    try simp only [Act.put, List.setIfInBounds_toArray, List.set_cons_zero, List.set_cons_succ]
    refine' take_ 3 rfl (by kernel_rfl) (by kernel_rfl) (by kernel_rfl) (fun _ _ _ h => h) (by rfl) (fun wS hSw => ?_) hHeld ?_
    rotate_left
    focus (have s0 := hSw.q.cell 0 _ rfl; clear hSw; go_simp; (try with_reducible rfl); done)
    try simp only [Act.put, List.setIfInBounds_toArray, List.set_cons_zero, List.set_cons_succ]
    refine only_ 4 rfl (by kernel_rfl) (by rfl) (fun K hK => ?_)
    refine wp_store_u 29 _ _ rfl ga rfl rfl hHeld.u.hb hHeld.u.hc (by kernel_rfl) 29 hHeld.u ?_
    intro WZ4 HN HO HB
    refine hK.out _ _ (hHeld.setA HN.out HO.out HB.out) (fun hHeld2 => ?_)
    clear hK K hHeld HN HO HB
    have hHeld := hHeld2
    clear hHeld2
    try simp only [Act.put]
    refine only_ 5 rfl (by kernel_rfl) (by rfl) (fun K hK => ?_)
    refine wp_store_one 5 _ _ rfl gs rfl _ rfl rfl (by kernel_rfl) 5 _ hHeld.s ?_
    intro WZ5 HN HO HB
    refine hK.out _ _ (hHeld.setS HN.out HO.out HB.out) (fun hHeld2 => ?_)
    clear hK K hHeld HN HO HB
    have hHeld := hHeld2
    clear hHeld2
    try simp only [Act.put]
    refine only_ 6 rfl (by kernel_rfl) (by rfl) (fun K hK => ?_)
    refine wp_store_one 4 _ _ rfl gi rfl _ rfl rfl (by kernel_rfl) 4 _ hHeld.i ?_
    intro WZ6 HN HO HB
    refine hK.out _ _ (hHeld.setI HN.out HO.out HB.out) (fun hHeld2 => ?_)
    clear hK K hHeld HN HO HB
    have hHeld := hHeld2
    clear hHeld2
    try simp only [Act.put]
    refine only_ 7 rfl (by kernel_rfl) (by rfl) (fun K hK => ?_)
    refine wp_store_one 4 _ _ rfl gq rfl _ rfl rfl (by kernel_rfl) 4 _ hHeld.q ?_
    intro WZ7 HN HO HB
    refine hK.out _ _ (hHeld.setQ HN.out HO.out HB.out) (fun hHeld2 => ?_)
    clear hK K hHeld HN HO HB
    have hHeld := hHeld2
    clear hHeld2
    try simp only [Act.put]
    refine wpAnyH_done (by kernel_rfl) ?_ _
    refine NoPanic.normal ?_
    go_wp2
    exact bodyPost_ret (v := .tuple #[uv N p 0 q l c 0, .int .u8 ((0 : Nat)), .bool false, .bool false]) (results_cccc Tryz.results35 _ _ _ _ _ _ _ _ _ _ rfl rfl rfl rfl (run_loadVar_u _ ga 29 _ Tryz.underlying29 (by kernel_rfl) 29 hHeld.u) (run_loadVar_one _ _ _ _ _ uU8 rfl (hHeld.s.cell 0 _ rfl)) (run_loadVar_one _ _ _ _ _ uBool rfl (hHeld.i.cell 0 _ rfl)) (run_loadVar_one _ _ _ _ _ uBool rfl (hHeld.q.cell 0 _ rfl))) rfl ⟨by first | (rw [HE.out, HE2.out.1, HE2.out.2.1, HE2.out.2.2]; done) | (rw [HE.out, HE2.out.1, HE2.out.2.1, HE2.out.2.2]; rfl), hHeld.b⟩
  | cons x ts =>
    have d1 : 0 < M := by have := HM2.out; simp at this; omega
    by_cases h3 : k2 = 3
    · subst h3
      have hts : ts.length ≤ 8 := by simp at hTl; omega
      obtain ⟨N', p', hN', hp', hp8', hN2', hE'⟩ := ofV_parts ts hts
      have HE : Hid (uq R (tickT (x :: ts) 3) l c (tickK (x :: ts) 3) = uv N p N' p' l c 0) := Lib.hid (by rw [show tickT (x :: ts) 3 = ts from rfl, show tickK (x :: ts) 3 = 0 from rfl, HUR.out, hN', hp'])
      have HNN := Lib.hid hN2'
      rw [show popV (x :: ts) = .tuple #[.int .u8 (x : Int), ofV ts, .bool true] from rfl, hE'] at HC2
      clear hN' hp' hE' hN2' hts hTl
      cases ts with
      | nil =>
        have d3 : N' = 0 := by simpa using HNN.out
        subst d3
        have hbit := and_two_bit c hc8
        obtain ⟨b2, hb2⟩ : ∃ b2, decide (c / 2 % 2 = 1) = b2 := ⟨_, rfl⟩
        rw [hb2] at hbit
        have HE2 : Hid (tickB [x] 3 = x ∧ sendsU [x] 3 = true ∧ tickQ [x] c 3 = b2) := Lib.hid ⟨rfl, rfl, by rw [← hb2]; rfl⟩
        have HBIT := Lib.hid hbit
        clear hb2 hbit
        cases b2
        · replace HBIT : Hid (bits .and .u8 (c : Int) 2 = 0) := HBIT
          go_upto_region 5 with (first
      | (go_at_call 57; refine (tickLastN_any T2.out x 0 p' true hp8' HC2.out rfl rfl HBIT.out).mono ?_; rintro e WT3 ⟨rfl, hTT⟩
         have T3 := Lib.hid hTT
         clear hTT b9 T2))
          refine wp_region_noPanic ?_
          refine wp_region_held_drew (S := fun X => Tk w X ga gs gi gq N p 0 p' l c 0 x true false) (by kernel_rfl) (T3.out.under (Below.refl _ _).drew) (fun hHeld => ?_)
          refine' take_ 0 rfl (by kernel_rfl) (by kernel_rfl) (by kernel_rfl) (fun _ _ _ h => h) (by rfl) (fun wS hSw => run_load_u wS 29 _ ga rfl _ Tryz.underlying29 (by kernel_rfl) 29 hSw.u _ _ _ _ _) hHeld ?_
          try simp only [Act.put, List.setIfInBounds_toArray, List.set_cons_zero, List.set_cons_succ]
          refine' take_ 1 rfl (by kernel_rfl) (by kernel_rfl) (by kernel_rfl) (fun _ _ _ h => h) (by rfl) (fun wS hSw => ?_) hHeld ?_
          rotate_left
          focus (have s0 := hSw.s.cell 0 _ rfl; clear hSw; go_simp; (try with_reducible rfl); done)
          try simp only [Act.put, List.setIfInBounds_toArray, List.set_cons_zero, List.set_cons_succ]
          refine' take_ 2 rfl (by kernel_rfl) (by kernel_rfl) (by kernel_rfl) (fun _ _ _ h => h) (by rfl) (fun wS hSw => ?_) hHeld ?_
          rotate_left
          focus (have s0 := hSw.i.cell 0 _ rfl; clear hSw; go_simp; (try with_reducible rfl); done)
          try simp only [Act.put, List.setIfInBounds_toArray, List.set_cons_zero, List.set_cons_succ]
          refine' take_ 3 rfl (by kernel_rfl) (by kernel_rfl) (by kernel_rfl) (fun _ _ _ h => h) (by rfl) (fun wS hSw => ?_) hHeld ?_
          rotate_left
          focus (have s0 := hSw.q.cell 0 _ rfl; clear hSw; go_simp; (try with_reducible rfl); done)
          try simp only [Act.put, List.setIfInBounds_toArray, List.set_cons_zero, List.set_cons_succ]
          refine only_ 4 rfl (by kernel_rfl) (by rfl) (fun K hK => ?_)
          refine wp_store_u 29 _ _ rfl ga rfl rfl hHeld.u.hb hHeld.u.hc (by kernel_rfl) 29 hHeld.u ?_
          intro WZ4 HN HO HB
          refine hK.out _ _ (hHeld.setA HN.out HO.out HB.out) (fun hHeld2 => ?_)
          clear hK K hHeld HN HO HB
          have hHeld := hHeld2
          clear hHeld2
          try simp only [Act.put]
          refine only_ 5 rfl (by kernel_rfl) (by rfl) (fun K hK => ?_)
          refine wp_store_one 5 _ _ rfl gs rfl _ rfl rfl (by kernel_rfl) 5 _ hHeld.s ?_
          intro WZ5 HN HO HB
          refine hK.out _ _ (hHeld.setS HN.out HO.out HB.out) (fun hHeld2 => ?_)
          clear hK K hHeld HN HO HB
          have hHeld := hHeld2
          clear hHeld2
          try simp only [Act.put]
          refine only_ 6 rfl (by kernel_rfl) (by rfl) (fun K hK => ?_)
          refine wp_store_one 4 _ _ rfl gi rfl _ rfl rfl (by kernel_rfl) 4 _ hHeld.i ?_
          intro WZ6 HN HO HB
          refine hK.out _ _ (hHeld.setI HN.out HO.out HB.out) (fun hHeld2 => ?_)
          clear hK K hHeld HN HO HB
          have hHeld := hHeld2
          clear hHeld2
          try simp only [Act.put]
          refine only_ 7 rfl (by kernel_rfl) (by rfl) (fun K hK => ?_)
          refine wp_store_one 4 _ _ rfl gq rfl _ rfl rfl (by kernel_rfl) 4 _ hHeld.q ?_
          intro WZ7 HN HO HB
          refine hK.out _ _ (hHeld.setQ HN.out HO.out HB.out) (fun hHeld2 => ?_)
          clear hK K hHeld HN HO HB
          have hHeld := hHeld2
          clear hHeld2
          try simp only [Act.put]
          refine wpAnyH_done (by kernel_rfl) ?_ _
          refine NoPanic.normal ?_
          go_wp2
          exact bodyPost_ret (v := .tuple #[uv N p 0 p' l c 0, .int .u8 ((x : Nat)), .bool true, .bool false]) (results_cccc Tryz.results35 _ _ _ _ _ _ _ _ _ _ rfl rfl rfl rfl (run_loadVar_u _ ga 29 _ Tryz.underlying29 (by kernel_rfl) 29 hHeld.u) (run_loadVar_one _ _ _ _ _ uU8 rfl (hHeld.s.cell 0 _ rfl)) (run_loadVar_one _ _ _ _ _ uBool rfl (hHeld.i.cell 0 _ rfl)) (run_loadVar_one _ _ _ _ _ uBool rfl (hHeld.q.cell 0 _ rfl))) rfl ⟨by first | (rw [HE.out, HE2.out.1, HE2.out.2.1, HE2.out.2.2]; done) | (rw [HE.out, HE2.out.1, HE2.out.2.1, HE2.out.2.2]; rfl), hHeld.b⟩
        · replace HBIT : Hid (bits .and .u8 (c : Int) 2 = 2) := HBIT
          go_upto_region 5 with (first
      | (go_at_call 57; refine (tickLastY_any T2.out x 0 p' true hp8' HC2.out rfl rfl HBIT.out).mono ?_; rintro e WT3 ⟨rfl, hTT⟩
         have T3 := Lib.hid hTT
         clear hTT b9 T2))
          refine wp_region_noPanic ?_
          refine wp_region_held_drew (S := fun X => Tk w X ga gs gi gq N p 0 p' l c 0 x true true) (by kernel_rfl) (T3.out.under (Below.refl _ _).drew) (fun hHeld => ?_)
          refine' take_ 0 rfl (by kernel_rfl) (by kernel_rfl) (by kernel_rfl) (fun _ _ _ h => h) (by rfl) (fun wS hSw => run_load_u wS 29 _ ga rfl _ Tryz.underlying29 (by kernel_rfl) 29 hSw.u _ _ _ _ _) hHeld ?_
          try simp only [Act.put, List.setIfInBounds_toArray, List.set_cons_zero, List.set_cons_succ]
          refine' take_ 1 rfl (by kernel_rfl) (by kernel_rfl) (by kernel_rfl) (fun _ _ _ h => h) (by rfl) (fun wS hSw => ?_) hHeld ?_
          rotate_left
          focus (have s0 := hSw.s.cell 0 _ rfl; clear hSw; go_simp; (try with_reducible rfl); done)
          try simp only [Act.put, List.setIfInBounds_toArray, List.set_cons_zero, List.set_cons_succ]
          refine' take_ 2 rfl (by kernel_rfl) (by kernel_rfl) (by kernel_rfl) (fun _ _ _ h => h) (by rfl) (fun wS hSw => ?_) hHeld ?_
          rotate_left
          focus (have s0 := hSw.i.cell 0 _ rfl; clear hSw; go_simp; (try with_reducible rfl); done)
          try simp only [Act.put, List.setIfInBounds_toArray, List.set_cons_zero, List.set_cons_succ]
          refine' take_ 3 rfl (by kernel_rfl) (by kernel_rfl) (by kernel_rfl) (fun _ _ _ h => h) (by rfl) (fun wS hSw => ?_) hHeld ?_
          rotate_left
          focus (have s0 := hSw.q.cell 0 _ rfl; clear hSw; go_simp; (try with_reducible rfl); done)
          try simp only [Act.put, List.setIfInBounds_toArray, List.set_cons_zero, List.set_cons_succ]
          refine only_ 4 rfl (by kernel_rfl) (by rfl) (fun K hK => ?_)
          refine wp_store_u 29 _ _ rfl ga rfl rfl hHeld.u.hb hHeld.u.hc (by kernel_rfl) 29 hHeld.u ?_
          intro WZ4 HN HO HB
          refine hK.out _ _ (hHeld.setA HN.out HO.out HB.out) (fun hHeld2 => ?_)
          clear hK K hHeld HN HO HB
          have hHeld := hHeld2
          clear hHeld2
          try simp only [Act.put]
          refine only_ 5 rfl (by kernel_rfl) (by rfl) (fun K hK => ?_)
          refine wp_store_one 5 _ _ rfl gs rfl _ rfl rfl (by kernel_rfl) 5 _ hHeld.s ?_
          intro WZ5 HN HO HB
          refine hK.out _ _ (hHeld.setS HN.out HO.out HB.out) (fun hHeld2 => ?_)
          clear hK K hHeld HN HO HB
          have hHeld := hHeld2
          clear hHeld2
          try simp only [Act.put]
          refine only_ 6 rfl (by kernel_rfl) (by rfl) (fun K hK => ?_)
          refine wp_store_one 4 _ _ rfl gi rfl _ rfl rfl (by kernel_rfl) 4 _ hHeld.i ?_
          intro WZ6 HN HO HB
          refine hK.out _ _ (hHeld.setI HN.out HO.out HB.out) (fun hHeld2 => ?_)
          clear hK K hHeld HN HO HB
          have hHeld := hHeld2
          clear hHeld2
          try simp only [Act.put]
          refine only_ 7 rfl (by kernel_rfl) (by rfl) (fun K hK => ?_)
          refine wp_store_one 4 _ _ rfl gq rfl _ rfl rfl (by kernel_rfl) 4 _ hHeld.q ?_
          intro WZ7 HN HO HB
          refine hK.out _ _ (hHeld.setQ HN.out HO.out HB.out) (fun hHeld2 => ?_)
          clear hK K hHeld HN HO HB
          have hHeld := hHeld2
          clear hHeld2
          try simp only [Act.put]
          refine wpAnyH_done (by kernel_rfl) ?_ _
          refine NoPanic.normal ?_
          go_wp2
          exact bodyPost_ret (v := .tuple #[uv N p 0 p' l c 0, .int .u8 ((x : Nat)), .bool true, .bool true]) (results_cccc Tryz.results35 _ _ _ _ _ _ _ _ _ _ rfl rfl rfl rfl (run_loadVar_u _ ga 29 _ Tryz.underlying29 (by kernel_rfl) 29 hHeld.u) (run_loadVar_one _ _ _ _ _ uU8 rfl (hHeld.s.cell 0 _ rfl)) (run_loadVar_one _ _ _ _ _ uBool rfl (hHeld.i.cell 0 _ rfl)) (run_loadVar_one _ _ _ _ _ uBool rfl (hHeld.q.cell 0 _ rfl))) rfl ⟨by first | (rw [HE.out, HE2.out.1, HE2.out.2.1, HE2.out.2.2]; done) | (rw [HE.out, HE2.out.1, HE2.out.2.1, HE2.out.2.2]; rfl), hHeld.b⟩
      | cons y us =>
        have HNe : Hid (N' ≠ 0) := Lib.hid (by rw [HNN.out]; simp; omega)
        have HE2 : Hid (tickB (x :: y :: us) 3 = x ∧ sendsU (x :: y :: us) 3 = true ∧ tickQ (x :: y :: us) c 3 = false) := Lib.hid ⟨rfl, rfl, rfl⟩
        go_upto_region 5 with (first
      | (go_at_call 57; refine (tickMore_any T2.out x N' p' true hp8' HC2.out rfl HNe.out).mono ?_; rintro e WT3 ⟨rfl, hTT⟩
         have T3 := Lib.hid hTT
         clear hTT b9 T2))
        refine wp_region_noPanic ?_
        refine wp_region_held_drew (S := fun X => Tk w X ga gs gi gq N p N' p' l c 0 x true false) (by kernel_rfl) (T3.out.under (Below.refl _ _).drew) (fun hHeld => ?_)
        refine' take_ 0 rfl (by kernel_rfl) (by kernel_rfl) (by kernel_rfl) (fun _ _ _ h => h) (by rfl) (fun wS hSw => run_load_u wS 29 _ ga rfl _ Tryz.underlying29 (by kernel_rfl) 29 hSw.u _ _ _ _ _) hHeld ?_
        try simp only [Act.put, List.setIfInBounds_toArray, List.set_cons_zero, List.set_cons_succ]
        refine' take_ 1 rfl (by kernel_rfl) (by kernel_rfl) (by kernel_rfl) (fun _ _ _ h => h) (by rfl) (fun wS hSw => ?_) hHeld ?_
        rotate_left
        focus (have s0 := hSw.s.cell 0 _ rfl; clear hSw; go_simp; (try with_reducible rfl); done)
        try simp only [Act.put, List.setIfInBounds_toArray, List.set_cons_zero, List.set_cons_succ]
        refine' take_ 2 rfl (by kernel_rfl) (by kernel_rfl) (by kernel_rfl) (fun _ _ _ h => h) (by rfl) (fun wS hSw => ?_) hHeld ?_
        rotate_left
        focus (have s0 := hSw.i.cell 0 _ rfl; clear hSw; go_simp; (try with_reducible rfl); done)
        try simp only [Act.put, List.setIfInBounds_toArray, List.set_cons_zero, List.set_cons_succ]
        refine' take_ 3 rfl (by kernel_rfl) (by kernel_rfl) (by kernel_rfl) (fun _ _ _ h => h) (by rfl) (fun wS hSw => ?_) hHeld ?_
        rotate_left
        focus (have s0 := hSw.q.cell 0 _ rfl; clear hSw; go_simp; (try with_reducible rfl); done)
        try simp only [Act.put, List.setIfInBounds_toArray, List.set_cons_zero, List.set_cons_succ]
        refine only_ 4 rfl (by kernel_rfl) (by rfl) (fun K hK => ?_)
        refine wp_store_u 29 _ _ rfl ga rfl rfl hHeld.u.hb hHeld.u.hc (by kernel_rfl) 29 hHeld.u ?_
        intro WZ4 HN HO HB
        refine hK.out _ _ (hHeld.setA HN.out HO.out HB.out) (fun hHeld2 => ?_)
        clear hK K hHeld HN HO HB
        have hHeld := hHeld2
        clear hHeld2
        try simp only [Act.put]
        refine only_ 5 rfl (by kernel_rfl) (by rfl) (fun K hK => ?_)
        refine wp_store_one 5 _ _ rfl gs rfl _ rfl rfl (by kernel_rfl) 5 _ hHeld.s ?_
        intro WZ5 HN HO HB
        refine hK.out _ _ (hHeld.setS HN.out HO.out HB.out) (fun hHeld2 => ?_)
        clear hK K hHeld HN HO HB
        have hHeld := hHeld2
        clear hHeld2
        try simp only [Act.put]
        refine only_ 6 rfl (by kernel_rfl) (by rfl) (fun K hK => ?_)
        refine wp_store_one 4 _ _ rfl gi rfl _ rfl rfl (by kernel_rfl) 4 _ hHeld.i ?_
        intro WZ6 HN HO HB
        refine hK.out _ _ (hHeld.setI HN.out HO.out HB.out) (fun hHeld2 => ?_)
        clear hK K hHeld HN HO HB
        have hHeld := hHeld2
        clear hHeld2
        try simp only [Act.put]
        refine only_ 7 rfl (by kernel_rfl) (by rfl) (fun K hK => ?_)
        refine wp_store_one 4 _ _ rfl gq rfl _ rfl rfl (by kernel_rfl) 4 _ hHeld.q ?_
        intro WZ7 HN HO HB
        refine hK.out _ _ (hHeld.setQ HN.out HO.out HB.out) (fun hHeld2 => ?_)
        clear hK K hHeld HN HO HB
        have hHeld := hHeld2
        clear hHeld2
        try simp only [Act.put]
        refine wpAnyH_done (by kernel_rfl) ?_ _
        refine NoPanic.normal ?_
        go_wp2
        exact bodyPost_ret (v := .tuple #[uv N p N' p' l c 0, .int .u8 ((x : Nat)), .bool true, .bool false]) (results_cccc Tryz.results35 _ _ _ _ _ _ _ _ _ _ rfl rfl rfl rfl (run_loadVar_u _ ga 29 _ Tryz.underlying29 (by kernel_rfl) 29 hHeld.u) (run_loadVar_one _ _ _ _ _ uU8 rfl (hHeld.s.cell 0 _ rfl)) (run_loadVar_one _ _ _ _ _ uBool rfl (hHeld.i.cell 0 _ rfl)) (run_loadVar_one _ _ _ _ _ uBool rfl (hHeld.q.cell 0 _ rfl))) rfl ⟨by first | (rw [HE.out, HE2.out.1, HE2.out.2.1, HE2.out.2.2]; done) | (rw [HE.out, HE2.out.1, HE2.out.2.1, HE2.out.2.2]; rfl), hHeld.b⟩
    · have hs : sendsU (x :: ts) k2 = false := by simp [sendsU, h3]
      have HE : Hid (uq R (tickT (x :: ts) k2) l c (tickK (x :: ts) k2) = uv N p M q l c (k2 + 1)) := Lib.hid (by rw [show tickT (x :: ts) k2 = x :: ts from if_neg (by rw [hs]; decide), show tickK (x :: ts) k2 = k2 + 1 from (if_neg (by simp)).trans (if_neg h3), HU.out])
      have HE2 : Hid (tickB (x :: ts) k2 = 0 ∧ sendsU (x :: ts) k2 = false ∧ tickQ (x :: ts) c k2 = false) := Lib.hid ⟨if_neg (by rw [hs]; decide), hs, by unfold tickQ; rw [hs]; rfl⟩
      have HK : Hid (k2 + 1 < 4) := Lib.hid (by omega)
      clear hTl hs h3
      go_upto_region 5 with (first
      | (go_at_call 57; refine (tickNo_any T2.out HK.out).mono ?_; rintro e WT3 ⟨rfl, hTT⟩
         have T3 := Lib.hid hTT
         clear hTT b9 T2))
      refine wp_region_noPanic ?_
      refine wp_region_held_drew (S := fun X => Tk w X ga gs gi gq N p M q l c (k2 + 1) 0 false false) (by kernel_rfl) (T3.out.under (Below.refl _ _).drew) (fun hHeld => ?_)
      refine' take_ 0 rfl (by kernel_rfl) (by kernel_rfl) (by kernel_rfl) (fun _ _ _ h => h) (by rfl) (fun wS hSw => run_load_u wS 29 _ ga rfl _ Tryz.underlying29 (by kernel_rfl) 29 hSw.u _ _ _ _ _) hHeld ?_
      try simp only [Act.put, List.setIfInBounds_toArray, List.set_cons_zero, List.set_cons_succ]
      refine' take_ 1 rfl (by kernel_rfl) (by kernel_rfl) (by kernel_rfl) (fun _ _ _ h => h) (by rfl) (fun wS hSw => ?_) hHeld ?_
      rotate_left
      focus (have s0 := hSw.s.cell 0 _ rfl; clear hSw; go_simp; (try with_reducible rfl); done)
      try simp only [Act.put, List.setIfInBounds_toArray, List.set_cons_zero, List.set_cons_succ]
      refine' take_ 2 rfl (by kernel_rfl) (by kernel_rfl) (by kernel_rfl) (fun _ _ _ h => h) (by rfl) (fun wS hSw => ?_) hHeld ?_
      rotate_left
      focus (have s0 := hSw.i.cell 0 _ rfl; clear hSw; go_simp; (try with_reducible rfl); done)
      try simp only [Act.put, List.setIfInBounds_toArray, List.set_cons_zero, List.set_cons_succ]
      refine' take_ 3 rfl (by kernel_rfl) (by kernel_rfl) (by kernel_rfl) (fun _ _ _ h => h) (by rfl) (fun wS hSw => ?_) hHeld ?_
      rotate_left
      focus (have s0 := hSw.q.cell 0 _ rfl; clear hSw; go_simp; (try with_reducible rfl); done)
      try simp only [Act.put, List.setIfInBounds_toArray, List.set_cons_zero, List.set_cons_succ]
      refine only_ 4 rfl (by kernel_rfl) (by rfl) (fun K hK => ?_)
      refine wp_store_u 29 _ _ rfl ga rfl rfl hHeld.u.hb hHeld.u.hc (by kernel_rfl) 29 hHeld.u ?_
      intro WZ4 HN HO HB
      refine hK.out _ _ (hHeld.setA HN.out HO.out HB.out) (fun hHeld2 => ?_)
      clear hK K hHeld HN HO HB
      have hHeld := hHeld2
      clear hHeld2
      try simp only [Act.put]
      refine only_ 5 rfl (by kernel_rfl) (by rfl) (fun K hK => ?_)
      refine wp_store_one 5 _ _ rfl gs rfl _ rfl rfl (by kernel_rfl) 5 _ hHeld.s ?_
      intro WZ5 HN HO HB
      refine hK.out _ _ (hHeld.setS HN.out HO.out HB.out) (fun hHeld2 => ?_)
      clear hK K hHeld HN HO HB
      have hHeld := hHeld2
      clear hHeld2
      try simp only [Act.put]
      refine only_ 6 rfl (by kernel_rfl) (by rfl) (fun K hK => ?_)
      refine wp_store_one 4 _ _ rfl gi rfl _ rfl rfl (by kernel_rfl) 4 _ hHeld.i ?_
      intro WZ6 HN HO HB
      refine hK.out _ _ (hHeld.setI HN.out HO.out HB.out) (fun hHeld2 => ?_)
      clear hK K hHeld HN HO HB
      have hHeld := hHeld2
      clear hHeld2
      try simp only [Act.put]
      refine only_ 7 rfl (by kernel_rfl) (by rfl) (fun K hK => ?_)
      refine wp_store_one 4 _ _ rfl gq rfl _ rfl rfl (by kernel_rfl) 4 _ hHeld.q ?_
      intro WZ7 HN HO HB
      refine hK.out _ _ (hHeld.setQ HN.out HO.out HB.out) (fun hHeld2 => ?_)
      clear hK K hHeld HN HO HB
      have hHeld := hHeld2
      clear hHeld2
      try simp only [Act.put]
      refine wpAnyH_done (by kernel_rfl) ?_ _
      refine NoPanic.normal ?_
      go_wp2
      exact bodyPost_ret (v := .tuple #[uv N p M q l c (k2 + 1), .int .u8 ((0 : Nat)), .bool false, .bool false]) (results_cccc Tryz.results35 _ _ _ _ _ _ _ _ _ _ rfl rfl rfl rfl (run_loadVar_u _ ga 29 _ Tryz.underlying29 (by kernel_rfl) 29 hHeld.u) (run_loadVar_one _ _ _ _ _ uU8 rfl (hHeld.s.cell 0 _ rfl)) (run_loadVar_one _ _ _ _ _ uBool rfl (hHeld.i.cell 0 _ rfl)) (run_loadVar_one _ _ _ _ _ uBool rfl (hHeld.q.cell 0 _ rfl))) rfl ⟨by first | (rw [HE.out, HE2.out.1, HE2.out.2.1, HE2.out.2.2]; done) | (rw [HE.out, HE2.out.1, HE2.out.2.1, HE2.out.2.2]; rfl), hHeld.b⟩
end Go.Proofs.YtkodoldkfeopdaaGreat.Ua
/- Ok -/
namespace Go.Proofs.YtkodoldkfeopdaaGreat.Ua
open Go.RowKit
set_option linter.unusedVariables false
set_option maxRecDepth 100000
theorem uart_ok : UartOk where
  mend := mendU_any
  peek := peekU_any
  read := readU_any
  write := writeU_any
  arrive := arriveU_any
  tick := tickU_any
end Go.Proofs.YtkodoldkfeopdaaGreat.Ua
