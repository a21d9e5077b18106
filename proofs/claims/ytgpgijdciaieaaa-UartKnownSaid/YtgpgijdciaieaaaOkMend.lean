/-
  The program's Mend by its contract. Made by wip/genuartok.py.
-/
import Derived.Test.YtgpgijdciaieaaaTwo
namespace Go.Proofs.Ytgpgijdciaieaaa
open Go.RowKit
set_option linter.unusedVariables false
set_option maxHeartbeats 1000000 in
set_option maxRecDepth 100000 in
theorem mendU_any : MendC 9 := by
  intro n bs m cs l c k w h
  have C1 := Lib.hid (fun W => mend_any n bs W h.hb h.n0 h.n1)
  have C2 := Lib.hid (fun W => mend_any m cs W h.hc h.m0 h.m1)
  have hRl := cutL_le n bs h.hb
  have hTl := cutL_le m cs h.hc
  generalize cutL n bs = R at *
  generalize cutL m cs = T at *
  obtain ⟨N, p, hN, hp, hp8, hN2, hE1⟩ := ofV_parts R hRl
  obtain ⟨M, q, hM, hq, hq8, hM2, hE2⟩ := ofV_parts T hTl
  have HC : Hid ((M = 0 ∧ True ∧ kM T k = 0) ∨ (M ≠ 0 ∧ (4 : Int) ≤ (k : Int) ∧ kM T k = 0) ∨ (M ≠ 0 ∧ ¬ (4 : Int) ≤ (k : Int) ∧ kM T k = k)) := Lib.hid (by
    by_cases h0 : T = []
    · exact .inl ⟨by rw [hM2, h0]; rfl, trivial, if_pos (.inr h0)⟩
    · have h1 : M ≠ 0 := by
        have := List.length_pos_iff.2 h0
        omega
      by_cases h4 : 4 ≤ k
      · exact .inr (.inl ⟨h1, by omega, if_pos (.inl h4)⟩)
      · exact .inr (.inr ⟨h1, by omega, if_neg (by rintro (h2 | h2); exact h4 h2; exact h0 h2)⟩))
  unfold uq
  rw [hN, hp, hM, hq]
  rw [hE1] at C1
  rw [hE2] at C2
  clear hN hp hM hq hE1 hE2 hN2 hM2 hRl hTl
  unfold uv
  go_enter Try.func9, Try.ntmps9
  go_upto_region 1 with (fail)
  refine name_two (Q := fun X => Code.wp _ _ _ _ X) ?_
  intro W0 hq1 hq2 hB0
  have T0 := Lib.hid (Tw.new h.hb h.hc 26 hq1 hq2 hB0)
  clear hq1 hq2 hB0
  obtain ⟨g, hg⟩ : ∃ g, w.heap.size = g := ⟨_, rfl⟩
  obtain ⟨r, hr⟩ : ∃ r, w.heap.size + 1 = r := ⟨_, rfl⟩
  rw [hr, hg] at T0 ⊢
  clear hr hg
  refine wp_region_noPanic ?_
  refine wp_region_held_drew (S := fun X => Below w.heap.size w X) (by kernel_rfl) (T0.out.b.drew) (fun hHeld => ?_)
  have S0 := Lib.hid (T0.out.under ((Below.refl _ _).drew))
  clear T0
  obtain ⟨Y0, hY0⟩ : ∃ Y, W0.drew = Y := ⟨_, rfl⟩
  rw [hY0] at hHeld S0 ⊢
  clear hY0
  refine' take_ 0 rfl (by kernel_rfl) (by kernel_rfl) (by kernel_rfl) (fun _ _ _ h => h) (by rfl) (fun wS hSw => ?_) hHeld ?_
  rotate_left
  focus (go_simp; (try with_reducible rfl); done)
  try simp only [Act.put, List.setIfInBounds_toArray, List.set_cons_zero, List.set_cons_succ]
  refine' take_ 3 rfl (by kernel_rfl) (by kernel_rfl) (by kernel_rfl) (fun _ _ _ h => h) (by rfl) (fun wS hSw => ?_) hHeld ?_
  rotate_left
  focus (go_simp; (try with_reducible rfl); done)
  try simp only [Act.put, List.setIfInBounds_toArray, List.set_cons_zero, List.set_cons_succ]
  refine both_ 1 4 rfl rfl (by kernel_rfl) (by rfl) (by rfl) (fun K hK => ?_) (fun K hK => ?_)
  · refine wp_of_run (qv n bs) (run_load_q9 Y0 24 (.tmp 3) g 0 rfl _ Try.underlying24 (by kernel_rfl) S0.out.q.rx S0.out.q.hb _ _ _ _ _) (hK.out _ _ hHeld (fun hHeld2 => ?_))
    clear hK K hHeld
    have hHeld := hHeld2
    clear hHeld2
    try simp only [Act.put, List.setIfInBounds_toArray, List.set_cons_zero, List.set_cons_succ]
    refine both_ 2 4 rfl rfl (by kernel_rfl) (by rfl) (by rfl) (fun K hK => ?_) (fun K hK => ?_)
    · go_simp
      with_reducible refine (C1.out _).mono ?_
      rintro e Y1 ⟨rfl, hB⟩
      have S1 := Lib.hid (S0.out.under hB)
      go_simp
      refine hK.out _ _ (S1.out.b) (fun hHeld2 => ?_)
      clear hK K hHeld
      have hHeld := hHeld2
      clear hHeld2
      clear hB S0
      try simp only [Act.put, List.setIfInBounds_toArray, List.set_cons_zero, List.set_cons_succ]
      refine only_ 4 rfl (by kernel_rfl) (by rfl) (fun K hK => ?_)
      refine wp_of_run (qv m cs) (run_load_q9 Y1 24 (.tmp 6) g 9 rfl _ Try.underlying24 (by kernel_rfl) S1.out.q.tx S1.out.q.hc _ _ _ _ _) (hK.out _ _ hHeld (fun hHeld2 => ?_))
      clear hK K hHeld
      have hHeld := hHeld2
      clear hHeld2
      try simp only [Act.put, List.setIfInBounds_toArray, List.set_cons_zero, List.set_cons_succ]
      refine' take_ 6 rfl (by kernel_rfl) (by kernel_rfl) (by kernel_rfl) (fun _ _ _ h => h) (by rfl) (fun wS hSw => ?_) hHeld ?_
      rotate_left
      focus (go_simp; (try with_reducible rfl); done)
      try simp only [Act.put, List.setIfInBounds_toArray, List.set_cons_zero, List.set_cons_succ]
      refine only_ 5 rfl (by kernel_rfl) (by rfl) (fun K hK => ?_)
      go_simp
      with_reducible refine (C2.out _).mono ?_
      rintro e Y2 ⟨rfl, hB⟩
      have S2 := Lib.hid (S1.out.under hB)
      go_simp
      refine hK.out _ _ (S2.out.b) (fun hHeld2 => ?_)
      clear hK K hHeld
      have hHeld := hHeld2
      clear hHeld2
      clear hB S1
      try simp only [Act.put, List.setIfInBounds_toArray, List.set_cons_zero, List.set_cons_succ]
      refine only_ 7 rfl (by kernel_rfl) (by rfl) (fun K hK => ?_)
      refine wp_store_rx 24 _ _ rfl g rfl rfl (by assumption) (by kernel_rfl) 26 S2.out.q ?_
      intro Y3 HN HO HB
      have S3 := Lib.hid (S2.out.setG HN.out HO.out HB.out)
      refine hK.out _ _ (S3.out.b) (fun hHeld2 => ?_)
      clear hK K hHeld
      have hHeld := hHeld2
      clear hHeld2
      clear HN HO HB S2
      try simp only [Act.put]
      refine' take_ 8 rfl (by kernel_rfl) (by kernel_rfl) (by kernel_rfl) (fun _ _ _ h => h) (by rfl) (fun wS hSw => ?_) hHeld ?_
      rotate_left
      focus (go_simp; (try with_reducible rfl); done)
      try simp only [Act.put, List.setIfInBounds_toArray, List.set_cons_zero, List.set_cons_succ]
      refine only_ 9 rfl (by kernel_rfl) (by rfl) (fun K hK => ?_)
      refine wp_store_tx 24 _ _ rfl g rfl rfl (by assumption) (by kernel_rfl) 26 S3.out.q ?_
      intro Y4 HN HO HB
      have S4 := Lib.hid (S3.out.setG HN.out HO.out HB.out)
      refine hK.out _ _ (S4.out.b) (fun hHeld2 => ?_)
      clear hK K hHeld
      have hHeld := hHeld2
      clear hHeld2
      clear HN HO HB S3
      try simp only [Act.put]
      refine wpAnyH_done (by kernel_rfl) ?_ _
      refine NoPanic.normal ?_
      clear hHeld
      have ck := S4.out.q.c20
      have cm := S4.out.q.n9
      rcases HC.out with ⟨e1, e2, e3⟩ | ⟨e1, e2, e3⟩ | ⟨e1, e2, e3⟩
      · have HK := Lib.hid e3
        subst e1
        clear e2 e3
        go_wp2_with (first
          | ((with_reducible show wpList _ _ _ (⟨none, .store 26 (.tmp 2) (.tmp 21), _, _, _, _⟩ :: _) _ _); refine wpList_store_u rfl 26 _ _ rfl r (by exact rfl) (by exact rfl) T1.out.q.hb T1.out.q.hc (by kernel_rfl) 26 T1.out.z ?_; intro WZ HN HO HB
             have HZ := HN
             have BZ := Lib.hid (T1.out.b.trans (HB.out.mono T1.out.lr))
             clear HN HO HB)
          | ((with_reducible show wpList _ _ _ (⟨some 21, .load 26 (.tmp 1), _, _, _, _⟩ :: _) _ _); refine wpList_load_u (by rfl) 26 _ rfl g (by exact rfl) _ Try.underlying26 (by kernel_rfl) 26 T1.out.q ?_)
          | ((with_reducible show wpList _ _ _ (⟨none, .store 5 (.tmp 20) _, _, _, _, _⟩ :: _) _ _); refine wpList_store_j rfl 5 _ _ rfl g 20 (by exact rfl) (.int .u8 ((0 : Nat) : Int)) (by exact rfl) rfl (by kernel_rfl) 26 S4.out.q (by decide) (uc_set_k S4.out.q.hb S4.out.q.hc) S4.out.q.hb S4.out.q.hc ?_; intro WT1 HN HO HB
             have T1 := Lib.hid (S4.out.setG HN.out HO.out HB.out)
             clear HN HO HB S4))
        exact bodyPost_ret (v := uv N p (0) q l c (0)) (results_c Try.results9 _ _ _ _ _ rfl (run_loadVar_u WZ r 26 _ Try.underlying26 (by kernel_rfl) 26 HZ.out)) rfl ⟨by rw [HK.out]; rfl, BZ.out⟩
      · have HK := Lib.hid e3
        clear e3
        go_wp2_with (first
          | ((with_reducible show wpList _ _ _ (⟨none, .store 26 (.tmp 2) (.tmp 21), _, _, _, _⟩ :: _) _ _); refine wpList_store_u rfl 26 _ _ rfl r (by exact rfl) (by exact rfl) T1.out.q.hb T1.out.q.hc (by kernel_rfl) 26 T1.out.z ?_; intro WZ HN HO HB
             have HZ := HN
             have BZ := Lib.hid (T1.out.b.trans (HB.out.mono T1.out.lr))
             clear HN HO HB)
          | ((with_reducible show wpList _ _ _ (⟨some 21, .load 26 (.tmp 1), _, _, _, _⟩ :: _) _ _); refine wpList_load_u (by rfl) 26 _ rfl g (by exact rfl) _ Try.underlying26 (by kernel_rfl) 26 T1.out.q ?_)
          | ((with_reducible show wpList _ _ _ (⟨none, .store 5 (.tmp 20) _, _, _, _, _⟩ :: _) _ _); refine wpList_store_j rfl 5 _ _ rfl g 20 (by exact rfl) (.int .u8 ((0 : Nat) : Int)) (by exact rfl) rfl (by kernel_rfl) 26 S4.out.q (by decide) (uc_set_k S4.out.q.hb S4.out.q.hc) S4.out.q.hb S4.out.q.hc ?_; intro WT1 HN HO HB
             have T1 := Lib.hid (S4.out.setG HN.out HO.out HB.out)
             clear HN HO HB S4))
        exact bodyPost_ret (v := uv N p (M) q l c (0)) (results_c Try.results9 _ _ _ _ _ rfl (run_loadVar_u WZ r 26 _ Try.underlying26 (by kernel_rfl) 26 HZ.out)) rfl ⟨by rw [HK.out]; rfl, BZ.out⟩
      · have HK := Lib.hid e3
        clear e3
        go_wp2_with (first
          | ((with_reducible show wpList _ _ _ (⟨none, .store 26 (.tmp 2) (.tmp 21), _, _, _, _⟩ :: _) _ _); refine wpList_store_u rfl 26 _ _ rfl r (by exact rfl) (by exact rfl) S4.out.q.hb S4.out.q.hc (by kernel_rfl) 26 S4.out.z ?_; intro WZ HN HO HB
             have HZ := HN
             have BZ := Lib.hid (S4.out.b.trans (HB.out.mono S4.out.lr))
             clear HN HO HB)
          | ((with_reducible show wpList _ _ _ (⟨some 21, .load 26 (.tmp 1), _, _, _, _⟩ :: _) _ _); refine wpList_load_u (by rfl) 26 _ rfl g (by exact rfl) _ Try.underlying26 (by kernel_rfl) 26 S4.out.q ?_))
        exact bodyPost_ret (v := uv N p (M) q l c (k)) (results_c Try.results9 _ _ _ _ _ rfl (run_loadVar_u WZ r 26 _ Try.underlying26 (by kernel_rfl) 26 HZ.out)) rfl ⟨by rw [HK.out]; rfl, BZ.out⟩
    · refine wp_of_run (qv m cs) (run_load_q9 Y0 24 (.tmp 6) g 9 rfl _ Try.underlying24 (by kernel_rfl) S0.out.q.tx S0.out.q.hc _ _ _ _ _) (hK.out _ _ hHeld (fun hHeld2 => ?_))
      clear hK K hHeld
      have hHeld := hHeld2
      clear hHeld2
      try simp only [Act.put, List.setIfInBounds_toArray, List.set_cons_zero, List.set_cons_succ]
      refine only_ 2 rfl (by kernel_rfl) (by rfl) (fun K hK => ?_)
      go_simp
      with_reducible refine (C1.out _).mono ?_
      rintro e Y1 ⟨rfl, hB⟩
      have S1 := Lib.hid (S0.out.under hB)
      go_simp
      refine hK.out _ _ (S1.out.b) (fun hHeld2 => ?_)
      clear hK K hHeld
      have hHeld := hHeld2
      clear hHeld2
      clear hB S0
      try simp only [Act.put, List.setIfInBounds_toArray, List.set_cons_zero, List.set_cons_succ]
      refine' take_ 6 rfl (by kernel_rfl) (by kernel_rfl) (by kernel_rfl) (fun _ _ _ h => h) (by rfl) (fun wS hSw => ?_) hHeld ?_
      rotate_left
      focus (go_simp; (try with_reducible rfl); done)
      try simp only [Act.put, List.setIfInBounds_toArray, List.set_cons_zero, List.set_cons_succ]
      refine only_ 5 rfl (by kernel_rfl) (by rfl) (fun K hK => ?_)
      go_simp
      with_reducible refine (C2.out _).mono ?_
      rintro e Y2 ⟨rfl, hB⟩
      have S2 := Lib.hid (S1.out.under hB)
      go_simp
      refine hK.out _ _ (S2.out.b) (fun hHeld2 => ?_)
      clear hK K hHeld
      have hHeld := hHeld2
      clear hHeld2
      clear hB S1
      try simp only [Act.put, List.setIfInBounds_toArray, List.set_cons_zero, List.set_cons_succ]
      refine only_ 7 rfl (by kernel_rfl) (by rfl) (fun K hK => ?_)
      refine wp_store_rx 24 _ _ rfl g rfl rfl (by assumption) (by kernel_rfl) 26 S2.out.q ?_
      intro Y3 HN HO HB
      have S3 := Lib.hid (S2.out.setG HN.out HO.out HB.out)
      refine hK.out _ _ (S3.out.b) (fun hHeld2 => ?_)
      clear hK K hHeld
      have hHeld := hHeld2
      clear hHeld2
      clear HN HO HB S2
      try simp only [Act.put]
      refine' take_ 8 rfl (by kernel_rfl) (by kernel_rfl) (by kernel_rfl) (fun _ _ _ h => h) (by rfl) (fun wS hSw => ?_) hHeld ?_
      rotate_left
      focus (go_simp; (try with_reducible rfl); done)
      try simp only [Act.put, List.setIfInBounds_toArray, List.set_cons_zero, List.set_cons_succ]
      refine only_ 9 rfl (by kernel_rfl) (by rfl) (fun K hK => ?_)
      refine wp_store_tx 24 _ _ rfl g rfl rfl (by assumption) (by kernel_rfl) 26 S3.out.q ?_
      intro Y4 HN HO HB
      have S4 := Lib.hid (S3.out.setG HN.out HO.out HB.out)
      refine hK.out _ _ (S4.out.b) (fun hHeld2 => ?_)
      clear hK K hHeld
      have hHeld := hHeld2
      clear hHeld2
      clear HN HO HB S3
      try simp only [Act.put]
      refine wpAnyH_done (by kernel_rfl) ?_ _
      refine NoPanic.normal ?_
      clear hHeld
      have ck := S4.out.q.c20
      have cm := S4.out.q.n9
      rcases HC.out with ⟨e1, e2, e3⟩ | ⟨e1, e2, e3⟩ | ⟨e1, e2, e3⟩
      · have HK := Lib.hid e3
        subst e1
        clear e2 e3
        go_wp2_with (first
          | ((with_reducible show wpList _ _ _ (⟨none, .store 26 (.tmp 2) (.tmp 21), _, _, _, _⟩ :: _) _ _); refine wpList_store_u rfl 26 _ _ rfl r (by exact rfl) (by exact rfl) T1.out.q.hb T1.out.q.hc (by kernel_rfl) 26 T1.out.z ?_; intro WZ HN HO HB
             have HZ := HN
             have BZ := Lib.hid (T1.out.b.trans (HB.out.mono T1.out.lr))
             clear HN HO HB)
          | ((with_reducible show wpList _ _ _ (⟨some 21, .load 26 (.tmp 1), _, _, _, _⟩ :: _) _ _); refine wpList_load_u (by rfl) 26 _ rfl g (by exact rfl) _ Try.underlying26 (by kernel_rfl) 26 T1.out.q ?_)
          | ((with_reducible show wpList _ _ _ (⟨none, .store 5 (.tmp 20) _, _, _, _, _⟩ :: _) _ _); refine wpList_store_j rfl 5 _ _ rfl g 20 (by exact rfl) (.int .u8 ((0 : Nat) : Int)) (by exact rfl) rfl (by kernel_rfl) 26 S4.out.q (by decide) (uc_set_k S4.out.q.hb S4.out.q.hc) S4.out.q.hb S4.out.q.hc ?_; intro WT1 HN HO HB
             have T1 := Lib.hid (S4.out.setG HN.out HO.out HB.out)
             clear HN HO HB S4))
        exact bodyPost_ret (v := uv N p (0) q l c (0)) (results_c Try.results9 _ _ _ _ _ rfl (run_loadVar_u WZ r 26 _ Try.underlying26 (by kernel_rfl) 26 HZ.out)) rfl ⟨by rw [HK.out]; rfl, BZ.out⟩
      · have HK := Lib.hid e3
        clear e3
        go_wp2_with (first
          | ((with_reducible show wpList _ _ _ (⟨none, .store 26 (.tmp 2) (.tmp 21), _, _, _, _⟩ :: _) _ _); refine wpList_store_u rfl 26 _ _ rfl r (by exact rfl) (by exact rfl) T1.out.q.hb T1.out.q.hc (by kernel_rfl) 26 T1.out.z ?_; intro WZ HN HO HB
             have HZ := HN
             have BZ := Lib.hid (T1.out.b.trans (HB.out.mono T1.out.lr))
             clear HN HO HB)
          | ((with_reducible show wpList _ _ _ (⟨some 21, .load 26 (.tmp 1), _, _, _, _⟩ :: _) _ _); refine wpList_load_u (by rfl) 26 _ rfl g (by exact rfl) _ Try.underlying26 (by kernel_rfl) 26 T1.out.q ?_)
          | ((with_reducible show wpList _ _ _ (⟨none, .store 5 (.tmp 20) _, _, _, _, _⟩ :: _) _ _); refine wpList_store_j rfl 5 _ _ rfl g 20 (by exact rfl) (.int .u8 ((0 : Nat) : Int)) (by exact rfl) rfl (by kernel_rfl) 26 S4.out.q (by decide) (uc_set_k S4.out.q.hb S4.out.q.hc) S4.out.q.hb S4.out.q.hc ?_; intro WT1 HN HO HB
             have T1 := Lib.hid (S4.out.setG HN.out HO.out HB.out)
             clear HN HO HB S4))
        exact bodyPost_ret (v := uv N p (M) q l c (0)) (results_c Try.results9 _ _ _ _ _ rfl (run_loadVar_u WZ r 26 _ Try.underlying26 (by kernel_rfl) 26 HZ.out)) rfl ⟨by rw [HK.out]; rfl, BZ.out⟩
      · have HK := Lib.hid e3
        clear e3
        go_wp2_with (first
          | ((with_reducible show wpList _ _ _ (⟨none, .store 26 (.tmp 2) (.tmp 21), _, _, _, _⟩ :: _) _ _); refine wpList_store_u rfl 26 _ _ rfl r (by exact rfl) (by exact rfl) S4.out.q.hb S4.out.q.hc (by kernel_rfl) 26 S4.out.z ?_; intro WZ HN HO HB
             have HZ := HN
             have BZ := Lib.hid (S4.out.b.trans (HB.out.mono S4.out.lr))
             clear HN HO HB)
          | ((with_reducible show wpList _ _ _ (⟨some 21, .load 26 (.tmp 1), _, _, _, _⟩ :: _) _ _); refine wpList_load_u (by rfl) 26 _ rfl g (by exact rfl) _ Try.underlying26 (by kernel_rfl) 26 S4.out.q ?_))
        exact bodyPost_ret (v := uv N p (M) q l c (k)) (results_c Try.results9 _ _ _ _ _ rfl (run_loadVar_u WZ r 26 _ Try.underlying26 (by kernel_rfl) 26 HZ.out)) rfl ⟨by rw [HK.out]; rfl, BZ.out⟩
  · refine wp_of_run (qv m cs) (run_load_q9 Y0 24 (.tmp 6) g 9 rfl _ Try.underlying24 (by kernel_rfl) S0.out.q.tx S0.out.q.hc _ _ _ _ _) (hK.out _ _ hHeld (fun hHeld2 => ?_))
    clear hK K hHeld
    have hHeld := hHeld2
    clear hHeld2
    try simp only [Act.put, List.setIfInBounds_toArray, List.set_cons_zero, List.set_cons_succ]
    refine only_ 1 rfl (by kernel_rfl) (by rfl) (fun K hK => ?_)
    refine wp_of_run (qv n bs) (run_load_q9 Y0 24 (.tmp 3) g 0 rfl _ Try.underlying24 (by kernel_rfl) S0.out.q.rx S0.out.q.hb _ _ _ _ _) (hK.out _ _ hHeld (fun hHeld2 => ?_))
    clear hK K hHeld
    have hHeld := hHeld2
    clear hHeld2
    try simp only [Act.put, List.setIfInBounds_toArray, List.set_cons_zero, List.set_cons_succ]
    refine only_ 2 rfl (by kernel_rfl) (by rfl) (fun K hK => ?_)
    go_simp
    with_reducible refine (C1.out _).mono ?_
    rintro e Y1 ⟨rfl, hB⟩
    have S1 := Lib.hid (S0.out.under hB)
    go_simp
    refine hK.out _ _ (S1.out.b) (fun hHeld2 => ?_)
    clear hK K hHeld
    have hHeld := hHeld2
    clear hHeld2
    clear hB S0
    try simp only [Act.put, List.setIfInBounds_toArray, List.set_cons_zero, List.set_cons_succ]
    refine' take_ 6 rfl (by kernel_rfl) (by kernel_rfl) (by kernel_rfl) (fun _ _ _ h => h) (by rfl) (fun wS hSw => ?_) hHeld ?_
    rotate_left
    focus (go_simp; (try with_reducible rfl); done)
    try simp only [Act.put, List.setIfInBounds_toArray, List.set_cons_zero, List.set_cons_succ]
    refine only_ 5 rfl (by kernel_rfl) (by rfl) (fun K hK => ?_)
    go_simp
    with_reducible refine (C2.out _).mono ?_
    rintro e Y2 ⟨rfl, hB⟩
    have S2 := Lib.hid (S1.out.under hB)
    go_simp
    refine hK.out _ _ (S2.out.b) (fun hHeld2 => ?_)
    clear hK K hHeld
    have hHeld := hHeld2
    clear hHeld2
    clear hB S1
    try simp only [Act.put, List.setIfInBounds_toArray, List.set_cons_zero, List.set_cons_succ]
    refine only_ 7 rfl (by kernel_rfl) (by rfl) (fun K hK => ?_)
    refine wp_store_rx 24 _ _ rfl g rfl rfl (by assumption) (by kernel_rfl) 26 S2.out.q ?_
    intro Y3 HN HO HB
    have S3 := Lib.hid (S2.out.setG HN.out HO.out HB.out)
    refine hK.out _ _ (S3.out.b) (fun hHeld2 => ?_)
    clear hK K hHeld
    have hHeld := hHeld2
    clear hHeld2
    clear HN HO HB S2
    try simp only [Act.put]
    refine' take_ 8 rfl (by kernel_rfl) (by kernel_rfl) (by kernel_rfl) (fun _ _ _ h => h) (by rfl) (fun wS hSw => ?_) hHeld ?_
    rotate_left
    focus (go_simp; (try with_reducible rfl); done)
    try simp only [Act.put, List.setIfInBounds_toArray, List.set_cons_zero, List.set_cons_succ]
    refine only_ 9 rfl (by kernel_rfl) (by rfl) (fun K hK => ?_)
    refine wp_store_tx 24 _ _ rfl g rfl rfl (by assumption) (by kernel_rfl) 26 S3.out.q ?_
    intro Y4 HN HO HB
    have S4 := Lib.hid (S3.out.setG HN.out HO.out HB.out)
    refine hK.out _ _ (S4.out.b) (fun hHeld2 => ?_)
    clear hK K hHeld
    have hHeld := hHeld2
    clear hHeld2
    clear HN HO HB S3
    try simp only [Act.put]
    refine wpAnyH_done (by kernel_rfl) ?_ _
    refine NoPanic.normal ?_
    clear hHeld
    have ck := S4.out.q.c20
    have cm := S4.out.q.n9
    rcases HC.out with ⟨e1, e2, e3⟩ | ⟨e1, e2, e3⟩ | ⟨e1, e2, e3⟩
    · have HK := Lib.hid e3
      subst e1
      clear e2 e3
      go_wp2_with (first
        | ((with_reducible show wpList _ _ _ (⟨none, .store 26 (.tmp 2) (.tmp 21), _, _, _, _⟩ :: _) _ _); refine wpList_store_u rfl 26 _ _ rfl r (by exact rfl) (by exact rfl) T1.out.q.hb T1.out.q.hc (by kernel_rfl) 26 T1.out.z ?_; intro WZ HN HO HB
           have HZ := HN
           have BZ := Lib.hid (T1.out.b.trans (HB.out.mono T1.out.lr))
           clear HN HO HB)
        | ((with_reducible show wpList _ _ _ (⟨some 21, .load 26 (.tmp 1), _, _, _, _⟩ :: _) _ _); refine wpList_load_u (by rfl) 26 _ rfl g (by exact rfl) _ Try.underlying26 (by kernel_rfl) 26 T1.out.q ?_)
        | ((with_reducible show wpList _ _ _ (⟨none, .store 5 (.tmp 20) _, _, _, _, _⟩ :: _) _ _); refine wpList_store_j rfl 5 _ _ rfl g 20 (by exact rfl) (.int .u8 ((0 : Nat) : Int)) (by exact rfl) rfl (by kernel_rfl) 26 S4.out.q (by decide) (uc_set_k S4.out.q.hb S4.out.q.hc) S4.out.q.hb S4.out.q.hc ?_; intro WT1 HN HO HB
           have T1 := Lib.hid (S4.out.setG HN.out HO.out HB.out)
           clear HN HO HB S4))
      exact bodyPost_ret (v := uv N p (0) q l c (0)) (results_c Try.results9 _ _ _ _ _ rfl (run_loadVar_u WZ r 26 _ Try.underlying26 (by kernel_rfl) 26 HZ.out)) rfl ⟨by rw [HK.out]; rfl, BZ.out⟩
    · have HK := Lib.hid e3
      clear e3
      go_wp2_with (first
        | ((with_reducible show wpList _ _ _ (⟨none, .store 26 (.tmp 2) (.tmp 21), _, _, _, _⟩ :: _) _ _); refine wpList_store_u rfl 26 _ _ rfl r (by exact rfl) (by exact rfl) T1.out.q.hb T1.out.q.hc (by kernel_rfl) 26 T1.out.z ?_; intro WZ HN HO HB
           have HZ := HN
           have BZ := Lib.hid (T1.out.b.trans (HB.out.mono T1.out.lr))
           clear HN HO HB)
        | ((with_reducible show wpList _ _ _ (⟨some 21, .load 26 (.tmp 1), _, _, _, _⟩ :: _) _ _); refine wpList_load_u (by rfl) 26 _ rfl g (by exact rfl) _ Try.underlying26 (by kernel_rfl) 26 T1.out.q ?_)
        | ((with_reducible show wpList _ _ _ (⟨none, .store 5 (.tmp 20) _, _, _, _, _⟩ :: _) _ _); refine wpList_store_j rfl 5 _ _ rfl g 20 (by exact rfl) (.int .u8 ((0 : Nat) : Int)) (by exact rfl) rfl (by kernel_rfl) 26 S4.out.q (by decide) (uc_set_k S4.out.q.hb S4.out.q.hc) S4.out.q.hb S4.out.q.hc ?_; intro WT1 HN HO HB
           have T1 := Lib.hid (S4.out.setG HN.out HO.out HB.out)
           clear HN HO HB S4))
      exact bodyPost_ret (v := uv N p (M) q l c (0)) (results_c Try.results9 _ _ _ _ _ rfl (run_loadVar_u WZ r 26 _ Try.underlying26 (by kernel_rfl) 26 HZ.out)) rfl ⟨by rw [HK.out]; rfl, BZ.out⟩
    · have HK := Lib.hid e3
      clear e3
      go_wp2_with (first
        | ((with_reducible show wpList _ _ _ (⟨none, .store 26 (.tmp 2) (.tmp 21), _, _, _, _⟩ :: _) _ _); refine wpList_store_u rfl 26 _ _ rfl r (by exact rfl) (by exact rfl) S4.out.q.hb S4.out.q.hc (by kernel_rfl) 26 S4.out.z ?_; intro WZ HN HO HB
           have HZ := HN
           have BZ := Lib.hid (S4.out.b.trans (HB.out.mono S4.out.lr))
           clear HN HO HB)
        | ((with_reducible show wpList _ _ _ (⟨some 21, .load 26 (.tmp 1), _, _, _, _⟩ :: _) _ _); refine wpList_load_u (by rfl) 26 _ rfl g (by exact rfl) _ Try.underlying26 (by kernel_rfl) 26 S4.out.q ?_))
      exact bodyPost_ret (v := uv N p (M) q l c (k)) (results_c Try.results9 _ _ _ _ _ rfl (run_loadVar_u WZ r 26 _ Try.underlying26 (by kernel_rfl) 26 HZ.out)) rfl ⟨by rw [HK.out]; rfl, BZ.out⟩
end Go.Proofs.Ytgpgijdciaieaaa
