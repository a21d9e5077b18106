/-
  The document's Mend by its contract. Made by wip/genuartref.py.
-/
import Derived.Test.YtgpgijdciaieaaaTwo
namespace Go.Proofs.Ytgpgijdciaieaaa
open Go.RowKit
set_option linter.unusedVariables false
set_option maxRecDepth 100000 in
theorem rMendU_any : MendC 23 := by
  intro n bs m cs l c k w h
  have C1 := Lib.hid (fun W => rMend_any n bs W h.hb h.n0 h.n1)
  have C2 := Lib.hid (fun W => rMend_any m cs W h.hc h.m0 h.m1)
  have hRl := cutL_le n bs h.hb
  have hTl := cutL_le m cs h.hc
  generalize cutL n bs = R at *
  generalize cutL m cs = T at *
  obtain ⟨N, p, hN, hp, hp8, hN2, hE1⟩ := ofV_parts R hRl
  obtain ⟨M, q, hM, hq, hq8, hM2, hE2⟩ := ofV_parts T hTl
  unfold uq
  rw [hN, hp, hM, hq]
  rw [hE1] at C1
  rw [hE2] at C2
  have HM2 := Lib.hid hM2
  clear hN hp hM hq hE1 hE2 hN2 hM2 hRl
  unfold uv
  go_enter Try.func23, Try.ntmps23
  go_upto_region 1 with (fail)
  refine name_two (Q := fun X => Code.wp _ _ _ _ X) ?_
  intro W0 hq1 hq2 hB0
  have T0 := Lib.hid (Tw.new h.hb h.hc 46 hq1 hq2 hB0)
  clear hq1 hq2 hB0
  obtain ⟨g, hg⟩ : ∃ g, w.heap.size = g := ⟨_, rfl⟩
  obtain ⟨r, hr⟩ : ∃ r, w.heap.size + 1 = r := ⟨_, rfl⟩
  rw [hr, hg] at T0 ⊢
  clear hr hg
  go_upto_region 3 with (first
      | ((with_reducible show wpList _ _ _ (⟨none, .store 44 (.tmp 10) (.tmp 9), _, _, _, _⟩ :: _) _ _); refine wpList_store_tx rfl 44 _ _ rfl g (by exact rfl) (by exact rfl) (by assumption) (by kernel_rfl) 46 T3.out.q ?_; intro WT4 HN HO HB
         have T4 := Lib.hid (T3.out.setG HN.out HO.out HB.out)
         have ck := T4.out.q.c20
         have cm := T4.out.q.n9
         clear HN HO HB T3)
      | (go_at_call 32; refine (C2.out _).mono ?_; rintro e WT3 ⟨rfl, hB⟩
         have T3 := Lib.hid (T2.out.under hB)
         clear hB T2)
      | ((with_reducible show wpList _ _ _ (⟨some 8, .load 44 (.tmp 7), _, _, _, _⟩ :: _) _ _); refine wpList_load_q9 rfl 44 _ rfl g 9 (by exact rfl) _ Try.underlying44 (by kernel_rfl) T2.out.q.tx T2.out.q.hc ?_)
      | ((with_reducible show wpList _ _ _ (⟨none, .store 44 (.tmp 6) (.tmp 5), _, _, _, _⟩ :: _) _ _); refine wpList_store_rx rfl 44 _ _ rfl g (by exact rfl) (by exact rfl) (by assumption) (by kernel_rfl) 46 T1.out.q ?_; intro WT2 HN HO HB
         have T2 := Lib.hid (T1.out.setG HN.out HO.out HB.out)
         clear HN HO HB T1)
      | (go_at_call 32; refine (C1.out _).mono ?_; rintro e WT1 ⟨rfl, hB⟩
         have T1 := Lib.hid (T0.out.under hB)
         clear hB T0)
      | ((with_reducible show wpList _ _ _ (⟨some 4, .load 44 (.tmp 3), _, _, _, _⟩ :: _) _ _); refine wpList_load_q9 rfl 44 _ rfl g 0 (by exact rfl) _ Try.underlying44 (by kernel_rfl) T0.out.q.rx T0.out.q.hb ?_))
  by_cases h4 : 4 ≤ k
  · have d1 : (4 : Int) ≤ (k : Int) := by omega
    have HK : Hid (kM T k = 0) := Lib.hid (if_pos (.inl h4))
    clear h4 hTl
    go_wp2_with (first
      | ((with_reducible show wpList _ _ _ (⟨none, .store 46 (.tmp 2) (.tmp 21), _, _, _, _⟩ :: _) _ _); refine wpList_store_u rfl 46 _ _ rfl r (by exact rfl) (by exact rfl) T5.out.q.hb T5.out.q.hc (by kernel_rfl) 46 T5.out.z ?_; intro WZ HN HO HB
         have HZ := HN
         have BZ := Lib.hid (T5.out.b.trans (HB.out.mono T5.out.lr))
         clear HN HO HB)
      | ((with_reducible show wpList _ _ _ (⟨some 21, .load 46 (.tmp 1), _, _, _, _⟩ :: _) _ _); refine wpList_load_u (by rfl) 46 _ rfl g (by exact rfl) _ Try.underlying46 (by kernel_rfl) 46 T5.out.q ?_)
      | ((with_reducible show wpList _ _ _ (⟨none, .store 5 (.tmp 20) _, _, _, _, _⟩ :: _) _ _); refine wpList_store_j rfl 5 _ _ rfl g 20 (by exact rfl) (.int .u8 ((0 : Nat) : Int)) (by exact rfl) rfl (by kernel_rfl) 46 T4.out.q (by decide) (uc_set_k T4.out.q.hb T4.out.q.hc) T4.out.q.hb T4.out.q.hc ?_; intro WT5 HN HO HB
         have T5 := Lib.hid (T4.out.setG HN.out HO.out HB.out)
         clear HN HO HB T4))
    exact bodyPost_ret (v := uv N p (M) q l c (0)) (results_c Try.results23 _ _ _ _ _ rfl (run_loadVar_u WZ r 46 _ Try.underlying46 (by kernel_rfl) 46 HZ.out)) rfl ⟨by rw [HK.out]; rfl, BZ.out⟩
  · have d1 : ¬ (4 : Int) ≤ (k : Int) := by omega
    cases T with
    | nil =>
      have HK : Hid (kM [] k = 0) := Lib.hid (if_pos (.inr rfl))
      have d2 : M = 0 := by simpa using HM2.out
      clear h4 hTl HM2
      subst d2
      go_wp2_with (first
      | ((with_reducible show wpList _ _ _ (⟨none, .store 46 (.tmp 2) (.tmp 21), _, _, _, _⟩ :: _) _ _); refine wpList_store_u rfl 46 _ _ rfl r (by exact rfl) (by exact rfl) T5.out.q.hb T5.out.q.hc (by kernel_rfl) 46 T5.out.z ?_; intro WZ HN HO HB
         have HZ := HN
         have BZ := Lib.hid (T5.out.b.trans (HB.out.mono T5.out.lr))
         clear HN HO HB)
      | ((with_reducible show wpList _ _ _ (⟨some 21, .load 46 (.tmp 1), _, _, _, _⟩ :: _) _ _); refine wpList_load_u (by rfl) 46 _ rfl g (by exact rfl) _ Try.underlying46 (by kernel_rfl) 46 T5.out.q ?_)
      | ((with_reducible show wpList _ _ _ (⟨none, .store 5 (.tmp 20) _, _, _, _, _⟩ :: _) _ _); refine wpList_store_j rfl 5 _ _ rfl g 20 (by exact rfl) (.int .u8 ((0 : Nat) : Int)) (by exact rfl) rfl (by kernel_rfl) 46 T4.out.q (by decide) (uc_set_k T4.out.q.hb T4.out.q.hc) T4.out.q.hb T4.out.q.hc ?_; intro WT5 HN HO HB
         have T5 := Lib.hid (T4.out.setG HN.out HO.out HB.out)
         clear HN HO HB T4))
      exact bodyPost_ret (v := uv N p (0) q l c (0)) (results_c Try.results23 _ _ _ _ _ rfl (run_loadVar_u WZ r 46 _ Try.underlying46 (by kernel_rfl) 46 HZ.out)) rfl ⟨by rw [HK.out]; rfl, BZ.out⟩
    | cons x T =>
      have HK : Hid (kM (x :: T) k = k) := Lib.hid (if_neg (by rintro (h1 | h1); exact h4 h1; cases h1))
      have d2 : ¬ M = 0 := by rw [HM2.out]; simp; omega
      clear h4 hTl
      go_wp2_with (first
      | ((with_reducible show wpList _ _ _ (⟨none, .store 46 (.tmp 2) (.tmp 21), _, _, _, _⟩ :: _) _ _); refine wpList_store_u rfl 46 _ _ rfl r (by exact rfl) (by exact rfl) T4.out.q.hb T4.out.q.hc (by kernel_rfl) 46 T4.out.z ?_; intro WZ HN HO HB
         have HZ := HN
         have BZ := Lib.hid (T4.out.b.trans (HB.out.mono T4.out.lr))
         clear HN HO HB)
      | ((with_reducible show wpList _ _ _ (⟨some 21, .load 46 (.tmp 1), _, _, _, _⟩ :: _) _ _); refine wpList_load_u (by rfl) 46 _ rfl g (by exact rfl) _ Try.underlying46 (by kernel_rfl) 46 T4.out.q ?_))
      exact bodyPost_ret (v := uv N p (M) q l c (k)) (results_c Try.results23 _ _ _ _ _ rfl (run_loadVar_u WZ r 46 _ Try.underlying46 (by kernel_rfl) 46 HZ.out)) rfl ⟨by rw [HK.out]; rfl, BZ.out⟩
end Go.Proofs.Ytgpgijdciaieaaa
