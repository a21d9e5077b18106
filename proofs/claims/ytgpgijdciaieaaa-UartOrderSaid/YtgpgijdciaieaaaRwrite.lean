/-
  The document's Write by its contract. Made by wip/genuartref.py.
-/
import Derived.Test.YtgpgijdciaieaaaRread
namespace Go.Proofs.Ytgpgijdciaieaaa
open Go.RowKit
set_option linter.unusedVariables false
set_option maxHeartbeats 400000 in
set_option maxRecDepth 100000 in
theorem rWriteU_any : WriteC 22 := by
  intro n bs m cs l c k reg v w h hg0 hg1 hv0 hv1
  have C1 := Lib.hid (fun W => rMendU_any n bs m cs l c k W h)
  have hRl := cutL_le n bs h.hb
  have hTl := cutL_le m cs h.hc
  have hlR : ∀ x ∈ cutL n bs, x < 256 := cutL_lt h.lb
  have hlT : ∀ x ∈ cutL m cs, x < 256 := cutL_lt h.lc
  have hc8 := h.c8
  generalize cutL n bs = R at *
  generalize cutL m cs = T at *
  have hk4 := kM_lt T k
  have hk0 : T = [] → kM T k = 0 := fun h => by rw [h, kM_nil]
  generalize hkk : kM T k = k2 at *
  clear hkk
  obtain ⟨N, p, hN, hp, hp8, hN2, hE1⟩ := ofV_parts R hRl
  obtain ⟨M, q, hM, hq, hq8, hM2, hE2⟩ := ofV_parts T hTl
  have HC1 : Hid (∀ W : World, Calls Try.prog 23 #[uv n bs m cs l c k] W fun x w' => x = .returned (uv N p M q l c k2) ∧ Below W.heap.size W w') := Lib.hid (fun W => by
    have h1 := C1.out W
    unfold uq at h1
    rw [hN, hp, hM, hq] at h1
    exact h1)
  have HM2 := Lib.hid hM2
  have HN2 := Lib.hid hN2
  have HIN := Lib.hid (mended_in (c := c) hRl hTl hN hp hM hq hlR hlT hc8 hk4)
  have HKK : Hid (kM T k2 = k2) := Lib.hid (by by_cases h0 : T = []; (· rw [h0, kM_nil, hk0 h0]); (· exact if_neg (by rintro (h1 | h1); omega; exact h0 h1)))
  clear C1
  have HC2 : Hid (∀ W : World, Calls Try.prog 31 #[qv M q, .int .u8 (lowN v : Nat)] W fun x w' => x = .returned (pushV T (lowN v)) ∧ Below W.heap.size W w') := Lib.hid (fun W => by
    have h1 := rPush_any M q (lowN v) W hq8 HIN.out.1.m0 HIN.out.1.m1
    rw [HIN.out.2.2] at h1
    exact h1)
  have HW : Hid (v % 256 = ((lowN v : Nat) : Int)) := Lib.hid (lowN_cast v).symm
  have HUR : Hid (∀ (T' : List Nat) (l' : Bool) (c' k' : Nat), uq R T' l' c' k' = uv N p ((min T'.length 8 : Nat) : Int) (pad T') l' c' k') := Lib.hid (fun T' l' c' k' => by unfold uq; rw [hN, hp])
  have HU : Hid (∀ c', uq R T l c' k2 = uv N p M q l c' k2) := Lib.hid (fun c' => by rw [HUR.out, hM, hq])
  have HE2 := Lib.hid hE2
  clear hN hp hE1 hN2 hlR hlT hRl hM hq hE2 hM2
  unfold uv
  go_enter Try.func22, Try.ntmps22
  go_upto_region 1 with (fail)
  refine name_two (Q := fun X => Code.wp _ _ _ _ X) ?_
  intro W0 hq1 hq2 hB0
  have T0 := Lib.hid (Tw.new h.hb h.hc 46 hq1 hq2 hB0)
  clear hq1 hq2 hB0
  obtain ⟨g, hg⟩ : ∃ g, w.heap.size = g := ⟨_, rfl⟩
  obtain ⟨r, hr⟩ : ∃ r, w.heap.size + 1 = r := ⟨_, rfl⟩
  rw [hr, hg] at T0 ⊢
  clear hr hg
  go_upto_region 2 with (first
      | ((with_reducible show wpList _ _ _ (⟨none, .store 46 (.tmp 3) (.tmp 8), _, _, _, _⟩ :: _) _ _); refine wpList_store_u rfl 46 _ _ rfl g (by exact rfl) (by exact rfl) (by assumption) (by assumption) (by kernel_rfl) 46 T1.out.q ?_; intro WT2 HN HO HB
         have T2 := Lib.hid (T1.out.setG HN.out HO.out HB.out)
         clear HN HO HB T1)
      | (go_at_call 23; refine (HC1.out _).mono ?_; rintro e WT1 ⟨rfl, hB⟩
         have T1 := Lib.hid (T0.out.under hB)
         clear hB T0)
      | ((with_reducible show wpList _ _ _ (⟨some 7, .load 46 (.tmp 3), _, _, _, _⟩ :: _) _ _); refine wpList_load_u (by rfl) 46 _ rfl g (by exact rfl) _ Try.underlying46 (by kernel_rfl) 46 T0.out.q ?_))
  by_cases h3 : reg = 3
  · subst h3
    by_cases h8 : T.length = 8
    · have HE : Hid (uq R (writeT T 3 v) l (writeC c 3 v) k2 = uv N p M q l c k2) := Lib.hid (by rw [show writeT T 3 v = addL T (lowN v) from if_pos rfl, show addL T (lowN v) = T from if_neg (by omega), show writeC c 3 v = c from if_neg (by decide), HU.out])
      rw [pushV_full h8, HE2.out] at HC2
      clear hTl h8
      go_wp2_with (first
      | ((with_reducible show wpList _ _ _ (⟨none, .store 46 (.tmp 6) (.tmp 25), _, _, _, _⟩ :: _) _ _); refine wpList_store_u rfl 46 _ _ rfl r (by exact rfl) (by exact rfl) T4.out.q.hb T4.out.q.hc (by kernel_rfl) 46 T4.out.z ?_; intro WZ HN HO HB
         have HZ := HN
         have BZ := Lib.hid (T4.out.b.trans (HB.out.mono T4.out.lr))
         clear HN HO HB)
      | ((with_reducible show wpList _ _ _ (⟨some 25, .load 46 (.tmp 3), _, _, _, _⟩ :: _) _ _); refine wpList_load_u (by rfl) 46 _ rfl g (by exact rfl) _ Try.underlying46 (by kernel_rfl) 46 T4.out.q ?_)
      | ((with_reducible show wpList _ _ _ (⟨none, .store 44 (.tmp 19) (.tmp 17), _, _, _, _⟩ :: _) _ _); refine wpList_store_tx rfl 44 _ _ rfl g (by exact rfl) (by exact rfl) (by assumption) (by kernel_rfl) 46 T3.out.q ?_; intro WT4 HN HO HB
         have T4 := Lib.hid (T3.out.setG HN.out HO.out HB.out)
         clear HN HO HB T3)
      | (go_at_call 31; rw [HW.out]; refine (HC2.out _).mono ?_; rintro e WT3 ⟨rfl, hB⟩
         have T3 := Lib.hid (T2.out.under hB)
         clear hB T2)
      | ((with_reducible show wpList _ _ _ (⟨some 13, .load 44 (.tmp 12), _, _, _, _⟩ :: _) _ _); refine wpList_load_q9 rfl 44 _ rfl g 9 (by exact rfl) _ Try.underlying44 (by kernel_rfl) T2.out.q.tx T2.out.q.hc ?_))
      exact bodyPost_ret (v := uv N p (M) (q) l (c) k2) (results_c Try.results22 _ _ _ _ _ rfl (run_loadVar_u WZ r 46 _ Try.underlying46 (by kernel_rfl) 46 HZ.out)) rfl ⟨by first | (rw [HE.out]; done) | (rw [HE.out]; rfl), BZ.out⟩
    · have hT' : (T ++ [lowN v]).length ≤ 8 := by simp; omega
      obtain ⟨M', q', hM', hq', hq8', -, hE'⟩ := ofV_parts (T ++ [lowN v]) hT'
      have HE : Hid (uq R (writeT T 3 v) l (writeC c 3 v) k2 = uv N p M' q' l c k2) := Lib.hid (by rw [show writeT T 3 v = addL T (lowN v) from if_pos rfl, show addL T (lowN v) = T ++ [lowN v] from if_pos (by omega), show writeC c 3 v = c from if_neg (by decide), HUR.out, hM', hq'])
      rw [pushV_room (by omega), hE'] at HC2
      clear hTl h8 hT' hM' hq' hE'
      go_wp2_with (first
      | ((with_reducible show wpList _ _ _ (⟨none, .store 46 (.tmp 6) (.tmp 25), _, _, _, _⟩ :: _) _ _); refine wpList_store_u rfl 46 _ _ rfl r (by exact rfl) (by exact rfl) T4.out.q.hb T4.out.q.hc (by kernel_rfl) 46 T4.out.z ?_; intro WZ HN HO HB
         have HZ := HN
         have BZ := Lib.hid (T4.out.b.trans (HB.out.mono T4.out.lr))
         clear HN HO HB)
      | ((with_reducible show wpList _ _ _ (⟨some 25, .load 46 (.tmp 3), _, _, _, _⟩ :: _) _ _); refine wpList_load_u (by rfl) 46 _ rfl g (by exact rfl) _ Try.underlying46 (by kernel_rfl) 46 T4.out.q ?_)
      | ((with_reducible show wpList _ _ _ (⟨none, .store 44 (.tmp 19) (.tmp 17), _, _, _, _⟩ :: _) _ _); refine wpList_store_tx rfl 44 _ _ rfl g (by exact rfl) (by exact rfl) (by assumption) (by kernel_rfl) 46 T3.out.q ?_; intro WT4 HN HO HB
         have T4 := Lib.hid (T3.out.setG HN.out HO.out HB.out)
         clear HN HO HB T3)
      | (go_at_call 31; rw [HW.out]; refine (HC2.out _).mono ?_; rintro e WT3 ⟨rfl, hB⟩
         have T3 := Lib.hid (T2.out.under hB)
         clear hB T2)
      | ((with_reducible show wpList _ _ _ (⟨some 13, .load 44 (.tmp 12), _, _, _, _⟩ :: _) _ _); refine wpList_load_q9 rfl 44 _ rfl g 9 (by exact rfl) _ Try.underlying44 (by kernel_rfl) T2.out.q.tx T2.out.q.hc ?_))
      exact bodyPost_ret (v := uv N p (M') (q') l (c) k2) (results_c Try.results22 _ _ _ _ _ rfl (run_loadVar_u WZ r 46 _ Try.underlying46 (by kernel_rfl) 46 HZ.out)) rfl ⟨by first | (rw [HE.out]; done) | (rw [HE.out]; rfl), BZ.out⟩
  by_cases h5 : reg = 5
  · subst h5
    have HE : Hid (uq R (writeT T 5 v) l (writeC c 5 v) k2 = uv N p M q l (lowN v) k2) := Lib.hid (by rw [show writeT T 5 v = T from if_neg (by decide), show writeC c 5 v = lowN v from if_pos rfl, HU.out])
    clear hTl
    go_wp2_with (first
      | ((with_reducible show wpList _ _ _ (⟨none, .store 46 (.tmp 6) (.tmp 25), _, _, _, _⟩ :: _) _ _); refine wpList_store_u rfl 46 _ _ rfl r (by exact rfl) (by exact rfl) T3.out.q.hb T3.out.q.hc (by kernel_rfl) 46 T3.out.z ?_; intro WZ HN HO HB
         have HZ := HN
         have BZ := Lib.hid (T3.out.b.trans (HB.out.mono T3.out.lr))
         clear HN HO HB)
      | ((with_reducible show wpList _ _ _ (⟨some 25, .load 46 (.tmp 3), _, _, _, _⟩ :: _) _ _); refine wpList_load_u (by rfl) 46 _ rfl g (by exact rfl) _ Try.underlying46 (by kernel_rfl) 46 T3.out.q ?_)
      | ((with_reducible show wpList _ _ _ (⟨none, .store 5 (.tmp 24) (.tmp 23), _, _, _, _⟩ :: _) _ _); refine wpList_store_j rfl 5 _ _ rfl g 19 (by exact rfl) (.int .u8 ((lowN v : Nat) : Int)) (by rw [← HW.out]; exact rfl) rfl (by kernel_rfl) 46 T2.out.q (by decide) (uc_set_c T2.out.q.hb T2.out.q.hc) T2.out.q.hb T2.out.q.hc ?_; intro WT3 HN HO HB
         have T3 := Lib.hid (T2.out.setG HN.out HO.out HB.out)
         clear HN HO HB T2))
    exact bodyPost_ret (v := uv N p (M) (q) l (lowN v) k2) (results_c Try.results22 _ _ _ _ _ rfl (run_loadVar_u WZ r 46 _ Try.underlying46 (by kernel_rfl) 46 HZ.out)) rfl ⟨by first | (rw [HE.out]; done) | (rw [HE.out]; rfl), BZ.out⟩
  · have HE : Hid (uq R (writeT T reg v) l (writeC c reg v) k2 = uv N p M q l c k2) := Lib.hid (by rw [show writeT T reg v = T from if_neg h3, show writeC c reg v = c from if_neg h5, HU.out])
    clear hTl
    go_wp2_with (first
      | ((with_reducible show wpList _ _ _ (⟨none, .store 46 (.tmp 6) (.tmp 25), _, _, _, _⟩ :: _) _ _); refine wpList_store_u rfl 46 _ _ rfl r (by exact rfl) (by exact rfl) T2.out.q.hb T2.out.q.hc (by kernel_rfl) 46 T2.out.z ?_; intro WZ HN HO HB
         have HZ := HN
         have BZ := Lib.hid (T2.out.b.trans (HB.out.mono T2.out.lr))
         clear HN HO HB)
      | ((with_reducible show wpList _ _ _ (⟨some 25, .load 46 (.tmp 3), _, _, _, _⟩ :: _) _ _); refine wpList_load_u (by rfl) 46 _ rfl g (by exact rfl) _ Try.underlying46 (by kernel_rfl) 46 T2.out.q ?_))
    exact bodyPost_ret (v := uv N p (M) (q) l (c) k2) (results_c Try.results22 _ _ _ _ _ rfl (run_loadVar_u WZ r 46 _ Try.underlying46 (by kernel_rfl) 46 HZ.out)) rfl ⟨by first | (rw [HE.out]; done) | (rw [HE.out]; rfl), BZ.out⟩
end Go.Proofs.Ytgpgijdciaieaaa
