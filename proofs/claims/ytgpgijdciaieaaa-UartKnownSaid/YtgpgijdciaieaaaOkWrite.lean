/-
  The program's Write by its contract. Made by wip/genuartok.py.
-/
import Derived.Test.YtgpgijdciaieaaaOkRead
namespace Go.Proofs.Ytgpgijdciaieaaa
open Go.RowKit
set_option linter.unusedVariables false
set_option maxHeartbeats 1000000 in
set_option maxRecDepth 100000 in
theorem writeU_any : WriteC 14 := by
  intro n bs m cs l c k reg v w h hg0 hg1 hv0 hv1
  have C1 := Lib.hid (fun W => mendU_any n bs m cs l c k W h)
  have hRl := cutL_le n bs h.hb
  have hTl := cutL_le m cs h.hc
  have hlR : ∀ x ∈ cutL n bs, x < 256 := cutL_lt h.lb
  have hlT : ∀ x ∈ cutL m cs, x < 256 := cutL_lt h.lc
  have hc8 := h.c8
  generalize cutL n bs = R at *
  generalize cutL m cs = T at *
  have hk4 := kM_lt T k
  have hk0 : T = [] → kM T k = 0 := fun h => by rw [h, kM_nil]
  generalize hkk : kM T k = k2 at *
  clear hkk
  obtain ⟨N, p, hN, hp, hp8, hN2, hE1⟩ := ofV_parts R hRl
  obtain ⟨M, q, hM, hq, hq8, hM2, hE2⟩ := ofV_parts T hTl
  have HC1 : Hid (∀ W : World, Calls Try.prog 9 #[uv n bs m cs l c k] W fun x w' => x = .returned (uv N p M q l c k2) ∧ Below W.heap.size W w') := Lib.hid (fun W => by
    have h1 := C1.out W
    unfold uq at h1
    rw [hN, hp, hM, hq] at h1
    exact h1)
  have HM2 := Lib.hid hM2
  have HN2 := Lib.hid hN2
  have HIN := Lib.hid (mended_in (c := c) hRl hTl hN hp hM hq hlR hlT hc8 hk4)
  clear C1
  have HC2 : Hid (∀ W : World, Calls Try.prog 25 #[qv M q, .int .u8 (lowN v : Nat)] W fun x w' => x = .returned (pushV T (lowN v)) ∧ Below W.heap.size W w') := Lib.hid (fun W => by
    have h1 := push_any M q (lowN v) W hq8 HIN.out.1.m0 HIN.out.1.m1
    rw [HIN.out.2.2] at h1
    exact h1)
  have HW : Hid (v % 256 = ((lowN v : Nat) : Int)) := Lib.hid (lowN_cast v).symm
  have HUR : Hid (∀ (T' : List Nat) (l' : Bool) (c' k' : Nat), uq R T' l' c' k' = uv N p ((min T'.length 8 : Nat) : Int) (pad T') l' c' k') := Lib.hid (fun T' l' c' k' => by unfold uq; rw [hN, hp])
  have HU : Hid (∀ c', uq R T l c' k2 = uv N p M q l c' k2) := Lib.hid (fun c' => by rw [HUR.out, hM, hq])
  have HE2 := Lib.hid hE2
  have HR := Lib.hid writers_any
  clear hN hp hE1 hN2 hlR hlT hRl hM hq hE2 hM2 hc8 hk4 hk0
  unfold uv
  go_enter Try.func14, Try.ntmps14
  go_upto_region 1 with (fail)
  refine name_two (Q := fun X => Code.wp _ _ _ _ X) ?_
  intro W0 hq1 hq2 hB0
  have T0 := Lib.hid (Tw.new h.hb h.hc 26 hq1 hq2 hB0)
  clear hq1 hq2 hB0
  obtain ⟨g, hg⟩ : ∃ g, w.heap.size = g := ⟨_, rfl⟩
  obtain ⟨r, hr⟩ : ∃ r, w.heap.size + 1 = r := ⟨_, rfl⟩
  rw [hr, hg] at T0 ⊢
  clear hr hg
  go_upto_region 2 with (first
      | ((with_reducible show wpList _ _ _ (⟨none, .store 26 (.tmp 3) (.tmp 10), _, _, _, _⟩ :: _) _ _); refine wpList_store_u rfl 26 _ _ rfl g (by exact rfl) (by exact rfl) (by assumption) (by assumption) (by kernel_rfl) 26 T1.out.q ?_; intro WT2 HN HO HB
         have T2 := Lib.hid (T1.out.setG HN.out HO.out HB.out)
         clear HN HO HB T1)
      | (go_at_call 9; refine (HC1.out _).mono ?_; rintro e WT1 ⟨rfl, hB⟩
         have T1 := Lib.hid (T0.out.under hB)
         clear hB T0)
      | ((with_reducible show wpList _ _ _ (⟨some 9, .load 26 (.tmp 3), _, _, _, _⟩ :: _) _ _); refine wpList_load_u (by rfl) 26 _ rfl g (by exact rfl) _ Try.underlying26 (by kernel_rfl) 26 T0.out.q ?_))
  by_cases h3 : reg = 3
  · subst h3
    by_cases h8 : T.length = 8
    · have HE : Hid (uq R (writeT T 3 v) l (writeC c 3 v) k2 = uv N p M q l c k2) := Lib.hid (by rw [show writeT T 3 v = addL T (lowN v) from if_pos rfl, show addL T (lowN v) = T from if_neg (by omega), show writeC c 3 v = c from if_neg (by decide), HU.out])
      rw [pushV_full h8, HE2.out] at HC2
      have hq88 := hq8
      clear hTl h8
      go_wp2_with (first
      | ((with_reducible show wpList _ _ _ (⟨none, .store 26 (.tmp 6) (.tmp 22), _, _, _, _⟩ :: _) _ _); refine wpList_store_u rfl 26 _ _ rfl r (by exact rfl) (by exact rfl) T4.out.q.hb T4.out.q.hc (by kernel_rfl) 26 T4.out.z ?_; intro WZ HN HO HB
         have HZ := HN
         have BZ := Lib.hid (T4.out.b.trans (HB.out.mono T4.out.lr))
         clear HN HO HB)
      | ((with_reducible show wpList _ _ _ (⟨some 22, .load 26 (.tmp 3), _, _, _, _⟩ :: _) _ _); refine wpList_load_u (by rfl) 26 _ rfl g (by exact rfl) _ Try.underlying26 (by kernel_rfl) 26 T4.out.q ?_)
      | (go_at_call 37; rw [HW.out]; refine (layByte_any T3.out (lowN v) M q false hq88 HC2.out).mono ?_; rintro e WT4 ⟨rfl, hTT⟩
         have T4 := Lib.hid hTT
         clear hTT T3)
      | (go_at_call 27; refine (HR.out _ _).mono ?_; rintro e WT3 ⟨rfl, hwT3⟩
         have T3 := Lib.hid (T2.out.under (W' := WT3) (by rw [hwT3]; exact (Below.refl _ _).alloc (Nat.le_refl _) _))
         have hm : WT3.heap[WT2.heap.size]? = some (.map (wrs g) 2) := by rw [hwT3]; exact alloc_at _ _
         have hl := run_look mtyW uInt WT3 (WT2.heap.size) _ _ hm 3 0 _ rfl
         clear hwT3 hm T2))
      exact bodyPost_ret (v := uv N p (M) (q) l (c) k2) (results_c Try.results14 _ _ _ _ _ rfl (run_loadVar_u WZ r 26 _ Try.underlying26 (by kernel_rfl) 26 HZ.out)) rfl ⟨by first | (rw [HE.out]; done) | (rw [HE.out]; rfl), BZ.out⟩
    · have hT' : (T ++ [lowN v]).length ≤ 8 := by simp; omega
      obtain ⟨M', q', hM', hq', hq8', -, hE'⟩ := ofV_parts (T ++ [lowN v]) hT'
      have HE : Hid (uq R (writeT T 3 v) l (writeC c 3 v) k2 = uv N p M' q' l c k2) := Lib.hid (by rw [show writeT T 3 v = addL T (lowN v) from if_pos rfl, show addL T (lowN v) = T ++ [lowN v] from if_pos (by omega), show writeC c 3 v = c from if_neg (by decide), HUR.out, hM', hq'])
      rw [pushV_room (by omega), hE'] at HC2
      have hq88 := hq8'
      clear hTl h8 hT' hM' hq' hE'
      go_wp2_with (first
      | ((with_reducible show wpList _ _ _ (⟨none, .store 26 (.tmp 6) (.tmp 22), _, _, _, _⟩ :: _) _ _); refine wpList_store_u rfl 26 _ _ rfl r (by exact rfl) (by exact rfl) T4.out.q.hb T4.out.q.hc (by kernel_rfl) 26 T4.out.z ?_; intro WZ HN HO HB
         have HZ := HN
         have BZ := Lib.hid (T4.out.b.trans (HB.out.mono T4.out.lr))
         clear HN HO HB)
      | ((with_reducible show wpList _ _ _ (⟨some 22, .load 26 (.tmp 3), _, _, _, _⟩ :: _) _ _); refine wpList_load_u (by rfl) 26 _ rfl g (by exact rfl) _ Try.underlying26 (by kernel_rfl) 26 T4.out.q ?_)
      | (go_at_call 37; rw [HW.out]; refine (layByte_any T3.out (lowN v) M' q' true hq88 HC2.out).mono ?_; rintro e WT4 ⟨rfl, hTT⟩
         have T4 := Lib.hid hTT
         clear hTT T3)
      | (go_at_call 27; refine (HR.out _ _).mono ?_; rintro e WT3 ⟨rfl, hwT3⟩
         have T3 := Lib.hid (T2.out.under (W' := WT3) (by rw [hwT3]; exact (Below.refl _ _).alloc (Nat.le_refl _) _))
         have hm : WT3.heap[WT2.heap.size]? = some (.map (wrs g) 2) := by rw [hwT3]; exact alloc_at _ _
         have hl := run_look mtyW uInt WT3 (WT2.heap.size) _ _ hm 3 0 _ rfl
         clear hwT3 hm T2))
      exact bodyPost_ret (v := uv N p (M') (q') l (c) k2) (results_c Try.results14 _ _ _ _ _ rfl (run_loadVar_u WZ r 26 _ Try.underlying26 (by kernel_rfl) 26 HZ.out)) rfl ⟨by first | (rw [HE.out]; done) | (rw [HE.out]; rfl), BZ.out⟩
  by_cases h5 : reg = 5
  · subst h5
    have HE : Hid (uq R (writeT T 5 v) l (writeC c 5 v) k2 = uv N p M q l (lowN v) k2) := Lib.hid (by rw [show writeT T 5 v = T from if_neg (by decide), show writeC c 5 v = lowN v from if_pos rfl, HU.out])
    clear hTl h3
    go_wp2_with (first
      | ((with_reducible show wpList _ _ _ (⟨none, .store 26 (.tmp 6) (.tmp 22), _, _, _, _⟩ :: _) _ _); refine wpList_store_u rfl 26 _ _ rfl r (by exact rfl) (by exact rfl) T4.out.q.hb T4.out.q.hc (by kernel_rfl) 26 T4.out.z ?_; intro WZ HN HO HB
         have HZ := HN
         have BZ := Lib.hid (T4.out.b.trans (HB.out.mono T4.out.lr))
         clear HN HO HB)
      | ((with_reducible show wpList _ _ _ (⟨some 22, .load 26 (.tmp 3), _, _, _, _⟩ :: _) _ _); refine wpList_load_u (by rfl) 26 _ rfl g (by exact rfl) _ Try.underlying26 (by kernel_rfl) 26 T4.out.q ?_)
      | (go_at_call 38; rw [HW.out]; refine (setControl_any T3.out (lowN v)).mono ?_; rintro e WT4 ⟨rfl, hTT⟩
         have T4 := Lib.hid hTT
         clear hTT T3)
      | (go_at_call 27; refine (HR.out _ _).mono ?_; rintro e WT3 ⟨rfl, hwT3⟩
         have T3 := Lib.hid (T2.out.under (W' := WT3) (by rw [hwT3]; exact (Below.refl _ _).alloc (Nat.le_refl _) _))
         have hm : WT3.heap[WT2.heap.size]? = some (.map (wrs g) 2) := by rw [hwT3]; exact alloc_at _ _
         have hl := run_look mtyW uInt WT3 (WT2.heap.size) _ _ hm 5 1 _ rfl
         clear hwT3 hm T2))
    exact bodyPost_ret (v := uv N p (M) (q) l (lowN v) k2) (results_c Try.results14 _ _ _ _ _ rfl (run_loadVar_u WZ r 26 _ Try.underlying26 (by kernel_rfl) 26 HZ.out)) rfl ⟨by first | (rw [HE.out]; done) | (rw [HE.out]; rfl), BZ.out⟩
  · have HE : Hid (uq R (writeT T reg v) l (writeC c reg v) k2 = uv N p M q l c k2) := Lib.hid (by rw [show writeT T reg v = T from if_neg h3, show writeC c reg v = c from if_neg h5, HU.out])
    have HFN := Lib.hid (find_noneW reg g h3 h5)
    clear hTl h3 h5
    go_wp2_with (first
      | ((with_reducible show wpList _ _ _ (⟨none, .store 26 (.tmp 6) (.tmp 22), _, _, _, _⟩ :: _) _ _); refine wpList_store_u rfl 26 _ _ rfl r (by exact rfl) (by exact rfl) T3.out.q.hb T3.out.q.hc (by kernel_rfl) 26 T3.out.z ?_; intro WZ HN HO HB
         have HZ := HN
         have BZ := Lib.hid (T3.out.b.trans (HB.out.mono T3.out.lr))
         clear HN HO HB)
      | ((with_reducible show wpList _ _ _ (⟨some 22, .load 26 (.tmp 3), _, _, _, _⟩ :: _) _ _); refine wpList_load_u (by rfl) 26 _ rfl g (by exact rfl) _ Try.underlying26 (by kernel_rfl) 26 T3.out.q ?_)
      | (go_at_call 27; refine (HR.out _ _).mono ?_; rintro e WT3 ⟨rfl, hwT3⟩
         have T3 := Lib.hid (T2.out.under (W' := WT3) (by rw [hwT3]; exact (Below.refl _ _).alloc (Nat.le_refl _) _))
         have hm : WT3.heap[WT2.heap.size]? = some (.map (wrs g) 2) := by rw [hwT3]; exact alloc_at _ _
         have hl := run_look_none mtyW uInt WT3 (WT2.heap.size) _ _ hm reg _ (zwr _) HFN.out
         clear hwT3 hm T2))
    exact bodyPost_ret (v := uv N p (M) (q) l (c) k2) (results_c Try.results14 _ _ _ _ _ rfl (run_loadVar_u WZ r 26 _ Try.underlying26 (by kernel_rfl) 26 HZ.out)) rfl ⟨by first | (rw [HE.out]; done) | (rw [HE.out]; rfl), BZ.out⟩
end Go.Proofs.Ytgpgijdciaieaaa
