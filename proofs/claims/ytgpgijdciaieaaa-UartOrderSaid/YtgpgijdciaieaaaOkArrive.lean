/-
  The program's Arrive by its contract. Made by wip/genuartok.py.
-/
import Derived.Test.YtgpgijdciaieaaaOkMend
namespace Go.Proofs.Ytgpgijdciaieaaa
open Go.RowKit
set_option linter.unusedVariables false
set_option maxHeartbeats 1000000 in
set_option maxRecDepth 100000 in
theorem arriveU_any : ArriveC 12 := by
  intro n bs m cs l c k b w h hb8
  have C1 := Lib.hid (fun W => mendU_any n bs m cs l c k W h)
  have hRl := cutL_le n bs h.hb
  have hTl := cutL_le m cs h.hc
  have hlR : ∀ x ∈ cutL n bs, x < 256 := cutL_lt h.lb
  have hlT : ∀ x ∈ cutL m cs, x < 256 := cutL_lt h.lc
  have hc8 := h.c8
  generalize cutL n bs = R at *
  generalize cutL m cs = T at *
  have hk4 := kM_lt T k
  have hk0 : T = [] → kM T k = 0 := fun h => by rw [h, kM_nil]
  generalize hkk : kM T k = k2 at *
  clear hkk
  obtain ⟨N, p, hN, hp, hp8, hN2, hE1⟩ := ofV_parts R hRl
  obtain ⟨M, q, hM, hq, hq8, hM2, hE2⟩ := ofV_parts T hTl
  have HC1 : Hid (∀ W : World, Calls Try.prog 9 #[uv n bs m cs l c k] W fun x w' => x = .returned (uv N p M q l c k2) ∧ Below W.heap.size W w') := Lib.hid (fun W => by
    have h1 := C1.out W
    unfold uq at h1
    rw [hN, hp, hM, hq] at h1
    exact h1)
  have HM2 := Lib.hid hM2
  have HN2 := Lib.hid hN2
  have HIN := Lib.hid (mended_in (c := c) hRl hTl hN hp hM hq hlR hlT hc8 hk4)
  clear C1
  have HC2 : Hid (∀ W : World, Calls Try.prog 25 #[qv N p, .int .u8 b] W fun x w' => x = .returned (pushV R b) ∧ Below W.heap.size W w') := Lib.hid (fun W => by
    have h1 := push_any N p b W hp8 HIN.out.1.n0 HIN.out.1.n1
    rw [HIN.out.2.1] at h1
    exact h1)
  have HUT : Hid (∀ (R' : List Nat) (l' : Bool) (c' k' : Nat), uq R' T l' c' k' = uv ((min R'.length 8 : Nat) : Int) (pad R') M q l' c' k') := Lib.hid (fun R' l' c' k' => by unfold uq; rw [hM, hq])
  have HU : Hid (∀ l', uq R T l' c k2 = uv N p M q l' c k2) := Lib.hid (fun l' => by rw [HUT.out, hN, hp])
  have HE1 := Lib.hid hE1
  clear hN hp hE1 hN2 hlR hlT hTl hM hq hE2 hM2
  unfold uv
  go_enter Try.func12, Try.ntmps12
  go_upto_region 1 with (fail)
  refine name_two (Q := fun X => Code.wp _ _ _ _ X) ?_
  intro W0 hq1 hq2 hB0
  have T0 := Lib.hid (Tw.new h.hb h.hc 26 hq1 hq2 hB0)
  clear hq1 hq2 hB0
  obtain ⟨g, hg⟩ : ∃ g, w.heap.size = g := ⟨_, rfl⟩
  obtain ⟨r, hr⟩ : ∃ r, w.heap.size + 1 = r := ⟨_, rfl⟩
  rw [hr, hg] at T0 ⊢
  clear hr hg
  by_cases h8 : R.length = 8
  · have HE : Hid (uq (addL R b) T (arriveL R l) c k2 = uv N p M q true c k2) := Lib.hid (by rw [show addL R b = R from if_neg (by omega), show arriveL R l = true from if_neg (by omega), HU.out])
    have HA : Hid (asksU R c = false) := Lib.hid (by unfold asksU; rw [decide_eq_false (by omega)]; rfl)
    rw [pushV_full h8, HE1.out] at HC2
    clear hRl h8
    go_wp2_with (first
      | ((with_reducible show wpList _ _ _ (⟨none, .store 26 (.tmp 4) (.tmp 20), _, _, _, _⟩ :: _) _ _); refine wpList_store_u rfl 26 _ _ rfl r (by exact rfl) (by exact rfl) T5.out.q.hb T5.out.q.hc (by kernel_rfl) 26 T5.out.z ?_; intro WZ HN HO HB
         have HZ := HN
         have BZ := Lib.hid (T5.out.b.trans (HB.out.mono T5.out.lr))
         clear HN HO HB)
      | ((with_reducible show wpList _ _ _ (⟨some 20, .load 26 (.tmp 2), _, _, _, _⟩ :: _) _ _); refine wpList_load_u (by rfl) 26 _ rfl g (by exact rfl) _ Try.underlying26 (by kernel_rfl) 26 T5.out.q ?_)
      | ((with_reducible show wpList _ _ _ (⟨none, .store 4 (.tmp 19) _, _, _, _, _⟩ :: _) _ _); refine wpList_store_j rfl 4 _ _ rfl g 18 (by exact rfl) (.bool true) (by exact rfl) rfl (by kernel_rfl) 26 T4.out.q (by decide) (uc_set_l T4.out.q.hb T4.out.q.hc) T4.out.q.hb T4.out.q.hc ?_; intro WT5 HN HO HB
         have T5 := Lib.hid (T4.out.setG HN.out HO.out HB.out)
         clear HN HO HB T4)
      | ((with_reducible show wpList _ _ _ (⟨none, .store 24 (.tmp 6) (.tmp 15), _, _, _, _⟩ :: _) _ _); refine wpList_store_q rfl 24 _ _ rfl (WT3.heap.size) (by exact rfl) (N) (p) (by exact rfl) (by assumption) (by kernel_rfl) 24 _ _ (show QRow _ _ _ 0 Z8 from alloc_at _ _) rfl ?_; intro WT4 HN HO HB
         have HQ := HN
         have T4 := Lib.hid (T3.out.under (((Below.refl _ _).alloc (Nat.le_refl _) _).trans HB.out))
         have HS := Lib.hid (Nat.ne_of_lt T3.out.q.lt)
         clear HN HO HB T3)
      | (go_at_call 25; refine (HC2.out _).mono ?_; rintro e WT3 ⟨rfl, hB⟩
         have T3 := Lib.hid (T2.out.under hB)
         clear hB T2)
      | ((with_reducible show wpList _ _ _ (⟨some 12, .load 24 (.tmp 11), _, _, _, _⟩ :: _) _ _); refine wpList_load_q9 rfl 24 _ rfl g 0 (by exact rfl) _ Try.underlying24 (by kernel_rfl) T2.out.q.rx T2.out.q.hb ?_)
      | ((with_reducible show wpList _ _ _ (⟨none, .store 26 (.tmp 2) (.tmp 9), _, _, _, _⟩ :: _) _ _); refine wpList_store_u rfl 26 _ _ rfl g (by exact rfl) (by exact rfl) (by assumption) (by assumption) (by kernel_rfl) 26 T1.out.q ?_; intro WT2 HN HO HB
         have T2 := Lib.hid (T1.out.setG HN.out HO.out HB.out)
         clear HN HO HB T1)
      | (go_at_call 9; refine (HC1.out _).mono ?_; rintro e WT1 ⟨rfl, hB⟩
         have T1 := Lib.hid (T0.out.under hB)
         clear hB T0)
      | ((with_reducible show wpList _ _ _ (⟨some 8, .load 26 (.tmp 2), _, _, _, _⟩ :: _) _ _); refine wpList_load_u (by rfl) 26 _ rfl g (by exact rfl) _ Try.underlying26 (by kernel_rfl) 26 T0.out.q ?_))
    exact bodyPost_ret (v := .tuple #[uv (N) (p) M q true c k2, .bool false]) (results_ct Try.results12 _ _ _ _ _ _ rfl (run_loadVar_u WZ r 26 _ Try.underlying26 (by kernel_rfl) 26 HZ.out) rfl) rfl ⟨by first | (rw [HE.out, HA.out]; done) | (rw [HE.out, HA.out]; rfl), BZ.out⟩
  · have hR' : (R ++ [b]).length ≤ 8 := by simp; omega
    obtain ⟨N', p', hN', hp', hp8', -, hE'⟩ := ofV_parts (R ++ [b]) hR'
    have HE : Hid (uq (addL R b) T (arriveL R l) c k2 = uv N' p' M q l c k2) := Lib.hid (by rw [show addL R b = R ++ [b] from if_pos (by omega), show arriveL R l = l from if_pos (by omega), HUT.out, hN', hp'])
    have hs := bit_and1 c hc8
    obtain ⟨b2, hb2⟩ : ∃ b2, decide (c % 2 = 1) = b2 := ⟨_, rfl⟩
    have HA : Hid (asksU R c = b2) := Lib.hid (by unfold asksU; rw [decide_eq_true (by omega), Bool.true_and, hb2])
    have HS1 : Hid (bits .and .u8 (c : Int) 1 = if b2 = true then 1 else 0) := Lib.hid (by rw [hs, ← hb2]; simp)
    rw [pushV_room (by omega), hE'] at HC2
    clear hRl h8 hN' hp' hE' hR' hb2 hs
    cases b2
    · replace HS1 : Hid (bits .and .u8 (c : Int) 1 = 0) := HS1
      go_wp2_with (first
      | ((with_reducible show wpList _ _ _ (⟨none, .store 24 (.tmp 22) (.tmp 21), _, _, _, _⟩ :: _) _ _); refine wpList_store_rx rfl 24 _ _ rfl g (by exact rfl) (by exact rfl) (by assumption) (by kernel_rfl) 26 T4.out.q ?_; intro WT5 HN HO HB
         have T5 := Lib.hid (T4.out.setG HN.out HO.out HB.out)
         clear HN HO HB T4)
      | ((with_reducible show wpList _ _ _ (⟨some 21, .load 24 (.tmp 6), _, _, _, _⟩ :: _) _ _); refine wpList_load_q rfl 24 _ rfl (WT3.heap.size) (by exact rfl) _ Try.underlying24 (by kernel_rfl) 24 _ _ HQ.out (by assumption) ?_)
      | ((with_reducible show wpList _ _ _ (⟨none, .store 24 (.tmp 6) (.tmp 15), _, _, _, _⟩ :: _) _ _); refine wpList_store_q rfl 24 _ _ rfl (WT3.heap.size) (by exact rfl) (N') (p') (by exact rfl) (by assumption) (by kernel_rfl) 24 _ _ (show QRow _ _ _ 0 Z8 from alloc_at _ _) rfl ?_; intro WT4 HN HO HB
         have HQ := HN
         have T4 := Lib.hid (T3.out.under (((Below.refl _ _).alloc (Nat.le_refl _) _).trans HB.out))
         have HS := Lib.hid (Nat.ne_of_lt T3.out.q.lt)
         clear HN HO HB T3)
      | (go_at_call 25; refine (HC2.out _).mono ?_; rintro e WT3 ⟨rfl, hB⟩
         have T3 := Lib.hid (T2.out.under hB)
         clear hB T2)
      | ((with_reducible show wpList _ _ _ (⟨some 12, .load 24 (.tmp 11), _, _, _, _⟩ :: _) _ _); refine wpList_load_q9 rfl 24 _ rfl g 0 (by exact rfl) _ Try.underlying24 (by kernel_rfl) T2.out.q.rx T2.out.q.hb ?_)
      | ((with_reducible show wpList _ _ _ (⟨none, .store 26 (.tmp 2) (.tmp 9), _, _, _, _⟩ :: _) _ _); refine wpList_store_u rfl 26 _ _ rfl g (by exact rfl) (by exact rfl) (by assumption) (by assumption) (by kernel_rfl) 26 T1.out.q ?_; intro WT2 HN HO HB
         have T2 := Lib.hid (T1.out.setG HN.out HO.out HB.out)
         clear HN HO HB T1)
      | (go_at_call 9; refine (HC1.out _).mono ?_; rintro e WT1 ⟨rfl, hB⟩
         have T1 := Lib.hid (T0.out.under hB)
         clear hB T0)
      | ((with_reducible show wpList _ _ _ (⟨some 8, .load 26 (.tmp 2), _, _, _, _⟩ :: _) _ _); refine wpList_load_u (by rfl) 26 _ rfl g (by exact rfl) _ Try.underlying26 (by kernel_rfl) 26 T0.out.q ?_))
      refine wp_region_noPanic ?_
      refine wp_region_held_drew (S := fun X => URow X g 26 N' p' M q l c k2) (by kernel_rfl) (T5.out.q.below (Below.refl _ _).drew T5.out.q.lt) (fun hHeld => ?_)
      refine' take_ 0 rfl (by kernel_rfl) (by kernel_rfl) (by kernel_rfl) (fun _ _ _ h => h) (by rfl) (fun wS hSw => run_load_u wS 26 _ g rfl _ Try.underlying26 (by kernel_rfl) 26 hSw _ _ _ _ _) hHeld ?_
      try simp only [Act.put, List.setIfInBounds_toArray, List.set_cons_zero, List.set_cons_succ]
      refine' take_ 1 rfl (by kernel_rfl) (by kernel_rfl) (by kernel_rfl) (fun _ _ _ h => h) (by rfl) (fun wS hSw => ?_) hHeld ?_
      rotate_left
      focus (go_simp; (try with_reducible rfl); done)
      try simp only [Act.put, List.setIfInBounds_toArray, List.set_cons_zero, List.set_cons_succ]
      refine' take_ 2 rfl (by kernel_rfl) (by kernel_rfl) (by kernel_rfl) (fun _ _ _ h => h) (by rfl) (fun wS hSw => ?_) hHeld ?_
      rotate_left
      focus (have s0 := hSw.c19; clear hSw; go_simp; (try with_reducible rfl); done)
      try simp only [Act.put, List.setIfInBounds_toArray, List.set_cons_zero, List.set_cons_succ]
      refine' take_ 3 rfl (by kernel_rfl) (by kernel_rfl) (by kernel_rfl) (fun _ _ _ h => h) (by rfl) (fun wS hSw => ?_) hHeld ?_
      rotate_left
      focus (go_simp; rw [HS1.out]; (try with_reducible rfl); done)
      try simp only [Act.put, List.setIfInBounds_toArray, List.set_cons_zero, List.set_cons_succ]
      refine' take_ 4 rfl (by kernel_rfl) (by kernel_rfl) (by kernel_rfl) (fun _ _ _ h => h) (by rfl) (fun wS hSw => ?_) hHeld ?_
      rotate_left
      focus (go_simp; (try with_reducible rfl); done)
      try simp only [Act.put, List.setIfInBounds_toArray, List.set_cons_zero, List.set_cons_succ]
      refine only_ 5 rfl (by kernel_rfl) (by rfl) (fun K hK => ?_)
      refine wp_store_u 26 _ _ rfl r rfl rfl hHeld.hb hHeld.hc (by kernel_rfl) 26 (T5.out.z.below (w' := _) (Below.refl _ _).drew T5.out.z.lt) ?_
      intro WZ HN HO HB
      have HZ := HN
      have BZ := Lib.hid (T5.out.b.drew.trans (HB.out.mono T5.out.lr))
      refine hK.out _ _ (hHeld.other HO.out T5.out.gr) (fun hHeld2 => ?_)
      clear hK K hHeld HN HO HB
      have hHeld := hHeld2
      clear hHeld2
      try simp only [Act.put]
      refine' take_ 6 rfl (by kernel_rfl) (by kernel_rfl) (by kernel_rfl) (fun _ _ _ h => h) (by rfl) (fun wS hSw => ?_) hHeld ?_
      rotate_left
      focus (go_simp; (try with_reducible rfl); done)
      try simp only [Act.put, List.setIfInBounds_toArray, List.set_cons_zero, List.set_cons_succ]
      refine wpAnyH_done (by kernel_rfl) ?_ _
      refine NoPanic.normal ?_
      go_wp2
      exact bodyPost_ret (v := .tuple #[uv (N') (p') M q l c k2, .bool false]) (results_ct Try.results12 _ _ _ _ _ _ rfl (run_loadVar_u WZ r 26 _ Try.underlying26 (by kernel_rfl) 26 HZ.out) rfl) rfl ⟨by first | (rw [HE.out, HA.out]; done) | (rw [HE.out, HA.out]; rfl), BZ.out⟩
    · replace HS1 : Hid (bits .and .u8 (c : Int) 1 = 1) := HS1
      go_wp2_with (first
      | ((with_reducible show wpList _ _ _ (⟨none, .store 24 (.tmp 22) (.tmp 21), _, _, _, _⟩ :: _) _ _); refine wpList_store_rx rfl 24 _ _ rfl g (by exact rfl) (by exact rfl) (by assumption) (by kernel_rfl) 26 T4.out.q ?_; intro WT5 HN HO HB
         have T5 := Lib.hid (T4.out.setG HN.out HO.out HB.out)
         clear HN HO HB T4)
      | ((with_reducible show wpList _ _ _ (⟨some 21, .load 24 (.tmp 6), _, _, _, _⟩ :: _) _ _); refine wpList_load_q rfl 24 _ rfl (WT3.heap.size) (by exact rfl) _ Try.underlying24 (by kernel_rfl) 24 _ _ HQ.out (by assumption) ?_)
      | ((with_reducible show wpList _ _ _ (⟨none, .store 24 (.tmp 6) (.tmp 15), _, _, _, _⟩ :: _) _ _); refine wpList_store_q rfl 24 _ _ rfl (WT3.heap.size) (by exact rfl) (N') (p') (by exact rfl) (by assumption) (by kernel_rfl) 24 _ _ (show QRow _ _ _ 0 Z8 from alloc_at _ _) rfl ?_; intro WT4 HN HO HB
         have HQ := HN
         have T4 := Lib.hid (T3.out.under (((Below.refl _ _).alloc (Nat.le_refl _) _).trans HB.out))
         have HS := Lib.hid (Nat.ne_of_lt T3.out.q.lt)
         clear HN HO HB T3)
      | (go_at_call 25; refine (HC2.out _).mono ?_; rintro e WT3 ⟨rfl, hB⟩
         have T3 := Lib.hid (T2.out.under hB)
         clear hB T2)
      | ((with_reducible show wpList _ _ _ (⟨some 12, .load 24 (.tmp 11), _, _, _, _⟩ :: _) _ _); refine wpList_load_q9 rfl 24 _ rfl g 0 (by exact rfl) _ Try.underlying24 (by kernel_rfl) T2.out.q.rx T2.out.q.hb ?_)
      | ((with_reducible show wpList _ _ _ (⟨none, .store 26 (.tmp 2) (.tmp 9), _, _, _, _⟩ :: _) _ _); refine wpList_store_u rfl 26 _ _ rfl g (by exact rfl) (by exact rfl) (by assumption) (by assumption) (by kernel_rfl) 26 T1.out.q ?_; intro WT2 HN HO HB
         have T2 := Lib.hid (T1.out.setG HN.out HO.out HB.out)
         clear HN HO HB T1)
      | (go_at_call 9; refine (HC1.out _).mono ?_; rintro e WT1 ⟨rfl, hB⟩
         have T1 := Lib.hid (T0.out.under hB)
         clear hB T0)
      | ((with_reducible show wpList _ _ _ (⟨some 8, .load 26 (.tmp 2), _, _, _, _⟩ :: _) _ _); refine wpList_load_u (by rfl) 26 _ rfl g (by exact rfl) _ Try.underlying26 (by kernel_rfl) 26 T0.out.q ?_))
      refine wp_region_noPanic ?_
      refine wp_region_held_drew (S := fun X => URow X g 26 N' p' M q l c k2) (by kernel_rfl) (T5.out.q.below (Below.refl _ _).drew T5.out.q.lt) (fun hHeld => ?_)
      refine' take_ 0 rfl (by kernel_rfl) (by kernel_rfl) (by kernel_rfl) (fun _ _ _ h => h) (by rfl) (fun wS hSw => run_load_u wS 26 _ g rfl _ Try.underlying26 (by kernel_rfl) 26 hSw _ _ _ _ _) hHeld ?_
      try simp only [Act.put, List.setIfInBounds_toArray, List.set_cons_zero, List.set_cons_succ]
      refine' take_ 1 rfl (by kernel_rfl) (by kernel_rfl) (by kernel_rfl) (fun _ _ _ h => h) (by rfl) (fun wS hSw => ?_) hHeld ?_
      rotate_left
      focus (go_simp; (try with_reducible rfl); done)
      try simp only [Act.put, List.setIfInBounds_toArray, List.set_cons_zero, List.set_cons_succ]
      refine' take_ 2 rfl (by kernel_rfl) (by kernel_rfl) (by kernel_rfl) (fun _ _ _ h => h) (by rfl) (fun wS hSw => ?_) hHeld ?_
      rotate_left
      focus (have s0 := hSw.c19; clear hSw; go_simp; (try with_reducible rfl); done)
      try simp only [Act.put, List.setIfInBounds_toArray, List.set_cons_zero, List.set_cons_succ]
      refine' take_ 3 rfl (by kernel_rfl) (by kernel_rfl) (by kernel_rfl) (fun _ _ _ h => h) (by rfl) (fun wS hSw => ?_) hHeld ?_
      rotate_left
      focus (go_simp; rw [HS1.out]; (try with_reducible rfl); done)
      try simp only [Act.put, List.setIfInBounds_toArray, List.set_cons_zero, List.set_cons_succ]
      refine' take_ 4 rfl (by kernel_rfl) (by kernel_rfl) (by kernel_rfl) (fun _ _ _ h => h) (by rfl) (fun wS hSw => ?_) hHeld ?_
      rotate_left
      focus (go_simp; (try with_reducible rfl); done)
      try simp only [Act.put, List.setIfInBounds_toArray, List.set_cons_zero, List.set_cons_succ]
      refine only_ 5 rfl (by kernel_rfl) (by rfl) (fun K hK => ?_)
      refine wp_store_u 26 _ _ rfl r rfl rfl hHeld.hb hHeld.hc (by kernel_rfl) 26 (T5.out.z.below (w' := _) (Below.refl _ _).drew T5.out.z.lt) ?_
      intro WZ HN HO HB
      have HZ := HN
      have BZ := Lib.hid (T5.out.b.drew.trans (HB.out.mono T5.out.lr))
      refine hK.out _ _ (hHeld.other HO.out T5.out.gr) (fun hHeld2 => ?_)
      clear hK K hHeld HN HO HB
      have hHeld := hHeld2
      clear hHeld2
      try simp only [Act.put]
      refine' take_ 6 rfl (by kernel_rfl) (by kernel_rfl) (by kernel_rfl) (fun _ _ _ h => h) (by rfl) (fun wS hSw => ?_) hHeld ?_
      rotate_left
      focus (go_simp; (try with_reducible rfl); done)
      try simp only [Act.put, List.setIfInBounds_toArray, List.set_cons_zero, List.set_cons_succ]
      refine wpAnyH_done (by kernel_rfl) ?_ _
      refine NoPanic.normal ?_
      go_wp2
      exact bodyPost_ret (v := .tuple #[uv (N') (p') M q l c k2, .bool true]) (results_ct Try.results12 _ _ _ _ _ _ rfl (run_loadVar_u WZ r 26 _ Try.underlying26 (by kernel_rfl) 26 HZ.out) rfl) rfl ⟨by first | (rw [HE.out, HA.out]; done) | (rw [HE.out, HA.out]; rfl), BZ.out⟩
end Go.Proofs.Ytgpgijdciaieaaa
