/-
  The document's Tick by its contract. Made by wip/genuartref.py.
-/
import Derived.Test.YtgpgijdciaieaaaRarrive
namespace Go.Proofs.Ytgpgijdciaieaaa
open Go.RowKit
set_option linter.unusedVariables false
set_option maxHeartbeats 400000 in
set_option maxRecDepth 100000 in
theorem rTickU_any : TickC 20 := by
  intro n bs m cs l c k w h
  have C1 := Lib.hid (fun W => rMendU_any n bs m cs l c k W h)
  have hRl := cutL_le n bs h.hb
  have hTl := cutL_le m cs h.hc
  have hlR : ∀ x ∈ cutL n bs, x < 256 := cutL_lt h.lb
  have hlT : ∀ x ∈ cutL m cs, x < 256 := cutL_lt h.lc
  have hc8 := h.c8
  generalize cutL n bs = R at *
  generalize cutL m cs = T at *
  have hk4 := kM_lt T k
  have hk0 : T = [] → kM T k = 0 := fun h => by rw [h, kM_nil]
  generalize hkk : kM T k = k2 at *
  clear hkk
  obtain ⟨N, p, hN, hp, hp8, hN2, hE1⟩ := ofV_parts R hRl
  obtain ⟨M, q, hM, hq, hq8, hM2, hE2⟩ := ofV_parts T hTl
  have HC1 : Hid (∀ W : World, Calls Try.prog 23 #[uv n bs m cs l c k] W fun x w' => x = .returned (uv N p M q l c k2) ∧ Below W.heap.size W w') := Lib.hid (fun W => by
    have h1 := C1.out W
    unfold uq at h1
    rw [hN, hp, hM, hq] at h1
    exact h1)
  have HM2 := Lib.hid hM2
  have HN2 := Lib.hid hN2
  have HIN := Lib.hid (mended_in (c := c) hRl hTl hN hp hM hq hlR hlT hc8 hk4)
  have HKK : Hid (kM T k2 = k2) := Lib.hid (by by_cases h0 : T = []; (· rw [h0, kM_nil, hk0 h0]); (· exact if_neg (by rintro (h1 | h1); omega; exact h0 h1)))
  clear C1
  have HC2 : Hid (∀ W : World, Calls Try.prog 30 #[qv M q] W fun x w' => x = .returned (popV T) ∧ Below W.heap.size W w') := Lib.hid (fun W => by
    have h1 := rPop_any M q W hq8 HIN.out.1.m0 HIN.out.1.m1
    rw [HIN.out.2.2] at h1
    exact h1)
  have HUR : Hid (∀ (T' : List Nat) (l' : Bool) (c' k' : Nat), uq R T' l' c' k' = uv N p ((min T'.length 8 : Nat) : Int) (pad T') l' c' k') := Lib.hid (fun T' l' c' k' => by unfold uq; rw [hN, hp])
  have HU : Hid (∀ k', uq R T l c k' = uv N p M q l c k') := Lib.hid (fun k' => by rw [HUR.out, hM, hq])
  clear hN hp hE1 hN2 hlR hlT hRl hM hq hE2 hM2
  unfold uv
  go_enter Try.func20, Try.ntmps20
  go_upto_region 1 with (fail)
  refine name_two (Q := fun X => Code.wp _ _ _ _ X) ?_
  intro W0 hq1 hq2 hB0
  have T0 := Lib.hid (Tw.new h.hb h.hc 46 hq1 hq2 hB0)
  clear hq1 hq2 hB0
  obtain ⟨g, hg⟩ : ∃ g, w.heap.size = g := ⟨_, rfl⟩
  obtain ⟨r, hr⟩ : ∃ r, w.heap.size + 1 = r := ⟨_, rfl⟩
  rw [hr, hg] at T0 ⊢
  clear hr hg
  go_upto_region 2 with (first
      | ((with_reducible show wpList _ _ _ (⟨none, .store 46 (.tmp 1) (.tmp 10), _, _, _, _⟩ :: _) _ _); refine wpList_store_u rfl 46 _ _ rfl g (by exact rfl) (by exact rfl) (by assumption) (by assumption) (by kernel_rfl) 46 T1.out.q ?_; intro WT2 HN HO HB
         have T2 := Lib.hid (T1.out.setG HN.out HO.out HB.out)
         have c9 := T2.out.q.n9
         have c20 := T2.out.q.c20
         clear HN HO HB T1)
      | (go_at_call 23; refine (HC1.out _).mono ?_; rintro e WT1 ⟨rfl, hB⟩
         have T1 := Lib.hid (T0.out.under hB)
         clear hB T0)
      | ((with_reducible show wpList _ _ _ (⟨some 9, .load 46 (.tmp 1), _, _, _, _⟩ :: _) _ _); refine wpList_load_u (by rfl) 46 _ rfl g (by exact rfl) _ Try.underlying46 (by kernel_rfl) 46 T0.out.q ?_))
  cases T with
  | nil =>
    have HE : Hid (uq R (tickT [] k2) l c (tickK [] k2) = uv N p M q l c 0) := Lib.hid (HU.out 0)
    have HE2 : Hid (tickB [] k2 = 0 ∧ sendsU [] k2 = false ∧ tickQ [] c k2 = false) := Lib.hid ⟨rfl, rfl, rfl⟩
    have hk20 : k2 = 0 := hk0 rfl
    have d1 : M = 0 := by simpa using HM2.out
    subst hk20
    subst d1
    clear hTl
    go_wp2_with (first
      | ((with_reducible show wpList _ _ _ (⟨none, .store 46 (.tmp 2) (.tmp 15), _, _, _, _⟩ :: _) _ _); refine wpList_store_u rfl 46 _ _ rfl r (by exact rfl) (by exact rfl) T2.out.q.hb T2.out.q.hc (by kernel_rfl) 46 T2.out.z ?_; intro WZ HN HO HB
         have HZ := HN
         have BZ := Lib.hid (T2.out.b.trans (HB.out.mono T2.out.lr))
         clear HN HO HB)
      | ((with_reducible show wpList _ _ _ (⟨some 15, .load 46 (.tmp 1), _, _, _, _⟩ :: _) _ _); refine wpList_load_u (by rfl) 46 _ rfl g (by exact rfl) _ Try.underlying46 (by kernel_rfl) 46 T2.out.q ?_))
    exact bodyPost_ret (v := .tuple #[uv N p (0) (q) l c (0), .int .u8 ((0 : Nat) : Int), .bool false, .bool false]) (results_cttt Try.results20 _ _ _ _ _ _ _ _ rfl (run_loadVar_u WZ r 46 _ Try.underlying46 (by kernel_rfl) 46 HZ.out) rfl rfl rfl) rfl ⟨by first | (rw [HE.out, HE2.out.1, HE2.out.2.1, HE2.out.2.2]; done) | (rw [HE.out, HE2.out.1, HE2.out.2.1, HE2.out.2.2]; rfl), BZ.out⟩
  | cons x ts =>
    have d1 : ¬ M = 0 := by rw [HM2.out]; simp; omega
    by_cases h3 : k2 = 3
    · subst h3
      have hts : ts.length ≤ 8 := by simp at hTl; omega
      obtain ⟨N', p', hN', hp', hp8', hN2', hE'⟩ := ofV_parts ts hts
      have hs : sendsU (x :: ts) 3 = true := rfl
      have HE : Hid (uq R (tickT (x :: ts) 3) l c (tickK (x :: ts) 3) = uv N p N' p' l c 0) := Lib.hid (by rw [show tickT (x :: ts) 3 = ts from rfl, show tickK (x :: ts) 3 = 0 from rfl, HUR.out, hN', hp'])
      have HNN := Lib.hid hN2'
      rw [show popV (x :: ts) = .tuple #[.int .u8 (x : Int), ofV ts, .bool true] from rfl, hE'] at HC2
      clear hN' hp' hE' hN2' hts hTl hs
      cases ts with
      | nil =>
        have d3 : N' = 0 := by simpa using HNN.out
        subst d3
        obtain ⟨b2, hb2⟩ : ∃ b2, decide (c / 2 % 2 = 1) = b2 := ⟨_, rfl⟩
        have HE2 : Hid (tickB [x] 3 = x ∧ sendsU [x] 3 = true ∧ tickQ [x] c 3 = b2) := Lib.hid ⟨rfl, rfl, by rw [← hb2]; rfl⟩
        have HQ8 : Hid (IntKind.u8.wrap ((c : Int) / 2) = (c : Int) / 2) := Lib.hid (by simp [IntKind.wrap, IntKind.bits, IntKind.signed]; omega)
        have HS1 : Hid (((c : Int) / 2).tmod 2 = if b2 = true then 1 else 0) := Lib.hid (by rw [← hb2]; simp only [decide_eq_true_eq]; rw [Int.tmod_eq_emod_of_nonneg (by omega)]; split <;> omega)
        clear hb2
        cases b2
        · replace HS1 : Hid (((c : Int) / 2).tmod 2 = 0) := HS1
          go_wp2_with (first
      | ((with_reducible show wpList _ _ _ (⟨none, .store 5 (.tmp 33) _, _, _, _, _⟩ :: _) _ _); refine wpList_store_j rfl 5 _ _ rfl g 20 (by exact rfl) (.int .u8 ((0 : Nat) : Int)) (by exact rfl) rfl (by kernel_rfl) 46 T6.out.q (by decide) (uc_set_k T6.out.q.hb T6.out.q.hc) T6.out.q.hb T6.out.q.hc ?_; intro WT7 HN HO HB
         have T7 := Lib.hid (T6.out.setG HN.out HO.out HB.out)
         have HQ3 : Hid (QRow WT7 WT4.heap.size 44 0 p') := Lib.hid ((HO.out _ NS.out.symm).trans HQ2.out)
         clear HQ2
         clear HN HO HB T6)
      | ((with_reducible show wpList _ _ _ (⟨none, .store 44 (.tmp 32) (.tmp 31), _, _, _, _⟩ :: _) _ _); refine wpList_store_tx rfl 44 _ _ rfl g (by exact rfl) (by exact rfl) (by assumption) (by kernel_rfl) 46 T5.out.q ?_; intro WT6 HN HO HB
         have T6 := Lib.hid (T5.out.setG HN.out HO.out HB.out)
         have HQ2 : Hid (QRow WT6 WT4.heap.size 44 0 p') := Lib.hid ((HO.out _ HS.out.symm).trans HQ.out)
         have NS := HS
         clear HQ HS
         clear HN HO HB T5)
      | ((with_reducible show wpList _ _ _ (⟨some 31, .load 44 (.tmp 7), _, _, _, _⟩ :: _) _ _); refine wpList_load_q rfl 44 _ rfl (WT4.heap.size) (by exact rfl) _ Try.underlying44 (by kernel_rfl) 44 _ _ HQ.out (by assumption) ?_)
      | ((with_reducible show wpList _ _ _ (⟨none, .store 44 (.tmp 7) (.tmp 29), _, _, _, _⟩ :: _) _ _); refine wpList_store_q rfl 44 _ _ rfl (WT4.heap.size) (by exact rfl) (0) (p') (by exact rfl) (by assumption) (by kernel_rfl) 44 _ _ (show QRow _ _ _ 0 Z8 from alloc_at _ _) rfl ?_; intro WT5 HN HO HB
         have HQ := HN
         have T5 := Lib.hid (T4.out.under (((Below.refl _ _).alloc (Nat.le_refl _) _).trans HB.out))
         have HS := Lib.hid (Nat.ne_of_lt T4.out.q.lt)
         have NR := Lib.hid (Nat.ne_of_lt T4.out.z.lt)
         clear HN HO HB T4)
      | (go_at_call 30; refine (HC2.out _).mono ?_; rintro e WT4 ⟨rfl, hB⟩
         have T4 := Lib.hid (T3.out.under hB)
         clear hB T3)
      | ((with_reducible show wpList _ _ _ (⟨some 26, .load 44 (.tmp 25), _, _, _, _⟩ :: _) _ _); refine wpList_load_q9 rfl 44 _ rfl g 9 (by exact rfl) _ Try.underlying44 (by kernel_rfl) T3.out.q.tx T3.out.q.hc ?_)
      | ((with_reducible show wpList _ _ _ (⟨none, .store 5 (.tmp 19) (.tmp 18), _, _, _, _⟩ :: _) _ _); refine wpList_store_j rfl 5 _ _ rfl g 20 (by exact rfl) (.int .u8 ((4 : Nat) : Int)) (by exact rfl) rfl (by kernel_rfl) 46 T2.out.q (by decide) (uc_set_k T2.out.q.hb T2.out.q.hc) T2.out.q.hb T2.out.q.hc ?_; intro WT3 HN HO HB
         have T3 := Lib.hid (T2.out.setG HN.out HO.out HB.out)
         have d20 := T3.out.q.c20
         clear HN HO HB T2))
          refine wp_region_noPanic ?_
          refine wp_region_held_drew (S := fun X => URow X g 46 N p 0 p' l c 0 ∧ QRow X WT4.heap.size 44 0 p') (by kernel_rfl) (⟨T7.out.q.below (Below.refl _ _).drew T7.out.q.lt, QRow.below HQ3.out (Below.refl _ _).drew HQ3.out.lt⟩) (fun hHeld => ?_)
          refine' take_ 0 rfl (by kernel_rfl) (by kernel_rfl) (by kernel_rfl) (fun _ _ _ h => h) (by rfl) (fun wS hSw => run_load_u wS 46 _ g rfl _ Try.underlying46 (by kernel_rfl) 46 hSw.1 _ _ _ _ _) hHeld ?_
          try simp only [Act.put, List.setIfInBounds_toArray, List.set_cons_zero, List.set_cons_succ]
          refine' take_ 1 rfl (by kernel_rfl) (by kernel_rfl) (by kernel_rfl) (fun _ _ _ h => h) (by rfl) (fun wS hSw => ?_) hHeld ?_
          rotate_left
          focus (go_simp; (try with_reducible rfl); done)
          try simp only [Act.put, List.setIfInBounds_toArray, List.set_cons_zero, List.set_cons_succ]
          refine' take_ 2 rfl (by kernel_rfl) (by kernel_rfl) (by kernel_rfl) (fun _ _ _ h => h) (by rfl) (fun wS hSw => ?_) hHeld ?_
          rotate_left
          focus (go_simp; (try with_reducible rfl); done)
          try simp only [Act.put, List.setIfInBounds_toArray, List.set_cons_zero, List.set_cons_succ]
          refine' take_ 3 rfl (by kernel_rfl) (by kernel_rfl) (by kernel_rfl) (fun _ _ _ h => h) (by rfl) (fun wS hSw => ?_) hHeld ?_
          rotate_left
          focus (have s0 := row_at hSw.2 0 _ rfl; clear hSw; go_simp; (try with_reducible rfl); done)
          try simp only [Act.put, List.setIfInBounds_toArray, List.set_cons_zero, List.set_cons_succ]
          refine' take_ 4 rfl (by kernel_rfl) (by kernel_rfl) (by kernel_rfl) (fun _ _ _ h => h) (by rfl) (fun wS hSw => ?_) hHeld ?_
          rotate_left
          focus (go_simp; (first | (rw [HNe.out]; done) | (rw [HNe.out]; with_reducible rfl) | (with_reducible rfl)))
          try simp only [Act.put, List.setIfInBounds_toArray, List.set_cons_zero, List.set_cons_succ]
          refine' take_ 5 rfl (by kernel_rfl) (by kernel_rfl) (by kernel_rfl) (fun _ _ _ h => h) (by rfl) (fun wS hSw => ?_) hHeld ?_
          rotate_left
          focus (go_simp; (try with_reducible rfl); done)
          try simp only [Act.put, List.setIfInBounds_toArray, List.set_cons_zero, List.set_cons_succ]
          refine' take_ 6 rfl (by kernel_rfl) (by kernel_rfl) (by kernel_rfl) (fun _ _ _ h => h) (by rfl) (fun wS hSw => ?_) hHeld ?_
          rotate_left
          focus (go_simp; (try with_reducible rfl); done)
          try simp only [Act.put, List.setIfInBounds_toArray, List.set_cons_zero, List.set_cons_succ]
          refine' take_ 7 rfl (by kernel_rfl) (by kernel_rfl) (by kernel_rfl) (fun _ _ _ h => h) (by rfl) (fun wS hSw => ?_) hHeld ?_
          rotate_left
          focus (have s0 := hSw.1.c19; clear hSw; go_simp; (try with_reducible rfl); done)
          try simp only [Act.put, List.setIfInBounds_toArray, List.set_cons_zero, List.set_cons_succ]
          refine' take_ 8 rfl (by kernel_rfl) (by kernel_rfl) (by kernel_rfl) (fun _ _ _ h => h) (by rfl) (fun wS hSw => ?_) hHeld ?_
          rotate_left
          focus (go_simp; rw [HQ8.out]; (try with_reducible rfl); done)
          try simp only [Act.put, List.setIfInBounds_toArray, List.set_cons_zero, List.set_cons_succ]
          refine' take_ 9 rfl (by kernel_rfl) (by kernel_rfl) (by kernel_rfl) (fun _ _ _ h => h) (by rfl) (fun wS hSw => ?_) hHeld ?_
          rotate_left
          focus (go_simp; rw [HS1.out]; (try with_reducible rfl); done)
          try simp only [Act.put, List.setIfInBounds_toArray, List.set_cons_zero, List.set_cons_succ]
          refine' take_ 10 rfl (by kernel_rfl) (by kernel_rfl) (by kernel_rfl) (fun _ _ _ h => h) (by rfl) (fun wS hSw => ?_) hHeld ?_
          rotate_left
          focus (go_simp; (try with_reducible rfl); done)
          try simp only [Act.put, List.setIfInBounds_toArray, List.set_cons_zero, List.set_cons_succ]
          refine' take_ 11 rfl (by kernel_rfl) (by kernel_rfl) (by kernel_rfl) (fun _ _ _ h => h) (by rfl) (fun wS hSw => ?_) hHeld ?_
          rotate_left
          focus (go_simp; (try with_reducible rfl); done)
          try simp only [Act.put, List.setIfInBounds_toArray, List.set_cons_zero, List.set_cons_succ]
          refine only_ 12 rfl (by kernel_rfl) (by rfl) (fun K hK => ?_)
          refine wp_store_u 46 _ _ rfl r rfl rfl hHeld.1.hb hHeld.1.hc (by kernel_rfl) 46 (T7.out.z.below (w' := _) (Below.refl _ _).drew T7.out.z.lt) ?_
          intro WZ HN HO HB
          have HZ := HN
          have BZ := Lib.hid (T7.out.b.drew.trans (HB.out.mono T7.out.lr))
          refine hK.out _ _ (⟨hHeld.1.other HO.out T7.out.gr, (HO.out _ NR.out.symm).trans hHeld.2⟩) (fun hHeld2 => ?_)
          clear hK K hHeld HN HO HB
          have hHeld := hHeld2
          clear hHeld2
          try simp only [Act.put]
          refine' take_ 13 rfl (by kernel_rfl) (by kernel_rfl) (by kernel_rfl) (fun _ _ _ h => h) (by rfl) (fun wS hSw => ?_) hHeld ?_
          rotate_left
          focus (go_simp; (try with_reducible rfl); done)
          try simp only [Act.put, List.setIfInBounds_toArray, List.set_cons_zero, List.set_cons_succ]
          refine' take_ 14 rfl (by kernel_rfl) (by kernel_rfl) (by kernel_rfl) (fun _ _ _ h => h) (by rfl) (fun wS hSw => ?_) hHeld ?_
          rotate_left
          focus (go_simp; (try with_reducible rfl); done)
          try simp only [Act.put, List.setIfInBounds_toArray, List.set_cons_zero, List.set_cons_succ]
          refine' take_ 15 rfl (by kernel_rfl) (by kernel_rfl) (by kernel_rfl) (fun _ _ _ h => h) (by rfl) (fun wS hSw => ?_) hHeld ?_
          rotate_left
          focus (go_simp; (try with_reducible rfl); done)
          try simp only [Act.put, List.setIfInBounds_toArray, List.set_cons_zero, List.set_cons_succ]
          refine wpAnyH_done (by kernel_rfl) ?_ _
          refine NoPanic.normal ?_
          go_wp2
          exact bodyPost_ret (v := .tuple #[uv N p (0) (p') l c (0), .int .u8 ((x : Nat) : Int), .bool true, .bool false]) (results_cttt Try.results20 _ _ _ _ _ _ _ _ rfl (run_loadVar_u WZ r 46 _ Try.underlying46 (by kernel_rfl) 46 HZ.out) rfl rfl rfl) rfl ⟨by first | (rw [HE.out, HE2.out.1, HE2.out.2.1, HE2.out.2.2]; done) | (rw [HE.out, HE2.out.1, HE2.out.2.1, HE2.out.2.2]; rfl), BZ.out⟩
        · replace HS1 : Hid (((c : Int) / 2).tmod 2 = 1) := HS1
          go_wp2_with (first
      | ((with_reducible show wpList _ _ _ (⟨none, .store 5 (.tmp 33) _, _, _, _, _⟩ :: _) _ _); refine wpList_store_j rfl 5 _ _ rfl g 20 (by exact rfl) (.int .u8 ((0 : Nat) : Int)) (by exact rfl) rfl (by kernel_rfl) 46 T6.out.q (by decide) (uc_set_k T6.out.q.hb T6.out.q.hc) T6.out.q.hb T6.out.q.hc ?_; intro WT7 HN HO HB
         have T7 := Lib.hid (T6.out.setG HN.out HO.out HB.out)
         have HQ3 : Hid (QRow WT7 WT4.heap.size 44 0 p') := Lib.hid ((HO.out _ NS.out.symm).trans HQ2.out)
         clear HQ2
         clear HN HO HB T6)
      | ((with_reducible show wpList _ _ _ (⟨none, .store 44 (.tmp 32) (.tmp 31), _, _, _, _⟩ :: _) _ _); refine wpList_store_tx rfl 44 _ _ rfl g (by exact rfl) (by exact rfl) (by assumption) (by kernel_rfl) 46 T5.out.q ?_; intro WT6 HN HO HB
         have T6 := Lib.hid (T5.out.setG HN.out HO.out HB.out)
         have HQ2 : Hid (QRow WT6 WT4.heap.size 44 0 p') := Lib.hid ((HO.out _ HS.out.symm).trans HQ.out)
         have NS := HS
         clear HQ HS
         clear HN HO HB T5)
      | ((with_reducible show wpList _ _ _ (⟨some 31, .load 44 (.tmp 7), _, _, _, _⟩ :: _) _ _); refine wpList_load_q rfl 44 _ rfl (WT4.heap.size) (by exact rfl) _ Try.underlying44 (by kernel_rfl) 44 _ _ HQ.out (by assumption) ?_)
      | ((with_reducible show wpList _ _ _ (⟨none, .store 44 (.tmp 7) (.tmp 29), _, _, _, _⟩ :: _) _ _); refine wpList_store_q rfl 44 _ _ rfl (WT4.heap.size) (by exact rfl) (0) (p') (by exact rfl) (by assumption) (by kernel_rfl) 44 _ _ (show QRow _ _ _ 0 Z8 from alloc_at _ _) rfl ?_; intro WT5 HN HO HB
         have HQ := HN
         have T5 := Lib.hid (T4.out.under (((Below.refl _ _).alloc (Nat.le_refl _) _).trans HB.out))
         have HS := Lib.hid (Nat.ne_of_lt T4.out.q.lt)
         have NR := Lib.hid (Nat.ne_of_lt T4.out.z.lt)
         clear HN HO HB T4)
      | (go_at_call 30; refine (HC2.out _).mono ?_; rintro e WT4 ⟨rfl, hB⟩
         have T4 := Lib.hid (T3.out.under hB)
         clear hB T3)
      | ((with_reducible show wpList _ _ _ (⟨some 26, .load 44 (.tmp 25), _, _, _, _⟩ :: _) _ _); refine wpList_load_q9 rfl 44 _ rfl g 9 (by exact rfl) _ Try.underlying44 (by kernel_rfl) T3.out.q.tx T3.out.q.hc ?_)
      | ((with_reducible show wpList _ _ _ (⟨none, .store 5 (.tmp 19) (.tmp 18), _, _, _, _⟩ :: _) _ _); refine wpList_store_j rfl 5 _ _ rfl g 20 (by exact rfl) (.int .u8 ((4 : Nat) : Int)) (by exact rfl) rfl (by kernel_rfl) 46 T2.out.q (by decide) (uc_set_k T2.out.q.hb T2.out.q.hc) T2.out.q.hb T2.out.q.hc ?_; intro WT3 HN HO HB
         have T3 := Lib.hid (T2.out.setG HN.out HO.out HB.out)
         have d20 := T3.out.q.c20
         clear HN HO HB T2))
          refine wp_region_noPanic ?_
          refine wp_region_held_drew (S := fun X => URow X g 46 N p 0 p' l c 0 ∧ QRow X WT4.heap.size 44 0 p') (by kernel_rfl) (⟨T7.out.q.below (Below.refl _ _).drew T7.out.q.lt, QRow.below HQ3.out (Below.refl _ _).drew HQ3.out.lt⟩) (fun hHeld => ?_)
          refine' take_ 0 rfl (by kernel_rfl) (by kernel_rfl) (by kernel_rfl) (fun _ _ _ h => h) (by rfl) (fun wS hSw => run_load_u wS 46 _ g rfl _ Try.underlying46 (by kernel_rfl) 46 hSw.1 _ _ _ _ _) hHeld ?_
          try simp only [Act.put, List.setIfInBounds_toArray, List.set_cons_zero, List.set_cons_succ]
          refine' take_ 1 rfl (by kernel_rfl) (by kernel_rfl) (by kernel_rfl) (fun _ _ _ h => h) (by rfl) (fun wS hSw => ?_) hHeld ?_
          rotate_left
          focus (go_simp; (try with_reducible rfl); done)
          try simp only [Act.put, List.setIfInBounds_toArray, List.set_cons_zero, List.set_cons_succ]
          refine' take_ 2 rfl (by kernel_rfl) (by kernel_rfl) (by kernel_rfl) (fun _ _ _ h => h) (by rfl) (fun wS hSw => ?_) hHeld ?_
          rotate_left
          focus (go_simp; (try with_reducible rfl); done)
          try simp only [Act.put, List.setIfInBounds_toArray, List.set_cons_zero, List.set_cons_succ]
          refine' take_ 3 rfl (by kernel_rfl) (by kernel_rfl) (by kernel_rfl) (fun _ _ _ h => h) (by rfl) (fun wS hSw => ?_) hHeld ?_
          rotate_left
          focus (have s0 := row_at hSw.2 0 _ rfl; clear hSw; go_simp; (try with_reducible rfl); done)
          try simp only [Act.put, List.setIfInBounds_toArray, List.set_cons_zero, List.set_cons_succ]
          refine' take_ 4 rfl (by kernel_rfl) (by kernel_rfl) (by kernel_rfl) (fun _ _ _ h => h) (by rfl) (fun wS hSw => ?_) hHeld ?_
          rotate_left
          focus (go_simp; (first | (rw [HNe.out]; done) | (rw [HNe.out]; with_reducible rfl) | (with_reducible rfl)))
          try simp only [Act.put, List.setIfInBounds_toArray, List.set_cons_zero, List.set_cons_succ]
          refine' take_ 5 rfl (by kernel_rfl) (by kernel_rfl) (by kernel_rfl) (fun _ _ _ h => h) (by rfl) (fun wS hSw => ?_) hHeld ?_
          rotate_left
          focus (go_simp; (try with_reducible rfl); done)
          try simp only [Act.put, List.setIfInBounds_toArray, List.set_cons_zero, List.set_cons_succ]
          refine' take_ 6 rfl (by kernel_rfl) (by kernel_rfl) (by kernel_rfl) (fun _ _ _ h => h) (by rfl) (fun wS hSw => ?_) hHeld ?_
          rotate_left
          focus (go_simp; (try with_reducible rfl); done)
          try simp only [Act.put, List.setIfInBounds_toArray, List.set_cons_zero, List.set_cons_succ]
          refine' take_ 7 rfl (by kernel_rfl) (by kernel_rfl) (by kernel_rfl) (fun _ _ _ h => h) (by rfl) (fun wS hSw => ?_) hHeld ?_
          rotate_left
          focus (have s0 := hSw.1.c19; clear hSw; go_simp; (try with_reducible rfl); done)
          try simp only [Act.put, List.setIfInBounds_toArray, List.set_cons_zero, List.set_cons_succ]
          refine' take_ 8 rfl (by kernel_rfl) (by kernel_rfl) (by kernel_rfl) (fun _ _ _ h => h) (by rfl) (fun wS hSw => ?_) hHeld ?_
          rotate_left
          focus (go_simp; rw [HQ8.out]; (try with_reducible rfl); done)
          try simp only [Act.put, List.setIfInBounds_toArray, List.set_cons_zero, List.set_cons_succ]
          refine' take_ 9 rfl (by kernel_rfl) (by kernel_rfl) (by kernel_rfl) (fun _ _ _ h => h) (by rfl) (fun wS hSw => ?_) hHeld ?_
          rotate_left
          focus (go_simp; rw [HS1.out]; (try with_reducible rfl); done)
          try simp only [Act.put, List.setIfInBounds_toArray, List.set_cons_zero, List.set_cons_succ]
          refine' take_ 10 rfl (by kernel_rfl) (by kernel_rfl) (by kernel_rfl) (fun _ _ _ h => h) (by rfl) (fun wS hSw => ?_) hHeld ?_
          rotate_left
          focus (go_simp; (try with_reducible rfl); done)
          try simp only [Act.put, List.setIfInBounds_toArray, List.set_cons_zero, List.set_cons_succ]
          refine' take_ 11 rfl (by kernel_rfl) (by kernel_rfl) (by kernel_rfl) (fun _ _ _ h => h) (by rfl) (fun wS hSw => ?_) hHeld ?_
          rotate_left
          focus (go_simp; (try with_reducible rfl); done)
          try simp only [Act.put, List.setIfInBounds_toArray, List.set_cons_zero, List.set_cons_succ]
          refine only_ 12 rfl (by kernel_rfl) (by rfl) (fun K hK => ?_)
          refine wp_store_u 46 _ _ rfl r rfl rfl hHeld.1.hb hHeld.1.hc (by kernel_rfl) 46 (T7.out.z.below (w' := _) (Below.refl _ _).drew T7.out.z.lt) ?_
          intro WZ HN HO HB
          have HZ := HN
          have BZ := Lib.hid (T7.out.b.drew.trans (HB.out.mono T7.out.lr))
          refine hK.out _ _ (⟨hHeld.1.other HO.out T7.out.gr, (HO.out _ NR.out.symm).trans hHeld.2⟩) (fun hHeld2 => ?_)
          clear hK K hHeld HN HO HB
          have hHeld := hHeld2
          clear hHeld2
          try simp only [Act.put]
          refine' take_ 13 rfl (by kernel_rfl) (by kernel_rfl) (by kernel_rfl) (fun _ _ _ h => h) (by rfl) (fun wS hSw => ?_) hHeld ?_
          rotate_left
          focus (go_simp; (try with_reducible rfl); done)
          try simp only [Act.put, List.setIfInBounds_toArray, List.set_cons_zero, List.set_cons_succ]
          refine' take_ 14 rfl (by kernel_rfl) (by kernel_rfl) (by kernel_rfl) (fun _ _ _ h => h) (by rfl) (fun wS hSw => ?_) hHeld ?_
          rotate_left
          focus (go_simp; (try with_reducible rfl); done)
          try simp only [Act.put, List.setIfInBounds_toArray, List.set_cons_zero, List.set_cons_succ]
          refine' take_ 15 rfl (by kernel_rfl) (by kernel_rfl) (by kernel_rfl) (fun _ _ _ h => h) (by rfl) (fun wS hSw => ?_) hHeld ?_
          rotate_left
          focus (go_simp; (try with_reducible rfl); done)
          try simp only [Act.put, List.setIfInBounds_toArray, List.set_cons_zero, List.set_cons_succ]
          refine wpAnyH_done (by kernel_rfl) ?_ _
          refine NoPanic.normal ?_
          go_wp2
          exact bodyPost_ret (v := .tuple #[uv N p (0) (p') l c (0), .int .u8 ((x : Nat) : Int), .bool true, .bool true]) (results_cttt Try.results20 _ _ _ _ _ _ _ _ rfl (run_loadVar_u WZ r 46 _ Try.underlying46 (by kernel_rfl) 46 HZ.out) rfl rfl rfl) rfl ⟨by first | (rw [HE.out, HE2.out.1, HE2.out.2.1, HE2.out.2.2]; done) | (rw [HE.out, HE2.out.1, HE2.out.2.1, HE2.out.2.2]; rfl), BZ.out⟩
      | cons y us =>
        have d3 : ¬ N' = 0 := by rw [HNN.out]; simp; omega
        have HNe : Hid ((N' == (0 : Int)) = false) := Lib.hid (by simpa using d3)
        clear d3
        have HE2 : Hid (tickB (x :: y :: us) 3 = x ∧ sendsU (x :: y :: us) 3 = true ∧ tickQ (x :: y :: us) c 3 = false) := Lib.hid ⟨rfl, rfl, rfl⟩
        go_wp2_with (first
      | ((with_reducible show wpList _ _ _ (⟨none, .store 5 (.tmp 33) _, _, _, _, _⟩ :: _) _ _); refine wpList_store_j rfl 5 _ _ rfl g 20 (by exact rfl) (.int .u8 ((0 : Nat) : Int)) (by exact rfl) rfl (by kernel_rfl) 46 T6.out.q (by decide) (uc_set_k T6.out.q.hb T6.out.q.hc) T6.out.q.hb T6.out.q.hc ?_; intro WT7 HN HO HB
         have T7 := Lib.hid (T6.out.setG HN.out HO.out HB.out)
         have HQ3 : Hid (QRow WT7 WT4.heap.size 44 N' p') := Lib.hid ((HO.out _ NS.out.symm).trans HQ2.out)
         clear HQ2
         clear HN HO HB T6)
      | ((with_reducible show wpList _ _ _ (⟨none, .store 44 (.tmp 32) (.tmp 31), _, _, _, _⟩ :: _) _ _); refine wpList_store_tx rfl 44 _ _ rfl g (by exact rfl) (by exact rfl) (by assumption) (by kernel_rfl) 46 T5.out.q ?_; intro WT6 HN HO HB
         have T6 := Lib.hid (T5.out.setG HN.out HO.out HB.out)
         have HQ2 : Hid (QRow WT6 WT4.heap.size 44 N' p') := Lib.hid ((HO.out _ HS.out.symm).trans HQ.out)
         have NS := HS
         clear HQ HS
         clear HN HO HB T5)
      | ((with_reducible show wpList _ _ _ (⟨some 31, .load 44 (.tmp 7), _, _, _, _⟩ :: _) _ _); refine wpList_load_q rfl 44 _ rfl (WT4.heap.size) (by exact rfl) _ Try.underlying44 (by kernel_rfl) 44 _ _ HQ.out (by assumption) ?_)
      | ((with_reducible show wpList _ _ _ (⟨none, .store 44 (.tmp 7) (.tmp 29), _, _, _, _⟩ :: _) _ _); refine wpList_store_q rfl 44 _ _ rfl (WT4.heap.size) (by exact rfl) (N') (p') (by exact rfl) (by assumption) (by kernel_rfl) 44 _ _ (show QRow _ _ _ 0 Z8 from alloc_at _ _) rfl ?_; intro WT5 HN HO HB
         have HQ := HN
         have T5 := Lib.hid (T4.out.under (((Below.refl _ _).alloc (Nat.le_refl _) _).trans HB.out))
         have HS := Lib.hid (Nat.ne_of_lt T4.out.q.lt)
         have NR := Lib.hid (Nat.ne_of_lt T4.out.z.lt)
         clear HN HO HB T4)
      | (go_at_call 30; refine (HC2.out _).mono ?_; rintro e WT4 ⟨rfl, hB⟩
         have T4 := Lib.hid (T3.out.under hB)
         clear hB T3)
      | ((with_reducible show wpList _ _ _ (⟨some 26, .load 44 (.tmp 25), _, _, _, _⟩ :: _) _ _); refine wpList_load_q9 rfl 44 _ rfl g 9 (by exact rfl) _ Try.underlying44 (by kernel_rfl) T3.out.q.tx T3.out.q.hc ?_)
      | ((with_reducible show wpList _ _ _ (⟨none, .store 5 (.tmp 19) (.tmp 18), _, _, _, _⟩ :: _) _ _); refine wpList_store_j rfl 5 _ _ rfl g 20 (by exact rfl) (.int .u8 ((4 : Nat) : Int)) (by exact rfl) rfl (by kernel_rfl) 46 T2.out.q (by decide) (uc_set_k T2.out.q.hb T2.out.q.hc) T2.out.q.hb T2.out.q.hc ?_; intro WT3 HN HO HB
         have T3 := Lib.hid (T2.out.setG HN.out HO.out HB.out)
         have d20 := T3.out.q.c20
         clear HN HO HB T2))
        refine wp_region_noPanic ?_
        refine wp_region_held_drew (S := fun X => URow X g 46 N p N' p' l c 0 ∧ QRow X WT4.heap.size 44 N' p') (by kernel_rfl) (⟨T7.out.q.below (Below.refl _ _).drew T7.out.q.lt, QRow.below HQ3.out (Below.refl _ _).drew HQ3.out.lt⟩) (fun hHeld => ?_)
        refine' take_ 0 rfl (by kernel_rfl) (by kernel_rfl) (by kernel_rfl) (fun _ _ _ h => h) (by rfl) (fun wS hSw => run_load_u wS 46 _ g rfl _ Try.underlying46 (by kernel_rfl) 46 hSw.1 _ _ _ _ _) hHeld ?_
        try simp only [Act.put, List.setIfInBounds_toArray, List.set_cons_zero, List.set_cons_succ]
        refine' take_ 1 rfl (by kernel_rfl) (by kernel_rfl) (by kernel_rfl) (fun _ _ _ h => h) (by rfl) (fun wS hSw => ?_) hHeld ?_
        rotate_left
        focus (go_simp; (try with_reducible rfl); done)
        try simp only [Act.put, List.setIfInBounds_toArray, List.set_cons_zero, List.set_cons_succ]
        refine' take_ 2 rfl (by kernel_rfl) (by kernel_rfl) (by kernel_rfl) (fun _ _ _ h => h) (by rfl) (fun wS hSw => ?_) hHeld ?_
        rotate_left
        focus (go_simp; (try with_reducible rfl); done)
        try simp only [Act.put, List.setIfInBounds_toArray, List.set_cons_zero, List.set_cons_succ]
        refine' take_ 3 rfl (by kernel_rfl) (by kernel_rfl) (by kernel_rfl) (fun _ _ _ h => h) (by rfl) (fun wS hSw => ?_) hHeld ?_
        rotate_left
        focus (have s0 := row_at hSw.2 0 _ rfl; clear hSw; go_simp; (try with_reducible rfl); done)
        try simp only [Act.put, List.setIfInBounds_toArray, List.set_cons_zero, List.set_cons_succ]
        refine' take_ 4 rfl (by kernel_rfl) (by kernel_rfl) (by kernel_rfl) (fun _ _ _ h => h) (by rfl) (fun wS hSw => ?_) hHeld ?_
        rotate_left
        focus (go_simp; (first | (rw [HNe.out]; done) | (rw [HNe.out]; with_reducible rfl) | (with_reducible rfl)))
        try simp only [Act.put, List.setIfInBounds_toArray, List.set_cons_zero, List.set_cons_succ]
        refine' take_ 5 rfl (by kernel_rfl) (by kernel_rfl) (by kernel_rfl) (fun _ _ _ h => h) (by rfl) (fun wS hSw => ?_) hHeld ?_
        rotate_left
        focus (go_simp; (try with_reducible rfl); done)
        try simp only [Act.put, List.setIfInBounds_toArray, List.set_cons_zero, List.set_cons_succ]
        refine' pass_ 6 rfl (by kernel_rfl) (by kernel_rfl) (by kernel_rfl) (fun _ _ _ h => h) (by rfl) hHeld ?_
        try simp only [Act.put, List.setIfInBounds_toArray, List.set_cons_zero, List.set_cons_succ]
        refine' pass_ 7 rfl (by kernel_rfl) (by kernel_rfl) (by kernel_rfl) (fun _ _ _ h => h) (by rfl) hHeld ?_
        try simp only [Act.put, List.setIfInBounds_toArray, List.set_cons_zero, List.set_cons_succ]
        refine' pass_ 8 rfl (by kernel_rfl) (by kernel_rfl) (by kernel_rfl) (fun _ _ _ h => h) (by rfl) hHeld ?_
        try simp only [Act.put, List.setIfInBounds_toArray, List.set_cons_zero, List.set_cons_succ]
        refine' pass_ 9 rfl (by kernel_rfl) (by kernel_rfl) (by kernel_rfl) (fun _ _ _ h => h) (by rfl) hHeld ?_
        try simp only [Act.put, List.setIfInBounds_toArray, List.set_cons_zero, List.set_cons_succ]
        refine' pass_ 10 rfl (by kernel_rfl) (by kernel_rfl) (by kernel_rfl) (fun _ _ _ h => h) (by rfl) hHeld ?_
        try simp only [Act.put, List.setIfInBounds_toArray, List.set_cons_zero, List.set_cons_succ]
        refine' take_ 11 rfl (by kernel_rfl) (by kernel_rfl) (by kernel_rfl) (fun _ _ _ h => h) (by rfl) (fun wS hSw => ?_) hHeld ?_
        rotate_left
        focus (go_simp; (try with_reducible rfl); done)
        try simp only [Act.put, List.setIfInBounds_toArray, List.set_cons_zero, List.set_cons_succ]
        refine only_ 12 rfl (by kernel_rfl) (by rfl) (fun K hK => ?_)
        refine wp_store_u 46 _ _ rfl r rfl rfl hHeld.1.hb hHeld.1.hc (by kernel_rfl) 46 (T7.out.z.below (w' := _) (Below.refl _ _).drew T7.out.z.lt) ?_
        intro WZ HN HO HB
        have HZ := HN
        have BZ := Lib.hid (T7.out.b.drew.trans (HB.out.mono T7.out.lr))
        refine hK.out _ _ (⟨hHeld.1.other HO.out T7.out.gr, (HO.out _ NR.out.symm).trans hHeld.2⟩) (fun hHeld2 => ?_)
        clear hK K hHeld HN HO HB
        have hHeld := hHeld2
        clear hHeld2
        try simp only [Act.put]
        refine' take_ 13 rfl (by kernel_rfl) (by kernel_rfl) (by kernel_rfl) (fun _ _ _ h => h) (by rfl) (fun wS hSw => ?_) hHeld ?_
        rotate_left
        focus (go_simp; (try with_reducible rfl); done)
        try simp only [Act.put, List.setIfInBounds_toArray, List.set_cons_zero, List.set_cons_succ]
        refine' take_ 14 rfl (by kernel_rfl) (by kernel_rfl) (by kernel_rfl) (fun _ _ _ h => h) (by rfl) (fun wS hSw => ?_) hHeld ?_
        rotate_left
        focus (go_simp; (try with_reducible rfl); done)
        try simp only [Act.put, List.setIfInBounds_toArray, List.set_cons_zero, List.set_cons_succ]
        refine' take_ 15 rfl (by kernel_rfl) (by kernel_rfl) (by kernel_rfl) (fun _ _ _ h => h) (by rfl) (fun wS hSw => ?_) hHeld ?_
        rotate_left
        focus (go_simp; (try with_reducible rfl); done)
        try simp only [Act.put, List.setIfInBounds_toArray, List.set_cons_zero, List.set_cons_succ]
        refine wpAnyH_done (by kernel_rfl) ?_ _
        refine NoPanic.normal ?_
        go_wp2
        exact bodyPost_ret (v := .tuple #[uv N p (N') (p') l c (0), .int .u8 ((x : Nat) : Int), .bool true, .bool false]) (results_cttt Try.results20 _ _ _ _ _ _ _ _ rfl (run_loadVar_u WZ r 46 _ Try.underlying46 (by kernel_rfl) 46 HZ.out) rfl rfl rfl) rfl ⟨by first | (rw [HE.out, HE2.out.1, HE2.out.2.1, HE2.out.2.2]; done) | (rw [HE.out, HE2.out.1, HE2.out.2.1, HE2.out.2.2]; rfl), BZ.out⟩
    · have hs : sendsU (x :: ts) k2 = false := by simp [sendsU, h3]
      have HE : Hid (uq R (tickT (x :: ts) k2) l c (tickK (x :: ts) k2) = uv N p M q l c (k2 + 1)) := Lib.hid (by rw [show tickT (x :: ts) k2 = x :: ts from if_neg (by rw [hs]; decide), show tickK (x :: ts) k2 = k2 + 1 from (if_neg (by simp)).trans (if_neg h3), HU.out])
      have HE2 : Hid (tickB (x :: ts) k2 = 0 ∧ sendsU (x :: ts) k2 = false ∧ tickQ (x :: ts) c k2 = false) := Lib.hid ⟨if_neg (by rw [hs]; decide), hs, by unfold tickQ; rw [hs]; rfl⟩
      have d2 : ((k2 + 1 : Nat) : Int) < 4 := by omega
      clear hTl hs
      go_wp2_with (first
      | ((with_reducible show wpList _ _ _ (⟨none, .store 46 (.tmp 2) (.tmp 23), _, _, _, _⟩ :: _) _ _); refine wpList_store_u rfl 46 _ _ rfl r (by exact rfl) (by exact rfl) T3.out.q.hb T3.out.q.hc (by kernel_rfl) 46 T3.out.z ?_; intro WZ HN HO HB
         have HZ := HN
         have BZ := Lib.hid (T3.out.b.trans (HB.out.mono T3.out.lr))
         clear HN HO HB)
      | ((with_reducible show wpList _ _ _ (⟨some 23, .load 46 (.tmp 1), _, _, _, _⟩ :: _) _ _); refine wpList_load_u (by rfl) 46 _ rfl g (by exact rfl) _ Try.underlying46 (by kernel_rfl) 46 T3.out.q ?_)
      | ((with_reducible show wpList _ _ _ (⟨none, .store 5 (.tmp 19) (.tmp 18), _, _, _, _⟩ :: _) _ _); refine wpList_store_j rfl 5 _ _ rfl g 20 (by exact rfl) (.int .u8 ((k2 + 1 : Nat) : Int)) (by exact rfl) rfl (by kernel_rfl) 46 T2.out.q (by decide) (uc_set_k T2.out.q.hb T2.out.q.hc) T2.out.q.hb T2.out.q.hc ?_; intro WT3 HN HO HB
         have T3 := Lib.hid (T2.out.setG HN.out HO.out HB.out)
         have d20 := T3.out.q.c20
         clear HN HO HB T2))
      exact bodyPost_ret (v := .tuple #[uv N p (M) (q) l c (k2 + 1), .int .u8 ((0 : Nat) : Int), .bool false, .bool false]) (results_cttt Try.results20 _ _ _ _ _ _ _ _ rfl (run_loadVar_u WZ r 46 _ Try.underlying46 (by kernel_rfl) 46 HZ.out) rfl rfl rfl) rfl ⟨by first | (rw [HE.out, HE2.out.1, HE2.out.2.1, HE2.out.2.2]; done) | (rw [HE.out, HE2.out.1, HE2.out.2.1, HE2.out.2.2]; rfl), BZ.out⟩
end Go.Proofs.Ytgpgijdciaieaaa
