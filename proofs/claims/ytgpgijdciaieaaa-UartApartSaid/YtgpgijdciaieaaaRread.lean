/-
  The document's Read by its contract. Made by wip/genuartref.py.
-/
import Derived.Test.YtgpgijdciaieaaaRpeek
namespace Go.Proofs.Ytgpgijdciaieaaa
open Go.RowKit
set_option linter.unusedVariables false
set_option maxRecDepth 100000 in
theorem rReadU_any : ReadC 18 := by
  intro n bs m cs l c k reg w h hg0 hg1
  have C1 := Lib.hid (fun W => rMendU_any n bs m cs l c k W h)
  have hRl := cutL_le n bs h.hb
  have hTl := cutL_le m cs h.hc
  have hlR : ∀ x ∈ cutL n bs, x < 256 := cutL_lt h.lb
  have hlT : ∀ x ∈ cutL m cs, x < 256 := cutL_lt h.lc
  have hc8 := h.c8
  generalize cutL n bs = R at *
  generalize cutL m cs = T at *
  have hk4 := kM_lt T k
  have hk0 : T = [] → kM T k = 0 := fun h => by rw [h, kM_nil]
  generalize hkk : kM T k = k2 at *
  clear hkk
  obtain ⟨N, p, hN, hp, hp8, hN2, hE1⟩ := ofV_parts R hRl
  obtain ⟨M, q, hM, hq, hq8, hM2, hE2⟩ := ofV_parts T hTl
  have HC1 : Hid (∀ W : World, Calls Try.prog 23 #[uv n bs m cs l c k] W fun x w' => x = .returned (uv N p M q l c k2) ∧ Below W.heap.size W w') := Lib.hid (fun W => by
    have h1 := C1.out W
    unfold uq at h1
    rw [hN, hp, hM, hq] at h1
    exact h1)
  have HM2 := Lib.hid hM2
  have HN2 := Lib.hid hN2
  have HIN := Lib.hid (mended_in (c := c) hRl hTl hN hp hM hq hlR hlT hc8 hk4)
  have HKK : Hid (kM T k2 = k2) := Lib.hid (by by_cases h0 : T = []; (· rw [h0, kM_nil, hk0 h0]); (· exact if_neg (by rintro (h1 | h1); omega; exact h0 h1)))
  clear C1
  have HC2 : Hid (∀ W : World, Calls Try.prog 21 #[uv N p M q l c k2, .int .i64 reg] W fun x w' => x = .returned (.int .i32 (peekU R T l c reg)) ∧ Below W.heap.size W w') := Lib.hid (fun W => by
    have h1 := rPeekU_any N p M q l c k2 reg W HIN.out.1 hg0 hg1
    rw [HIN.out.2.1, HIN.out.2.2] at h1
    exact h1)
  have HC3 : Hid (∀ W : World, Calls Try.prog 30 #[qv N p] W fun x w' => x = .returned (popV R) ∧ Below W.heap.size W w') := Lib.hid (fun W => by
    have h1 := rPop_any N p W hp8 HIN.out.1.n0 HIN.out.1.n1
    rw [HIN.out.2.1] at h1
    exact h1)
  have HUT : Hid (∀ (R' : List Nat) (l' : Bool) (c' k' : Nat), uq R' T l' c' k' = uv ((min R'.length 8 : Nat) : Int) (pad R') M q l' c' k') := Lib.hid (fun R' l' c' k' => by unfold uq; rw [hM, hq])
  have HU : Hid (uq R T l c k2 = uv N p M q l c k2) := Lib.hid (by rw [HUT.out, hN, hp])
  have HU4 : Hid (uq R T false c k2 = uv N p M q false c k2) := Lib.hid (by rw [HUT.out, hN, hp])
  obtain ⟨pv, HPV⟩ : ∃ v, peekU R T l c reg = v := ⟨_, rfl⟩
  rw [HPV] at HC2 ⊢
  clear hN hp hM hq hE1 hE2 hN2 hM2 hlR hlT HPV hTl
  unfold uv
  go_enter Try.func18, Try.ntmps18
  go_upto_region 1 with (fail)
  refine name_two (Q := fun X => Code.wp _ _ _ _ X) ?_
  intro W0 hq1 hq2 hB0
  have T0 := Lib.hid (Tw.new h.hb h.hc 46 hq1 hq2 hB0)
  clear hq1 hq2 hB0
  obtain ⟨g, hg⟩ : ∃ g, w.heap.size = g := ⟨_, rfl⟩
  obtain ⟨r, hr⟩ : ∃ r, w.heap.size + 1 = r := ⟨_, rfl⟩
  rw [hr, hg] at T0 ⊢
  clear hr hg
  go_upto_region 3 with (first
      | (go_at_call 21; refine (HC2.out _).mono ?_; rintro e WT3 ⟨rfl, hB⟩
         have T3 := Lib.hid (T2.out.under hB)
         clear hB T2)
      | ((with_reducible show wpList _ _ _ (⟨some 9, .load 46 (.tmp 2), _, _, _, _⟩ :: _) _ _); refine wpList_load_u (by rfl) 46 _ rfl g (by exact rfl) _ Try.underlying46 (by kernel_rfl) 46 T2.out.q ?_)
      | ((with_reducible show wpList _ _ _ (⟨none, .store 46 (.tmp 2) (.tmp 8), _, _, _, _⟩ :: _) _ _); refine wpList_store_u rfl 46 _ _ rfl g (by exact rfl) (by exact rfl) (by assumption) (by assumption) (by kernel_rfl) 46 T1.out.q ?_; intro WT2 HN HO HB
         have T2 := Lib.hid (T1.out.setG HN.out HO.out HB.out)
         clear HN HO HB T1)
      | (go_at_call 23; refine (HC1.out _).mono ?_; rintro e WT1 ⟨rfl, hB⟩
         have T1 := Lib.hid (T0.out.under hB)
         clear hB T0)
      | ((with_reducible show wpList _ _ _ (⟨some 7, .load 46 (.tmp 2), _, _, _, _⟩ :: _) _ _); refine wpList_load_u (by rfl) 46 _ rfl g (by exact rfl) _ Try.underlying46 (by kernel_rfl) 46 T0.out.q ?_))
  by_cases h3 : reg = 3
  · subst h3
    cases R with
    | nil =>
      have HE : Hid (uq (readR [] 3) T (readL l 3) c k2 = uv 0 Z8 M q l c k2) := Lib.hid (HUT.out [] l c k2)
      rw [show popV [] = .tuple #[.int .u8 0, qv 0 Z8, .bool false] from rfl] at HC3
      have h08 : Z8.length = 8 := rfl
      go_wp2_with (first
      | ((with_reducible show wpList _ _ _ (⟨none, .store 44 (.tmp 21) (.tmp 19), _, _, _, _⟩ :: _) _ _); refine wpList_store_rx rfl 44 _ _ rfl g (by exact rfl) (by exact rfl) (by assumption) (by kernel_rfl) 46 T4.out.q ?_; intro WT5 HN HO HB
         have T5 := Lib.hid (T4.out.setG HN.out HO.out HB.out)
         clear HN HO HB T4)
      | (go_at_call 30; refine (HC3.out _).mono ?_; rintro e WT4 ⟨rfl, hB⟩
         have T4 := Lib.hid (T3.out.under hB)
         clear hB T3)
      | ((with_reducible show wpList _ _ _ (⟨some 16, .load 44 (.tmp 15), _, _, _, _⟩ :: _) _ _); refine wpList_load_q9 rfl 44 _ rfl g 0 (by exact rfl) _ Try.underlying44 (by kernel_rfl) T3.out.q.rx T3.out.q.hb ?_))
      refine wp_region_noPanic ?_
      refine wp_region_held_drew (S := fun X => URow X g 46 (0) (Z8) M q l c k2) (by kernel_rfl) (T5.out.q.below (Below.refl _ _).drew T5.out.q.lt) (fun hHeld => ?_)
      refine' take_ 0 rfl (by kernel_rfl) (by kernel_rfl) (by kernel_rfl) (fun _ _ _ h => h) (by rfl) (fun wS hSw => ?_) hHeld ?_
      rotate_left
      focus (go_simp; (try with_reducible rfl); done)
      try simp only [Act.put, List.setIfInBounds_toArray, List.set_cons_zero, List.set_cons_succ]
      refine' take_ 1 rfl (by kernel_rfl) (by kernel_rfl) (by kernel_rfl) (fun _ _ _ h => h) (by rfl) (fun wS hSw => run_load_u wS 46 _ g rfl _ Try.underlying46 (by kernel_rfl) 46 hSw _ _ _ _ _) hHeld ?_
      try simp only [Act.put, List.setIfInBounds_toArray, List.set_cons_zero, List.set_cons_succ]
      refine' take_ 2 rfl (by kernel_rfl) (by kernel_rfl) (by kernel_rfl) (fun _ _ _ h => h) (by rfl) (fun wS hSw => ?_) hHeld ?_
      rotate_left
      focus (go_simp; (try with_reducible rfl); done)
      try simp only [Act.put, List.setIfInBounds_toArray, List.set_cons_zero, List.set_cons_succ]
      refine only_ 3 rfl (by kernel_rfl) (by rfl) (fun K hK => ?_)
      refine wp_store_u 46 _ _ rfl r rfl rfl hHeld.hb hHeld.hc (by kernel_rfl) 46 (T5.out.z.below (w' := _) (Below.refl _ _).drew T5.out.z.lt) ?_
      intro WZ HN HO HB
      have HZ := HN
      have BZ := Lib.hid (T5.out.b.drew.trans (HB.out.mono T5.out.lr))
      refine hK.out _ _ (hHeld.other HO.out T5.out.gr) (fun hHeld2 => ?_)
      clear hK K hHeld HN HO HB
      have hHeld := hHeld2
      clear hHeld2
      try simp only [Act.put]
      refine wpAnyH_done (by kernel_rfl) ?_ _
      refine NoPanic.normal ?_
      go_wp2
      exact bodyPost_ret (v := .tuple #[.int .i32 pv, uv (0) (Z8) M q l c k2]) (results_tc Try.results18 _ _ _ _ _ _ rfl (run_loadVar_u WZ r 46 _ Try.underlying46 (by kernel_rfl) 46 HZ.out) rfl) rfl ⟨by rw [HE.out], BZ.out⟩
    | cons x rs =>
      have hr8 : rs.length ≤ 8 := by simp at hRl; omega
      obtain ⟨N', p', hN', hp', hp8', -, hE'⟩ := ofV_parts rs hr8
      have HE : Hid (uq (readR (x :: rs) 3) T (readL l 3) c k2 = uv N' p' M q l c k2) := Lib.hid (by rw [show readR (x :: rs) 3 = rs from rfl, show readL l 3 = l from rfl, HUT.out, hN', hp'])
      rw [show popV (x :: rs) = .tuple #[.int .u8 (x : Int), ofV rs, .bool true] from rfl, hE'] at HC3
      clear hN' hp' hE' hRl hr8
      go_wp2_with (first
      | ((with_reducible show wpList _ _ _ (⟨none, .store 44 (.tmp 21) (.tmp 19), _, _, _, _⟩ :: _) _ _); refine wpList_store_rx rfl 44 _ _ rfl g (by exact rfl) (by exact rfl) (by assumption) (by kernel_rfl) 46 T4.out.q ?_; intro WT5 HN HO HB
         have T5 := Lib.hid (T4.out.setG HN.out HO.out HB.out)
         clear HN HO HB T4)
      | (go_at_call 30; refine (HC3.out _).mono ?_; rintro e WT4 ⟨rfl, hB⟩
         have T4 := Lib.hid (T3.out.under hB)
         clear hB T3)
      | ((with_reducible show wpList _ _ _ (⟨some 16, .load 44 (.tmp 15), _, _, _, _⟩ :: _) _ _); refine wpList_load_q9 rfl 44 _ rfl g 0 (by exact rfl) _ Try.underlying44 (by kernel_rfl) T3.out.q.rx T3.out.q.hb ?_))
      refine wp_region_noPanic ?_
      refine wp_region_held_drew (S := fun X => URow X g 46 (N') (p') M q l c k2) (by kernel_rfl) (T5.out.q.below (Below.refl _ _).drew T5.out.q.lt) (fun hHeld => ?_)
      refine' take_ 0 rfl (by kernel_rfl) (by kernel_rfl) (by kernel_rfl) (fun _ _ _ h => h) (by rfl) (fun wS hSw => ?_) hHeld ?_
      rotate_left
      focus (go_simp; (try with_reducible rfl); done)
      try simp only [Act.put, List.setIfInBounds_toArray, List.set_cons_zero, List.set_cons_succ]
      refine' take_ 1 rfl (by kernel_rfl) (by kernel_rfl) (by kernel_rfl) (fun _ _ _ h => h) (by rfl) (fun wS hSw => run_load_u wS 46 _ g rfl _ Try.underlying46 (by kernel_rfl) 46 hSw _ _ _ _ _) hHeld ?_
      try simp only [Act.put, List.setIfInBounds_toArray, List.set_cons_zero, List.set_cons_succ]
      refine' take_ 2 rfl (by kernel_rfl) (by kernel_rfl) (by kernel_rfl) (fun _ _ _ h => h) (by rfl) (fun wS hSw => ?_) hHeld ?_
      rotate_left
      focus (go_simp; (try with_reducible rfl); done)
      try simp only [Act.put, List.setIfInBounds_toArray, List.set_cons_zero, List.set_cons_succ]
      refine only_ 3 rfl (by kernel_rfl) (by rfl) (fun K hK => ?_)
      refine wp_store_u 46 _ _ rfl r rfl rfl hHeld.hb hHeld.hc (by kernel_rfl) 46 (T5.out.z.below (w' := _) (Below.refl _ _).drew T5.out.z.lt) ?_
      intro WZ HN HO HB
      have HZ := HN
      have BZ := Lib.hid (T5.out.b.drew.trans (HB.out.mono T5.out.lr))
      refine hK.out _ _ (hHeld.other HO.out T5.out.gr) (fun hHeld2 => ?_)
      clear hK K hHeld HN HO HB
      have hHeld := hHeld2
      clear hHeld2
      try simp only [Act.put]
      refine wpAnyH_done (by kernel_rfl) ?_ _
      refine NoPanic.normal ?_
      go_wp2
      exact bodyPost_ret (v := .tuple #[.int .i32 pv, uv (N') (p') M q l c k2]) (results_tc Try.results18 _ _ _ _ _ _ rfl (run_loadVar_u WZ r 46 _ Try.underlying46 (by kernel_rfl) 46 HZ.out) rfl) rfl ⟨by rw [HE.out], BZ.out⟩
  by_cases h4 : reg = 4
  · subst h4
    have HE : Hid (uq (readR R 4) T (readL l 4) c k2 = uv N p M q false c k2) := Lib.hid HU4.out
    clear hRl
    go_wp2_with (first
      | ((with_reducible show wpList _ _ _ (⟨none, .store 4 (.tmp 24) _, _, _, _, _⟩ :: _) _ _); refine wpList_store_j rfl 4 _ _ rfl g 18 (by exact rfl) (.bool false) (by exact rfl) rfl (by kernel_rfl) 46 T3.out.q (by decide) (uc_set_l T3.out.q.hb T3.out.q.hc) T3.out.q.hb T3.out.q.hc ?_; intro WT4 HN HO HB
         have T4 := Lib.hid (T3.out.setG HN.out HO.out HB.out)
         clear HN HO HB T3))
    refine wp_region_noPanic ?_
    refine wp_region_held_drew (S := fun X => URow X g 46 (N) (p) M q false c k2) (by kernel_rfl) (T4.out.q.below (Below.refl _ _).drew T4.out.q.lt) (fun hHeld => ?_)
    refine' take_ 0 rfl (by kernel_rfl) (by kernel_rfl) (by kernel_rfl) (fun _ _ _ h => h) (by rfl) (fun wS hSw => ?_) hHeld ?_
    rotate_left
    focus (go_simp; (try with_reducible rfl); done)
    try simp only [Act.put, List.setIfInBounds_toArray, List.set_cons_zero, List.set_cons_succ]
    refine' take_ 1 rfl (by kernel_rfl) (by kernel_rfl) (by kernel_rfl) (fun _ _ _ h => h) (by rfl) (fun wS hSw => run_load_u wS 46 _ g rfl _ Try.underlying46 (by kernel_rfl) 46 hSw _ _ _ _ _) hHeld ?_
    try simp only [Act.put, List.setIfInBounds_toArray, List.set_cons_zero, List.set_cons_succ]
    refine' take_ 2 rfl (by kernel_rfl) (by kernel_rfl) (by kernel_rfl) (fun _ _ _ h => h) (by rfl) (fun wS hSw => ?_) hHeld ?_
    rotate_left
    focus (go_simp; (try with_reducible rfl); done)
    try simp only [Act.put, List.setIfInBounds_toArray, List.set_cons_zero, List.set_cons_succ]
    refine only_ 3 rfl (by kernel_rfl) (by rfl) (fun K hK => ?_)
    refine wp_store_u 46 _ _ rfl r rfl rfl hHeld.hb hHeld.hc (by kernel_rfl) 46 (T4.out.z.below (w' := _) (Below.refl _ _).drew T4.out.z.lt) ?_
    intro WZ HN HO HB
    have HZ := HN
    have BZ := Lib.hid (T4.out.b.drew.trans (HB.out.mono T4.out.lr))
    refine hK.out _ _ (hHeld.other HO.out T4.out.gr) (fun hHeld2 => ?_)
    clear hK K hHeld HN HO HB
    have hHeld := hHeld2
    clear hHeld2
    try simp only [Act.put]
    refine wpAnyH_done (by kernel_rfl) ?_ _
    refine NoPanic.normal ?_
    go_wp2
    exact bodyPost_ret (v := .tuple #[.int .i32 pv, uv (N) (p) M q false c k2]) (results_tc Try.results18 _ _ _ _ _ _ rfl (run_loadVar_u WZ r 46 _ Try.underlying46 (by kernel_rfl) 46 HZ.out) rfl) rfl ⟨by rw [HE.out], BZ.out⟩
  · have HE : Hid (uq (readR R reg) T (readL l reg) c k2 = uv N p M q l c k2) := Lib.hid (by rw [show readR R reg = R from if_neg h3, show readL l reg = l from if_neg h4, HU.out])
    clear hRl
    go_wp2_with fail
    refine wp_region_noPanic ?_
    refine wp_region_held_drew (S := fun X => URow X g 46 (N) (p) M q l c k2) (by kernel_rfl) (T3.out.q.below (Below.refl _ _).drew T3.out.q.lt) (fun hHeld => ?_)
    refine' take_ 0 rfl (by kernel_rfl) (by kernel_rfl) (by kernel_rfl) (fun _ _ _ h => h) (by rfl) (fun wS hSw => ?_) hHeld ?_
    rotate_left
    focus (go_simp; (try with_reducible rfl); done)
    try simp only [Act.put, List.setIfInBounds_toArray, List.set_cons_zero, List.set_cons_succ]
    refine' take_ 1 rfl (by kernel_rfl) (by kernel_rfl) (by kernel_rfl) (fun _ _ _ h => h) (by rfl) (fun wS hSw => run_load_u wS 46 _ g rfl _ Try.underlying46 (by kernel_rfl) 46 hSw _ _ _ _ _) hHeld ?_
    try simp only [Act.put, List.setIfInBounds_toArray, List.set_cons_zero, List.set_cons_succ]
    refine' take_ 2 rfl (by kernel_rfl) (by kernel_rfl) (by kernel_rfl) (fun _ _ _ h => h) (by rfl) (fun wS hSw => ?_) hHeld ?_
    rotate_left
    focus (go_simp; (try with_reducible rfl); done)
    try simp only [Act.put, List.setIfInBounds_toArray, List.set_cons_zero, List.set_cons_succ]
    refine only_ 3 rfl (by kernel_rfl) (by rfl) (fun K hK => ?_)
    refine wp_store_u 46 _ _ rfl r rfl rfl hHeld.hb hHeld.hc (by kernel_rfl) 46 (T3.out.z.below (w' := _) (Below.refl _ _).drew T3.out.z.lt) ?_
    intro WZ HN HO HB
    have HZ := HN
    have BZ := Lib.hid (T3.out.b.drew.trans (HB.out.mono T3.out.lr))
    refine hK.out _ _ (hHeld.other HO.out T3.out.gr) (fun hHeld2 => ?_)
    clear hK K hHeld HN HO HB
    have hHeld := hHeld2
    clear hHeld2
    try simp only [Act.put]
    refine wpAnyH_done (by kernel_rfl) ?_ _
    refine NoPanic.normal ?_
    go_wp2
    exact bodyPost_ret (v := .tuple #[.int .i32 pv, uv (N) (p) M q l c k2]) (results_tc Try.results18 _ _ _ _ _ _ rfl (run_loadVar_u WZ r 46 _ Try.underlying46 (by kernel_rfl) 46 HZ.out) rfl) rfl ⟨by rw [HE.out], BZ.out⟩
end Go.Proofs.Ytgpgijdciaieaaa
