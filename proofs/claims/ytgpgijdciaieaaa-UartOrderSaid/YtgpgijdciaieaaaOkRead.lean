/-
  The program's Read by its contract, and Peek. Made by wip/genuartok.py.
-/
import Derived.Test.YtgpgijdciaieaaaOkRegs
namespace Go.Proofs.Ytgpgijdciaieaaa
open Go.RowKit
set_option linter.unusedVariables false
set_option maxHeartbeats 1000000 in
set_option maxRecDepth 100000 in
theorem readU_any : ReadC 13 := by
  intro n bs m cs l c k reg w h hg0 hg1
  have C1 := Lib.hid (fun W => mendU_any n bs m cs l c k W h)
  have hRl := cutL_le n bs h.hb
  have hTl := cutL_le m cs h.hc
  have hlR : ∀ x ∈ cutL n bs, x < 256 := cutL_lt h.lb
  have hlT : ∀ x ∈ cutL m cs, x < 256 := cutL_lt h.lc
  have hc8 := h.c8
  generalize cutL n bs = R at *
  generalize cutL m cs = T at *
  have hk4 := kM_lt T k
  have hk0 : T = [] → kM T k = 0 := fun h => by rw [h, kM_nil]
  generalize hkk : kM T k = k2 at *
  clear hkk
  obtain ⟨N, p, hN, hp, hp8, hN2, hE1⟩ := ofV_parts R hRl
  obtain ⟨M, q, hM, hq, hq8, hM2, hE2⟩ := ofV_parts T hTl
  have HC1 : Hid (∀ W : World, Calls Try.prog 9 #[uv n bs m cs l c k] W fun x w' => x = .returned (uv N p M q l c k2) ∧ Below W.heap.size W w') := Lib.hid (fun W => by
    have h1 := C1.out W
    unfold uq at h1
    rw [hN, hp, hM, hq] at h1
    exact h1)
  have HM2 := Lib.hid hM2
  have HN2 := Lib.hid hN2
  have HIN := Lib.hid (mended_in (c := c) hRl hTl hN hp hM hq hlR hlT hc8 hk4)
  clear C1
  have HC3 : Hid (∀ W : World, Calls Try.prog 29 #[qv N p] W fun x w' => x = .returned (popV R) ∧ Below W.heap.size W w') := Lib.hid (fun W => by
    have h1 := pop_any N p W hp8 HIN.out.1.n0 HIN.out.1.n1
    rw [HIN.out.2.1] at h1
    exact h1)
  have HUT : Hid (∀ (R' : List Nat) (l' : Bool) (c' k' : Nat), uq R' T l' c' k' = uv ((min R'.length 8 : Nat) : Int) (pad R') M q l' c' k') := Lib.hid (fun R' l' c' k' => by unfold uq; rw [hM, hq])
  have HU : Hid (uq R T l c k2 = uv N p M q l c k2) := Lib.hid (by rw [HUT.out, hN, hp])
  have HU4 : Hid (uq R T false c k2 = uv N p M q false c k2) := Lib.hid (by rw [HUT.out, hN, hp])
  have HR := Lib.hid readers_any
  have HLR := Lib.hid hlR
  clear hN hp hM hq hE1 hE2 hN2 hM2 hlR hlT hTl
  unfold uv
  go_enter Try.func13, Try.ntmps13
  go_upto_region 1 with (fail)
  refine name_two (Q := fun X => Code.wp _ _ _ _ X) ?_
  intro W0 hq1 hq2 hB0
  have T0 := Lib.hid (Tw.new h.hb h.hc 26 hq1 hq2 hB0)
  clear hq1 hq2 hB0
  obtain ⟨g, hg⟩ : ∃ g, w.heap.size = g := ⟨_, rfl⟩
  obtain ⟨r, hr⟩ : ∃ r, w.heap.size + 1 = r := ⟨_, rfl⟩
  rw [hr, hg] at T0 ⊢
  clear hr hg
  go_upto_region 2 with (first
      | ((with_reducible show wpList _ _ _ (⟨none, .store 26 (.tmp 2) (.tmp 10), _, _, _, _⟩ :: _) _ _); refine wpList_store_u rfl 26 _ _ rfl g (by exact rfl) (by exact rfl) (by assumption) (by assumption) (by kernel_rfl) 26 T1.out.q ?_; intro WT2 HN HO HB
         have T2 := Lib.hid (T1.out.setG HN.out HO.out HB.out)
         clear HN HO HB T1)
      | (go_at_call 9; refine (HC1.out _).mono ?_; rintro e WT1 ⟨rfl, hB⟩
         have T1 := Lib.hid (T0.out.under hB)
         clear hB T0)
      | ((with_reducible show wpList _ _ _ (⟨some 9, .load 26 (.tmp 2), _, _, _, _⟩ :: _) _ _); refine wpList_load_u (by rfl) 26 _ rfl g (by exact rfl) _ Try.underlying26 (by kernel_rfl) 26 T0.out.q ?_))
  have HC8 := Lib.hid hc8
  by_cases h3 : reg = 3
  · subst h3
    cases R with
    | nil =>
      have HE : Hid (uq (readR [] 3) T (readL l 3) c k2 = uv 0 Z8 M q l c k2) := Lib.hid (HUT.out [] l c k2)
      have HP : Hid (peekU [] T l c 3 = ((0 : Nat) : Int)) := Lib.hid rfl
      rw [show popV [] = .tuple #[.int .u8 ((0 : Nat) : Int), qv 0 Z8, .bool false] from rfl] at HC3
      have hp8' : Z8.length = 8 := rfl
      have hx : 0 < 256 := by decide
      clear hRl hc8
      go_wp2_with (first
      | (go_at_call 34; refine (takeByte_any T3.out 0 0 Z8 false hp8' hx HC3.out).mono ?_; rintro e WT4 ⟨rfl, hTT⟩
         have T4 := Lib.hid hTT
         clear hTT T3)
      | (go_at_call 26; refine (HR.out _ _).mono ?_; rintro e WT3 ⟨rfl, hwT3⟩
         have T3 := Lib.hid (T2.out.under (W' := WT3) (by rw [hwT3]; exact (Below.refl _ _).alloc (Nat.le_refl _) _))
         have hm : WT3.heap[WT2.heap.size]? = some (.map (rds g) 3) := by rw [hwT3]; exact alloc_at _ _
         have hl := run_look mtyR uInt WT3 (WT2.heap.size) _ _ hm 3 0 _ rfl
         clear hwT3 hm T2))
      refine wp_region_noPanic ?_
      refine wp_region_held_drew (S := fun X => URow X g 26 0 Z8 M q l c k2) (by kernel_rfl) (T4.out.q.below (Below.refl _ _).drew T4.out.q.lt) (fun hHeld => ?_)
      refine' take_ 0 rfl (by kernel_rfl) (by kernel_rfl) (by kernel_rfl) (fun _ _ _ h => h) (by rfl) (fun wS hSw => ?_) hHeld ?_
      rotate_left
      focus (go_simp; (try with_reducible rfl); done)
      try simp only [Act.put, List.setIfInBounds_toArray, List.set_cons_zero, List.set_cons_succ]
      refine' take_ 1 rfl (by kernel_rfl) (by kernel_rfl) (by kernel_rfl) (fun _ _ _ h => h) (by rfl) (fun wS hSw => run_load_u wS 26 _ g rfl _ Try.underlying26 (by kernel_rfl) 26 hSw _ _ _ _ _) hHeld ?_
      try simp only [Act.put, List.setIfInBounds_toArray, List.set_cons_zero, List.set_cons_succ]
      refine' take_ 2 rfl (by kernel_rfl) (by kernel_rfl) (by kernel_rfl) (fun _ _ _ h => h) (by rfl) (fun wS hSw => ?_) hHeld ?_
      rotate_left
      focus (go_simp; (try with_reducible rfl); done)
      try simp only [Act.put, List.setIfInBounds_toArray, List.set_cons_zero, List.set_cons_succ]
      refine only_ 3 rfl (by kernel_rfl) (by rfl) (fun K hK => ?_)
      refine wp_store_u 26 _ _ rfl r rfl rfl hHeld.hb hHeld.hc (by kernel_rfl) 26 (T4.out.z.below (w' := _) (Below.refl _ _).drew T4.out.z.lt) ?_
      intro WZ HN HO HB
      have HZ := HN
      have BZ := Lib.hid (T4.out.b.drew.trans (HB.out.mono T4.out.lr))
      refine hK.out _ _ (hHeld.other HO.out T4.out.gr) (fun hHeld2 => ?_)
      clear hK K hHeld HN HO HB
      have hHeld := hHeld2
      clear hHeld2
      try simp only [Act.put]
      refine wpAnyH_done (by kernel_rfl) ?_ _
      refine NoPanic.normal ?_
      go_wp2
      exact bodyPost_ret (v := .tuple #[.int .i32 (((0 : Nat) : Int)), uv (0) (Z8) M q l c k2]) (results_tc Try.results13 _ _ _ _ _ _ rfl (run_loadVar_u WZ r 26 _ Try.underlying26 (by kernel_rfl) 26 HZ.out) rfl) rfl ⟨by rw [HE.out, HP.out], BZ.out⟩
    | cons x rs =>
      have hr8 : rs.length ≤ 8 := by simp at hRl; omega
      obtain ⟨N', p', hN', hp', hp8', -, hE'⟩ := ofV_parts rs hr8
      have HE : Hid (uq (readR (x :: rs) 3) T (readL l 3) c k2 = uv N' p' M q l c k2) := Lib.hid (by rw [show readR (x :: rs) 3 = rs from rfl, show readL l 3 = l from rfl, HUT.out, hN', hp'])
      have HP : Hid (peekU (x :: rs) T l c 3 = (x : Int)) := Lib.hid rfl
      have hx : x < 256 := HLR.out x List.mem_cons_self
      rw [show popV (x :: rs) = .tuple #[.int .u8 (x : Int), ofV rs, .bool true] from rfl, hE'] at HC3
      clear hN' hp' hE' hRl hr8 hc8
      go_wp2_with (first
      | (go_at_call 34; refine (takeByte_any T3.out x N' p' true hp8' hx HC3.out).mono ?_; rintro e WT4 ⟨rfl, hTT⟩
         have T4 := Lib.hid hTT
         clear hTT T3)
      | (go_at_call 26; refine (HR.out _ _).mono ?_; rintro e WT3 ⟨rfl, hwT3⟩
         have T3 := Lib.hid (T2.out.under (W' := WT3) (by rw [hwT3]; exact (Below.refl _ _).alloc (Nat.le_refl _) _))
         have hm : WT3.heap[WT2.heap.size]? = some (.map (rds g) 3) := by rw [hwT3]; exact alloc_at _ _
         have hl := run_look mtyR uInt WT3 (WT2.heap.size) _ _ hm 3 0 _ rfl
         clear hwT3 hm T2))
      refine wp_region_noPanic ?_
      refine wp_region_held_drew (S := fun X => URow X g 26 N' p' M q l c k2) (by kernel_rfl) (T4.out.q.below (Below.refl _ _).drew T4.out.q.lt) (fun hHeld => ?_)
      refine' take_ 0 rfl (by kernel_rfl) (by kernel_rfl) (by kernel_rfl) (fun _ _ _ h => h) (by rfl) (fun wS hSw => ?_) hHeld ?_
      rotate_left
      focus (go_simp; (try with_reducible rfl); done)
      try simp only [Act.put, List.setIfInBounds_toArray, List.set_cons_zero, List.set_cons_succ]
      refine' take_ 1 rfl (by kernel_rfl) (by kernel_rfl) (by kernel_rfl) (fun _ _ _ h => h) (by rfl) (fun wS hSw => run_load_u wS 26 _ g rfl _ Try.underlying26 (by kernel_rfl) 26 hSw _ _ _ _ _) hHeld ?_
      try simp only [Act.put, List.setIfInBounds_toArray, List.set_cons_zero, List.set_cons_succ]
      refine' take_ 2 rfl (by kernel_rfl) (by kernel_rfl) (by kernel_rfl) (fun _ _ _ h => h) (by rfl) (fun wS hSw => ?_) hHeld ?_
      rotate_left
      focus (go_simp; (try with_reducible rfl); done)
      try simp only [Act.put, List.setIfInBounds_toArray, List.set_cons_zero, List.set_cons_succ]
      refine only_ 3 rfl (by kernel_rfl) (by rfl) (fun K hK => ?_)
      refine wp_store_u 26 _ _ rfl r rfl rfl hHeld.hb hHeld.hc (by kernel_rfl) 26 (T4.out.z.below (w' := _) (Below.refl _ _).drew T4.out.z.lt) ?_
      intro WZ HN HO HB
      have HZ := HN
      have BZ := Lib.hid (T4.out.b.drew.trans (HB.out.mono T4.out.lr))
      refine hK.out _ _ (hHeld.other HO.out T4.out.gr) (fun hHeld2 => ?_)
      clear hK K hHeld HN HO HB
      have hHeld := hHeld2
      clear hHeld2
      try simp only [Act.put]
      refine wpAnyH_done (by kernel_rfl) ?_ _
      refine NoPanic.normal ?_
      go_wp2
      exact bodyPost_ret (v := .tuple #[.int .i32 ((x : Int)), uv (N') (p') M q l c k2]) (results_tc Try.results13 _ _ _ _ _ _ rfl (run_loadVar_u WZ r 26 _ Try.underlying26 (by kernel_rfl) 26 HZ.out) rfl) rfl ⟨by rw [HE.out, HP.out], BZ.out⟩
  by_cases h4 : reg = 4
  · subst h4
    have HE : Hid (uq (readR R 4) T (readL l 4) c k2 = uv N p M q false c k2) := Lib.hid HU4.out
    have HP : Hid (peekU R T l c 4 = statU R T l) := Lib.hid ((if_neg (by decide)).trans (if_pos rfl))
    clear hRl hc8 h3
    go_wp2_with (first
      | (go_at_call 35; refine (takeState_any T3.out R T HN2.out HM2.out).mono ?_; rintro e WT4 ⟨rfl, hTT⟩
         have T4 := Lib.hid hTT
         clear hTT T3)
      | (go_at_call 26; refine (HR.out _ _).mono ?_; rintro e WT3 ⟨rfl, hwT3⟩
         have T3 := Lib.hid (T2.out.under (W' := WT3) (by rw [hwT3]; exact (Below.refl _ _).alloc (Nat.le_refl _) _))
         have hm : WT3.heap[WT2.heap.size]? = some (.map (rds g) 3) := by rw [hwT3]; exact alloc_at _ _
         have hl := run_look mtyR uInt WT3 (WT2.heap.size) _ _ hm 4 1 _ rfl
         clear hwT3 hm T2))
    refine wp_region_noPanic ?_
    refine wp_region_held_drew (S := fun X => URow X g 26 N p M q false c k2) (by kernel_rfl) (T4.out.q.below (Below.refl _ _).drew T4.out.q.lt) (fun hHeld => ?_)
    refine' take_ 0 rfl (by kernel_rfl) (by kernel_rfl) (by kernel_rfl) (fun _ _ _ h => h) (by rfl) (fun wS hSw => ?_) hHeld ?_
    rotate_left
    focus (go_simp; (try with_reducible rfl); done)
    try simp only [Act.put, List.setIfInBounds_toArray, List.set_cons_zero, List.set_cons_succ]
    refine' take_ 1 rfl (by kernel_rfl) (by kernel_rfl) (by kernel_rfl) (fun _ _ _ h => h) (by rfl) (fun wS hSw => run_load_u wS 26 _ g rfl _ Try.underlying26 (by kernel_rfl) 26 hSw _ _ _ _ _) hHeld ?_
    try simp only [Act.put, List.setIfInBounds_toArray, List.set_cons_zero, List.set_cons_succ]
    refine' take_ 2 rfl (by kernel_rfl) (by kernel_rfl) (by kernel_rfl) (fun _ _ _ h => h) (by rfl) (fun wS hSw => ?_) hHeld ?_
    rotate_left
    focus (go_simp; (try with_reducible rfl); done)
    try simp only [Act.put, List.setIfInBounds_toArray, List.set_cons_zero, List.set_cons_succ]
    refine only_ 3 rfl (by kernel_rfl) (by rfl) (fun K hK => ?_)
    refine wp_store_u 26 _ _ rfl r rfl rfl hHeld.hb hHeld.hc (by kernel_rfl) 26 (T4.out.z.below (w' := _) (Below.refl _ _).drew T4.out.z.lt) ?_
    intro WZ HN HO HB
    have HZ := HN
    have BZ := Lib.hid (T4.out.b.drew.trans (HB.out.mono T4.out.lr))
    refine hK.out _ _ (hHeld.other HO.out T4.out.gr) (fun hHeld2 => ?_)
    clear hK K hHeld HN HO HB
    have hHeld := hHeld2
    clear hHeld2
    try simp only [Act.put]
    refine wpAnyH_done (by kernel_rfl) ?_ _
    refine NoPanic.normal ?_
    go_wp2
    exact bodyPost_ret (v := .tuple #[.int .i32 (statU R T l), uv (N) (p) M q false c k2]) (results_tc Try.results13 _ _ _ _ _ _ rfl (run_loadVar_u WZ r 26 _ Try.underlying26 (by kernel_rfl) 26 HZ.out) rfl) rfl ⟨by rw [HE.out, HP.out], BZ.out⟩
  by_cases h5 : reg = 5
  · subst h5
    have HE : Hid (uq (readR R 5) T (readL l 5) c k2 = uv N p M q l c k2) := Lib.hid HU.out
    have HP : Hid (peekU R T l c 5 = (c : Int)) := Lib.hid ((if_neg (by decide)).trans ((if_neg (by decide)).trans (if_pos rfl)))
    clear hRl hc8 h3 h4
    go_wp2_with (first
      | (go_at_call 36; refine (control_any T3.out HC8.out).mono ?_; rintro e WT4 ⟨rfl, hTT⟩
         have T4 := Lib.hid hTT
         clear hTT T3)
      | (go_at_call 26; refine (HR.out _ _).mono ?_; rintro e WT3 ⟨rfl, hwT3⟩
         have T3 := Lib.hid (T2.out.under (W' := WT3) (by rw [hwT3]; exact (Below.refl _ _).alloc (Nat.le_refl _) _))
         have hm : WT3.heap[WT2.heap.size]? = some (.map (rds g) 3) := by rw [hwT3]; exact alloc_at _ _
         have hl := run_look mtyR uInt WT3 (WT2.heap.size) _ _ hm 5 2 _ rfl
         clear hwT3 hm T2))
    refine wp_region_noPanic ?_
    refine wp_region_held_drew (S := fun X => URow X g 26 N p M q l c k2) (by kernel_rfl) (T4.out.q.below (Below.refl _ _).drew T4.out.q.lt) (fun hHeld => ?_)
    refine' take_ 0 rfl (by kernel_rfl) (by kernel_rfl) (by kernel_rfl) (fun _ _ _ h => h) (by rfl) (fun wS hSw => ?_) hHeld ?_
    rotate_left
    focus (go_simp; (try with_reducible rfl); done)
    try simp only [Act.put, List.setIfInBounds_toArray, List.set_cons_zero, List.set_cons_succ]
    refine' take_ 1 rfl (by kernel_rfl) (by kernel_rfl) (by kernel_rfl) (fun _ _ _ h => h) (by rfl) (fun wS hSw => run_load_u wS 26 _ g rfl _ Try.underlying26 (by kernel_rfl) 26 hSw _ _ _ _ _) hHeld ?_
    try simp only [Act.put, List.setIfInBounds_toArray, List.set_cons_zero, List.set_cons_succ]
    refine' take_ 2 rfl (by kernel_rfl) (by kernel_rfl) (by kernel_rfl) (fun _ _ _ h => h) (by rfl) (fun wS hSw => ?_) hHeld ?_
    rotate_left
    focus (go_simp; (try with_reducible rfl); done)
    try simp only [Act.put, List.setIfInBounds_toArray, List.set_cons_zero, List.set_cons_succ]
    refine only_ 3 rfl (by kernel_rfl) (by rfl) (fun K hK => ?_)
    refine wp_store_u 26 _ _ rfl r rfl rfl hHeld.hb hHeld.hc (by kernel_rfl) 26 (T4.out.z.below (w' := _) (Below.refl _ _).drew T4.out.z.lt) ?_
    intro WZ HN HO HB
    have HZ := HN
    have BZ := Lib.hid (T4.out.b.drew.trans (HB.out.mono T4.out.lr))
    refine hK.out _ _ (hHeld.other HO.out T4.out.gr) (fun hHeld2 => ?_)
    clear hK K hHeld HN HO HB
    have hHeld := hHeld2
    clear hHeld2
    try simp only [Act.put]
    refine wpAnyH_done (by kernel_rfl) ?_ _
    refine NoPanic.normal ?_
    go_wp2
    exact bodyPost_ret (v := .tuple #[.int .i32 ((c : Int)), uv (N) (p) M q l c k2]) (results_tc Try.results13 _ _ _ _ _ _ rfl (run_loadVar_u WZ r 26 _ Try.underlying26 (by kernel_rfl) 26 HZ.out) rfl) rfl ⟨by rw [HE.out, HP.out], BZ.out⟩
  · have HE : Hid (uq (readR R reg) T (readL l reg) c k2 = uv N p M q l c k2) := Lib.hid (by rw [show readR R reg = R from if_neg h3, show readL l reg = l from if_neg h4, HU.out])
    have HP : Hid (peekU R T l c reg = 0) := Lib.hid ((if_neg h3).trans ((if_neg h4).trans (if_neg h5)))
    have HFN := Lib.hid (find_none reg g h3 h4 h5)
    clear hRl hc8 h3 h4 h5
    go_wp2_with (first
      | (go_at_call 26; refine (HR.out _ _).mono ?_; rintro e WT3 ⟨rfl, hwT3⟩
         have T3 := Lib.hid (T2.out.under (W' := WT3) (by rw [hwT3]; exact (Below.refl _ _).alloc (Nat.le_refl _) _))
         have hm : WT3.heap[WT2.heap.size]? = some (.map (rds g) 3) := by rw [hwT3]; exact alloc_at _ _
         have hl := run_look_none mtyR uInt WT3 (WT2.heap.size) _ _ hm reg _ (zrd _) HFN.out
         clear hwT3 hm T2))
    refine wp_region_noPanic ?_
    refine wp_region_held_drew (S := fun X => URow X g 26 N p M q l c k2) (by kernel_rfl) (T3.out.q.below (Below.refl _ _).drew T3.out.q.lt) (fun hHeld => ?_)
    refine' take_ 0 rfl (by kernel_rfl) (by kernel_rfl) (by kernel_rfl) (fun _ _ _ h => h) (by rfl) (fun wS hSw => run_load_u wS 26 _ g rfl _ Try.underlying26 (by kernel_rfl) 26 hSw _ _ _ _ _) hHeld ?_
    try simp only [Act.put, List.setIfInBounds_toArray, List.set_cons_zero, List.set_cons_succ]
    refine' take_ 1 rfl (by kernel_rfl) (by kernel_rfl) (by kernel_rfl) (fun _ _ _ h => h) (by rfl) (fun wS hSw => ?_) hHeld ?_
    rotate_left
    focus (go_simp; (try with_reducible rfl); done)
    try simp only [Act.put, List.setIfInBounds_toArray, List.set_cons_zero, List.set_cons_succ]
    refine only_ 2 rfl (by kernel_rfl) (by rfl) (fun K hK => ?_)
    refine wp_store_u 26 _ _ rfl r rfl rfl hHeld.hb hHeld.hc (by kernel_rfl) 26 (T3.out.z.below (w' := _) (Below.refl _ _).drew T3.out.z.lt) ?_
    intro WZ HN HO HB
    have HZ := HN
    have BZ := Lib.hid (T3.out.b.drew.trans (HB.out.mono T3.out.lr))
    refine hK.out _ _ (hHeld.other HO.out T3.out.gr) (fun hHeld2 => ?_)
    clear hK K hHeld HN HO HB
    have hHeld := hHeld2
    clear hHeld2
    try simp only [Act.put]
    refine wpAnyH_done (by kernel_rfl) ?_ _
    refine NoPanic.normal ?_
    go_wp2
    exact bodyPost_ret (v := .tuple #[.int .i32 (0), uv (N) (p) M q l c k2]) (results_tc Try.results13 _ _ _ _ _ _ rfl (run_loadVar_u WZ r 26 _ Try.underlying26 (by kernel_rfl) 26 HZ.out) rfl) rfl ⟨by rw [HE.out, HP.out], BZ.out⟩
set_option maxRecDepth 100000 in
theorem peekU_any : PeekC 16 := by
  intro n bs m cs l c k reg w h hg0 hg1
  have HC := Lib.hid (fun W => readU_any n bs m cs l c k reg W h hg0 hg1)
  obtain ⟨N2, p2, M2, q2, l2, k2, hu, h8, h9⟩ : ∃ (N2 : Int) (p2 : List Nat) (M2 : Int) (q2 : List Nat) (l2 : Bool) (k2 : Nat), uq (readR (cutL n bs) reg) (cutL m cs) (readL l reg) c (kM (cutL m cs) k) = uv N2 p2 M2 q2 l2 c k2 ∧ p2.length = 8 ∧ q2.length = 8 := ⟨_, _, _, _, _, _, rfl, pad_length _, pad_length _⟩
  rw [hu] at HC
  clear hu
  generalize peekU (cutL n bs) (cutL m cs) l c reg = pv at *
  have h8' := h.hb
  have h9' := h.hc
  clear h
  unfold uv
  go_enter Try.func16, Try.ntmps16
  go_upto_region 1 with (fail)
  refine name_one (Q := fun X => Code.wp _ _ _ _ X) ?_
  intro W0 hq1 hB0 hZ0
  have T0 := Lib.hid (On.new h8' h9' 26 hq1 hB0)
  clear hq1 hB0 hZ0
  obtain ⟨g, hg⟩ : ∃ g, w.heap.size = g := ⟨_, rfl⟩
  rw [hg] at T0 ⊢
  clear hg
  go_wp2_with (first
      | ((with_reducible show wpList _ _ _ (⟨none, .store 26 (.tmp 6) (.tmp 12), _, _, _, _⟩ :: _) _ _); refine wpList_store_u rfl 26 _ _ rfl (WT1.heap.size) (by exact rfl) (by exact rfl) h8 h9 (by kernel_rfl) 26 (show URow _ _ _ 0 Z8 0 Z8 false 0 0 from ⟨alloc_at _ _, rfl, rfl⟩) ?_; intro WT2 HN HO HB
         have T2 := Lib.hid (T1.out.under (((Below.refl _ _).alloc (Nat.le_refl _) _).trans HB.out))
         clear HN HO HB T1)
      | (go_at_call 13; refine (HC.out _).mono ?_; rintro e WT1 ⟨rfl, hB⟩
         have T1 := Lib.hid (T0.out.under hB)
         clear hB T0)
      | ((with_reducible show wpList _ _ _ (⟨some 8, .load 26 (.tmp 2), _, _, _, _⟩ :: _) _ _); refine wpList_load_u (by rfl) 26 _ rfl g (by exact rfl) _ Try.underlying26 (by kernel_rfl) 26 T0.out.q ?_))
  go_ret
  exact ⟨rfl, T2.out.b⟩
end Go.Proofs.Ytgpgijdciaieaaa
