/-
  The document's Read, Pins, Arrive by their contracts. Made by wip/genbankref.py.
-/
import Derived.Test.YtkodoldkfeopdaaGreatRw
namespace Go.Proofs.YtkodoldkfeopdaaGreat
open Go.RowKit
set_option linter.unusedVariables false
set_option maxRecDepth 100000
set_option maxHeartbeats 1000000 in
theorem rReadB_any : ReadC 10 := by
  intro b r w h h0 h1
  have KP := Lib.hid (fun W => rPeekB_any b r W h h0 h1)
  obtain ⟨pk, hpk⟩ : ∃ x, peekB b r = x := ⟨_, rfl⟩
  rw [hpk] at KP ⊢
  clear hpk
  by_cases h5 : 3 ≤ r ∧ r ≤ 5
  · obtain ⟨d3, d4⟩ := h5
    rw [show readB b r = { b with R := Ua.readR b.R r, l := Ua.readL b.l r } from if_pos ⟨d3, d4⟩]
    have KK := Lib.hid (fun W => Ua.ru_read (l := b.l) Ua.rReadU_any W h.u r h0 h1)
    unfold bv
    go_enter Tryz.func10, Tryz.ntmps10
    go_upto_region 1 with (fail)
    refine name_two (Q := fun X => Code.wp _ _ _ _ X) ?_
    intro W0 hq1 hq2 hB0
    have T0 : Hid (Tw w W0 w.heap.size (w.heap.size + 1) 46 b) := Lib.hid (Tw.new 46 hq1 hq2 hB0)
    clear hq1 hq2 hB0
    obtain ⟨g, hg⟩ : ∃ g, w.heap.size = g := ⟨_, rfl⟩
    obtain ⟨ra, hra⟩ : ∃ r, w.heap.size + 1 = r := ⟨_, rfl⟩
    rw [hra, hg] at T0 ⊢
    clear hra hg
    go_upto_region 4 with (first
      | ((with_reducible show wpList _ _ _ (⟨none, .store 41 (.tmp 23) (.tmp 22), _, _, _, _⟩ :: _) _ _); refine wpList_store_dev (d := { b with R := Ua.readR b.R r, l := Ua.readL b.l r }) rfl 41 _ _ rfl g 3 (by exact rfl) (ucs { b with R := Ua.readR b.R r, l := Ua.readL b.l r }) (by exact rfl) (by rw [ucs_length]; kernel_rfl) (Ua.uc_one _ _ _ _ _ _ _) (by rw [ucs_length]; decide) (bc_ua _ _ _ _ _) 46 T2.out.q ?_; intro WT3 HN HO HB
         have T3 := Lib.hid (T2.out.setG HN.out HO.out HB.out)
         clear HN HO HB T2)
      | (go_at_call 27; refine (KK.out _).mono ?_; rintro e WT2 ⟨rfl, hB⟩
         have T2 := Lib.hid (T1.out.under hB)
         clear hB T1)
      | ((with_reducible show wpList _ _ _ (⟨some 18, .load 41 (.tmp 17), _, _, _, _⟩ :: _) _ _); refine wpList_load_dev (by rfl) 41 _ rfl g 3 (by exact rfl) _ Tryz.underlying41 (ucs (b)) (by rw [ucs_length]; kernel_rfl) T1.out.q.ua (Ua.ur (b).R (b).T (b).l (b).c (b).k) rfl ?_)
      | (go_at_call 26; refine (KP.out _).mono ?_; rintro e WT1 ⟨rfl, hB⟩
         have T1 := Lib.hid (T0.out.under hB)
         clear hB T0)
      | ((with_reducible show wpList _ _ _ (⟨some 7, .load 46 (.tmp 2), _, _, _, _⟩ :: _) _ _); refine wpList_load_b (by rfl) 46 _ rfl g (by exact rfl) _ Tryz.underlying46 (by kernel_rfl) 46 T0.out.q ?_))
    refine wp_region_noPanic ?_
    refine wp_region_held_drew (S := fun X => BRow X g 46 ({ b with R := Ua.readR b.R r, l := Ua.readL b.l r })) (by kernel_rfl) (T3.out.q.below (Below.refl _ _).drew T3.out.q.lt) (fun hHeld => ?_)
    refine' take_ 0 rfl (by kernel_rfl) (by kernel_rfl) (by kernel_rfl) (fun _ _ _ h => h) (by rfl) (fun wS hSw => ?_) hHeld ?_
    rotate_left
    focus (go_simp; (try with_reducible rfl); done)
    try simp only [Act.put, List.setIfInBounds_toArray, List.set_cons_zero, List.set_cons_succ]
    refine' take_ 1 rfl (by kernel_rfl) (by kernel_rfl) (by kernel_rfl) (fun _ _ _ h => h) (by rfl) (fun wS hSw => run_load_b wS 46 _ g rfl _ Tryz.underlying46 (by kernel_rfl) 46 hSw _ _ _ _ _) hHeld ?_
    try simp only [Act.put, List.setIfInBounds_toArray, List.set_cons_zero, List.set_cons_succ]
    refine' take_ 2 rfl (by kernel_rfl) (by kernel_rfl) (by kernel_rfl) (fun _ _ _ h => h) (by rfl) (fun wS hSw => ?_) hHeld ?_
    rotate_left
    focus (go_simp; (try with_reducible rfl); done)
    try simp only [Act.put, List.setIfInBounds_toArray, List.set_cons_zero, List.set_cons_succ]
    refine only_ 3 rfl (by kernel_rfl) (by rfl) (fun K hK => ?_)
    refine wp_store_b 46 _ _ rfl ra rfl rfl (by kernel_rfl) 46 (T3.out.z.below (w' := _) (Below.refl _ _).drew T3.out.z.lt) ?_
    intro WZ HN HO HB
    have HZ := HN
    have BZ := Lib.hid (T3.out.b.drew.trans (HB.out.mono T3.out.lr))
    refine hK.out _ _ (hHeld.other HO.out T3.out.gr) (fun hHeld2 => ?_)
    clear hK K hHeld HN HO HB
    have hHeld := hHeld2
    clear hHeld2
    try simp only [Act.put]
    refine wpAnyH_done (by kernel_rfl) ?_ _
    refine NoPanic.normal ?_
    go_wp2
    exact bodyPost_ret (v := .tuple #[.int .i32 pk, bv ({ b with R := Ua.readR b.R r, l := Ua.readL b.l r })]) (Ua.results_tc Tryz.results10 _ _ _ _ _ _ rfl (run_loadVar_b WZ ra 46 _ Tryz.underlying46 (by kernel_rfl) 46 HZ.out) rfl) rfl ⟨rfl, BZ.out⟩
  by_cases h3 : 3 ≤ r
  · have d4 : ¬ r ≤ 5 := by omega
    rw [show readB b r = b from if_neg (by omega)]
    unfold bv
    go_enter Tryz.func10, Tryz.ntmps10
    go_upto_region 1 with (fail)
    refine name_two (Q := fun X => Code.wp _ _ _ _ X) ?_
    intro W0 hq1 hq2 hB0
    have T0 : Hid (Tw w W0 w.heap.size (w.heap.size + 1) 46 b) := Lib.hid (Tw.new 46 hq1 hq2 hB0)
    clear hq1 hq2 hB0
    obtain ⟨g, hg⟩ : ∃ g, w.heap.size = g := ⟨_, rfl⟩
    obtain ⟨ra, hra⟩ : ∃ r, w.heap.size + 1 = r := ⟨_, rfl⟩
    rw [hra, hg] at T0 ⊢
    clear hra hg
    go_upto_region 4 with (first
      | (go_at_call 26; refine (KP.out _).mono ?_; rintro e WT1 ⟨rfl, hB⟩
         have T1 := Lib.hid (T0.out.under hB)
         clear hB T0)
      | ((with_reducible show wpList _ _ _ (⟨some 7, .load 46 (.tmp 2), _, _, _, _⟩ :: _) _ _); refine wpList_load_b (by rfl) 46 _ rfl g (by exact rfl) _ Tryz.underlying46 (by kernel_rfl) 46 T0.out.q ?_))
    refine wp_region_noPanic ?_
    refine wp_region_held_drew (S := fun X => BRow X g 46 (b)) (by kernel_rfl) (T1.out.q.below (Below.refl _ _).drew T1.out.q.lt) (fun hHeld => ?_)
    refine' take_ 0 rfl (by kernel_rfl) (by kernel_rfl) (by kernel_rfl) (fun _ _ _ h => h) (by rfl) (fun wS hSw => ?_) hHeld ?_
    rotate_left
    focus (go_simp; (try with_reducible rfl); done)
    try simp only [Act.put, List.setIfInBounds_toArray, List.set_cons_zero, List.set_cons_succ]
    refine' take_ 1 rfl (by kernel_rfl) (by kernel_rfl) (by kernel_rfl) (fun _ _ _ h => h) (by rfl) (fun wS hSw => run_load_b wS 46 _ g rfl _ Tryz.underlying46 (by kernel_rfl) 46 hSw _ _ _ _ _) hHeld ?_
    try simp only [Act.put, List.setIfInBounds_toArray, List.set_cons_zero, List.set_cons_succ]
    refine' take_ 2 rfl (by kernel_rfl) (by kernel_rfl) (by kernel_rfl) (fun _ _ _ h => h) (by rfl) (fun wS hSw => ?_) hHeld ?_
    rotate_left
    focus (go_simp; (try with_reducible rfl); done)
    try simp only [Act.put, List.setIfInBounds_toArray, List.set_cons_zero, List.set_cons_succ]
    refine only_ 3 rfl (by kernel_rfl) (by rfl) (fun K hK => ?_)
    refine wp_store_b 46 _ _ rfl ra rfl rfl (by kernel_rfl) 46 (T1.out.z.below (w' := _) (Below.refl _ _).drew T1.out.z.lt) ?_
    intro WZ HN HO HB
    have HZ := HN
    have BZ := Lib.hid (T1.out.b.drew.trans (HB.out.mono T1.out.lr))
    refine hK.out _ _ (hHeld.other HO.out T1.out.gr) (fun hHeld2 => ?_)
    clear hK K hHeld HN HO HB
    have hHeld := hHeld2
    clear hHeld2
    try simp only [Act.put]
    refine wpAnyH_done (by kernel_rfl) ?_ _
    refine NoPanic.normal ?_
    go_wp2
    exact bodyPost_ret (v := .tuple #[.int .i32 pk, bv (b)]) (Ua.results_tc Tryz.results10 _ _ _ _ _ _ rfl (run_loadVar_b WZ ra 46 _ Tryz.underlying46 (by kernel_rfl) 46 HZ.out) rfl) rfl ⟨rfl, BZ.out⟩
  · skip
    rw [show readB b r = b from if_neg (by omega)]
    unfold bv
    go_enter Tryz.func10, Tryz.ntmps10
    go_upto_region 1 with (fail)
    refine name_two (Q := fun X => Code.wp _ _ _ _ X) ?_
    intro W0 hq1 hq2 hB0
    have T0 : Hid (Tw w W0 w.heap.size (w.heap.size + 1) 46 b) := Lib.hid (Tw.new 46 hq1 hq2 hB0)
    clear hq1 hq2 hB0
    obtain ⟨g, hg⟩ : ∃ g, w.heap.size = g := ⟨_, rfl⟩
    obtain ⟨ra, hra⟩ : ∃ r, w.heap.size + 1 = r := ⟨_, rfl⟩
    rw [hra, hg] at T0 ⊢
    clear hra hg
    go_upto_region 4 with (first
      | (go_at_call 26; refine (KP.out _).mono ?_; rintro e WT1 ⟨rfl, hB⟩
         have T1 := Lib.hid (T0.out.under hB)
         clear hB T0)
      | ((with_reducible show wpList _ _ _ (⟨some 7, .load 46 (.tmp 2), _, _, _, _⟩ :: _) _ _); refine wpList_load_b (by rfl) 46 _ rfl g (by exact rfl) _ Tryz.underlying46 (by kernel_rfl) 46 T0.out.q ?_))
    refine wp_region_noPanic ?_
    refine wp_region_held_drew (S := fun X => BRow X g 46 (b)) (by kernel_rfl) (T1.out.q.below (Below.refl _ _).drew T1.out.q.lt) (fun hHeld => ?_)
    refine' take_ 0 rfl (by kernel_rfl) (by kernel_rfl) (by kernel_rfl) (fun _ _ _ h => h) (by rfl) (fun wS hSw => ?_) hHeld ?_
    rotate_left
    focus (go_simp; (try with_reducible rfl); done)
    try simp only [Act.put, List.setIfInBounds_toArray, List.set_cons_zero, List.set_cons_succ]
    refine' take_ 1 rfl (by kernel_rfl) (by kernel_rfl) (by kernel_rfl) (fun _ _ _ h => h) (by rfl) (fun wS hSw => run_load_b wS 46 _ g rfl _ Tryz.underlying46 (by kernel_rfl) 46 hSw _ _ _ _ _) hHeld ?_
    try simp only [Act.put, List.setIfInBounds_toArray, List.set_cons_zero, List.set_cons_succ]
    refine' take_ 2 rfl (by kernel_rfl) (by kernel_rfl) (by kernel_rfl) (fun _ _ _ h => h) (by rfl) (fun wS hSw => ?_) hHeld ?_
    rotate_left
    focus (go_simp; (try with_reducible rfl); done)
    try simp only [Act.put, List.setIfInBounds_toArray, List.set_cons_zero, List.set_cons_succ]
    refine only_ 3 rfl (by kernel_rfl) (by rfl) (fun K hK => ?_)
    refine wp_store_b 46 _ _ rfl ra rfl rfl (by kernel_rfl) 46 (T1.out.z.below (w' := _) (Below.refl _ _).drew T1.out.z.lt) ?_
    intro WZ HN HO HB
    have HZ := HN
    have BZ := Lib.hid (T1.out.b.drew.trans (HB.out.mono T1.out.lr))
    refine hK.out _ _ (hHeld.other HO.out T1.out.gr) (fun hHeld2 => ?_)
    clear hK K hHeld HN HO HB
    have hHeld := hHeld2
    clear hHeld2
    try simp only [Act.put]
    refine wpAnyH_done (by kernel_rfl) ?_ _
    refine NoPanic.normal ?_
    go_wp2
    exact bodyPost_ret (v := .tuple #[.int .i32 pk, bv (b)]) (Ua.results_tc Tryz.results10 _ _ _ _ _ _ rfl (run_loadVar_b WZ ra 46 _ Tryz.underlying46 (by kernel_rfl) 46 HZ.out) rfl) rfl ⟨rfl, BZ.out⟩
set_option maxHeartbeats 1000000 in
theorem rPinsB_any : PinsC 13 := by
  intro b lv w h hl
  have KK0 := fun W => Gp.rPins_any b.o b.i b.e lv W h.o h.i h.e hl
  obtain ⟨ask, hask⟩ : ∃ x, Gp.asksL b.e (Gp.riseK b.i lv 8) = x := ⟨_, rfl⟩
  rw [hask] at KK0
  have KK := Lib.hid KK0
  have hok : Bk.ok ({ b with i := lv }) := ⟨h.o, hl, h.e, h.u, h.t0, h.t1, h.q⟩
  have KQ : Hid (∀ W : World, Calls Tryz.prog 31 #[bv ({ b with i := lv }), .int .i64 0, .bool ask] W fun y w' => y = .returned (bv (askB ({ b with i := lv }) 1 ask)) ∧ Below W.heap.size W w') := Lib.hid (fun W => rReq_any _ 0 ask W hok (by decide))
  rw [show pinsB b lv = askB ({ b with i := lv }) 1 ask from by rw [← hask]; rfl]
  clear KK0 hask hok
  unfold bv
  go_enter Tryz.func13, Tryz.ntmps13
  go_upto_region 1 with (fail)
  refine name_two (Q := fun X => Code.wp _ _ _ _ X) ?_
  intro W0 hq1 hq2 hB0
  have T0 : Hid (Tw w W0 w.heap.size (w.heap.size + 1) 46 b) := Lib.hid (Tw.new 46 hq1 hq2 hB0)
  clear hq1 hq2 hB0
  obtain ⟨g, hg⟩ : ∃ g, w.heap.size = g := ⟨_, rfl⟩
  obtain ⟨ra, hra⟩ : ∃ r, w.heap.size + 1 = r := ⟨_, rfl⟩
  rw [hra, hg] at T0 ⊢
  clear hra hg
  go_wp2_with (first
      | ((with_reducible show wpList _ _ _ (⟨none, .store 46 (.tmp 4) (.tmp 18), _, _, _, _⟩ :: _) _ _); refine wpList_store_b rfl 46 _ _ rfl ra (by exact rfl) (by exact rfl) (by kernel_rfl) 46 T4.out.z ?_; intro WZ HN HO HB
         have HZ := HN
         have BZ := Lib.hid (T4.out.b.trans (HB.out.mono T4.out.lr))
         clear HN HO HB)
      | (go_at_call 31; refine (KQ.out _).mono ?_; rintro e WT4 ⟨rfl, hB⟩
         have T4 := Lib.hid (T3.out.under hB)
         clear hB T3)
      | ((with_reducible show wpList _ _ _ (⟨some 16, .load 46 (.tmp 2), _, _, _, _⟩ :: _) _ _); refine wpList_load_b (by rfl) 46 _ rfl g (by exact rfl) _ Tryz.underlying46 (by kernel_rfl) 46 T3.out.q ?_)
      | ((with_reducible show wpList _ _ _ (⟨none, .store 38 (.tmp 15) (.tmp 14), _, _, _, _⟩ :: _) _ _); refine wpList_store_dev (d := { b with i := lv }) rfl 38 _ _ rfl g 0 (by exact rfl) (Gp.gc b.o lv b.e) (by exact rfl) (by kernel_rfl) (Gp.gc_one _ _ _) (by simp [Gp.gc]) (bc_gp _ _ _) 46 T2.out.q ?_; intro WT3 HN HO HB
         have T3 := Lib.hid (T2.out.setG HN.out HO.out HB.out)
         clear HN HO HB T2)
      | ((with_reducible show wpList _ _ _ (⟨some 14, .load 38 (.tmp 5), _, _, _, _⟩ :: _) _ _); refine wpList_load_v (by rfl) 38 _ rfl (WT1.heap.size) (by exact rfl) _ Tryz.underlying38 38 (Gp.gc b.o lv b.e) HD.out (by kernel_rfl) ?_)
      | ((with_reducible show wpList _ _ _ (⟨none, .store 38 (.tmp 5) (.tmp 12), _, _, _, _⟩ :: _) _ _); refine wpList_store_v rfl 38 _ _ rfl (WT1.heap.size) (by exact rfl) (Gp.gc b.o lv b.e) (by exact rfl) (by kernel_rfl) (Gp.gc_one _ _ _) 38 (Gp.gc 0 0 0) (alloc_at _ _) (rfl) ?_; intro WT2 HN HO HB
         have HD := HN
         have T2 := Lib.hid (T1.out.under (((Below.refl _ _).alloc (Nat.le_refl _) _).trans HB.out))
         clear HN HO HB T1)
      | (go_at_call 30; refine (KK.out _).mono ?_; rintro e WT1 ⟨rfl, hB⟩
         have T1 := Lib.hid (T0.out.under hB)
         clear hB T0)
      | ((with_reducible show wpList _ _ _ (⟨some 9, .load 38 (.tmp 8), _, _, _, _⟩ :: _) _ _); refine wpList_load_dev (by rfl) 38 _ rfl g 0 (by exact rfl) _ Tryz.underlying38 (Gp.gc (b).o (b).i (b).e) (by kernel_rfl) T0.out.q.gp (Gp.gv (b).o (b).i (b).e) rfl ?_))
  exact bodyPost_ret (v := bv (askB ({ b with i := lv }) 1 ask)) (results_c Tryz.results13 _ _ _ _ _ rfl (run_loadVar_b WZ ra 46 _ Tryz.underlying46 (by kernel_rfl) 46 HZ.out)) rfl ⟨rfl, BZ.out⟩
set_option maxHeartbeats 1000000 in
theorem rArriveB_any : ArriveC 15 := by
  intro b x w h hx
  have KK0 := fun W => Ua.ru_arrive (l := b.l) Ua.rArriveU_any W h.u x hx
  obtain ⟨ask, hask⟩ : ∃ x, Ua.asksU b.R b.c = x := ⟨_, rfl⟩
  rw [hask] at KK0
  have KK := Lib.hid KK0
  have hok : Bk.ok ({ b with R := Ua.addL b.R x, l := Ua.arriveL b.R b.l }) := ⟨h.o, h.i, h.e, h.u.addI hx, h.t0, h.t1, h.q⟩
  have KQ : Hid (∀ W : World, Calls Tryz.prog 31 #[bv ({ b with R := Ua.addL b.R x, l := Ua.arriveL b.R b.l }), .int .i64 1, .bool ask] W fun y w' => y = .returned (bv (askB ({ b with R := Ua.addL b.R x, l := Ua.arriveL b.R b.l }) 2 ask)) ∧ Below W.heap.size W w') := Lib.hid (fun W => rReq_any _ 1 ask W hok (by decide))
  rw [show arriveB b x = askB ({ b with R := Ua.addL b.R x, l := Ua.arriveL b.R b.l }) 2 ask from by rw [← hask]; rfl]
  clear KK0 hask hok
  unfold bv
  go_enter Tryz.func15, Tryz.ntmps15
  go_upto_region 1 with (fail)
  refine name_two (Q := fun X => Code.wp _ _ _ _ X) ?_
  intro W0 hq1 hq2 hB0
  have T0 : Hid (Tw w W0 w.heap.size (w.heap.size + 1) 46 b) := Lib.hid (Tw.new 46 hq1 hq2 hB0)
  clear hq1 hq2 hB0
  obtain ⟨g, hg⟩ : ∃ g, w.heap.size = g := ⟨_, rfl⟩
  obtain ⟨ra, hra⟩ : ∃ r, w.heap.size + 1 = r := ⟨_, rfl⟩
  rw [hra, hg] at T0 ⊢
  clear hra hg
  go_wp2_with (first
      | ((with_reducible show wpList _ _ _ (⟨none, .store 46 (.tmp 4) (.tmp 18), _, _, _, _⟩ :: _) _ _); refine wpList_store_b rfl 46 _ _ rfl ra (by exact rfl) (by exact rfl) (by kernel_rfl) 46 T4.out.z ?_; intro WZ HN HO HB
         have HZ := HN
         have BZ := Lib.hid (T4.out.b.trans (HB.out.mono T4.out.lr))
         clear HN HO HB)
      | (go_at_call 31; refine (KQ.out _).mono ?_; rintro e WT4 ⟨rfl, hB⟩
         have T4 := Lib.hid (T3.out.under hB)
         clear hB T3)
      | ((with_reducible show wpList _ _ _ (⟨some 16, .load 46 (.tmp 2), _, _, _, _⟩ :: _) _ _); refine wpList_load_b (by rfl) 46 _ rfl g (by exact rfl) _ Tryz.underlying46 (by kernel_rfl) 46 T3.out.q ?_)
      | ((with_reducible show wpList _ _ _ (⟨none, .store 41 (.tmp 15) (.tmp 14), _, _, _, _⟩ :: _) _ _); refine wpList_store_dev (d := { b with R := Ua.addL b.R x, l := Ua.arriveL b.R b.l }) rfl 41 _ _ rfl g 3 (by exact rfl) (ucs { b with R := Ua.addL b.R x, l := Ua.arriveL b.R b.l }) (by exact rfl) (by rw [ucs_length]; kernel_rfl) (Ua.uc_one _ _ _ _ _ _ _) (by rw [ucs_length]; decide) (bc_ua _ _ _ _ _) 46 T2.out.q ?_; intro WT3 HN HO HB
         have T3 := Lib.hid (T2.out.setG HN.out HO.out HB.out)
         clear HN HO HB T2)
      | ((with_reducible show wpList _ _ _ (⟨some 14, .load 41 (.tmp 5), _, _, _, _⟩ :: _) _ _); refine wpList_load_v (by rfl) 41 _ rfl (WT1.heap.size) (by exact rfl) _ Tryz.underlying41 41 (ucs { b with R := Ua.addL b.R x, l := Ua.arriveL b.R b.l }) HD.out (by rw [ucs_length]; kernel_rfl) ?_)
      | ((with_reducible show wpList _ _ _ (⟨none, .store 41 (.tmp 5) (.tmp 12), _, _, _, _⟩ :: _) _ _); refine wpList_store_v rfl 41 _ _ rfl (WT1.heap.size) (by exact rfl) (ucs { b with R := Ua.addL b.R x, l := Ua.arriveL b.R b.l }) (by exact rfl) (by rw [ucs_length]; kernel_rfl) (Ua.uc_one _ _ _ _ _ _ _) 41 (ucs bare) (alloc_at _ _) (by rw [ucs_length, ucs_length]) ?_; intro WT2 HN HO HB
         have HD := HN
         have T2 := Lib.hid (T1.out.under (((Below.refl _ _).alloc (Nat.le_refl _) _).trans HB.out))
         clear HN HO HB T1)
      | (go_at_call 33; refine (KK.out _).mono ?_; rintro e WT1 ⟨rfl, hB⟩
         have T1 := Lib.hid (T0.out.under hB)
         clear hB T0)
      | ((with_reducible show wpList _ _ _ (⟨some 9, .load 41 (.tmp 8), _, _, _, _⟩ :: _) _ _); refine wpList_load_dev (by rfl) 41 _ rfl g 3 (by exact rfl) _ Tryz.underlying41 (ucs (b)) (by rw [ucs_length]; kernel_rfl) T0.out.q.ua (Ua.ur (b).R (b).T (b).l (b).c (b).k) rfl ?_))
  exact bodyPost_ret (v := bv (askB ({ b with R := Ua.addL b.R x, l := Ua.arriveL b.R b.l }) 2 ask)) (results_c Tryz.results15 _ _ _ _ _ rfl (run_loadVar_b WZ ra 46 _ Tryz.underlying46 (by kernel_rfl) 46 HZ.out)) rfl ⟨rfl, BZ.out⟩
end Go.Proofs.YtkodoldkfeopdaaGreat
