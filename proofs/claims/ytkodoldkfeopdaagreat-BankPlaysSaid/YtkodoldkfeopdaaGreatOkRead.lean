/-
  The program's Read by its contract. Made by wip/genbankok.py.
-/
import Derived.Test.YtkodoldkfeopdaaGreatOkPeek
namespace Go.Proofs.YtkodoldkfeopdaaGreat
open Go.RowKit
set_option linter.unusedVariables false
set_option maxRecDepth 100000
set_option maxHeartbeats 1000000 in
theorem readB_any : ReadC 9 := by
  intro b r w h h0 h1
  rcases kinds_of r with ⟨d0, d1⟩ | ⟨d0, d1⟩ | ⟨d0, d1⟩ | ⟨d0, d1⟩ | ⟨d0, d1⟩ | d0
  · rw [show peekB b r = Gp.peekN b.o b.i b.e r from if_pos (by omega), show readB b r = b from if_neg (by omega)]
    unfold bv
    go_enter Tryz.func9, Tryz.ntmps9
    go_upto_region 1 with (fail)
    refine name_two (Q := fun X => Code.wp _ _ _ _ X) ?_
    intro W0 hq1 hq2 hB0
    have T0 : Hid (Tw w W0 w.heap.size (w.heap.size + 1) 37 b) := Lib.hid (Tw.new 37 hq1 hq2 hB0)
    clear hq1 hq2 hB0
    obtain ⟨g, hg⟩ : ∃ g, w.heap.size = g := ⟨_, rfl⟩
    obtain ⟨ra, hra⟩ : ∃ r, w.heap.size + 1 = r := ⟨_, rfl⟩
    rw [hra, hg] at T0 ⊢
    clear hra hg
    have KO := Lib.hid (fun W => owner_pinsOf r d0 d1 g W)
    go_upto_region 3 with (first
      | (go_at_call 21; refine (KO.out _).mono ?_; rintro e W1 ⟨c, rfl, hC, hB⟩
         have T1 := Lib.hid (T0.out.under hB)
         have C1 := Lib.hid hC
         clear hB hC T0)
      | (go_at_call 105; refine (read_pinsOf c r _ _ (fun W hBW => look_pinsOf b r W g c 37 h h0 h1 (T1.out.q.below hBW T1.out.q.lt) (C1.out.below hBW (VRow.lt C1.out)))).mono ?_; rintro e W2 ⟨rfl, hB⟩
         have T2 := Lib.hid (T1.out.under hB)
         clear hB T1))
    refine wp_region_noPanic ?_
    refine wp_region_held_drew (S := fun X => BRow X g 37 (b)) (by kernel_rfl) (T2.out.q.below (Below.refl _ _).drew T2.out.q.lt) (fun hHeld => ?_)
    refine' take_ 0 rfl (by kernel_rfl) (by kernel_rfl) (by kernel_rfl) (fun _ _ _ h => h) (by rfl) (fun wS hSw => ?_) hHeld ?_
    rotate_left
    focus (go_simp; (try with_reducible rfl); done)
    try simp only [Act.put, List.setIfInBounds_toArray, List.set_cons_zero, List.set_cons_succ]
    refine' take_ 1 rfl (by kernel_rfl) (by kernel_rfl) (by kernel_rfl) (fun _ _ _ h => h) (by rfl) (fun wS hSw => run_load_b wS 37 _ g rfl _ Tryz.underlying37 (by kernel_rfl) 37 hSw _ _ _ _ _) hHeld ?_
    try simp only [Act.put, List.setIfInBounds_toArray, List.set_cons_zero, List.set_cons_succ]
    refine' take_ 2 rfl (by kernel_rfl) (by kernel_rfl) (by kernel_rfl) (fun _ _ _ h => h) (by rfl) (fun wS hSw => ?_) hHeld ?_
    rotate_left
    focus (go_simp; (try with_reducible rfl); done)
    try simp only [Act.put, List.setIfInBounds_toArray, List.set_cons_zero, List.set_cons_succ]
    refine only_ 3 rfl (by kernel_rfl) (by rfl) (fun K hK => ?_)
    refine wp_store_b 37 _ _ rfl ra rfl rfl (by kernel_rfl) 37 (T2.out.z.below (w' := _) (Below.refl _ _).drew T2.out.z.lt) ?_
    intro WZ HN HO HB
    have HZ := HN
    have BZ := Lib.hid (T2.out.b.drew.trans (HB.out.mono T2.out.lr))
    refine hK.out _ _ (hHeld.other HO.out T2.out.gr) (fun hHeld2 => ?_)
    clear hK K hHeld HN HO HB
    have hHeld := hHeld2
    clear hHeld2
    try simp only [Act.put]
    refine wpAnyH_done (by kernel_rfl) ?_ _
    refine NoPanic.normal ?_
    go_wp2
    exact bodyPost_ret (v := .tuple #[.int .i32 (Gp.peekN b.o b.i b.e r), bv (b)]) (Ua.results_tc Tryz.results9 _ _ _ _ _ _ rfl (run_loadVar_b WZ ra 37 _ Tryz.underlying37 (by kernel_rfl) 37 HZ.out) rfl) rfl ⟨rfl, BZ.out⟩
  · rw [show peekB b r = Ua.peekU b.R b.T b.l b.c r from (if_neg (by omega)).trans (if_pos (by omega)), show readB b r = { b with R := Ua.readR b.R r, l := Ua.readL b.l r } from if_pos (by omega)]
    unfold bv
    go_enter Tryz.func9, Tryz.ntmps9
    go_upto_region 1 with (fail)
    refine name_two (Q := fun X => Code.wp _ _ _ _ X) ?_
    intro W0 hq1 hq2 hB0
    have T0 : Hid (Tw w W0 w.heap.size (w.heap.size + 1) 37 b) := Lib.hid (Tw.new 37 hq1 hq2 hB0)
    clear hq1 hq2 hB0
    obtain ⟨g, hg⟩ : ∃ g, w.heap.size = g := ⟨_, rfl⟩
    obtain ⟨ra, hra⟩ : ∃ r, w.heap.size + 1 = r := ⟨_, rfl⟩
    rw [hra, hg] at T0 ⊢
    clear hra hg
    have KO := Lib.hid (fun W => owner_serialOf r d0 d1 g W)
    go_upto_region 3 with (first
      | (go_at_call 21; refine (KO.out _).mono ?_; rintro e W1 ⟨c, rfl, hC, hB⟩
         have T1 := Lib.hid (T0.out.under hB)
         have C1 := Lib.hid hC
         clear hB hC T0)
      | (go_at_call 111; refine (read_serial b r _ g 37 _ rfl h h0 h1 T1.out.q).mono ?_; rintro e W2 ⟨rfl, hW⟩
         have T2 := Lib.hid (T1.out.wrt hW)
         clear hW T1))
    refine wp_region_noPanic ?_
    refine wp_region_held_drew (S := fun X => BRow X g 37 ({ b with R := Ua.readR b.R r, l := Ua.readL b.l r })) (by kernel_rfl) (T2.out.q.below (Below.refl _ _).drew T2.out.q.lt) (fun hHeld => ?_)
    refine' take_ 0 rfl (by kernel_rfl) (by kernel_rfl) (by kernel_rfl) (fun _ _ _ h => h) (by rfl) (fun wS hSw => ?_) hHeld ?_
    rotate_left
    focus (go_simp; (try with_reducible rfl); done)
    try simp only [Act.put, List.setIfInBounds_toArray, List.set_cons_zero, List.set_cons_succ]
    refine' take_ 1 rfl (by kernel_rfl) (by kernel_rfl) (by kernel_rfl) (fun _ _ _ h => h) (by rfl) (fun wS hSw => run_load_b wS 37 _ g rfl _ Tryz.underlying37 (by kernel_rfl) 37 hSw _ _ _ _ _) hHeld ?_
    try simp only [Act.put, List.setIfInBounds_toArray, List.set_cons_zero, List.set_cons_succ]
    refine' take_ 2 rfl (by kernel_rfl) (by kernel_rfl) (by kernel_rfl) (fun _ _ _ h => h) (by rfl) (fun wS hSw => ?_) hHeld ?_
    rotate_left
    focus (go_simp; (try with_reducible rfl); done)
    try simp only [Act.put, List.setIfInBounds_toArray, List.set_cons_zero, List.set_cons_succ]
    refine only_ 3 rfl (by kernel_rfl) (by rfl) (fun K hK => ?_)
    refine wp_store_b 37 _ _ rfl ra rfl rfl (by kernel_rfl) 37 (T2.out.z.below (w' := _) (Below.refl _ _).drew T2.out.z.lt) ?_
    intro WZ HN HO HB
    have HZ := HN
    have BZ := Lib.hid (T2.out.b.drew.trans (HB.out.mono T2.out.lr))
    refine hK.out _ _ (hHeld.other HO.out T2.out.gr) (fun hHeld2 => ?_)
    clear hK K hHeld HN HO HB
    have hHeld := hHeld2
    clear hHeld2
    try simp only [Act.put]
    refine wpAnyH_done (by kernel_rfl) ?_ _
    refine NoPanic.normal ?_
    go_wp2
    exact bodyPost_ret (v := .tuple #[.int .i32 (Ua.peekU b.R b.T b.l b.c r), bv ({ b with R := Ua.readR b.R r, l := Ua.readL b.l r })]) (Ua.results_tc Tryz.results9 _ _ _ _ _ _ rfl (run_loadVar_b WZ ra 37 _ Tryz.underlying37 (by kernel_rfl) 37 HZ.out) rfl) rfl ⟨rfl, BZ.out⟩
  · rw [show peekB b r = Ti.peekT b.t0 (r - 6) from (if_neg (by omega)).trans ((if_neg (by omega)).trans (if_pos (by omega))), show readB b r = b from if_neg (by omega)]
    unfold bv
    go_enter Tryz.func9, Tryz.ntmps9
    go_upto_region 1 with (fail)
    refine name_two (Q := fun X => Code.wp _ _ _ _ X) ?_
    intro W0 hq1 hq2 hB0
    have T0 : Hid (Tw w W0 w.heap.size (w.heap.size + 1) 37 b) := Lib.hid (Tw.new 37 hq1 hq2 hB0)
    clear hq1 hq2 hB0
    obtain ⟨g, hg⟩ : ∃ g, w.heap.size = g := ⟨_, rfl⟩
    obtain ⟨ra, hra⟩ : ∃ r, w.heap.size + 1 = r := ⟨_, rfl⟩
    rw [hra, hg] at T0 ⊢
    clear hra hg
    have KO := Lib.hid (fun W => owner_firstOf r d0 d1 g W)
    go_upto_region 3 with (first
      | (go_at_call 21; refine (KO.out _).mono ?_; rintro e W1 ⟨c, d, rfl, hC, hD, hB⟩
         have T1 := Lib.hid (T0.out.under hB)
         have C1 := Lib.hid hC
         have D1 := Lib.hid hD
         clear hB hC T0 hD)
      | (go_at_call 105; refine (read_counterOf c d r _ _ (fun W hBW => look_counterOf b.t0 r 6 (r - 6) W g 24 c d h.t0 (wrap_sub r 6 (by omega) (by omega)) (by omega) (by omega) ⟨C1.out.below hBW (VRow.lt C1.out), D1.out.below hBW (VRow.lt D1.out), (T1.out.q.below hBW T1.out.q.lt).ta, (T1.out.q.below hBW T1.out.q.lt).lt, Below.refl _ _⟩)).mono ?_; rintro e W2 ⟨rfl, hB⟩
         have T2 := Lib.hid (T1.out.under hB)
         clear hB T1))
    refine wp_region_noPanic ?_
    refine wp_region_held_drew (S := fun X => BRow X g 37 (b)) (by kernel_rfl) (T2.out.q.below (Below.refl _ _).drew T2.out.q.lt) (fun hHeld => ?_)
    refine' take_ 0 rfl (by kernel_rfl) (by kernel_rfl) (by kernel_rfl) (fun _ _ _ h => h) (by rfl) (fun wS hSw => ?_) hHeld ?_
    rotate_left
    focus (go_simp; (try with_reducible rfl); done)
    try simp only [Act.put, List.setIfInBounds_toArray, List.set_cons_zero, List.set_cons_succ]
    refine' take_ 1 rfl (by kernel_rfl) (by kernel_rfl) (by kernel_rfl) (fun _ _ _ h => h) (by rfl) (fun wS hSw => run_load_b wS 37 _ g rfl _ Tryz.underlying37 (by kernel_rfl) 37 hSw _ _ _ _ _) hHeld ?_
    try simp only [Act.put, List.setIfInBounds_toArray, List.set_cons_zero, List.set_cons_succ]
    refine' take_ 2 rfl (by kernel_rfl) (by kernel_rfl) (by kernel_rfl) (fun _ _ _ h => h) (by rfl) (fun wS hSw => ?_) hHeld ?_
    rotate_left
    focus (go_simp; (try with_reducible rfl); done)
    try simp only [Act.put, List.setIfInBounds_toArray, List.set_cons_zero, List.set_cons_succ]
    refine only_ 3 rfl (by kernel_rfl) (by rfl) (fun K hK => ?_)
    refine wp_store_b 37 _ _ rfl ra rfl rfl (by kernel_rfl) 37 (T2.out.z.below (w' := _) (Below.refl _ _).drew T2.out.z.lt) ?_
    intro WZ HN HO HB
    have HZ := HN
    have BZ := Lib.hid (T2.out.b.drew.trans (HB.out.mono T2.out.lr))
    refine hK.out _ _ (hHeld.other HO.out T2.out.gr) (fun hHeld2 => ?_)
    clear hK K hHeld HN HO HB
    have hHeld := hHeld2
    clear hHeld2
    try simp only [Act.put]
    refine wpAnyH_done (by kernel_rfl) ?_ _
    refine NoPanic.normal ?_
    go_wp2
    exact bodyPost_ret (v := .tuple #[.int .i32 (Ti.peekT b.t0 (r - 6)), bv (b)]) (Ua.results_tc Tryz.results9 _ _ _ _ _ _ rfl (run_loadVar_b WZ ra 37 _ Tryz.underlying37 (by kernel_rfl) 37 HZ.out) rfl) rfl ⟨rfl, BZ.out⟩
  · rw [show peekB b r = Ti.peekT b.t1 (r - 9) from (if_neg (by omega)).trans ((if_neg (by omega)).trans ((if_neg (by omega)).trans (if_pos (by omega)))), show readB b r = b from if_neg (by omega)]
    unfold bv
    go_enter Tryz.func9, Tryz.ntmps9
    go_upto_region 1 with (fail)
    refine name_two (Q := fun X => Code.wp _ _ _ _ X) ?_
    intro W0 hq1 hq2 hB0
    have T0 : Hid (Tw w W0 w.heap.size (w.heap.size + 1) 37 b) := Lib.hid (Tw.new 37 hq1 hq2 hB0)
    clear hq1 hq2 hB0
    obtain ⟨g, hg⟩ : ∃ g, w.heap.size = g := ⟨_, rfl⟩
    obtain ⟨ra, hra⟩ : ∃ r, w.heap.size + 1 = r := ⟨_, rfl⟩
    rw [hra, hg] at T0 ⊢
    clear hra hg
    have KO := Lib.hid (fun W => owner_secondOf r d0 d1 g W)
    go_upto_region 3 with (first
      | (go_at_call 21; refine (KO.out _).mono ?_; rintro e W1 ⟨c, d, rfl, hC, hD, hB⟩
         have T1 := Lib.hid (T0.out.under hB)
         have C1 := Lib.hid hC
         have D1 := Lib.hid hD
         clear hB hC T0 hD)
      | (go_at_call 105; refine (read_counterOf c d r _ _ (fun W hBW => look_counterOf b.t1 r 9 (r - 9) W g 27 c d h.t1 (wrap_sub r 9 (by omega) (by omega)) (by omega) (by omega) ⟨C1.out.below hBW (VRow.lt C1.out), D1.out.below hBW (VRow.lt D1.out), (T1.out.q.below hBW T1.out.q.lt).tb, (T1.out.q.below hBW T1.out.q.lt).lt, Below.refl _ _⟩)).mono ?_; rintro e W2 ⟨rfl, hB⟩
         have T2 := Lib.hid (T1.out.under hB)
         clear hB T1))
    refine wp_region_noPanic ?_
    refine wp_region_held_drew (S := fun X => BRow X g 37 (b)) (by kernel_rfl) (T2.out.q.below (Below.refl _ _).drew T2.out.q.lt) (fun hHeld => ?_)
    refine' take_ 0 rfl (by kernel_rfl) (by kernel_rfl) (by kernel_rfl) (fun _ _ _ h => h) (by rfl) (fun wS hSw => ?_) hHeld ?_
    rotate_left
    focus (go_simp; (try with_reducible rfl); done)
    try simp only [Act.put, List.setIfInBounds_toArray, List.set_cons_zero, List.set_cons_succ]
    refine' take_ 1 rfl (by kernel_rfl) (by kernel_rfl) (by kernel_rfl) (fun _ _ _ h => h) (by rfl) (fun wS hSw => run_load_b wS 37 _ g rfl _ Tryz.underlying37 (by kernel_rfl) 37 hSw _ _ _ _ _) hHeld ?_
    try simp only [Act.put, List.setIfInBounds_toArray, List.set_cons_zero, List.set_cons_succ]
    refine' take_ 2 rfl (by kernel_rfl) (by kernel_rfl) (by kernel_rfl) (fun _ _ _ h => h) (by rfl) (fun wS hSw => ?_) hHeld ?_
    rotate_left
    focus (go_simp; (try with_reducible rfl); done)
    try simp only [Act.put, List.setIfInBounds_toArray, List.set_cons_zero, List.set_cons_succ]
    refine only_ 3 rfl (by kernel_rfl) (by rfl) (fun K hK => ?_)
    refine wp_store_b 37 _ _ rfl ra rfl rfl (by kernel_rfl) 37 (T2.out.z.below (w' := _) (Below.refl _ _).drew T2.out.z.lt) ?_
    intro WZ HN HO HB
    have HZ := HN
    have BZ := Lib.hid (T2.out.b.drew.trans (HB.out.mono T2.out.lr))
    refine hK.out _ _ (hHeld.other HO.out T2.out.gr) (fun hHeld2 => ?_)
    clear hK K hHeld HN HO HB
    have hHeld := hHeld2
    clear hHeld2
    try simp only [Act.put]
    refine wpAnyH_done (by kernel_rfl) ?_ _
    refine NoPanic.normal ?_
    go_wp2
    exact bodyPost_ret (v := .tuple #[.int .i32 (Ti.peekT b.t1 (r - 9)), bv (b)]) (Ua.results_tc Tryz.results9 _ _ _ _ _ _ rfl (run_loadVar_b WZ ra 37 _ Tryz.underlying37 (by kernel_rfl) 37 HZ.out) rfl) rfl ⟨rfl, BZ.out⟩
  · rw [show peekB b r = Iq.peekI b.q r from (if_neg (by omega)).trans ((if_neg (by omega)).trans ((if_neg (by omega)).trans ((if_neg (by omega)).trans (if_pos (by omega))))), show readB b r = b from if_neg (by omega)]
    unfold bv
    go_enter Tryz.func9, Tryz.ntmps9
    go_upto_region 1 with (fail)
    refine name_two (Q := fun X => Code.wp _ _ _ _ X) ?_
    intro W0 hq1 hq2 hB0
    have T0 : Hid (Tw w W0 w.heap.size (w.heap.size + 1) 37 b) := Lib.hid (Tw.new 37 hq1 hq2 hB0)
    clear hq1 hq2 hB0
    obtain ⟨g, hg⟩ : ∃ g, w.heap.size = g := ⟨_, rfl⟩
    obtain ⟨ra, hra⟩ : ∃ r, w.heap.size + 1 = r := ⟨_, rfl⟩
    rw [hra, hg] at T0 ⊢
    clear hra hg
    have KO := Lib.hid (fun W => owner_controllerOf r d0 d1 g W)
    go_upto_region 3 with (first
      | (go_at_call 21; refine (KO.out _).mono ?_; rintro e W1 ⟨c, rfl, hC, hB⟩
         have T1 := Lib.hid (T0.out.under hB)
         have C1 := Lib.hid hC
         clear hB hC T0)
      | (go_at_call 105; refine (read_controllerOf c r _ _ (fun W hBW => look_controllerOf b r W g c 37 h h0 h1 (T1.out.q.below hBW T1.out.q.lt) (C1.out.below hBW (VRow.lt C1.out)))).mono ?_; rintro e W2 ⟨rfl, hB⟩
         have T2 := Lib.hid (T1.out.under hB)
         clear hB T1))
    refine wp_region_noPanic ?_
    refine wp_region_held_drew (S := fun X => BRow X g 37 (b)) (by kernel_rfl) (T2.out.q.below (Below.refl _ _).drew T2.out.q.lt) (fun hHeld => ?_)
    refine' take_ 0 rfl (by kernel_rfl) (by kernel_rfl) (by kernel_rfl) (fun _ _ _ h => h) (by rfl) (fun wS hSw => ?_) hHeld ?_
    rotate_left
    focus (go_simp; (try with_reducible rfl); done)
    try simp only [Act.put, List.setIfInBounds_toArray, List.set_cons_zero, List.set_cons_succ]
    refine' take_ 1 rfl (by kernel_rfl) (by kernel_rfl) (by kernel_rfl) (fun _ _ _ h => h) (by rfl) (fun wS hSw => run_load_b wS 37 _ g rfl _ Tryz.underlying37 (by kernel_rfl) 37 hSw _ _ _ _ _) hHeld ?_
    try simp only [Act.put, List.setIfInBounds_toArray, List.set_cons_zero, List.set_cons_succ]
    refine' take_ 2 rfl (by kernel_rfl) (by kernel_rfl) (by kernel_rfl) (fun _ _ _ h => h) (by rfl) (fun wS hSw => ?_) hHeld ?_
    rotate_left
    focus (go_simp; (try with_reducible rfl); done)
    try simp only [Act.put, List.setIfInBounds_toArray, List.set_cons_zero, List.set_cons_succ]
    refine only_ 3 rfl (by kernel_rfl) (by rfl) (fun K hK => ?_)
    refine wp_store_b 37 _ _ rfl ra rfl rfl (by kernel_rfl) 37 (T2.out.z.below (w' := _) (Below.refl _ _).drew T2.out.z.lt) ?_
    intro WZ HN HO HB
    have HZ := HN
    have BZ := Lib.hid (T2.out.b.drew.trans (HB.out.mono T2.out.lr))
    refine hK.out _ _ (hHeld.other HO.out T2.out.gr) (fun hHeld2 => ?_)
    clear hK K hHeld HN HO HB
    have hHeld := hHeld2
    clear hHeld2
    try simp only [Act.put]
    refine wpAnyH_done (by kernel_rfl) ?_ _
    refine NoPanic.normal ?_
    go_wp2
    exact bodyPost_ret (v := .tuple #[.int .i32 (Iq.peekI b.q r), bv (b)]) (Ua.results_tc Tryz.results9 _ _ _ _ _ _ rfl (run_loadVar_b WZ ra 37 _ Tryz.underlying37 (by kernel_rfl) 37 HZ.out) rfl) rfl ⟨rfl, BZ.out⟩
  · rw [show peekB b r = 0 from (if_neg (by omega)).trans ((if_neg (by omega)).trans ((if_neg (by omega)).trans ((if_neg (by omega)).trans (if_neg (by omega))))), show readB b r = b from if_neg (by omega)]
    unfold bv
    go_enter Tryz.func9, Tryz.ntmps9
    go_upto_region 1 with (fail)
    refine name_two (Q := fun X => Code.wp _ _ _ _ X) ?_
    intro W0 hq1 hq2 hB0
    have T0 : Hid (Tw w W0 w.heap.size (w.heap.size + 1) 37 b) := Lib.hid (Tw.new 37 hq1 hq2 hB0)
    clear hq1 hq2 hB0
    obtain ⟨g, hg⟩ : ∃ g, w.heap.size = g := ⟨_, rfl⟩
    obtain ⟨ra, hra⟩ : ∃ r, w.heap.size + 1 = r := ⟨_, rfl⟩
    rw [hra, hg] at T0 ⊢
    clear hra hg
    have KO := Lib.hid (fun W => owner_none r d0 g W)
    go_upto_region 3 with (go_at_call 21; refine (KO.out _).mono ?_; rintro e W1 ⟨rfl, hB⟩
                           have T1 := Lib.hid (T0.out.under hB)
                           clear hB T0)
    refine wp_region_noPanic ?_
    refine wp_region_held_drew (S := fun X => BRow X g 37 (b)) (by kernel_rfl) (T1.out.q.below (Below.refl _ _).drew T1.out.q.lt) (fun hHeld => ?_)
    refine' take_ 0 rfl (by kernel_rfl) (by kernel_rfl) (by kernel_rfl) (fun _ _ _ h => h) (by rfl) (fun wS hSw => run_load_b wS 37 _ g rfl _ Tryz.underlying37 (by kernel_rfl) 37 hSw _ _ _ _ _) hHeld ?_
    try simp only [Act.put, List.setIfInBounds_toArray, List.set_cons_zero, List.set_cons_succ]
    refine' take_ 1 rfl (by kernel_rfl) (by kernel_rfl) (by kernel_rfl) (fun _ _ _ h => h) (by rfl) (fun wS hSw => ?_) hHeld ?_
    rotate_left
    focus (go_simp; (try with_reducible rfl); done)
    try simp only [Act.put, List.setIfInBounds_toArray, List.set_cons_zero, List.set_cons_succ]
    refine only_ 2 rfl (by kernel_rfl) (by rfl) (fun K hK => ?_)
    refine wp_store_b 37 _ _ rfl ra rfl rfl (by kernel_rfl) 37 (T1.out.z.below (w' := _) (Below.refl _ _).drew T1.out.z.lt) ?_
    intro WZ HN HO HB
    have HZ := HN
    have BZ := Lib.hid (T1.out.b.drew.trans (HB.out.mono T1.out.lr))
    refine hK.out _ _ (hHeld.other HO.out T1.out.gr) (fun hHeld2 => ?_)
    clear hK K hHeld HN HO HB
    have hHeld := hHeld2
    clear hHeld2
    try simp only [Act.put]
    refine wpAnyH_done (by kernel_rfl) ?_ _
    refine NoPanic.normal ?_
    go_wp2
    exact bodyPost_ret (v := .tuple #[.int .i32 (0), bv (b)]) (Ua.results_tc Tryz.results9 _ _ _ _ _ _ rfl (run_loadVar_b WZ ra 37 _ Tryz.underlying37 (by kernel_rfl) 37 HZ.out) rfl) rfl ⟨rfl, BZ.out⟩
end Go.Proofs.YtkodoldkfeopdaaGreat
