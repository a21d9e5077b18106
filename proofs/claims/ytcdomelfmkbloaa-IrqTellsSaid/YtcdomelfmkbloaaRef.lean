/-
  The document's Has, Request, Write, Taken, Peek by their contracts. Made by wip/genirqref.py.
-/
import Derived.Test.YtcdomelfmkbloaaI
import Derived.IntWalk
namespace Go.Proofs.Ytcdomelfmkbloaa
open Go.RowKit
set_option linter.unusedVariables false
theorem shr_bit (b v : Nat) : (((b : Int) / 2 ^ v).tmod 2 == 1) = b.testBit v := by
  have h1 : ((b : Int) / 2 ^ v) = ((b / 2 ^ v : Nat) : Int) := by simp
  rw [h1, Nat.testBit_eq_decide_div_mod_eq]
  generalize b / 2 ^ v = x
  rw [Int.tmod_eq_emod_of_nonneg (by omega), Bool.eq_iff_iff]
  simp only [beq_iff_eq, decide_eq_true_eq]
  omega
theorem shl_one (n : Nat) (h : n < 8) : IntKind.u8.wrap ((2 : Int) ^ n) = (2 : Int) ^ n := by
  have hp : 2 ^ n < 256 := Nat.pow_lt_pow_of_lt (a := 2) (n := n) (m := 8) (by decide) h
  have h1 : ((2 : Int) ^ n) = ((2 ^ n : Nat) : Int) := by simp
  rw [h1]
  generalize 2 ^ n = x at *
  simp [IntKind.wrap, IntKind.bits, IntKind.signed]
  omega
theorem rHas_any (b v : Nat) (w : World) (hb : b < 256) (hv : v < 8) : Calls Try.prog 27 #[.int .u8 (b : Int), .int .i64 (v : Int)] w fun e w' => e = .returned (.bool (b.testBit v)) ∧ w' = w := by
  have hs := shr_bit b v
  have HS := Lib.hid hs
  clear hs
  go_enter Try.func27, Try.ntmps27
  go_wp2
  go_ret
  exact ⟨by rw [← HS.out]; rfl, rfl⟩
set_option maxRecDepth 100000 in
theorem rRequest_any : RequestC 16 := by
  intro c b w h hb
  have HO := Lib.hid (u8_or_nat c.p b h.p hb)
  unfold cv
  go_enter Try.func16, Try.ntmps16
  go_upto_region 1 with (fail)
  refine name_two (Q := fun X => Code.wp _ _ _ _ X) ?_
  intro W0 hq1 hq2 hB0
  have T0 := Lib.hid (Tw.new 43 hq1 hq2 hB0)
  clear hq1 hq2 hB0
  obtain ⟨g, hg⟩ : ∃ g, w.heap.size = g := ⟨_, rfl⟩
  obtain ⟨r, hr⟩ : ∃ r, w.heap.size + 1 = r := ⟨_, rfl⟩
  rw [hr, hg] at T0 ⊢
  clear hr hg
  have z1 := T0.out.q.c1
  go_wp2_with (first
      | ((with_reducible show wpList _ _ _ (⟨none, .store 43 (.tmp 4) (.tmp 10), _, _, _, _⟩ :: _) _ _); refine wpList_store_c2 rfl 43 _ _ rfl r (by exact rfl) (by exact rfl) (by kernel_rfl) 43 T1.out.z ?_; intro WZ HN HO HB
         have HZ := HN
         have BZ := Lib.hid (T1.out.b.trans (HB.out.mono T1.out.lr))
         clear HN HO HB)
      | ((with_reducible show wpList _ _ _ (⟨some 10, .load 43 (.tmp 2), _, _, _, _⟩ :: _) _ _); refine wpList_load_c (by rfl) 43 _ rfl g (by exact rfl) _ Try.underlying43 (by kernel_rfl) 43 T1.out.q ?_)
      | ((with_reducible show wpList _ _ _ (⟨none, .store 5 (.tmp 9) (.tmp 8), _, _, _, _⟩ :: _) _ _); refine wpList_store_c rfl 5 _ _ rfl g 1 (by exact rfl) (.int .u8 (((c.p ||| b : Nat) : Int))) (by rw [← HO.out]; exact rfl) rfl (by kernel_rfl) 43 _ T0.out.q (show 1 < 2 by decide) ?_; intro WT1 HN HO HB
         have T1 : Hid (Tw w WT1 g r 43 (requestI c b)) := Lib.hid (T0.out.setG HN.out HO.out HB.out)
         clear HN HO HB T0))
  exact bodyPost_ret (v := cv (requestI c b)) (results_c Try.results16 _ _ _ _ _ rfl (run_loadVar_c WZ r 43 _ Try.underlying43 (by kernel_rfl) 43 HZ.out)) rfl ⟨rfl, BZ.out⟩
set_option maxRecDepth 100000 in
theorem rPeek_any : PeekC 18 := by
  intro c r w h h0 h1
  have hwm : wrap32 (c.m : Int) = (c.m : Int) := by have := h.m; unfold wrap32; omega
  have hwp : wrap32 (c.p : Int) = (c.p : Int) := by have := h.p; unfold wrap32; omega
  have HM := Lib.hid hwm
  have HP := Lib.hid hwp
  clear hwm hwp
  unfold cv
  by_cases e0 : r = 12
  · subst e0
    rw [show peekI c 12 = (c.m : Int) from if_pos rfl]
    go_enter Try.func18, Try.ntmps18
    go_upto_region 1 with (fail)
    refine name_one (Q := fun X => Code.wp _ _ _ _ X) ?_
    intro W0 hq1 hB0 hz
    have T0 : CRow W0 w.heap.size 43 c := hq1
    have z0 := T0.c0
    go_wp2
    go_ret
    exact ⟨by rw [HM.out]; rfl, hB0⟩
  by_cases e1 : r = 13
  · subst e1
    rw [show peekI c 13 = (c.p : Int) from (if_neg (by decide)).trans (if_pos rfl)]
    go_enter Try.func18, Try.ntmps18
    go_upto_region 1 with (fail)
    refine name_one (Q := fun X => Code.wp _ _ _ _ X) ?_
    intro W0 hq1 hB0 hz
    have T0 : CRow W0 w.heap.size 43 c := hq1
    have z1 := T0.c1
    go_wp2
    go_ret
    exact ⟨by rw [HP.out]; rfl, hB0⟩
  · rw [show peekI c r = 0 from (if_neg e0).trans (if_neg e1)]
    go_enter Try.func18, Try.ntmps18
    go_upto_region 1 with (fail)
    refine name_one (Q := fun X => Code.wp _ _ _ _ X) ?_
    intro W0 hq1 hB0 hz
    go_wp2
    go_ret
    exact ⟨rfl, hB0⟩
set_option maxRecDepth 100000 in
theorem rWrite_any : WriteC 15 := by
  intro c reg v w h h0 h1 h2 h3
  have hl := lowN_lt v
  have HQ := Lib.hid (fun W => rRequest_any c (lowN v) W h hl)
  have HN := Lib.hid (u8_andNot_nat c.p (lowN v) h.p hl)
  have HW : Hid (v % 256 = ((lowN v : Nat) : Int)) := Lib.hid (lowN_cast v).symm
  by_cases e0 : reg = 12
  · subst e0
    rw [show writeI c 12 v = ⟨lowN v, c.p⟩ from if_pos rfl]
    unfold cv
    go_enter Try.func15, Try.ntmps15
    go_upto_region 1 with (fail)
    refine name_two (Q := fun X => Code.wp _ _ _ _ X) ?_
    intro W0 hq1 hq2 hB0
    have T0 := Lib.hid (Tw.new 43 hq1 hq2 hB0)
    clear hq1 hq2 hB0
    obtain ⟨g, hg⟩ : ∃ g, w.heap.size = g := ⟨_, rfl⟩
    obtain ⟨r, hr⟩ : ∃ r, w.heap.size + 1 = r := ⟨_, rfl⟩
    rw [hr, hg] at T0 ⊢
    clear hr hg
    have z0 := T0.out.q.c0
    have z1 := T0.out.q.c1
    go_wp2_with (first
      | ((with_reducible show wpList _ _ _ (⟨none, .store 43 (.tmp 6) (.tmp 27), _, _, _, _⟩ :: _) _ _); refine wpList_store_c2 rfl 43 _ _ rfl r (by exact rfl) (by exact rfl) (by kernel_rfl) 43 T1.out.z ?_; intro WZ HN HO HB
         have HZ := HN
         have BZ := Lib.hid (T1.out.b.trans (HB.out.mono T1.out.lr))
         clear HN HO HB)
      | ((with_reducible show wpList _ _ _ (⟨some 27, .load 43 (.tmp 3), _, _, _, _⟩ :: _) _ _); refine wpList_load_c (by rfl) 43 _ rfl g (by exact rfl) _ Try.underlying43 (by kernel_rfl) 43 T1.out.q ?_)
      | ((with_reducible show wpList _ _ _ (⟨none, .store 5 (.tmp 12) (.tmp 11), _, _, _, _⟩ :: _) _ _); refine wpList_store_c rfl 5 _ _ rfl g 0 (by exact rfl) (.int .u8 (((lowN v : Nat) : Int))) (by rw [← HW.out]; exact rfl) rfl (by kernel_rfl) 43 _ T0.out.q (show 0 < 2 by decide) ?_; intro WT1 HN HO HB
         have T1 : Hid (Tw w WT1 g r 43 (⟨lowN v, c.p⟩)) := Lib.hid (T0.out.setG HN.out HO.out HB.out)
         clear HN HO HB T0))
    exact bodyPost_ret (v := cv (⟨lowN v, c.p⟩)) (results_c Try.results15 _ _ _ _ _ rfl (run_loadVar_c WZ r 43 _ Try.underlying43 (by kernel_rfl) 43 HZ.out)) rfl ⟨rfl, BZ.out⟩
  by_cases e1 : reg = 13
  · subst e1
    rw [show writeI c 13 v = requestI c (lowN v) from (if_neg (by decide)).trans (if_pos rfl)]
    unfold cv
    go_enter Try.func15, Try.ntmps15
    go_upto_region 1 with (fail)
    refine name_two (Q := fun X => Code.wp _ _ _ _ X) ?_
    intro W0 hq1 hq2 hB0
    have T0 := Lib.hid (Tw.new 43 hq1 hq2 hB0)
    clear hq1 hq2 hB0
    obtain ⟨g, hg⟩ : ∃ g, w.heap.size = g := ⟨_, rfl⟩
    obtain ⟨r, hr⟩ : ∃ r, w.heap.size + 1 = r := ⟨_, rfl⟩
    rw [hr, hg] at T0 ⊢
    clear hr hg
    have z0 := T0.out.q.c0
    have z1 := T0.out.q.c1
    go_wp2_with (first
      | ((with_reducible show wpList _ _ _ (⟨none, .store 43 (.tmp 6) (.tmp 27), _, _, _, _⟩ :: _) _ _); refine wpList_store_c2 rfl 43 _ _ rfl r (by exact rfl) (by exact rfl) (by kernel_rfl) 43 T2.out.z ?_; intro WZ HN HO HB
         have HZ := HN
         have BZ := Lib.hid (T2.out.b.trans (HB.out.mono T2.out.lr))
         clear HN HO HB)
      | ((with_reducible show wpList _ _ _ (⟨some 27, .load 43 (.tmp 3), _, _, _, _⟩ :: _) _ _); refine wpList_load_c (by rfl) 43 _ rfl g (by exact rfl) _ Try.underlying43 (by kernel_rfl) 43 T2.out.q ?_)
      | ((with_reducible show wpList _ _ _ (⟨none, .store 43 (.tmp 3) (.tmp 18), _, _, _, _⟩ :: _) _ _); refine wpList_store_c2 rfl 43 _ _ rfl g (by exact rfl) (by exact rfl) (by kernel_rfl) 43 T1.out.q ?_; intro WT2 HN HO HB
         have T2 := Lib.hid (T1.out.setG HN.out HO.out HB.out)
         clear HN HO HB T1)
      | (go_at_call 16; rw [HW.out]; refine (HQ.out _).mono ?_; rintro e WT1 ⟨rfl, hB⟩
         have T1 := Lib.hid (T0.out.under hB)
         clear hB T0)
      | ((with_reducible show wpList _ _ _ (⟨some 15, .load 43 (.tmp 3), _, _, _, _⟩ :: _) _ _); refine wpList_load_c (by rfl) 43 _ rfl g (by exact rfl) _ Try.underlying43 (by kernel_rfl) 43 T0.out.q ?_))
    exact bodyPost_ret (v := cv (requestI c (lowN v))) (results_c Try.results15 _ _ _ _ _ rfl (run_loadVar_c WZ r 43 _ Try.underlying43 (by kernel_rfl) 43 HZ.out)) rfl ⟨rfl, BZ.out⟩
  by_cases e2 : reg = 14
  · subst e2
    rw [show writeI c 14 v = clearI c (lowN v) from (if_neg (by decide)).trans ((if_neg (by decide)).trans (if_pos rfl))]
    unfold cv
    go_enter Try.func15, Try.ntmps15
    go_upto_region 1 with (fail)
    refine name_two (Q := fun X => Code.wp _ _ _ _ X) ?_
    intro W0 hq1 hq2 hB0
    have T0 := Lib.hid (Tw.new 43 hq1 hq2 hB0)
    clear hq1 hq2 hB0
    obtain ⟨g, hg⟩ : ∃ g, w.heap.size = g := ⟨_, rfl⟩
    obtain ⟨r, hr⟩ : ∃ r, w.heap.size + 1 = r := ⟨_, rfl⟩
    rw [hr, hg] at T0 ⊢
    clear hr hg
    have z0 := T0.out.q.c0
    have z1 := T0.out.q.c1
    go_wp2_with (first
      | ((with_reducible show wpList _ _ _ (⟨none, .store 43 (.tmp 6) (.tmp 27), _, _, _, _⟩ :: _) _ _); refine wpList_store_c2 rfl 43 _ _ rfl r (by exact rfl) (by exact rfl) (by kernel_rfl) 43 T1.out.z ?_; intro WZ HN HO HB
         have HZ := HN
         have BZ := Lib.hid (T1.out.b.trans (HB.out.mono T1.out.lr))
         clear HN HO HB)
      | ((with_reducible show wpList _ _ _ (⟨some 27, .load 43 (.tmp 3), _, _, _, _⟩ :: _) _ _); refine wpList_load_c (by rfl) 43 _ rfl g (by exact rfl) _ Try.underlying43 (by kernel_rfl) 43 T1.out.q ?_)
      | ((with_reducible show wpList _ _ _ (⟨none, .store 5 (.tmp 26) (.tmp 25), _, _, _, _⟩ :: _) _ _); refine wpList_store_c rfl 5 _ _ rfl g 1 (by exact rfl) (.int .u8 (((c.p &&& (255 - lowN v) : Nat) : Int))) (by rw [← HN.out, ← HW.out]; exact rfl) rfl (by kernel_rfl) 43 _ T0.out.q (show 1 < 2 by decide) ?_; intro WT1 HN HO HB
         have T1 : Hid (Tw w WT1 g r 43 (clearI c (lowN v))) := Lib.hid (T0.out.setG HN.out HO.out HB.out)
         clear HN HO HB T0))
    exact bodyPost_ret (v := cv (clearI c (lowN v))) (results_c Try.results15 _ _ _ _ _ rfl (run_loadVar_c WZ r 43 _ Try.underlying43 (by kernel_rfl) 43 HZ.out)) rfl ⟨rfl, BZ.out⟩
  · rw [show writeI c reg v = c from (if_neg e0).trans ((if_neg e1).trans (if_neg e2))]
    unfold cv
    go_enter Try.func15, Try.ntmps15
    go_upto_region 1 with (fail)
    refine name_two (Q := fun X => Code.wp _ _ _ _ X) ?_
    intro W0 hq1 hq2 hB0
    have T0 := Lib.hid (Tw.new 43 hq1 hq2 hB0)
    clear hq1 hq2 hB0
    obtain ⟨g, hg⟩ : ∃ g, w.heap.size = g := ⟨_, rfl⟩
    obtain ⟨r, hr⟩ : ∃ r, w.heap.size + 1 = r := ⟨_, rfl⟩
    rw [hr, hg] at T0 ⊢
    clear hr hg
    go_wp2_with (first
      | ((with_reducible show wpList _ _ _ (⟨none, .store 43 (.tmp 6) (.tmp 27), _, _, _, _⟩ :: _) _ _); refine wpList_store_c2 rfl 43 _ _ rfl r (by exact rfl) (by exact rfl) (by kernel_rfl) 43 T0.out.z ?_; intro WZ HN HO HB
         have HZ := HN
         have BZ := Lib.hid (T0.out.b.trans (HB.out.mono T0.out.lr))
         clear HN HO HB)
      | ((with_reducible show wpList _ _ _ (⟨some 27, .load 43 (.tmp 3), _, _, _, _⟩ :: _) _ _); refine wpList_load_c (by rfl) 43 _ rfl g (by exact rfl) _ Try.underlying43 (by kernel_rfl) 43 T0.out.q ?_))
    exact bodyPost_ret (v := cv (c)) (results_c Try.results15 _ _ _ _ _ rfl (run_loadVar_c WZ r 43 _ Try.underlying43 (by kernel_rfl) 43 HZ.out)) rfl ⟨rfl, BZ.out⟩
set_option maxRecDepth 100000 in
theorem rTaken_any : TakenC 17 := by
  intro c v w h h0 h1
  by_cases hv : 0 ≤ v ∧ v < 8
  · obtain ⟨n, rfl⟩ : ∃ n : Nat, v = (n : Int) := ⟨v.toNat, by omega⟩
    obtain ⟨d1, d2⟩ := hv
    have hn : n < 8 := by omega
    have hp : 2 ^ n < 256 := Nat.pow_lt_pow_of_lt (a := 2) (n := n) (m := 8) (by decide) hn
    have HN : Hid (bits .andNot .u8 (c.p : Int) ((2 : Int) ^ n) = ((c.p &&& (255 - 2 ^ n) : Nat) : Int)) := Lib.hid (by
      have h1 := u8_andNot_nat c.p (2 ^ n) h.p hp
      rw [show ((2 ^ n : Nat) : Int) = (2 : Int) ^ n from by simp] at h1
      exact h1)
    have HS := Lib.hid (shl_one n hn)
    rw [show takenI c (n : Int) = clearI c (2 ^ n) from if_pos ⟨d1, d2⟩]
    unfold cv
    go_enter Try.func17, Try.ntmps17
    go_upto_region 1 with (fail)
    refine name_two (Q := fun X => Code.wp _ _ _ _ X) ?_
    intro W0 hq1 hq2 hB0
    have T0 := Lib.hid (Tw.new 43 hq1 hq2 hB0)
    clear hq1 hq2 hB0
    obtain ⟨g, hg⟩ : ∃ g, w.heap.size = g := ⟨_, rfl⟩
    obtain ⟨r, hr⟩ : ∃ r, w.heap.size + 1 = r := ⟨_, rfl⟩
    rw [hr, hg] at T0 ⊢
    clear hr hg
    go_upto_region 2 with fail
    refine wp_region_noPanic ?_
    refine wp_region_held_drew (S := fun X => Below w.heap.size w X) (by kernel_rfl) (T0.out.b.drew) (fun hHeld => ?_)
    have T1 := Lib.hid (T0.out.under ((Below.refl _ _).drew))
    clear T0
    obtain ⟨Y0, hY0⟩ : ∃ Y, W0.drew = Y := ⟨_, rfl⟩
    rw [hY0] at hHeld T1 ⊢
    clear hY0
    refine' take_ 0 rfl (by kernel_rfl) (by kernel_rfl) (by kernel_rfl) (fun _ _ _ h => h) (by rfl) (fun wS hSw => ?_) hHeld ?_
    rotate_left
    focus (go_simp; (try with_reducible rfl); done)
    try simp only [Act.put, List.setIfInBounds_toArray, List.set_cons_zero, List.set_cons_succ]
    refine' take_ 2 rfl (by kernel_rfl) (by kernel_rfl) (by kernel_rfl) (fun _ _ _ h => h) (by rfl) (fun wS hSw => ?_) hHeld ?_
    rotate_left
    focus (go_simp; (try with_reducible rfl); done)
    try simp only [Act.put, List.setIfInBounds_toArray, List.set_cons_zero, List.set_cons_succ]
    refine' take_ 3 rfl (by kernel_rfl) (by kernel_rfl) (by kernel_rfl) (fun _ _ _ h => h) (by rfl) (fun wS hSw => ?_) hHeld ?_
    rotate_left
    focus (go_simp; rw [HS.out]; (try with_reducible rfl); done)
    try simp only [Act.put, List.setIfInBounds_toArray, List.set_cons_zero, List.set_cons_succ]
    refine only_ 1 rfl (by kernel_rfl) (by rfl) (fun K hK => ?_)
    have z1 := T1.out.q.c1
    go_simp
    clear z1
    refine hK.out _ _ hHeld (fun hHeld2 => ?_)
    clear hK K hHeld
    have hHeld := hHeld2
    clear hHeld2
    try simp only [Act.put, List.setIfInBounds_toArray, List.set_cons_zero, List.set_cons_succ]
    refine' take_ 4 rfl (by kernel_rfl) (by kernel_rfl) (by kernel_rfl) (fun _ _ _ h => h) (by rfl) (fun wS hSw => ?_) hHeld ?_
    rotate_left
    focus (go_simp; (try rw [HN.out]); (try with_reducible rfl); done)
    try simp only [Act.put, List.setIfInBounds_toArray, List.set_cons_zero, List.set_cons_succ]
    refine' take_ 5 rfl (by kernel_rfl) (by kernel_rfl) (by kernel_rfl) (fun _ _ _ h => h) (by rfl) (fun wS hSw => ?_) hHeld ?_
    rotate_left
    focus (go_simp; (try with_reducible rfl); done)
    try simp only [Act.put, List.setIfInBounds_toArray, List.set_cons_zero, List.set_cons_succ]
    refine only_ 6 rfl (by kernel_rfl) (by rfl) (fun K hK => ?_)
    refine wp_store_row rfl 5 _ _ rfl g 1 rfl [.int .u8 ((c.p &&& (255 - 2 ^ n) : Nat) : Int)] rfl (by kernel_rfl) (icc c) (icc (clearI c (2 ^ n))) 43 T1.out.q (by simp [icc]) (one_one _ rfl) rfl ?_
    have T2 := Lib.hid (T1.out.setG (d := clearI c (2 ^ n)) (VRow.set T1.out.q _) (fun k hk => setRow_other _ g k _ hk) (setRow_below (Below.refl _ _) (Nat.le_refl _) _))
    refine hK.out _ _ (T2.out.b) (fun hHeld2 => ?_)
    clear hK K hHeld T1
    generalize World.setRow _ _ _ = Y1 at *
    try simp only [Act.put]
    refine wpAnyH_done (by kernel_rfl) ?_ _
    refine NoPanic.normal ?_
    go_wp2_with (first
      | ((with_reducible show wpList _ _ _ (⟨none, .store 43 (.tmp 4) (.tmp 17), _, _, _, _⟩ :: _) _ _); refine wpList_store_c2 rfl 43 _ _ rfl r (by exact rfl) (by exact rfl) (by kernel_rfl) 43 T2.out.z ?_; intro WZ HN HO HB
         have HZ := HN
         have BZ := Lib.hid (T2.out.b.trans (HB.out.mono T2.out.lr))
         clear HN HO HB)
      | ((with_reducible show wpList _ _ _ (⟨some 17, .load 43 (.tmp 2), _, _, _, _⟩ :: _) _ _); refine wpList_load_c (by rfl) 43 _ rfl g (by exact rfl) _ Try.underlying43 (by kernel_rfl) 43 T2.out.q ?_))
    exact bodyPost_ret (v := cv (clearI c (2 ^ n))) (results_c Try.results17 _ _ _ _ _ rfl (run_loadVar_c WZ r 43 _ Try.underlying43 (by kernel_rfl) 43 HZ.out)) rfl ⟨rfl, BZ.out⟩
  · rw [show takenI c v = c from if_neg hv]
    have hd : ¬ (0 : Int) ≤ v ∨ ((0 : Int) ≤ v ∧ ¬ v < 8) := by omega
    clear hv
    rcases hd with d1 | ⟨d1, d2⟩
    · skip
      unfold cv
      go_enter Try.func17, Try.ntmps17
      go_upto_region 1 with (fail)
      refine name_two (Q := fun X => Code.wp _ _ _ _ X) ?_
      intro W0 hq1 hq2 hB0
      have T0 := Lib.hid (Tw.new 43 hq1 hq2 hB0)
      clear hq1 hq2 hB0
      obtain ⟨g, hg⟩ : ∃ g, w.heap.size = g := ⟨_, rfl⟩
      obtain ⟨r, hr⟩ : ∃ r, w.heap.size + 1 = r := ⟨_, rfl⟩
      rw [hr, hg] at T0 ⊢
      clear hr hg
      go_wp2_with (first
      | ((with_reducible show wpList _ _ _ (⟨none, .store 43 (.tmp 4) (.tmp 17), _, _, _, _⟩ :: _) _ _); refine wpList_store_c2 rfl 43 _ _ rfl r (by exact rfl) (by exact rfl) (by kernel_rfl) 43 T0.out.z ?_; intro WZ HN HO HB
         have HZ := HN
         have BZ := Lib.hid (T0.out.b.trans (HB.out.mono T0.out.lr))
         clear HN HO HB)
      | ((with_reducible show wpList _ _ _ (⟨some 17, .load 43 (.tmp 2), _, _, _, _⟩ :: _) _ _); refine wpList_load_c (by rfl) 43 _ rfl g (by exact rfl) _ Try.underlying43 (by kernel_rfl) 43 T0.out.q ?_))
      exact bodyPost_ret (v := cv (c)) (results_c Try.results17 _ _ _ _ _ rfl (run_loadVar_c WZ r 43 _ Try.underlying43 (by kernel_rfl) 43 HZ.out)) rfl ⟨rfl, BZ.out⟩
    · skip
      unfold cv
      go_enter Try.func17, Try.ntmps17
      go_upto_region 1 with (fail)
      refine name_two (Q := fun X => Code.wp _ _ _ _ X) ?_
      intro W0 hq1 hq2 hB0
      have T0 := Lib.hid (Tw.new 43 hq1 hq2 hB0)
      clear hq1 hq2 hB0
      obtain ⟨g, hg⟩ : ∃ g, w.heap.size = g := ⟨_, rfl⟩
      obtain ⟨r, hr⟩ : ∃ r, w.heap.size + 1 = r := ⟨_, rfl⟩
      rw [hr, hg] at T0 ⊢
      clear hr hg
      go_wp2_with (first
      | ((with_reducible show wpList _ _ _ (⟨none, .store 43 (.tmp 4) (.tmp 17), _, _, _, _⟩ :: _) _ _); refine wpList_store_c2 rfl 43 _ _ rfl r (by exact rfl) (by exact rfl) (by kernel_rfl) 43 T0.out.z ?_; intro WZ HN HO HB
         have HZ := HN
         have BZ := Lib.hid (T0.out.b.trans (HB.out.mono T0.out.lr))
         clear HN HO HB)
      | ((with_reducible show wpList _ _ _ (⟨some 17, .load 43 (.tmp 2), _, _, _, _⟩ :: _) _ _); refine wpList_load_c (by rfl) 43 _ rfl g (by exact rfl) _ Try.underlying43 (by kernel_rfl) 43 T0.out.q ?_))
      exact bodyPost_ret (v := cv (c)) (results_c Try.results17 _ _ _ _ _ rfl (run_loadVar_c WZ r 43 _ Try.underlying43 (by kernel_rfl) 43 HZ.out)) rfl ⟨rfl, BZ.out⟩
end Go.Proofs.Ytcdomelfmkbloaa
