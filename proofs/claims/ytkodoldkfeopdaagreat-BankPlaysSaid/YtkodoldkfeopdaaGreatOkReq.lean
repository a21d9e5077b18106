/-
  requested, Pins, Arrive by their contracts. Made by wip/genbankok.py.
-/
import Derived.Test.YtkodoldkfeopdaaGreatRk
import Derived.Test.YtkodoldkfeopdaaGreatEGpio
import Derived.Test.YtkodoldkfeopdaaGreatEUart
import Derived.Test.YtkodoldkfeopdaaGreatETimer
import Derived.Test.YtkodoldkfeopdaaGreatEIrq
import Derived.IntWalk
namespace Go.Proofs.YtkodoldkfeopdaaGreat
open Go.RowKit
set_option linter.unusedVariables false
set_option maxRecDepth 100000
/-- A function over one bank, that it changes. -/
structure Of (w W : World) (g : Nat) (ty : TypeId) (b : Bk) : Prop where
  q : BRow W g ty b
  b : Below w.heap.size w W
  lg : w.heap.size ≤ g
section
variable {w W W' : World} {g r : Nat} {ty : TypeId} {b d : Bk}
theorem Of.under (h : Of w W g ty b) (hb : Below W.heap.size W W') : Of w W' g ty b := ⟨h.q.below hb h.q.lt, h.b.trans (hb.mono h.b.size), h.lg⟩
theorem Of.setG (h : Of w W g ty b) (hn : BRow W' g ty d) (ho : ∀ j, j ≠ g → W'.heap[j]? = W.heap[j]?) (hb : Below g W W') : Of w W' g ty d := ⟨hn, h.b.trans (hb.mono h.lg), h.lg⟩
end
theorem pidx0 (g : Nat) (w : World) : (Instr.indexAt 33 (.pointer (some ⟨g, 24, none⟩)) (.int .i64 0)).run Tryz.prog w = .ok (.pointer (some ⟨g, 24, none⟩)) w := by kernel_rfl
theorem pidx1 (g : Nat) (w : World) : (Instr.indexAt 33 (.pointer (some ⟨g, 24, none⟩)) (.int .i64 1)).run Tryz.prog w = .ok (.pointer (some ⟨g, 27, none⟩)) w := by kernel_rfl
theorem requested_any (b : Bk) (n : Nat) (asks : Bool) (w : World) (h : b.ok) (hn : n < 8) :
    Calls Tryz.prog 29 #[bv b, .int .i64 (n : Int), .bool asks] w fun x w' => x = .returned (bv (askB b (2 ^ n) asks)) ∧ Below w.heap.size w w' := by
  have KQ0 := fun W => Iq.request_any b.q (2 ^ n) W h.q (pow_lt n hn)
  have KQ : Hid (∀ W : World, Calls Tryz.prog 50 #[Iq.cv b.q, .int .u8 ((2 : Int) ^ n)] W fun x w' => x = .returned (Iq.cv (Iq.requestI b.q (2 ^ n))) ∧ Below W.heap.size W w') := Lib.hid (fun W => by
    have h1 := KQ0 W
    rw [show ((2 ^ n : Nat) : Int) = (2 : Int) ^ n from by simp] at h1
    exact h1)
  have HS := Lib.hid (Iq.shl_one n hn)
  clear KQ0
  cases asks
  · rw [show askB b (2 ^ n) false = b from if_neg (by decide)]
    unfold bv
    go_enter Tryz.func29, Tryz.ntmps29
    go_upto_region 1 with (fail)
    refine name_two (Q := fun X => Code.wp _ _ _ _ X) ?_
    intro W0 hq1 hq2 hB0
    have T0 : Hid (Tw w W0 w.heap.size (w.heap.size + 1) 37 b) := Lib.hid (Tw.new 37 hq1 hq2 hB0)
    clear hq1 hq2 hB0
    obtain ⟨g, hg⟩ : ∃ g, w.heap.size = g := ⟨_, rfl⟩
    obtain ⟨ra, hra⟩ : ∃ r, w.heap.size + 1 = r := ⟨_, rfl⟩
    rw [hra, hg] at T0 ⊢
    clear hra hg
    go_wp2_with (first
      | ((with_reducible show wpList _ _ _ (⟨none, .store 37 (.tmp 6) (.tmp 14), _, _, _, _⟩ :: _) _ _); refine wpList_store_b rfl 37 _ _ rfl ra (by exact rfl) (by exact rfl) (by kernel_rfl) 37 T0.out.z ?_; intro WZ HN HO HB
         have HZ := HN
         have BZ := Lib.hid (T0.out.b.trans (HB.out.mono T0.out.lr))
         clear HN HO HB)
      | ((with_reducible show wpList _ _ _ (⟨some 14, .load 37 (.tmp 3), _, _, _, _⟩ :: _) _ _); refine wpList_load_b (by rfl) 37 _ rfl g (by exact rfl) _ Tryz.underlying37 (by kernel_rfl) 37 T0.out.q ?_))
    exact bodyPost_ret (v := bv (b)) (results_c Tryz.results29 _ _ _ _ _ rfl (run_loadVar_b WZ ra 37 _ Tryz.underlying37 (by kernel_rfl) 37 HZ.out)) rfl ⟨rfl, BZ.out⟩
  · rw [show askB b (2 ^ n) true = { b with q := Iq.requestI b.q (2 ^ n) } from if_pos rfl]
    unfold bv
    go_enter Tryz.func29, Tryz.ntmps29
    go_upto_region 1 with (fail)
    refine name_two (Q := fun X => Code.wp _ _ _ _ X) ?_
    intro W0 hq1 hq2 hB0
    have T0 : Hid (Tw w W0 w.heap.size (w.heap.size + 1) 37 b) := Lib.hid (Tw.new 37 hq1 hq2 hB0)
    clear hq1 hq2 hB0
    obtain ⟨g, hg⟩ : ∃ g, w.heap.size = g := ⟨_, rfl⟩
    obtain ⟨ra, hra⟩ : ∃ r, w.heap.size + 1 = r := ⟨_, rfl⟩
    rw [hra, hg] at T0 ⊢
    clear hra hg
    go_upto_region 2 with fail
    refine wp_region_noPanic ?_
    refine wp_region_held_drew (S := fun X => Below w.heap.size w X) (by kernel_rfl) (T0.out.b.drew) (fun hHeld => ?_)
    have T1 := Lib.hid (T0.out.under ((Below.refl _ _).drew))
    clear T0
    obtain ⟨Y0, hY0⟩ : ∃ Y, W0.drew = Y := ⟨_, rfl⟩
    rw [hY0] at hHeld T1 ⊢
    clear hY0
    refine' take_ 0 rfl (by kernel_rfl) (by kernel_rfl) (by kernel_rfl) (fun _ _ _ h => h) (by rfl) (fun wS hSw => ?_) hHeld ?_
    rotate_left
    focus (go_simp; (try with_reducible rfl); done)
    try simp only [Act.put, List.setIfInBounds_toArray, List.set_cons_zero, List.set_cons_succ]
    refine' take_ 2 rfl (by kernel_rfl) (by kernel_rfl) (by kernel_rfl) (fun _ _ _ h => h) (by rfl) (fun wS hSw => ?_) hHeld ?_
    rotate_left
    focus (go_simp; (try with_reducible rfl); done)
    try simp only [Act.put, List.setIfInBounds_toArray, List.set_cons_zero, List.set_cons_succ]
    refine' take_ 3 rfl (by kernel_rfl) (by kernel_rfl) (by kernel_rfl) (fun _ _ _ h => h) (by rfl) (fun wS hSw => ?_) hHeld ?_
    rotate_left
    focus (go_simp; rw [HS.out]; (try with_reducible rfl); done)
    try simp only [Act.put, List.setIfInBounds_toArray, List.set_cons_zero, List.set_cons_succ]
    refine only_ 1 rfl (by kernel_rfl) (by rfl) (fun K hK => ?_)
    refine wp_of_run (Iq.cv b.q) (run_load_at Y0 35 (.tmp 8) g 30 rfl (Iq.icc b.q) _ T1.out.q.iq Tryz.underlying35 rfl (by kernel_rfl) _ _ _ _ _) (hK.out _ _ hHeld (fun hHeld2 => ?_))
    clear hK K hHeld
    have hHeld := hHeld2
    clear hHeld2
    try simp only [Act.put, List.setIfInBounds_toArray, List.set_cons_zero, List.set_cons_succ]
    refine only_ 4 rfl (by kernel_rfl) (by rfl) (fun K hK => ?_)
    go_simp
    with_reducible refine (KQ.out _).mono ?_
    rintro e Y1 ⟨rfl, hB⟩
    have T2 := Lib.hid (T1.out.under hB)
    go_simp
    refine hK.out _ _ T2.out.b (fun hHeld2 => ?_)
    clear hK K hHeld
    have hHeld := hHeld2
    clear hHeld2
    clear hB T1
    try simp only [Act.put, List.setIfInBounds_toArray, List.set_cons_zero, List.set_cons_succ]
    refine' take_ 5 rfl (by kernel_rfl) (by kernel_rfl) (by kernel_rfl) (fun _ _ _ h => h) (by rfl) (fun wS hSw => ?_) hHeld ?_
    rotate_left
    focus (go_simp; (try with_reducible rfl); done)
    try simp only [Act.put, List.setIfInBounds_toArray, List.set_cons_zero, List.set_cons_succ]
    refine only_ 6 rfl (by kernel_rfl) (by rfl) (fun K hK => ?_)
    refine wp_store_row rfl 35 _ _ rfl g 30 rfl (Iq.icc (Iq.requestI b.q (2 ^ n))) rfl (by kernel_rfl) (bc b) (bc { b with q := Iq.requestI b.q (2 ^ n) }) 37 T2.out.q (by rw [bc_length]; simp [Iq.icc]) (Iq.icc_one _) (bc_iq _) ?_
    have T3 := Lib.hid (T2.out.setG (d := { b with q := Iq.requestI b.q (2 ^ n) }) (VRow.set T2.out.q _) (fun k hk => setRow_other _ g k _ hk) (setRow_below (Below.refl _ _) (Nat.le_refl _) _))
    refine hK.out _ _ (T3.out.b) (fun hHeld2 => ?_)
    clear hK K hHeld T2
    generalize World.setRow _ _ _ = Y2 at *
    try simp only [Act.put]
    refine wpAnyH_done (by kernel_rfl) ?_ _
    refine NoPanic.normal ?_
    go_wp2_with (first
      | ((with_reducible show wpList _ _ _ (⟨none, .store 37 (.tmp 6) (.tmp 14), _, _, _, _⟩ :: _) _ _); refine wpList_store_b rfl 37 _ _ rfl ra (by exact rfl) (by exact rfl) (by kernel_rfl) 37 T3.out.z ?_; intro WZ HN HO HB
         have HZ := HN
         have BZ := Lib.hid (T3.out.b.trans (HB.out.mono T3.out.lr))
         clear HN HO HB)
      | ((with_reducible show wpList _ _ _ (⟨some 14, .load 37 (.tmp 3), _, _, _, _⟩ :: _) _ _); refine wpList_load_b (by rfl) 37 _ rfl g (by exact rfl) _ Tryz.underlying37 (by kernel_rfl) 37 T3.out.q ?_))
    exact bodyPost_ret (v := bv ({ b with q := Iq.requestI b.q (2 ^ n) })) (results_c Tryz.results29 _ _ _ _ _ rfl (run_loadVar_b WZ ra 37 _ Tryz.underlying37 (by kernel_rfl) 37 HZ.out)) rfl ⟨rfl, BZ.out⟩
set_option maxHeartbeats 1000000 in
theorem pinsB_any : PinsC 12 := by
  intro b lv w h hl
  have KK0 := fun W => Gp.gpio_ok.pins b.o b.i b.e lv W h.o h.i h.e hl
  obtain ⟨ask, hask⟩ : ∃ x, Gp.asksL b.e (Gp.riseK b.i lv 8) = x := ⟨_, rfl⟩
  rw [hask] at KK0
  have KK := Lib.hid KK0
  have hok : Bk.ok ({ b with i := lv }) := ⟨h.o, hl, h.e, h.u, h.t0, h.t1, h.q⟩
  have KQ : Hid (∀ W : World, Calls Tryz.prog 29 #[bv ({ b with i := lv }), .int .i64 0, .bool ask] W fun y w' => y = .returned (bv (askB ({ b with i := lv }) 1 ask)) ∧ Below W.heap.size W w') := Lib.hid (fun W => requested_any _ 0 ask W hok (by decide))
  rw [show pinsB b lv = askB ({ b with i := lv }) 1 ask from by rw [← hask]; rfl]
  clear KK0 hask hok
  unfold bv
  go_enter Tryz.func12, Tryz.ntmps12
  go_upto_region 1 with (fail)
  refine name_two (Q := fun X => Code.wp _ _ _ _ X) ?_
  intro W0 hq1 hq2 hB0
  have T0 : Hid (Tw w W0 w.heap.size (w.heap.size + 1) 37 b) := Lib.hid (Tw.new 37 hq1 hq2 hB0)
  clear hq1 hq2 hB0
  obtain ⟨g, hg⟩ : ∃ g, w.heap.size = g := ⟨_, rfl⟩
  obtain ⟨ra, hra⟩ : ∃ r, w.heap.size + 1 = r := ⟨_, rfl⟩
  rw [hra, hg] at T0 ⊢
  clear hra hg
  go_wp2_with (first
      | ((with_reducible show wpList _ _ _ (⟨none, .store 37 (.tmp 4) (.tmp 18), _, _, _, _⟩ :: _) _ _); refine wpList_store_b rfl 37 _ _ rfl ra (by exact rfl) (by exact rfl) (by kernel_rfl) 37 T4.out.z ?_; intro WZ HN HO HB
         have HZ := HN
         have BZ := Lib.hid (T4.out.b.trans (HB.out.mono T4.out.lr))
         clear HN HO HB)
      | (go_at_call 29; refine (KQ.out _).mono ?_; rintro e WT4 ⟨rfl, hB⟩
         have T4 := Lib.hid (T3.out.under hB)
         clear hB T3)
      | ((with_reducible show wpList _ _ _ (⟨some 16, .load 37 (.tmp 2), _, _, _, _⟩ :: _) _ _); refine wpList_load_b (by rfl) 37 _ rfl g (by exact rfl) _ Tryz.underlying37 (by kernel_rfl) 37 T3.out.q ?_)
      | ((with_reducible show wpList _ _ _ (⟨none, .store 24 (.tmp 15) (.tmp 14), _, _, _, _⟩ :: _) _ _); refine wpList_store_dev (d := { b with i := lv }) rfl 24 _ _ rfl g 0 (by exact rfl) (Gp.gc b.o lv b.e) (by exact rfl) (by kernel_rfl) (Gp.gc_one _ _ _) (by simp [Gp.gc]) (bc_gp _ _ _) 37 T2.out.q ?_; intro WT3 HN HO HB
         have T3 := Lib.hid (T2.out.setG HN.out HO.out HB.out)
         clear HN HO HB T2)
      | ((with_reducible show wpList _ _ _ (⟨some 14, .load 24 (.tmp 5), _, _, _, _⟩ :: _) _ _); refine wpList_load_v (by rfl) 24 _ rfl (WT1.heap.size) (by exact rfl) _ Tryz.underlying24 24 (Gp.gc b.o lv b.e) HD.out (by kernel_rfl) ?_)
      | ((with_reducible show wpList _ _ _ (⟨none, .store 24 (.tmp 5) (.tmp 12), _, _, _, _⟩ :: _) _ _); refine wpList_store_v rfl 24 _ _ rfl (WT1.heap.size) (by exact rfl) (Gp.gc b.o lv b.e) (by exact rfl) (by kernel_rfl) (Gp.gc_one _ _ _) 24 (Gp.gc 0 0 0) (alloc_at _ _) (rfl) ?_; intro WT2 HN HO HB
         have HD := HN
         have T2 := Lib.hid (T1.out.under (((Below.refl _ _).alloc (Nat.le_refl _) _).trans HB.out))
         clear HN HO HB T1)
      | (go_at_call 28; refine (KK.out _).mono ?_; rintro e WT1 ⟨rfl, hB⟩
         have T1 := Lib.hid (T0.out.under hB)
         clear hB T0)
      | ((with_reducible show wpList _ _ _ (⟨some 9, .load 24 (.tmp 8), _, _, _, _⟩ :: _) _ _); refine wpList_load_dev (by rfl) 24 _ rfl g 0 (by exact rfl) _ Tryz.underlying24 (Gp.gc (b).o (b).i (b).e) (by kernel_rfl) T0.out.q.gp (Gp.gv (b).o (b).i (b).e) rfl ?_))
  exact bodyPost_ret (v := bv (askB ({ b with i := lv }) 1 ask)) (results_c Tryz.results12 _ _ _ _ _ rfl (run_loadVar_b WZ ra 37 _ Tryz.underlying37 (by kernel_rfl) 37 HZ.out)) rfl ⟨rfl, BZ.out⟩
set_option maxHeartbeats 1000000 in
theorem arriveB_any : ArriveC 14 := by
  intro b x w h hx
  have KK0 := fun W => Ua.ru_arrive (l := b.l) Ua.uart_ok.arrive W h.u x hx
  obtain ⟨ask, hask⟩ : ∃ x, Ua.asksU b.R b.c = x := ⟨_, rfl⟩
  rw [hask] at KK0
  have KK := Lib.hid KK0
  have hok : Bk.ok ({ b with R := Ua.addL b.R x, l := Ua.arriveL b.R b.l }) := ⟨h.o, h.i, h.e, h.u.addI hx, h.t0, h.t1, h.q⟩
  have KQ : Hid (∀ W : World, Calls Tryz.prog 29 #[bv ({ b with R := Ua.addL b.R x, l := Ua.arriveL b.R b.l }), .int .i64 1, .bool ask] W fun y w' => y = .returned (bv (askB ({ b with R := Ua.addL b.R x, l := Ua.arriveL b.R b.l }) 2 ask)) ∧ Below W.heap.size W w') := Lib.hid (fun W => requested_any _ 1 ask W hok (by decide))
  rw [show arriveB b x = askB ({ b with R := Ua.addL b.R x, l := Ua.arriveL b.R b.l }) 2 ask from by rw [← hask]; rfl]
  clear KK0 hask hok
  unfold bv
  go_enter Tryz.func14, Tryz.ntmps14
  go_upto_region 1 with (fail)
  refine name_two (Q := fun X => Code.wp _ _ _ _ X) ?_
  intro W0 hq1 hq2 hB0
  have T0 : Hid (Tw w W0 w.heap.size (w.heap.size + 1) 37 b) := Lib.hid (Tw.new 37 hq1 hq2 hB0)
  clear hq1 hq2 hB0
  obtain ⟨g, hg⟩ : ∃ g, w.heap.size = g := ⟨_, rfl⟩
  obtain ⟨ra, hra⟩ : ∃ r, w.heap.size + 1 = r := ⟨_, rfl⟩
  rw [hra, hg] at T0 ⊢
  clear hra hg
  go_wp2_with (first
      | ((with_reducible show wpList _ _ _ (⟨none, .store 37 (.tmp 4) (.tmp 18), _, _, _, _⟩ :: _) _ _); refine wpList_store_b rfl 37 _ _ rfl ra (by exact rfl) (by exact rfl) (by kernel_rfl) 37 T4.out.z ?_; intro WZ HN HO HB
         have HZ := HN
         have BZ := Lib.hid (T4.out.b.trans (HB.out.mono T4.out.lr))
         clear HN HO HB)
      | (go_at_call 29; refine (KQ.out _).mono ?_; rintro e WT4 ⟨rfl, hB⟩
         have T4 := Lib.hid (T3.out.under hB)
         clear hB T3)
      | ((with_reducible show wpList _ _ _ (⟨some 16, .load 37 (.tmp 2), _, _, _, _⟩ :: _) _ _); refine wpList_load_b (by rfl) 37 _ rfl g (by exact rfl) _ Tryz.underlying37 (by kernel_rfl) 37 T3.out.q ?_)
      | ((with_reducible show wpList _ _ _ (⟨none, .store 29 (.tmp 15) (.tmp 14), _, _, _, _⟩ :: _) _ _); refine wpList_store_dev (d := { b with R := Ua.addL b.R x, l := Ua.arriveL b.R b.l }) rfl 29 _ _ rfl g 3 (by exact rfl) (ucs { b with R := Ua.addL b.R x, l := Ua.arriveL b.R b.l }) (by exact rfl) (by rw [ucs_length]; kernel_rfl) (Ua.uc_one _ _ _ _ _ _ _) (by rw [ucs_length]; decide) (bc_ua _ _ _ _ _) 37 T2.out.q ?_; intro WT3 HN HO HB
         have T3 := Lib.hid (T2.out.setG HN.out HO.out HB.out)
         clear HN HO HB T2)
      | ((with_reducible show wpList _ _ _ (⟨some 14, .load 29 (.tmp 5), _, _, _, _⟩ :: _) _ _); refine wpList_load_v (by rfl) 29 _ rfl (WT1.heap.size) (by exact rfl) _ Tryz.underlying29 29 (ucs { b with R := Ua.addL b.R x, l := Ua.arriveL b.R b.l }) HD.out (by rw [ucs_length]; kernel_rfl) ?_)
      | ((with_reducible show wpList _ _ _ (⟨none, .store 29 (.tmp 5) (.tmp 12), _, _, _, _⟩ :: _) _ _); refine wpList_store_v rfl 29 _ _ rfl (WT1.heap.size) (by exact rfl) (ucs { b with R := Ua.addL b.R x, l := Ua.arriveL b.R b.l }) (by exact rfl) (by rw [ucs_length]; kernel_rfl) (Ua.uc_one _ _ _ _ _ _ _) 29 (ucs bare) (alloc_at _ _) (by rw [ucs_length, ucs_length]) ?_; intro WT2 HN HO HB
         have HD := HN
         have T2 := Lib.hid (T1.out.under (((Below.refl _ _).alloc (Nat.le_refl _) _).trans HB.out))
         clear HN HO HB T1)
      | (go_at_call 32; refine (KK.out _).mono ?_; rintro e WT1 ⟨rfl, hB⟩
         have T1 := Lib.hid (T0.out.under hB)
         clear hB T0)
      | ((with_reducible show wpList _ _ _ (⟨some 9, .load 29 (.tmp 8), _, _, _, _⟩ :: _) _ _); refine wpList_load_dev (by rfl) 29 _ rfl g 3 (by exact rfl) _ Tryz.underlying29 (ucs (b)) (by rw [ucs_length]; kernel_rfl) T0.out.q.ua (Ua.ur (b).R (b).T (b).l (b).c (b).k) rfl ?_))
  exact bodyPost_ret (v := bv (askB ({ b with R := Ua.addL b.R x, l := Ua.arriveL b.R b.l }) 2 ask)) (results_c Tryz.results14 _ _ _ _ _ rfl (run_loadVar_b WZ ra 37 _ Tryz.underlying37 (by kernel_rfl) 37 HZ.out)) rfl ⟨rfl, BZ.out⟩
end Go.Proofs.YtkodoldkfeopdaaGreat
