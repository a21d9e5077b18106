/-
  The program's Tick by its contract. Made by wip/genbankok.py.
-/
import Derived.Test.YtkodoldkfeopdaaGreatOkReq
import Derived.Deep.LoopGhost
namespace Go.Proofs.YtkodoldkfeopdaaGreat
open Go.RowKit
set_option linter.unusedVariables false
set_option maxRecDepth 100000
set_option maxHeartbeats 4000000 in
theorem tickB_any : TickC 16 := by
  intro b w h
  have I0 := Lib.hid (fun g W => pidx0 g W)
  have I1 := Lib.hid (fun g W => pidx1 g W)
  have HB := Lib.hid h
  unfold bv
  go_enter Tryz.func16, Tryz.ntmps16
  go_upto_region 1 with (fail)
  refine name_two (Q := fun X => Code.wp _ _ _ _ X) ?_
  intro W0 hq1 hq2 hB0
  have T0 : Hid (Tw w W0 w.heap.size (w.heap.size + 1) 37 b) := Lib.hid (Tw.new 37 hq1 hq2 hB0)
  clear hq1 hq2 hB0
  obtain ⟨g, hg⟩ : ∃ g, w.heap.size = g := ⟨_, rfl⟩
  obtain ⟨ra, hra⟩ : ∃ r, w.heap.size + 1 = r := ⟨_, rfl⟩
  rw [hra, hg] at T0 ⊢
  clear hra hg
  have hlg : w.heap.size ≤ ra := T0.out.lr
  go_upto_region 3 with (first
      | ((with_reducible show wpList _ _ _ (⟨none, .store 37 (.tmp 2) (.tmp 11), _, _, _, _⟩ :: _) _ _); refine wpList_store_b rfl 37 _ _ rfl ra (by exact rfl) (by exact rfl) (by kernel_rfl) 37 T0.out.z ?_; intro WA HN HO HB
         have A0 : Hid (Of w WA ra 37 b) := Lib.hid ⟨HN.out, T0.out.b.trans (HB.out.mono T0.out.lr), hlg⟩
         clear HN HO HB T0)
      | ((with_reducible show wpList _ _ _ (⟨some 11, .load 37 (.tmp 1), _, _, _, _⟩ :: _) _ _); refine wpList_load_b (by rfl) 37 _ rfl g (by exact rfl) _ Tryz.underlying37 (by kernel_rfl) 37 T0.out.q ?_))
  go_loopw [13] (fun iv wx => ∃ k : Nat, k ≤ 2 ∧ iv = .int .i64 (k : Int) ∧ Of w wx ra 37 (tkN b k)) (fun iv _ => 2 - (intOf iv).toNat)
  case atStart => exact ⟨0, by omega, rfl, A0.out⟩
  case round =>
    clear A0
    obtain ⟨k, hk, rfl, q1⟩ := hrel
    have T0 := Lib.hid q1
    clear q1
    obtain ⟨u, hu⟩ : ∃ W, wr = W := ⟨_, rfl⟩
    rw [hu] at T0 ⊢
    clear hu
    have hcs : k = 0 ∨ k = 1 ∨ k = 2 := by omega
    rcases hcs with rfl | rfl | rfl
    · skip
      have hok : Bk.ok (b) := HB.out
      replace T0 : Hid (Of w u ra 37 (b)) := T0
      have KK0 := fun W => Ti.timer_ok.tick (b).t0 W hok.t0
      obtain ⟨ask, hask⟩ : ∃ x, Ti.asksT (b).t0 = x := ⟨_, rfl⟩
      rw [hask] at KK0
      have KK := Lib.hid KK0
      have hok2 : Bk.ok ({ b with t0 := Ti.tickT (b).t0 }) := ⟨hok.o, hok.i, hok.e, hok.u, Ti.tickT_ok hok.t0, hok.t1, hok.q⟩
      have KQ : Hid (∀ W : World, Calls Tryz.prog 29 #[bv ({ b with t0 := Ti.tickT (b).t0 }), .int .i64 3, .bool ask] W fun y w' => y = .returned (bv (askB ({ b with t0 := Ti.tickT (b).t0 }) 8 ask)) ∧ Below W.heap.size W w') := Lib.hid (fun W => requested_any _ 3 ask W hok2 (by decide))
      have HE : Hid (askB ({ b with t0 := Ti.tickT (b).t0 }) 8 ask = tick0 b) := Lib.hid (by rw [← hask]; rfl)
      clear KK0 hask hok hok2
      have i0 := I0.out ra
      have i2 : ∀ w : World, (Instr.index 95 (.agg #[.int .i64 3, .int .i64 4]) (.int .i64 0)).run Tryz.prog w = .ok (.int .i64 3) w := fun w => by kernel_rfl
      have i3 : ∀ w : World, (Instr.index 95 (.agg #[.int .i64 3, .int .i64 4]) (.int .i64 ((0 : Nat) : Int))).run Tryz.prog w = .ok (.int .i64 3) w := fun w => by kernel_rfl
      have i1 := I1.out ra
      go_wp2_with (first
      | ((with_reducible show wpList _ _ _ (⟨none, .store 37 (.tmp 2) (.tmp 32), _, _, _, _⟩ :: _) _ _); refine wpList_store_b (d := askB ({ b with t0 := Ti.tickT (b).t0 }) 8 ask) rfl 37 _ _ rfl ra (by exact rfl) (by exact rfl) (by kernel_rfl) 37 T4.out.q ?_; intro WT5 HN HO HB
         have T5 := Lib.hid (T4.out.setG HN.out HO.out HB.out)
         clear HN HO HB T4)
      | (go_at_call 29; refine (KQ.out _).mono ?_; rintro e WT4 ⟨rfl, hB⟩
         have T4 := Lib.hid (T3.out.under hB)
         clear hB T3)
      | ((with_reducible show wpList _ _ _ (⟨some 29, .load 37 (.tmp 2), _, _, _, _⟩ :: _) _ _); refine wpList_load_b (by rfl) 37 _ rfl ra (by exact rfl) _ Tryz.underlying37 (by kernel_rfl) 37 T3.out.q ?_)
      | ((with_reducible show wpList _ _ _ (⟨none, .store 32 (.tmp 28) (.tmp 26), _, _, _, _⟩ :: _) _ _); refine wpList_store_dev (d := { b with t0 := Ti.tickT (b).t0 }) rfl 32 _ _ rfl ra 24 (by exact rfl) (Ti.tc (Ti.tickT (b).t0)) (by exact rfl) (by kernel_rfl) (Ti.tc_one _) (by simp [Ti.tc]) (bc_ta _) 37 T2.out.q ?_; intro WT3 HN HO HB
         have T3 := Lib.hid (T2.out.setG HN.out HO.out HB.out)
         clear HN HO HB T2)
      | ((with_reducible show wpList _ _ _ (⟨some 26, .load 32 (.tmp 7), _, _, _, _⟩ :: _) _ _); refine wpList_load_v (by rfl) 32 _ rfl (WT1.heap.size) (by exact rfl) _ Tryz.underlying32 32 (Ti.tc (Ti.tickT (b).t0)) HD.out (by kernel_rfl) ?_)
      | ((with_reducible show wpList _ _ _ (⟨none, .store 32 (.tmp 7) (.tmp 23), _, _, _, _⟩ :: _) _ _); refine wpList_store_v rfl 32 _ _ rfl (WT1.heap.size) (by exact rfl) (Ti.tc (Ti.tickT (b).t0)) (by exact rfl) (by kernel_rfl) (Ti.tc_one _) 32 (Ti.tc ⟨0, 0, 0⟩) (alloc_at _ _) (rfl) ?_; intro WT2 HN HO HB
         have HD := HN
         have T2 := Lib.hid (T1.out.under (((Below.refl _ _).alloc (Nat.le_refl _) _).trans HB.out))
         clear HN HO HB T1)
      | (go_at_call 34; refine (KK.out _).mono ?_; rintro e WT1 ⟨rfl, hB⟩
         have T1 := Lib.hid (T0.out.under hB)
         clear hB T0)
      | ((with_reducible show wpList _ _ _ (⟨some 21, .load 32 (.tmp 20), _, _, _, _⟩ :: _) _ _); refine wpList_load_dev (by rfl) 32 _ rfl ra 24 (by exact rfl) _ Tryz.underlying32 (Ti.tc (b).t0) (by kernel_rfl) T0.out.q.ta (Ti.tv (b).t0) rfl ?_))
      go_roundw
      case rel => exact ⟨1, by omega, by first | rfl | go_num, by have h1 := T5.out; rw [HE.out] at h1; exact h1⟩
      case measure =>
        simp [intOf]
    · skip
      have hok : Bk.ok (tick0 b) := tick0_ok HB.out
      replace T0 : Hid (Of w u ra 37 (tick0 b)) := T0
      have KK0 := fun W => Ti.timer_ok.tick (tick0 b).t1 W hok.t1
      obtain ⟨ask, hask⟩ : ∃ x, Ti.asksT (tick0 b).t1 = x := ⟨_, rfl⟩
      rw [hask] at KK0
      have KK := Lib.hid KK0
      have hok2 : Bk.ok ({ tick0 b with t1 := Ti.tickT (tick0 b).t1 }) := ⟨hok.o, hok.i, hok.e, hok.u, hok.t0, Ti.tickT_ok hok.t1, hok.q⟩
      have KQ : Hid (∀ W : World, Calls Tryz.prog 29 #[bv ({ tick0 b with t1 := Ti.tickT (tick0 b).t1 }), .int .i64 4, .bool ask] W fun y w' => y = .returned (bv (askB ({ tick0 b with t1 := Ti.tickT (tick0 b).t1 }) 16 ask)) ∧ Below W.heap.size W w') := Lib.hid (fun W => requested_any _ 4 ask W hok2 (by decide))
      have HE : Hid (askB ({ tick0 b with t1 := Ti.tickT (tick0 b).t1 }) 16 ask = tick1 (tick0 b)) := Lib.hid (by rw [← hask]; rfl)
      clear KK0 hask hok hok2
      have i0 := I0.out ra
      have i2 : ∀ w : World, (Instr.index 95 (.agg #[.int .i64 3, .int .i64 4]) (.int .i64 1)).run Tryz.prog w = .ok (.int .i64 4) w := fun w => by kernel_rfl
      have i3 : ∀ w : World, (Instr.index 95 (.agg #[.int .i64 3, .int .i64 4]) (.int .i64 ((1 : Nat) : Int))).run Tryz.prog w = .ok (.int .i64 4) w := fun w => by kernel_rfl
      have i1 := I1.out ra
      go_wp2_with (first
      | ((with_reducible show wpList _ _ _ (⟨none, .store 37 (.tmp 2) (.tmp 32), _, _, _, _⟩ :: _) _ _); refine wpList_store_b (d := askB ({ tick0 b with t1 := Ti.tickT (tick0 b).t1 }) 16 ask) rfl 37 _ _ rfl ra (by exact rfl) (by exact rfl) (by kernel_rfl) 37 T4.out.q ?_; intro WT5 HN HO HB
         have T5 := Lib.hid (T4.out.setG HN.out HO.out HB.out)
         clear HN HO HB T4)
      | (go_at_call 29; refine (KQ.out _).mono ?_; rintro e WT4 ⟨rfl, hB⟩
         have T4 := Lib.hid (T3.out.under hB)
         clear hB T3)
      | ((with_reducible show wpList _ _ _ (⟨some 29, .load 37 (.tmp 2), _, _, _, _⟩ :: _) _ _); refine wpList_load_b (by rfl) 37 _ rfl ra (by exact rfl) _ Tryz.underlying37 (by kernel_rfl) 37 T3.out.q ?_)
      | ((with_reducible show wpList _ _ _ (⟨none, .store 32 (.tmp 28) (.tmp 26), _, _, _, _⟩ :: _) _ _); refine wpList_store_dev (d := { tick0 b with t1 := Ti.tickT (tick0 b).t1 }) rfl 32 _ _ rfl ra 27 (by exact rfl) (Ti.tc (Ti.tickT (tick0 b).t1)) (by exact rfl) (by kernel_rfl) (Ti.tc_one _) (by simp [Ti.tc]) (bc_tb _) 37 T2.out.q ?_; intro WT3 HN HO HB
         have T3 := Lib.hid (T2.out.setG HN.out HO.out HB.out)
         clear HN HO HB T2)
      | ((with_reducible show wpList _ _ _ (⟨some 26, .load 32 (.tmp 7), _, _, _, _⟩ :: _) _ _); refine wpList_load_v (by rfl) 32 _ rfl (WT1.heap.size) (by exact rfl) _ Tryz.underlying32 32 (Ti.tc (Ti.tickT (tick0 b).t1)) HD.out (by kernel_rfl) ?_)
      | ((with_reducible show wpList _ _ _ (⟨none, .store 32 (.tmp 7) (.tmp 23), _, _, _, _⟩ :: _) _ _); refine wpList_store_v rfl 32 _ _ rfl (WT1.heap.size) (by exact rfl) (Ti.tc (Ti.tickT (tick0 b).t1)) (by exact rfl) (by kernel_rfl) (Ti.tc_one _) 32 (Ti.tc ⟨0, 0, 0⟩) (alloc_at _ _) (rfl) ?_; intro WT2 HN HO HB
         have HD := HN
         have T2 := Lib.hid (T1.out.under (((Below.refl _ _).alloc (Nat.le_refl _) _).trans HB.out))
         clear HN HO HB T1)
      | (go_at_call 34; refine (KK.out _).mono ?_; rintro e WT1 ⟨rfl, hB⟩
         have T1 := Lib.hid (T0.out.under hB)
         clear hB T0)
      | ((with_reducible show wpList _ _ _ (⟨some 21, .load 32 (.tmp 20), _, _, _, _⟩ :: _) _ _); refine wpList_load_dev (by rfl) 32 _ rfl ra 27 (by exact rfl) _ Tryz.underlying32 (Ti.tc (tick0 b).t1) (by kernel_rfl) T0.out.q.tb (Ti.tv (tick0 b).t1) rfl ?_))
      go_roundw
      case rel => exact ⟨2, by omega, by first | rfl | go_num, by have h1 := T5.out; rw [HE.out] at h1; exact h1⟩
      case measure =>
        simp [intOf]
    · have hok : Bk.ok (tick1 (tick0 b)) := tick1_ok (tick0_ok HB.out)
      have hTk := tick01_T b
      replace T0 : Hid (Of w u ra 37 (tick1 (tick0 b))) := T0
      obtain ⟨c, hc⟩ : ∃ c, tick1 (tick0 b) = c := ⟨_, rfl⟩
      rw [hc] at hok hTk T0
      have KK0 := fun W => Ua.ru_tick (l := c.l) Ua.uart_ok.tick W hok.u
      obtain ⟨ask, hask⟩ : ∃ x, Ua.tickQ c.T c.c c.k = x := ⟨_, rfl⟩
      rw [hask] at KK0
      obtain ⟨sn, hsn⟩ : ∃ x, Ua.tickB c.T c.k = x := ⟨_, rfl⟩
      obtain ⟨isn, his⟩ : ∃ x, Ua.sendsU c.T c.k = x := ⟨_, rfl⟩
      rw [hsn, his] at KK0
      have KK := Lib.hid KK0
      have hok2 : Bk.ok ({ c with T := Ua.tickT c.T c.k, k := Ua.tickK c.T c.k }) := ⟨hok.o, hok.i, hok.e, hok.u.tick, hok.t0, hok.t1, hok.q⟩
      have KQ : Hid (∀ W : World, Calls Tryz.prog 29 #[bv ({ c with T := Ua.tickT c.T c.k, k := Ua.tickK c.T c.k }), .int .i64 2, .bool ask] W fun y w' => y = .returned (bv (askB ({ c with T := Ua.tickT c.T c.k, k := Ua.tickK c.T c.k }) 4 ask)) ∧ Below W.heap.size W w') := Lib.hid (fun W => requested_any _ 2 ask W hok2 (by decide))
      have HE : Hid (tickB b = askB ({ c with T := Ua.tickT c.T c.k, k := Ua.tickK c.T c.k }) 4 ask ∧ Ua.tickB b.T b.k = sn ∧ Ua.sendsU b.T b.k = isn) := Lib.hid (by rw [← hask, ← hsn, ← his, hTk.1, hTk.2]; exact ⟨by rw [tickB, hc]; unfold tick2; rw [hTk.1, hTk.2], rfl, rfl⟩)
      clear KK0 hask hsn his hc hok hok2 hTk
      go_wp2_with (first
      | ((with_reducible show wpList _ _ _ (⟨none, .store 37 (.tmp 2) (.tmp 46), _, _, _, _⟩ :: _) _ _); refine wpList_store_b rfl 37 _ _ rfl ra (by exact rfl) (by exact rfl) (by kernel_rfl) 37 T4.out.q ?_; intro WZ HN HO HB
         have HZ := HN
         have BZ := Lib.hid (T4.out.b.trans (HB.out.mono T4.out.lg))
         clear HN HO HB)
      | (go_at_call 29; refine (KQ.out _).mono ?_; rintro e WT4 ⟨rfl, hB⟩
         have T4 := Lib.hid (T3.out.under hB)
         clear hB T3)
      | ((with_reducible show wpList _ _ _ (⟨some 44, .load 37 (.tmp 2), _, _, _, _⟩ :: _) _ _); refine wpList_load_b (by rfl) 37 _ rfl ra (by exact rfl) _ Tryz.underlying37 (by kernel_rfl) 37 T3.out.q ?_)
      | ((with_reducible show wpList _ _ _ (⟨none, .store 29 (.tmp 43) (.tmp 42), _, _, _, _⟩ :: _) _ _); refine wpList_store_dev (d := { c with T := Ua.tickT c.T c.k, k := Ua.tickK c.T c.k }) rfl 29 _ _ rfl ra 3 (by exact rfl) (ucs { c with T := Ua.tickT c.T c.k, k := Ua.tickK c.T c.k }) (by exact rfl) (by rw [ucs_length]; kernel_rfl) (Ua.uc_one _ _ _ _ _ _ _) (by rw [ucs_length]; decide) (bc_ua _ _ _ _ _) 37 T2.out.q ?_; intro WT3 HN HO HB
         have T3 := Lib.hid (T2.out.setG HN.out HO.out HB.out)
         clear HN HO HB T2)
      | ((with_reducible show wpList _ _ _ (⟨some 42, .load 29 (.tmp 9), _, _, _, _⟩ :: _) _ _); refine wpList_load_v (by rfl) 29 _ rfl (WT1.heap.size) (by exact rfl) _ Tryz.underlying29 29 (ucs { c with T := Ua.tickT c.T c.k, k := Ua.tickK c.T c.k }) HD.out (by rw [ucs_length]; kernel_rfl) ?_)
      | ((with_reducible show wpList _ _ _ (⟨none, .store 29 (.tmp 9) (.tmp 38), _, _, _, _⟩ :: _) _ _); refine wpList_store_v rfl 29 _ _ rfl (WT1.heap.size) (by exact rfl) (ucs { c with T := Ua.tickT c.T c.k, k := Ua.tickK c.T c.k }) (by exact rfl) (by rw [ucs_length]; kernel_rfl) (Ua.uc_one _ _ _ _ _ _ _) 29 (ucs bare) (alloc_at _ _) (by rw [ucs_length, ucs_length]) ?_; intro WT2 HN HO HB
         have HD := HN
         have T2 := Lib.hid (T1.out.under (((Below.refl _ _).alloc (Nat.le_refl _) _).trans HB.out))
         clear HN HO HB T1)
      | (go_at_call 35; refine (KK.out _).mono ?_; rintro e WT1 ⟨rfl, hB⟩
         have T1 := Lib.hid (T0.out.under hB)
         clear hB T0)
      | ((with_reducible show wpList _ _ _ (⟨some 36, .load 29 (.tmp 35), _, _, _, _⟩ :: _) _ _); refine wpList_load_dev (by rfl) 29 _ rfl ra 3 (by exact rfl) _ Tryz.underlying29 (ucs (c)) (by rw [ucs_length]; kernel_rfl) T0.out.q.ua (Ua.ur (c).R (c).T (c).l (c).c (c).k) rfl ?_))
      exact bodyPost_ret (v := .tuple #[bv (askB ({ c with T := Ua.tickT c.T c.k, k := Ua.tickK c.T c.k }) 4 ask), .int .u8 (sn : Nat), .bool isn]) (results_ctt Tryz.results16 _ _ _ _ _ _ _ rfl (run_loadVar_b WZ ra 37 _ Tryz.underlying37 (by kernel_rfl) 37 HZ.out) rfl rfl) rfl ⟨by rw [HE.out.1, HE.out.2.1, HE.out.2.2]; rfl, BZ.out⟩
end Go.Proofs.YtkodoldkfeopdaaGreat
