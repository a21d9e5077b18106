/-
  The program's Write by its contract. Made by wip/genbankok.py.
-/
import Derived.Test.YtkodoldkfeopdaaGreatOkPeek
namespace Go.Proofs.YtkodoldkfeopdaaGreat
open Go.RowKit
set_option linter.unusedVariables false
set_option maxRecDepth 100000
set_option maxHeartbeats 1000000 in
theorem writeB_any : WriteC 7 := by
  intro b r v w h h0 h1 h2 h3
  rcases kinds_of r with ⟨d0, d1⟩ | ⟨d0, d1⟩ | ⟨d0, d1⟩ | ⟨d0, d1⟩ | ⟨d0, d1⟩ | d0
  · rw [show writeB b r v = { b with o := Gp.outN b.o r v, e := Gp.edgeN b.e r v } from if_pos (by omega)]
    unfold bv
    go_enter Tryz.func7, Tryz.ntmps7
    go_upto_region 1 with (fail)
    refine name_two (Q := fun X => Code.wp _ _ _ _ X) ?_
    intro W0 hq1 hq2 hB0
    have T0 : Hid (Tw w W0 w.heap.size (w.heap.size + 1) 37 b) := Lib.hid (Tw.new 37 hq1 hq2 hB0)
    clear hq1 hq2 hB0
    obtain ⟨g, hg⟩ : ∃ g, w.heap.size = g := ⟨_, rfl⟩
    obtain ⟨ra, hra⟩ : ∃ r, w.heap.size + 1 = r := ⟨_, rfl⟩
    rw [hra, hg] at T0 ⊢
    clear hra hg
    have KO := Lib.hid (fun W => owner_pinsOf r d0 d1 g W)
    go_wp2_with (first
      | (go_at_call 21; refine (KO.out _).mono ?_; rintro e W1 ⟨c, rfl, hC, hB⟩
         have T1 := Lib.hid (T0.out.under hB)
         have C1 := Lib.hid hC
         clear hB hC T0)
      | (go_at_call 106; refine (write_pins b r v _ g 37 _ rfl h h0 h1 h2 h3 T1.out.q).mono ?_; rintro e W2 ⟨rfl, hW⟩
         have T2 := Lib.hid (T1.out.wrt hW)
         clear hW T1)
      | ((with_reducible show wpList _ _ _ (⟨none, .store 37 (.tmp 6) (.tmp 16), _, _, _, _⟩ :: _) _ _); refine wpList_store_b rfl 37 _ _ rfl ra (by exact rfl) (by exact rfl) (by kernel_rfl) 37 T2.out.z ?_; intro WZ HN HO HB
         have HZ := HN
         have BZ := Lib.hid (T2.out.b.trans (HB.out.mono T2.out.lr))
         clear HN HO HB)
      | ((with_reducible show wpList _ _ _ (⟨some 16, .load 37 (.tmp 3), _, _, _, _⟩ :: _) _ _); refine wpList_load_b (by rfl) 37 _ rfl g (by exact rfl) _ Tryz.underlying37 (by kernel_rfl) 37 T2.out.q ?_))
    exact bodyPost_ret (v := bv ({ b with o := Gp.outN b.o r v, e := Gp.edgeN b.e r v })) (results_c Tryz.results7 _ _ _ _ _ rfl (run_loadVar_b WZ ra 37 _ Tryz.underlying37 (by kernel_rfl) 37 HZ.out)) rfl ⟨rfl, BZ.out⟩
  · rw [show writeB b r v = { b with T := Ua.writeT b.T r v, c := Ua.writeC b.c r v } from (if_neg (by omega)).trans (if_pos (by omega))]
    unfold bv
    go_enter Tryz.func7, Tryz.ntmps7
    go_upto_region 1 with (fail)
    refine name_two (Q := fun X => Code.wp _ _ _ _ X) ?_
    intro W0 hq1 hq2 hB0
    have T0 : Hid (Tw w W0 w.heap.size (w.heap.size + 1) 37 b) := Lib.hid (Tw.new 37 hq1 hq2 hB0)
    clear hq1 hq2 hB0
    obtain ⟨g, hg⟩ : ∃ g, w.heap.size = g := ⟨_, rfl⟩
    obtain ⟨ra, hra⟩ : ∃ r, w.heap.size + 1 = r := ⟨_, rfl⟩
    rw [hra, hg] at T0 ⊢
    clear hra hg
    have KO := Lib.hid (fun W => owner_serialOf r d0 d1 g W)
    go_wp2_with (first
      | (go_at_call 21; refine (KO.out _).mono ?_; rintro e W1 ⟨c, rfl, hC, hB⟩
         have T1 := Lib.hid (T0.out.under hB)
         have C1 := Lib.hid hC
         clear hB hC T0)
      | (go_at_call 112; refine (write_serial b r v _ g 37 _ rfl h h0 h1 h2 h3 T1.out.q).mono ?_; rintro e W2 ⟨rfl, hW⟩
         have T2 := Lib.hid (T1.out.wrt hW)
         clear hW T1)
      | ((with_reducible show wpList _ _ _ (⟨none, .store 37 (.tmp 6) (.tmp 16), _, _, _, _⟩ :: _) _ _); refine wpList_store_b rfl 37 _ _ rfl ra (by exact rfl) (by exact rfl) (by kernel_rfl) 37 T2.out.z ?_; intro WZ HN HO HB
         have HZ := HN
         have BZ := Lib.hid (T2.out.b.trans (HB.out.mono T2.out.lr))
         clear HN HO HB)
      | ((with_reducible show wpList _ _ _ (⟨some 16, .load 37 (.tmp 3), _, _, _, _⟩ :: _) _ _); refine wpList_load_b (by rfl) 37 _ rfl g (by exact rfl) _ Tryz.underlying37 (by kernel_rfl) 37 T2.out.q ?_))
    exact bodyPost_ret (v := bv ({ b with T := Ua.writeT b.T r v, c := Ua.writeC b.c r v })) (results_c Tryz.results7 _ _ _ _ _ rfl (run_loadVar_b WZ ra 37 _ Tryz.underlying37 (by kernel_rfl) 37 HZ.out)) rfl ⟨rfl, BZ.out⟩
  · rw [show writeB b r v = { b with t0 := Ti.writeT b.t0 (r - 6) v } from (if_neg (by omega)).trans ((if_neg (by omega)).trans (if_pos (by omega)))]
    unfold bv
    go_enter Tryz.func7, Tryz.ntmps7
    go_upto_region 1 with (fail)
    refine name_two (Q := fun X => Code.wp _ _ _ _ X) ?_
    intro W0 hq1 hq2 hB0
    have T0 : Hid (Tw w W0 w.heap.size (w.heap.size + 1) 37 b) := Lib.hid (Tw.new 37 hq1 hq2 hB0)
    clear hq1 hq2 hB0
    obtain ⟨g, hg⟩ : ∃ g, w.heap.size = g := ⟨_, rfl⟩
    obtain ⟨ra, hra⟩ : ∃ r, w.heap.size + 1 = r := ⟨_, rfl⟩
    rw [hra, hg] at T0 ⊢
    clear hra hg
    have KO := Lib.hid (fun W => owner_firstOf r d0 d1 g W)
    go_wp2_with (first
      | (go_at_call 21; refine (KO.out _).mono ?_; rintro e W1 ⟨c, d, rfl, hC, hD, hB⟩
         have T1 := Lib.hid (T0.out.under hB)
         have C1 := Lib.hid hC
         have D1 := Lib.hid hD
         clear hB hC T0 hD)
      | (go_at_call 119; refine (write_counter0 b r v _ g 37 _ rfl 6 (r - 6) (wrap_sub r 6 (by omega) (by omega)) h (by omega) (by omega) h2 h3 T1.out.q).mono ?_; rintro e W2 ⟨rfl, hW⟩
         have T2 := Lib.hid (T1.out.wrt hW)
         clear hW T1)
      | ((with_reducible show wpList _ _ _ (⟨none, .store 37 (.tmp 6) (.tmp 16), _, _, _, _⟩ :: _) _ _); refine wpList_store_b rfl 37 _ _ rfl ra (by exact rfl) (by exact rfl) (by kernel_rfl) 37 T2.out.z ?_; intro WZ HN HO HB
         have HZ := HN
         have BZ := Lib.hid (T2.out.b.trans (HB.out.mono T2.out.lr))
         clear HN HO HB)
      | ((with_reducible show wpList _ _ _ (⟨some 16, .load 37 (.tmp 3), _, _, _, _⟩ :: _) _ _); refine wpList_load_b (by rfl) 37 _ rfl g (by exact rfl) _ Tryz.underlying37 (by kernel_rfl) 37 T2.out.q ?_))
    exact bodyPost_ret (v := bv ({ b with t0 := Ti.writeT b.t0 (r - 6) v })) (results_c Tryz.results7 _ _ _ _ _ rfl (run_loadVar_b WZ ra 37 _ Tryz.underlying37 (by kernel_rfl) 37 HZ.out)) rfl ⟨rfl, BZ.out⟩
  · rw [show writeB b r v = { b with t1 := Ti.writeT b.t1 (r - 9) v } from (if_neg (by omega)).trans ((if_neg (by omega)).trans ((if_neg (by omega)).trans (if_pos (by omega))))]
    unfold bv
    go_enter Tryz.func7, Tryz.ntmps7
    go_upto_region 1 with (fail)
    refine name_two (Q := fun X => Code.wp _ _ _ _ X) ?_
    intro W0 hq1 hq2 hB0
    have T0 : Hid (Tw w W0 w.heap.size (w.heap.size + 1) 37 b) := Lib.hid (Tw.new 37 hq1 hq2 hB0)
    clear hq1 hq2 hB0
    obtain ⟨g, hg⟩ : ∃ g, w.heap.size = g := ⟨_, rfl⟩
    obtain ⟨ra, hra⟩ : ∃ r, w.heap.size + 1 = r := ⟨_, rfl⟩
    rw [hra, hg] at T0 ⊢
    clear hra hg
    have KO := Lib.hid (fun W => owner_secondOf r d0 d1 g W)
    go_wp2_with (first
      | (go_at_call 21; refine (KO.out _).mono ?_; rintro e W1 ⟨c, d, rfl, hC, hD, hB⟩
         have T1 := Lib.hid (T0.out.under hB)
         have C1 := Lib.hid hC
         have D1 := Lib.hid hD
         clear hB hC T0 hD)
      | (go_at_call 119; refine (write_counter1 b r v _ g 37 _ rfl 9 (r - 9) (wrap_sub r 9 (by omega) (by omega)) h (by omega) (by omega) h2 h3 T1.out.q).mono ?_; rintro e W2 ⟨rfl, hW⟩
         have T2 := Lib.hid (T1.out.wrt hW)
         clear hW T1)
      | ((with_reducible show wpList _ _ _ (⟨none, .store 37 (.tmp 6) (.tmp 16), _, _, _, _⟩ :: _) _ _); refine wpList_store_b rfl 37 _ _ rfl ra (by exact rfl) (by exact rfl) (by kernel_rfl) 37 T2.out.z ?_; intro WZ HN HO HB
         have HZ := HN
         have BZ := Lib.hid (T2.out.b.trans (HB.out.mono T2.out.lr))
         clear HN HO HB)
      | ((with_reducible show wpList _ _ _ (⟨some 16, .load 37 (.tmp 3), _, _, _, _⟩ :: _) _ _); refine wpList_load_b (by rfl) 37 _ rfl g (by exact rfl) _ Tryz.underlying37 (by kernel_rfl) 37 T2.out.q ?_))
    exact bodyPost_ret (v := bv ({ b with t1 := Ti.writeT b.t1 (r - 9) v })) (results_c Tryz.results7 _ _ _ _ _ rfl (run_loadVar_b WZ ra 37 _ Tryz.underlying37 (by kernel_rfl) 37 HZ.out)) rfl ⟨rfl, BZ.out⟩
  · rw [show writeB b r v = { b with q := Iq.writeI b.q r v } from (if_neg (by omega)).trans ((if_neg (by omega)).trans ((if_neg (by omega)).trans ((if_neg (by omega)).trans (if_pos (by omega)))))]
    unfold bv
    go_enter Tryz.func7, Tryz.ntmps7
    go_upto_region 1 with (fail)
    refine name_two (Q := fun X => Code.wp _ _ _ _ X) ?_
    intro W0 hq1 hq2 hB0
    have T0 : Hid (Tw w W0 w.heap.size (w.heap.size + 1) 37 b) := Lib.hid (Tw.new 37 hq1 hq2 hB0)
    clear hq1 hq2 hB0
    obtain ⟨g, hg⟩ : ∃ g, w.heap.size = g := ⟨_, rfl⟩
    obtain ⟨ra, hra⟩ : ∃ r, w.heap.size + 1 = r := ⟨_, rfl⟩
    rw [hra, hg] at T0 ⊢
    clear hra hg
    have KO := Lib.hid (fun W => owner_controllerOf r d0 d1 g W)
    go_wp2_with (first
      | (go_at_call 21; refine (KO.out _).mono ?_; rintro e W1 ⟨c, rfl, hC, hB⟩
         have T1 := Lib.hid (T0.out.under hB)
         have C1 := Lib.hid hC
         clear hB hC T0)
      | (go_at_call 117; refine (write_controller b r v _ g 37 _ rfl h h0 h1 h2 h3 T1.out.q).mono ?_; rintro e W2 ⟨rfl, hW⟩
         have T2 := Lib.hid (T1.out.wrt hW)
         clear hW T1)
      | ((with_reducible show wpList _ _ _ (⟨none, .store 37 (.tmp 6) (.tmp 16), _, _, _, _⟩ :: _) _ _); refine wpList_store_b rfl 37 _ _ rfl ra (by exact rfl) (by exact rfl) (by kernel_rfl) 37 T2.out.z ?_; intro WZ HN HO HB
         have HZ := HN
         have BZ := Lib.hid (T2.out.b.trans (HB.out.mono T2.out.lr))
         clear HN HO HB)
      | ((with_reducible show wpList _ _ _ (⟨some 16, .load 37 (.tmp 3), _, _, _, _⟩ :: _) _ _); refine wpList_load_b (by rfl) 37 _ rfl g (by exact rfl) _ Tryz.underlying37 (by kernel_rfl) 37 T2.out.q ?_))
    exact bodyPost_ret (v := bv ({ b with q := Iq.writeI b.q r v })) (results_c Tryz.results7 _ _ _ _ _ rfl (run_loadVar_b WZ ra 37 _ Tryz.underlying37 (by kernel_rfl) 37 HZ.out)) rfl ⟨rfl, BZ.out⟩
  · rw [show writeB b r v = b from (if_neg (by omega)).trans ((if_neg (by omega)).trans ((if_neg (by omega)).trans ((if_neg (by omega)).trans (if_neg (by omega)))))]
    unfold bv
    go_enter Tryz.func7, Tryz.ntmps7
    go_upto_region 1 with (fail)
    refine name_two (Q := fun X => Code.wp _ _ _ _ X) ?_
    intro W0 hq1 hq2 hB0
    have T0 : Hid (Tw w W0 w.heap.size (w.heap.size + 1) 37 b) := Lib.hid (Tw.new 37 hq1 hq2 hB0)
    clear hq1 hq2 hB0
    obtain ⟨g, hg⟩ : ∃ g, w.heap.size = g := ⟨_, rfl⟩
    obtain ⟨ra, hra⟩ : ∃ r, w.heap.size + 1 = r := ⟨_, rfl⟩
    rw [hra, hg] at T0 ⊢
    clear hra hg
    have KO := Lib.hid (fun W => owner_none r d0 g W)
    go_wp2_with (first
      | (go_at_call 21; refine (KO.out _).mono ?_; rintro e W1 ⟨rfl, hB⟩
         have T1 := Lib.hid (T0.out.under hB)
         clear hB T0)
      | ((with_reducible show wpList _ _ _ (⟨none, .store 37 (.tmp 6) (.tmp 16), _, _, _, _⟩ :: _) _ _); refine wpList_store_b rfl 37 _ _ rfl ra (by exact rfl) (by exact rfl) (by kernel_rfl) 37 T1.out.z ?_; intro WZ HN HO HB
         have HZ := HN
         have BZ := Lib.hid (T1.out.b.trans (HB.out.mono T1.out.lr))
         clear HN HO HB)
      | ((with_reducible show wpList _ _ _ (⟨some 16, .load 37 (.tmp 3), _, _, _, _⟩ :: _) _ _); refine wpList_load_b (by rfl) 37 _ rfl g (by exact rfl) _ Tryz.underlying37 (by kernel_rfl) 37 T1.out.q ?_))
    exact bodyPost_ret (v := bv (b)) (results_c Tryz.results7 _ _ _ _ _ rfl (run_loadVar_b WZ ra 37 _ Tryz.underlying37 (by kernel_rfl) 37 HZ.out)) rfl ⟨rfl, BZ.out⟩
end Go.Proofs.YtkodoldkfeopdaaGreat
