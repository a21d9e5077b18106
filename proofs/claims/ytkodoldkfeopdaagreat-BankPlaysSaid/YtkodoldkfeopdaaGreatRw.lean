/-
  The document's Peek, Write by their contracts. Made by wip/genbankref.py.
-/
import Derived.Test.YtkodoldkfeopdaaGreatRq
import Derived.IntWalk
namespace Go.Proofs.YtkodoldkfeopdaaGreat
open Go.RowKit
set_option linter.unusedVariables false
set_option maxRecDepth 100000
/-- A function over one bank that answers none. -/
structure On (w W : World) (g : Nat) (ty : TypeId) (b : Bk) : Prop where
  q : BRow W g ty b
  b : Below w.heap.size w W
theorem On.under {w W W' : World} {g : Nat} {ty : TypeId} {b : Bk} (h : On w W g ty b) (hb : Below W.heap.size W W') : On w W' g ty b := ⟨h.q.below hb h.q.lt, h.b.trans (hb.mono h.b.size)⟩
theorem idx0 (g : Nat) (w : World) : (Instr.indexAt 43 (.pointer (some ⟨g, 24, none⟩)) (.int .i64 0)).run Tryz.prog w = .ok (.pointer (some ⟨g, 24, none⟩)) w := by kernel_rfl
theorem idx1 (g : Nat) (w : World) : (Instr.indexAt 43 (.pointer (some ⟨g, 24, none⟩)) (.int .i64 1)).run Tryz.prog w = .ok (.pointer (some ⟨g, 27, none⟩)) w := by kernel_rfl
set_option maxHeartbeats 1000000 in
theorem rPeekB_any : PeekC 26 := by
  intro b r w h h0 h1
  have I0 := Lib.hid (fun g W => idx0 g W)
  have I1 := Lib.hid (fun g W => idx1 g W)
  by_cases h2 : 0 ≤ r ∧ r ≤ 2
  · obtain ⟨d1, d2⟩ := h2
    rw [show peekB b r = Gp.peekN b.o b.i b.e r from if_pos ⟨d1, d2⟩]
    have KK := Lib.hid (fun W => Gp.rPeek_any b.o b.i b.e r W h.o h.i h.e)
    unfold bv
    go_enter Tryz.func26, Tryz.ntmps26
    go_upto_region 1 with (fail)
    refine name_one (Q := fun X => Code.wp _ _ _ _ X) ?_
    intro W0 hq1 hB0 hz0
    have T0 : Hid (On w W0 w.heap.size 46 b) := Lib.hid ⟨hq1, hB0⟩
    clear hq1 hB0 hz0
    obtain ⟨g, hg⟩ : ∃ g, w.heap.size = g := ⟨_, rfl⟩
    rw [hg] at T0 ⊢
    clear hg
    go_wp2_with (first
      | (go_at_call 44; refine (KK.out _).mono ?_; rintro e WT1 ⟨rfl, hB⟩
         have T1 := Lib.hid (T0.out.under hB)
         clear hB T0)
      | ((with_reducible show wpList _ _ _ (⟨some 13, .load 38 (.tmp 12), _, _, _, _⟩ :: _) _ _); refine wpList_load_dev (by rfl) 38 _ rfl g 0 (by exact rfl) _ Tryz.underlying38 (Gp.gc (b).o (b).i (b).e) (by kernel_rfl) T0.out.q.gp (Gp.gv (b).o (b).i (b).e) rfl ?_))
    go_ret
    exact ⟨rfl, T1.out.b⟩
  by_cases h5 : 3 ≤ r ∧ r ≤ 5
  · have d2 : ¬ r ≤ 2 := by omega
    have d1 : 0 ≤ r := by omega
    obtain ⟨d3, d4⟩ := h5
    rw [show peekB b r = Ua.peekU b.R b.T b.l b.c r from (if_neg (by omega)).trans (if_pos ⟨d3, d4⟩)]
    have KK := Lib.hid (fun W => Ua.ru_peek (l := b.l) Ua.rPeekU_any W h.u r h0 h1)
    unfold bv
    go_enter Tryz.func26, Tryz.ntmps26
    go_upto_region 1 with (fail)
    refine name_one (Q := fun X => Code.wp _ _ _ _ X) ?_
    intro W0 hq1 hB0 hz0
    have T0 : Hid (On w W0 w.heap.size 46 b) := Lib.hid ⟨hq1, hB0⟩
    clear hq1 hB0 hz0
    obtain ⟨g, hg⟩ : ∃ g, w.heap.size = g := ⟨_, rfl⟩
    rw [hg] at T0 ⊢
    clear hg
    go_wp2_with (first
      | (go_at_call 45; refine (KK.out _).mono ?_; rintro e WT1 ⟨rfl, hB⟩
         have T1 := Lib.hid (T0.out.under hB)
         clear hB T0)
      | ((with_reducible show wpList _ _ _ (⟨some 24, .load 41 (.tmp 23), _, _, _, _⟩ :: _) _ _); refine wpList_load_dev (by rfl) 41 _ rfl g 3 (by exact rfl) _ Tryz.underlying41 (ucs (b)) (by rw [ucs_length]; kernel_rfl) T0.out.q.ua (Ua.ur (b).R (b).T (b).l (b).c (b).k) rfl ?_))
    go_ret
    exact ⟨rfl, T1.out.b⟩
  by_cases e6 : r = 6
  · subst e6
    rw [show peekB b 6 = Ti.peekT b.t0 0 from (if_neg (by decide)).trans ((if_neg (by decide)).trans (if_pos (by decide)))]
    have KK := Lib.hid (fun W => Ti.rPeekT_any b.t0 0 W h.t0 (by decide) (by decide))
    unfold bv
    go_enter Tryz.func26, Tryz.ntmps26
    go_upto_region 1 with (fail)
    refine name_one (Q := fun X => Code.wp _ _ _ _ X) ?_
    intro W0 hq1 hB0 hz0
    have T0 : Hid (On w W0 w.heap.size 46 b) := Lib.hid ⟨hq1, hB0⟩
    clear hq1 hB0 hz0
    obtain ⟨g, hg⟩ : ∃ g, w.heap.size = g := ⟨_, rfl⟩
    rw [hg] at T0 ⊢
    clear hg
    have i0 := I0.out g
    have i1 := I1.out g
    go_wp2_with (first
      | (go_at_call 46; refine (KK.out _).mono ?_; rintro e WT1 ⟨rfl, hB⟩
         have T1 := Lib.hid (T0.out.under hB)
         clear hB T0)
      | ((with_reducible show wpList _ _ _ (⟨some 39, .load 42 (.tmp 38), _, _, _, _⟩ :: _) _ _); refine wpList_load_dev (by rfl) 42 _ rfl g 24 (by exact rfl) _ Tryz.underlying42 (Ti.tc (b).t0) (by kernel_rfl) T0.out.q.ta (Ti.tv (b).t0) rfl ?_))
    go_ret
    exact ⟨rfl, T1.out.b⟩
  by_cases e7 : r = 7
  · subst e7
    rw [show peekB b 7 = Ti.peekT b.t0 1 from (if_neg (by decide)).trans ((if_neg (by decide)).trans (if_pos (by decide)))]
    have KK := Lib.hid (fun W => Ti.rPeekT_any b.t0 1 W h.t0 (by decide) (by decide))
    unfold bv
    go_enter Tryz.func26, Tryz.ntmps26
    go_upto_region 1 with (fail)
    refine name_one (Q := fun X => Code.wp _ _ _ _ X) ?_
    intro W0 hq1 hB0 hz0
    have T0 : Hid (On w W0 w.heap.size 46 b) := Lib.hid ⟨hq1, hB0⟩
    clear hq1 hB0 hz0
    obtain ⟨g, hg⟩ : ∃ g, w.heap.size = g := ⟨_, rfl⟩
    rw [hg] at T0 ⊢
    clear hg
    have i0 := I0.out g
    have i1 := I1.out g
    go_wp2_with (first
      | (go_at_call 46; refine (KK.out _).mono ?_; rintro e WT1 ⟨rfl, hB⟩
         have T1 := Lib.hid (T0.out.under hB)
         clear hB T0)
      | ((with_reducible show wpList _ _ _ (⟨some 39, .load 42 (.tmp 38), _, _, _, _⟩ :: _) _ _); refine wpList_load_dev (by rfl) 42 _ rfl g 24 (by exact rfl) _ Tryz.underlying42 (Ti.tc (b).t0) (by kernel_rfl) T0.out.q.ta (Ti.tv (b).t0) rfl ?_))
    go_ret
    exact ⟨rfl, T1.out.b⟩
  by_cases e8 : r = 8
  · subst e8
    rw [show peekB b 8 = Ti.peekT b.t0 2 from (if_neg (by decide)).trans ((if_neg (by decide)).trans (if_pos (by decide)))]
    have KK := Lib.hid (fun W => Ti.rPeekT_any b.t0 2 W h.t0 (by decide) (by decide))
    unfold bv
    go_enter Tryz.func26, Tryz.ntmps26
    go_upto_region 1 with (fail)
    refine name_one (Q := fun X => Code.wp _ _ _ _ X) ?_
    intro W0 hq1 hB0 hz0
    have T0 : Hid (On w W0 w.heap.size 46 b) := Lib.hid ⟨hq1, hB0⟩
    clear hq1 hB0 hz0
    obtain ⟨g, hg⟩ : ∃ g, w.heap.size = g := ⟨_, rfl⟩
    rw [hg] at T0 ⊢
    clear hg
    have i0 := I0.out g
    have i1 := I1.out g
    go_wp2_with (first
      | (go_at_call 46; refine (KK.out _).mono ?_; rintro e WT1 ⟨rfl, hB⟩
         have T1 := Lib.hid (T0.out.under hB)
         clear hB T0)
      | ((with_reducible show wpList _ _ _ (⟨some 39, .load 42 (.tmp 38), _, _, _, _⟩ :: _) _ _); refine wpList_load_dev (by rfl) 42 _ rfl g 24 (by exact rfl) _ Tryz.underlying42 (Ti.tc (b).t0) (by kernel_rfl) T0.out.q.ta (Ti.tv (b).t0) rfl ?_))
    go_ret
    exact ⟨rfl, T1.out.b⟩
  by_cases e9 : r = 9
  · subst e9
    rw [show peekB b 9 = Ti.peekT b.t1 0 from (if_neg (by decide)).trans ((if_neg (by decide)).trans ((if_neg (by decide)).trans (if_pos (by decide))))]
    have KK := Lib.hid (fun W => Ti.rPeekT_any b.t1 0 W h.t1 (by decide) (by decide))
    unfold bv
    go_enter Tryz.func26, Tryz.ntmps26
    go_upto_region 1 with (fail)
    refine name_one (Q := fun X => Code.wp _ _ _ _ X) ?_
    intro W0 hq1 hB0 hz0
    have T0 : Hid (On w W0 w.heap.size 46 b) := Lib.hid ⟨hq1, hB0⟩
    clear hq1 hB0 hz0
    obtain ⟨g, hg⟩ : ∃ g, w.heap.size = g := ⟨_, rfl⟩
    rw [hg] at T0 ⊢
    clear hg
    have i0 := I0.out g
    have i1 := I1.out g
    go_wp2_with (first
      | (go_at_call 46; refine (KK.out _).mono ?_; rintro e WT1 ⟨rfl, hB⟩
         have T1 := Lib.hid (T0.out.under hB)
         clear hB T0)
      | ((with_reducible show wpList _ _ _ (⟨some 39, .load 42 (.tmp 38), _, _, _, _⟩ :: _) _ _); refine wpList_load_dev (by rfl) 42 _ rfl g 27 (by exact rfl) _ Tryz.underlying42 (Ti.tc (b).t1) (by kernel_rfl) T0.out.q.tb (Ti.tv (b).t1) rfl ?_))
    go_ret
    exact ⟨rfl, T1.out.b⟩
  by_cases e10 : r = 10
  · subst e10
    rw [show peekB b 10 = Ti.peekT b.t1 1 from (if_neg (by decide)).trans ((if_neg (by decide)).trans ((if_neg (by decide)).trans (if_pos (by decide))))]
    have KK := Lib.hid (fun W => Ti.rPeekT_any b.t1 1 W h.t1 (by decide) (by decide))
    unfold bv
    go_enter Tryz.func26, Tryz.ntmps26
    go_upto_region 1 with (fail)
    refine name_one (Q := fun X => Code.wp _ _ _ _ X) ?_
    intro W0 hq1 hB0 hz0
    have T0 : Hid (On w W0 w.heap.size 46 b) := Lib.hid ⟨hq1, hB0⟩
    clear hq1 hB0 hz0
    obtain ⟨g, hg⟩ : ∃ g, w.heap.size = g := ⟨_, rfl⟩
    rw [hg] at T0 ⊢
    clear hg
    have i0 := I0.out g
    have i1 := I1.out g
    go_wp2_with (first
      | (go_at_call 46; refine (KK.out _).mono ?_; rintro e WT1 ⟨rfl, hB⟩
         have T1 := Lib.hid (T0.out.under hB)
         clear hB T0)
      | ((with_reducible show wpList _ _ _ (⟨some 39, .load 42 (.tmp 38), _, _, _, _⟩ :: _) _ _); refine wpList_load_dev (by rfl) 42 _ rfl g 27 (by exact rfl) _ Tryz.underlying42 (Ti.tc (b).t1) (by kernel_rfl) T0.out.q.tb (Ti.tv (b).t1) rfl ?_))
    go_ret
    exact ⟨rfl, T1.out.b⟩
  by_cases e11 : r = 11
  · subst e11
    rw [show peekB b 11 = Ti.peekT b.t1 2 from (if_neg (by decide)).trans ((if_neg (by decide)).trans ((if_neg (by decide)).trans (if_pos (by decide))))]
    have KK := Lib.hid (fun W => Ti.rPeekT_any b.t1 2 W h.t1 (by decide) (by decide))
    unfold bv
    go_enter Tryz.func26, Tryz.ntmps26
    go_upto_region 1 with (fail)
    refine name_one (Q := fun X => Code.wp _ _ _ _ X) ?_
    intro W0 hq1 hB0 hz0
    have T0 : Hid (On w W0 w.heap.size 46 b) := Lib.hid ⟨hq1, hB0⟩
    clear hq1 hB0 hz0
    obtain ⟨g, hg⟩ : ∃ g, w.heap.size = g := ⟨_, rfl⟩
    rw [hg] at T0 ⊢
    clear hg
    have i0 := I0.out g
    have i1 := I1.out g
    go_wp2_with (first
      | (go_at_call 46; refine (KK.out _).mono ?_; rintro e WT1 ⟨rfl, hB⟩
         have T1 := Lib.hid (T0.out.under hB)
         clear hB T0)
      | ((with_reducible show wpList _ _ _ (⟨some 39, .load 42 (.tmp 38), _, _, _, _⟩ :: _) _ _); refine wpList_load_dev (by rfl) 42 _ rfl g 27 (by exact rfl) _ Tryz.underlying42 (Ti.tc (b).t1) (by kernel_rfl) T0.out.q.tb (Ti.tv (b).t1) rfl ?_))
    go_ret
    exact ⟨rfl, T1.out.b⟩
  by_cases h14 : 12 ≤ r ∧ r ≤ 14
  · have d1 : 0 ≤ r := by omega
    have d2 : ¬ r ≤ 2 := by omega
    have d3 : 3 ≤ r := by omega
    have d4 : ¬ r ≤ 5 := by omega
    have d5 : 6 ≤ r := by omega
    have d6 : ¬ r ≤ 11 := by omega
    obtain ⟨d7, d8⟩ := h14
    rw [show peekB b r = Iq.peekI b.q r from (if_neg (by omega)).trans ((if_neg (by omega)).trans ((if_neg (by omega)).trans ((if_neg (by omega)).trans (if_pos ⟨d7, d8⟩))))]
    have KK := Lib.hid (fun W => Iq.rPeek_any b.q r W h.q h0 h1)
    unfold bv
    go_enter Tryz.func26, Tryz.ntmps26
    go_upto_region 1 with (fail)
    refine name_one (Q := fun X => Code.wp _ _ _ _ X) ?_
    intro W0 hq1 hB0 hz0
    have T0 : Hid (On w W0 w.heap.size 46 b) := Lib.hid ⟨hq1, hB0⟩
    clear hq1 hB0 hz0
    obtain ⟨g, hg⟩ : ∃ g, w.heap.size = g := ⟨_, rfl⟩
    rw [hg] at T0 ⊢
    clear hg
    go_wp2_with (first
      | (go_at_call 47; refine (KK.out _).mono ?_; rintro e WT1 ⟨rfl, hB⟩
         have T1 := Lib.hid (T0.out.under hB)
         clear hB T0)
      | ((with_reducible show wpList _ _ _ (⟨some 52, .load 44 (.tmp 51), _, _, _, _⟩ :: _) _ _); refine wpList_load_dev (by rfl) 44 _ rfl g 30 (by exact rfl) _ Tryz.underlying44 (Iq.icc (b).q) (by kernel_rfl) T0.out.q.iq (Iq.cv (b).q) rfl ?_))
    go_ret
    exact ⟨rfl, T1.out.b⟩
  by_cases hneg : r < 0
  · have d1 : ¬ 0 ≤ r := by omega
    have d3 : ¬ 3 ≤ r := by omega
    have d5 : ¬ 6 ≤ r := by omega
    have d7 : ¬ 12 ≤ r := by omega
    rw [show peekB b r = 0 from (if_neg (by omega)).trans ((if_neg (by omega)).trans ((if_neg (by omega)).trans ((if_neg (by omega)).trans (if_neg (by omega)))))]
    unfold bv
    go_enter Tryz.func26, Tryz.ntmps26
    go_upto_region 1 with (fail)
    refine name_one (Q := fun X => Code.wp _ _ _ _ X) ?_
    intro W0 hq1 hB0 hz0
    have T0 : Hid (On w W0 w.heap.size 46 b) := Lib.hid ⟨hq1, hB0⟩
    clear hq1 hB0 hz0
    obtain ⟨g, hg⟩ : ∃ g, w.heap.size = g := ⟨_, rfl⟩
    rw [hg] at T0 ⊢
    clear hg
    go_wp2_with fail
    go_ret
    exact ⟨rfl, T0.out.b⟩
  · have d1 : 0 ≤ r := by omega
    have d2 : ¬ r ≤ 2 := by omega
    have d3 : 3 ≤ r := by omega
    have d4 : ¬ r ≤ 5 := by omega
    have d5 : 6 ≤ r := by omega
    have d6 : ¬ r ≤ 11 := by omega
    have d7 : 12 ≤ r := by omega
    have d8 : ¬ r ≤ 14 := by omega
    rw [show peekB b r = 0 from (if_neg (by omega)).trans ((if_neg (by omega)).trans ((if_neg (by omega)).trans ((if_neg (by omega)).trans (if_neg (by omega)))))]
    unfold bv
    go_enter Tryz.func26, Tryz.ntmps26
    go_upto_region 1 with (fail)
    refine name_one (Q := fun X => Code.wp _ _ _ _ X) ?_
    intro W0 hq1 hB0 hz0
    have T0 : Hid (On w W0 w.heap.size 46 b) := Lib.hid ⟨hq1, hB0⟩
    clear hq1 hB0 hz0
    obtain ⟨g, hg⟩ : ∃ g, w.heap.size = g := ⟨_, rfl⟩
    rw [hg] at T0 ⊢
    clear hg
    go_wp2_with fail
    go_ret
    exact ⟨rfl, T0.out.b⟩
set_option maxHeartbeats 1000000 in
theorem rWriteB_any : WriteC 8 := by
  intro b r v w h h0 h1 h3 h4
  have I0 := Lib.hid (fun g W => idx0 g W)
  have I1 := Lib.hid (fun g W => idx1 g W)
  by_cases h2 : 0 ≤ r ∧ r ≤ 2
  · obtain ⟨d1, d2⟩ := h2
    rw [show writeB b r v = { b with o := Gp.outN b.o r v, e := Gp.edgeN b.e r v } from if_pos ⟨d1, d2⟩]
    have KK := Lib.hid (fun W => Gp.rWrite_any b.o b.i b.e r v W h.o h.i h.e h3 h4)
    unfold bv
    go_enter Tryz.func8, Tryz.ntmps8
    go_upto_region 1 with (fail)
    refine name_two (Q := fun X => Code.wp _ _ _ _ X) ?_
    intro W0 hq1 hq2 hB0
    have T0 : Hid (Tw w W0 w.heap.size (w.heap.size + 1) 46 b) := Lib.hid (Tw.new 46 hq1 hq2 hB0)
    clear hq1 hq2 hB0
    obtain ⟨g, hg⟩ : ∃ g, w.heap.size = g := ⟨_, rfl⟩
    obtain ⟨ra, hra⟩ : ∃ r, w.heap.size + 1 = r := ⟨_, rfl⟩
    rw [hra, hg] at T0 ⊢
    clear hra hg
    go_wp2_with (first
      | ((with_reducible show wpList _ _ _ (⟨none, .store 46 (.tmp 6) (.tmp 69), _, _, _, _⟩ :: _) _ _); refine wpList_store_b rfl 46 _ _ rfl ra (by exact rfl) (by exact rfl) (by kernel_rfl) 46 T2.out.z ?_; intro WZ HN HO HB
         have HZ := HN
         have BZ := Lib.hid (T2.out.b.trans (HB.out.mono T2.out.lr))
         clear HN HO HB)
      | ((with_reducible show wpList _ _ _ (⟨some 69, .load 46 (.tmp 3), _, _, _, _⟩ :: _) _ _); refine wpList_load_b (by rfl) 46 _ rfl g (by exact rfl) _ Tryz.underlying46 (by kernel_rfl) 46 T2.out.q ?_)
      | ((with_reducible show wpList _ _ _ (⟨none, .store 38 (.tmp 20) (.tmp 19), _, _, _, _⟩ :: _) _ _); refine wpList_store_dev (d := { b with o := Gp.outN b.o r v, e := Gp.edgeN b.e r v }) rfl 38 _ _ rfl g 0 (by exact rfl) (Gp.gc (Gp.outN b.o r v) b.i (Gp.edgeN b.e r v)) (by exact rfl) (by kernel_rfl) (Gp.gc_one _ _ _) (by simp [Gp.gc]) (bc_gp _ _ _) 46 T1.out.q ?_; intro WT2 HN HO HB
         have T2 := Lib.hid (T1.out.setG HN.out HO.out HB.out)
         clear HN HO HB T1)
      | (go_at_call 22; refine (KK.out _).mono ?_; rintro e WT1 ⟨rfl, hB⟩
         have T1 := Lib.hid (T0.out.under hB)
         clear hB T0)
      | ((with_reducible show wpList _ _ _ (⟨some 16, .load 38 (.tmp 15), _, _, _, _⟩ :: _) _ _); refine wpList_load_dev (by rfl) 38 _ rfl g 0 (by exact rfl) _ Tryz.underlying38 (Gp.gc (b).o (b).i (b).e) (by kernel_rfl) T0.out.q.gp (Gp.gv (b).o (b).i (b).e) rfl ?_))
    exact bodyPost_ret (v := bv ({ b with o := Gp.outN b.o r v, e := Gp.edgeN b.e r v })) (results_c Tryz.results8 _ _ _ _ _ rfl (run_loadVar_b WZ ra 46 _ Tryz.underlying46 (by kernel_rfl) 46 HZ.out)) rfl ⟨rfl, BZ.out⟩
  by_cases h5 : 3 ≤ r ∧ r ≤ 5
  · have d2 : ¬ r ≤ 2 := by omega
    have d1 : 0 ≤ r := by omega
    obtain ⟨d3, d4⟩ := h5
    rw [show writeB b r v = { b with T := Ua.writeT b.T r v, c := Ua.writeC b.c r v } from (if_neg (by omega)).trans (if_pos ⟨d3, d4⟩)]
    have KK := Lib.hid (fun W => Ua.ru_write (l := b.l) Ua.rWriteU_any W h.u r v h0 h1 h3 h4)
    unfold bv
    go_enter Tryz.func8, Tryz.ntmps8
    go_upto_region 1 with (fail)
    refine name_two (Q := fun X => Code.wp _ _ _ _ X) ?_
    intro W0 hq1 hq2 hB0
    have T0 : Hid (Tw w W0 w.heap.size (w.heap.size + 1) 46 b) := Lib.hid (Tw.new 46 hq1 hq2 hB0)
    clear hq1 hq2 hB0
    obtain ⟨g, hg⟩ : ∃ g, w.heap.size = g := ⟨_, rfl⟩
    obtain ⟨ra, hra⟩ : ∃ r, w.heap.size + 1 = r := ⟨_, rfl⟩
    rw [hra, hg] at T0 ⊢
    clear hra hg
    go_wp2_with (first
      | ((with_reducible show wpList _ _ _ (⟨none, .store 46 (.tmp 6) (.tmp 69), _, _, _, _⟩ :: _) _ _); refine wpList_store_b rfl 46 _ _ rfl ra (by exact rfl) (by exact rfl) (by kernel_rfl) 46 T2.out.z ?_; intro WZ HN HO HB
         have HZ := HN
         have BZ := Lib.hid (T2.out.b.trans (HB.out.mono T2.out.lr))
         clear HN HO HB)
      | ((with_reducible show wpList _ _ _ (⟨some 69, .load 46 (.tmp 3), _, _, _, _⟩ :: _) _ _); refine wpList_load_b (by rfl) 46 _ rfl g (by exact rfl) _ Tryz.underlying46 (by kernel_rfl) 46 T2.out.q ?_)
      | ((with_reducible show wpList _ _ _ (⟨none, .store 41 (.tmp 33) (.tmp 32), _, _, _, _⟩ :: _) _ _); refine wpList_store_dev (d := { b with T := Ua.writeT b.T r v, c := Ua.writeC b.c r v }) rfl 41 _ _ rfl g 3 (by exact rfl) (ucs { b with T := Ua.writeT b.T r v, c := Ua.writeC b.c r v }) (by exact rfl) (by rw [ucs_length]; kernel_rfl) (Ua.uc_one _ _ _ _ _ _ _) (by rw [ucs_length]; decide) (bc_ua _ _ _ _ _) 46 T1.out.q ?_; intro WT2 HN HO HB
         have T2 := Lib.hid (T1.out.setG HN.out HO.out HB.out)
         clear HN HO HB T1)
      | (go_at_call 23; refine (KK.out _).mono ?_; rintro e WT1 ⟨rfl, hB⟩
         have T1 := Lib.hid (T0.out.under hB)
         clear hB T0)
      | ((with_reducible show wpList _ _ _ (⟨some 29, .load 41 (.tmp 28), _, _, _, _⟩ :: _) _ _); refine wpList_load_dev (by rfl) 41 _ rfl g 3 (by exact rfl) _ Tryz.underlying41 (ucs (b)) (by rw [ucs_length]; kernel_rfl) T0.out.q.ua (Ua.ur (b).R (b).T (b).l (b).c (b).k) rfl ?_))
    exact bodyPost_ret (v := bv ({ b with T := Ua.writeT b.T r v, c := Ua.writeC b.c r v })) (results_c Tryz.results8 _ _ _ _ _ rfl (run_loadVar_b WZ ra 46 _ Tryz.underlying46 (by kernel_rfl) 46 HZ.out)) rfl ⟨rfl, BZ.out⟩
  by_cases e6 : r = 6
  · subst e6
    rw [show writeB b 6 v = { b with t0 := Ti.writeT b.t0 0 v } from (if_neg (by decide)).trans ((if_neg (by decide)).trans (if_pos (by decide)))]
    have KK := Lib.hid (fun W => Ti.rWriteT_any b.t0 0 v W h.t0 (by decide) (by decide) h3 h4)
    unfold bv
    go_enter Tryz.func8, Tryz.ntmps8
    go_upto_region 1 with (fail)
    refine name_two (Q := fun X => Code.wp _ _ _ _ X) ?_
    intro W0 hq1 hq2 hB0
    have T0 : Hid (Tw w W0 w.heap.size (w.heap.size + 1) 46 b) := Lib.hid (Tw.new 46 hq1 hq2 hB0)
    clear hq1 hq2 hB0
    obtain ⟨g, hg⟩ : ∃ g, w.heap.size = g := ⟨_, rfl⟩
    obtain ⟨ra, hra⟩ : ∃ r, w.heap.size + 1 = r := ⟨_, rfl⟩
    rw [hra, hg] at T0 ⊢
    clear hra hg
    have i0 := I0.out g
    have i1 := I1.out g
    go_wp2_with (first
      | ((with_reducible show wpList _ _ _ (⟨none, .store 46 (.tmp 6) (.tmp 69), _, _, _, _⟩ :: _) _ _); refine wpList_store_b rfl 46 _ _ rfl ra (by exact rfl) (by exact rfl) (by kernel_rfl) 46 T2.out.z ?_; intro WZ HN HO HB
         have HZ := HN
         have BZ := Lib.hid (T2.out.b.trans (HB.out.mono T2.out.lr))
         clear HN HO HB)
      | ((with_reducible show wpList _ _ _ (⟨some 69, .load 46 (.tmp 3), _, _, _, _⟩ :: _) _ _); refine wpList_load_b (by rfl) 46 _ rfl g (by exact rfl) _ Tryz.underlying46 (by kernel_rfl) 46 T2.out.q ?_)
      | ((with_reducible show wpList _ _ _ (⟨none, .store 42 (.tmp 55) (.tmp 53), _, _, _, _⟩ :: _) _ _); refine wpList_store_dev (d := { b with t0 := Ti.writeT b.t0 0 v }) rfl 42 _ _ rfl g 24 (by exact rfl) (Ti.tc (Ti.writeT b.t0 0 v)) (by exact rfl) (by kernel_rfl) (Ti.tc_one _) (by simp [Ti.tc]) (bc_ta _) 46 T1.out.q ?_; intro WT2 HN HO HB
         have T2 := Lib.hid (T1.out.setG HN.out HO.out HB.out)
         clear HN HO HB T1)
      | (go_at_call 24; refine (KK.out _).mono ?_; rintro e WT1 ⟨rfl, hB⟩
         have T1 := Lib.hid (T0.out.under hB)
         clear hB T0)
      | ((with_reducible show wpList _ _ _ (⟨some 48, .load 42 (.tmp 47), _, _, _, _⟩ :: _) _ _); refine wpList_load_dev (by rfl) 42 _ rfl g 24 (by exact rfl) _ Tryz.underlying42 (Ti.tc (b).t0) (by kernel_rfl) T0.out.q.ta (Ti.tv (b).t0) rfl ?_))
    exact bodyPost_ret (v := bv ({ b with t0 := Ti.writeT b.t0 0 v })) (results_c Tryz.results8 _ _ _ _ _ rfl (run_loadVar_b WZ ra 46 _ Tryz.underlying46 (by kernel_rfl) 46 HZ.out)) rfl ⟨rfl, BZ.out⟩
  by_cases e7 : r = 7
  · subst e7
    rw [show writeB b 7 v = { b with t0 := Ti.writeT b.t0 1 v } from (if_neg (by decide)).trans ((if_neg (by decide)).trans (if_pos (by decide)))]
    have KK := Lib.hid (fun W => Ti.rWriteT_any b.t0 1 v W h.t0 (by decide) (by decide) h3 h4)
    unfold bv
    go_enter Tryz.func8, Tryz.ntmps8
    go_upto_region 1 with (fail)
    refine name_two (Q := fun X => Code.wp _ _ _ _ X) ?_
    intro W0 hq1 hq2 hB0
    have T0 : Hid (Tw w W0 w.heap.size (w.heap.size + 1) 46 b) := Lib.hid (Tw.new 46 hq1 hq2 hB0)
    clear hq1 hq2 hB0
    obtain ⟨g, hg⟩ : ∃ g, w.heap.size = g := ⟨_, rfl⟩
    obtain ⟨ra, hra⟩ : ∃ r, w.heap.size + 1 = r := ⟨_, rfl⟩
    rw [hra, hg] at T0 ⊢
    clear hra hg
    have i0 := I0.out g
    have i1 := I1.out g
    go_wp2_with (first
      | ((with_reducible show wpList _ _ _ (⟨none, .store 46 (.tmp 6) (.tmp 69), _, _, _, _⟩ :: _) _ _); refine wpList_store_b rfl 46 _ _ rfl ra (by exact rfl) (by exact rfl) (by kernel_rfl) 46 T2.out.z ?_; intro WZ HN HO HB
         have HZ := HN
         have BZ := Lib.hid (T2.out.b.trans (HB.out.mono T2.out.lr))
         clear HN HO HB)
      | ((with_reducible show wpList _ _ _ (⟨some 69, .load 46 (.tmp 3), _, _, _, _⟩ :: _) _ _); refine wpList_load_b (by rfl) 46 _ rfl g (by exact rfl) _ Tryz.underlying46 (by kernel_rfl) 46 T2.out.q ?_)
      | ((with_reducible show wpList _ _ _ (⟨none, .store 42 (.tmp 55) (.tmp 53), _, _, _, _⟩ :: _) _ _); refine wpList_store_dev (d := { b with t0 := Ti.writeT b.t0 1 v }) rfl 42 _ _ rfl g 24 (by exact rfl) (Ti.tc (Ti.writeT b.t0 1 v)) (by exact rfl) (by kernel_rfl) (Ti.tc_one _) (by simp [Ti.tc]) (bc_ta _) 46 T1.out.q ?_; intro WT2 HN HO HB
         have T2 := Lib.hid (T1.out.setG HN.out HO.out HB.out)
         clear HN HO HB T1)
      | (go_at_call 24; refine (KK.out _).mono ?_; rintro e WT1 ⟨rfl, hB⟩
         have T1 := Lib.hid (T0.out.under hB)
         clear hB T0)
      | ((with_reducible show wpList _ _ _ (⟨some 48, .load 42 (.tmp 47), _, _, _, _⟩ :: _) _ _); refine wpList_load_dev (by rfl) 42 _ rfl g 24 (by exact rfl) _ Tryz.underlying42 (Ti.tc (b).t0) (by kernel_rfl) T0.out.q.ta (Ti.tv (b).t0) rfl ?_))
    exact bodyPost_ret (v := bv ({ b with t0 := Ti.writeT b.t0 1 v })) (results_c Tryz.results8 _ _ _ _ _ rfl (run_loadVar_b WZ ra 46 _ Tryz.underlying46 (by kernel_rfl) 46 HZ.out)) rfl ⟨rfl, BZ.out⟩
  by_cases e8 : r = 8
  · subst e8
    rw [show writeB b 8 v = { b with t0 := Ti.writeT b.t0 2 v } from (if_neg (by decide)).trans ((if_neg (by decide)).trans (if_pos (by decide)))]
    have KK := Lib.hid (fun W => Ti.rWriteT_any b.t0 2 v W h.t0 (by decide) (by decide) h3 h4)
    unfold bv
    go_enter Tryz.func8, Tryz.ntmps8
    go_upto_region 1 with (fail)
    refine name_two (Q := fun X => Code.wp _ _ _ _ X) ?_
    intro W0 hq1 hq2 hB0
    have T0 : Hid (Tw w W0 w.heap.size (w.heap.size + 1) 46 b) := Lib.hid (Tw.new 46 hq1 hq2 hB0)
    clear hq1 hq2 hB0
    obtain ⟨g, hg⟩ : ∃ g, w.heap.size = g := ⟨_, rfl⟩
    obtain ⟨ra, hra⟩ : ∃ r, w.heap.size + 1 = r := ⟨_, rfl⟩
    rw [hra, hg] at T0 ⊢
    clear hra hg
    have i0 := I0.out g
    have i1 := I1.out g
    go_wp2_with (first
      | ((with_reducible show wpList _ _ _ (⟨none, .store 46 (.tmp 6) (.tmp 69), _, _, _, _⟩ :: _) _ _); refine wpList_store_b rfl 46 _ _ rfl ra (by exact rfl) (by exact rfl) (by kernel_rfl) 46 T2.out.z ?_; intro WZ HN HO HB
         have HZ := HN
         have BZ := Lib.hid (T2.out.b.trans (HB.out.mono T2.out.lr))
         clear HN HO HB)
      | ((with_reducible show wpList _ _ _ (⟨some 69, .load 46 (.tmp 3), _, _, _, _⟩ :: _) _ _); refine wpList_load_b (by rfl) 46 _ rfl g (by exact rfl) _ Tryz.underlying46 (by kernel_rfl) 46 T2.out.q ?_)
      | ((with_reducible show wpList _ _ _ (⟨none, .store 42 (.tmp 55) (.tmp 53), _, _, _, _⟩ :: _) _ _); refine wpList_store_dev (d := { b with t0 := Ti.writeT b.t0 2 v }) rfl 42 _ _ rfl g 24 (by exact rfl) (Ti.tc (Ti.writeT b.t0 2 v)) (by exact rfl) (by kernel_rfl) (Ti.tc_one _) (by simp [Ti.tc]) (bc_ta _) 46 T1.out.q ?_; intro WT2 HN HO HB
         have T2 := Lib.hid (T1.out.setG HN.out HO.out HB.out)
         clear HN HO HB T1)
      | (go_at_call 24; refine (KK.out _).mono ?_; rintro e WT1 ⟨rfl, hB⟩
         have T1 := Lib.hid (T0.out.under hB)
         clear hB T0)
      | ((with_reducible show wpList _ _ _ (⟨some 48, .load 42 (.tmp 47), _, _, _, _⟩ :: _) _ _); refine wpList_load_dev (by rfl) 42 _ rfl g 24 (by exact rfl) _ Tryz.underlying42 (Ti.tc (b).t0) (by kernel_rfl) T0.out.q.ta (Ti.tv (b).t0) rfl ?_))
    exact bodyPost_ret (v := bv ({ b with t0 := Ti.writeT b.t0 2 v })) (results_c Tryz.results8 _ _ _ _ _ rfl (run_loadVar_b WZ ra 46 _ Tryz.underlying46 (by kernel_rfl) 46 HZ.out)) rfl ⟨rfl, BZ.out⟩
  by_cases e9 : r = 9
  · subst e9
    rw [show writeB b 9 v = { b with t1 := Ti.writeT b.t1 0 v } from (if_neg (by decide)).trans ((if_neg (by decide)).trans ((if_neg (by decide)).trans (if_pos (by decide))))]
    have KK := Lib.hid (fun W => Ti.rWriteT_any b.t1 0 v W h.t1 (by decide) (by decide) h3 h4)
    unfold bv
    go_enter Tryz.func8, Tryz.ntmps8
    go_upto_region 1 with (fail)
    refine name_two (Q := fun X => Code.wp _ _ _ _ X) ?_
    intro W0 hq1 hq2 hB0
    have T0 : Hid (Tw w W0 w.heap.size (w.heap.size + 1) 46 b) := Lib.hid (Tw.new 46 hq1 hq2 hB0)
    clear hq1 hq2 hB0
    obtain ⟨g, hg⟩ : ∃ g, w.heap.size = g := ⟨_, rfl⟩
    obtain ⟨ra, hra⟩ : ∃ r, w.heap.size + 1 = r := ⟨_, rfl⟩
    rw [hra, hg] at T0 ⊢
    clear hra hg
    have i0 := I0.out g
    have i1 := I1.out g
    go_wp2_with (first
      | ((with_reducible show wpList _ _ _ (⟨none, .store 46 (.tmp 6) (.tmp 69), _, _, _, _⟩ :: _) _ _); refine wpList_store_b rfl 46 _ _ rfl ra (by exact rfl) (by exact rfl) (by kernel_rfl) 46 T2.out.z ?_; intro WZ HN HO HB
         have HZ := HN
         have BZ := Lib.hid (T2.out.b.trans (HB.out.mono T2.out.lr))
         clear HN HO HB)
      | ((with_reducible show wpList _ _ _ (⟨some 69, .load 46 (.tmp 3), _, _, _, _⟩ :: _) _ _); refine wpList_load_b (by rfl) 46 _ rfl g (by exact rfl) _ Tryz.underlying46 (by kernel_rfl) 46 T2.out.q ?_)
      | ((with_reducible show wpList _ _ _ (⟨none, .store 42 (.tmp 55) (.tmp 53), _, _, _, _⟩ :: _) _ _); refine wpList_store_dev (d := { b with t1 := Ti.writeT b.t1 0 v }) rfl 42 _ _ rfl g 27 (by exact rfl) (Ti.tc (Ti.writeT b.t1 0 v)) (by exact rfl) (by kernel_rfl) (Ti.tc_one _) (by simp [Ti.tc]) (bc_tb _) 46 T1.out.q ?_; intro WT2 HN HO HB
         have T2 := Lib.hid (T1.out.setG HN.out HO.out HB.out)
         clear HN HO HB T1)
      | (go_at_call 24; refine (KK.out _).mono ?_; rintro e WT1 ⟨rfl, hB⟩
         have T1 := Lib.hid (T0.out.under hB)
         clear hB T0)
      | ((with_reducible show wpList _ _ _ (⟨some 48, .load 42 (.tmp 47), _, _, _, _⟩ :: _) _ _); refine wpList_load_dev (by rfl) 42 _ rfl g 27 (by exact rfl) _ Tryz.underlying42 (Ti.tc (b).t1) (by kernel_rfl) T0.out.q.tb (Ti.tv (b).t1) rfl ?_))
    exact bodyPost_ret (v := bv ({ b with t1 := Ti.writeT b.t1 0 v })) (results_c Tryz.results8 _ _ _ _ _ rfl (run_loadVar_b WZ ra 46 _ Tryz.underlying46 (by kernel_rfl) 46 HZ.out)) rfl ⟨rfl, BZ.out⟩
  by_cases e10 : r = 10
  · subst e10
    rw [show writeB b 10 v = { b with t1 := Ti.writeT b.t1 1 v } from (if_neg (by decide)).trans ((if_neg (by decide)).trans ((if_neg (by decide)).trans (if_pos (by decide))))]
    have KK := Lib.hid (fun W => Ti.rWriteT_any b.t1 1 v W h.t1 (by decide) (by decide) h3 h4)
    unfold bv
    go_enter Tryz.func8, Tryz.ntmps8
    go_upto_region 1 with (fail)
    refine name_two (Q := fun X => Code.wp _ _ _ _ X) ?_
    intro W0 hq1 hq2 hB0
    have T0 : Hid (Tw w W0 w.heap.size (w.heap.size + 1) 46 b) := Lib.hid (Tw.new 46 hq1 hq2 hB0)
    clear hq1 hq2 hB0
    obtain ⟨g, hg⟩ : ∃ g, w.heap.size = g := ⟨_, rfl⟩
    obtain ⟨ra, hra⟩ : ∃ r, w.heap.size + 1 = r := ⟨_, rfl⟩
    rw [hra, hg] at T0 ⊢
    clear hra hg
    have i0 := I0.out g
    have i1 := I1.out g
    go_wp2_with (first
      | ((with_reducible show wpList _ _ _ (⟨none, .store 46 (.tmp 6) (.tmp 69), _, _, _, _⟩ :: _) _ _); refine wpList_store_b rfl 46 _ _ rfl ra (by exact rfl) (by exact rfl) (by kernel_rfl) 46 T2.out.z ?_; intro WZ HN HO HB
         have HZ := HN
         have BZ := Lib.hid (T2.out.b.trans (HB.out.mono T2.out.lr))
         clear HN HO HB)
      | ((with_reducible show wpList _ _ _ (⟨some 69, .load 46 (.tmp 3), _, _, _, _⟩ :: _) _ _); refine wpList_load_b (by rfl) 46 _ rfl g (by exact rfl) _ Tryz.underlying46 (by kernel_rfl) 46 T2.out.q ?_)
      | ((with_reducible show wpList _ _ _ (⟨none, .store 42 (.tmp 55) (.tmp 53), _, _, _, _⟩ :: _) _ _); refine wpList_store_dev (d := { b with t1 := Ti.writeT b.t1 1 v }) rfl 42 _ _ rfl g 27 (by exact rfl) (Ti.tc (Ti.writeT b.t1 1 v)) (by exact rfl) (by kernel_rfl) (Ti.tc_one _) (by simp [Ti.tc]) (bc_tb _) 46 T1.out.q ?_; intro WT2 HN HO HB
         have T2 := Lib.hid (T1.out.setG HN.out HO.out HB.out)
         clear HN HO HB T1)
      | (go_at_call 24; refine (KK.out _).mono ?_; rintro e WT1 ⟨rfl, hB⟩
         have T1 := Lib.hid (T0.out.under hB)
         clear hB T0)
      | ((with_reducible show wpList _ _ _ (⟨some 48, .load 42 (.tmp 47), _, _, _, _⟩ :: _) _ _); refine wpList_load_dev (by rfl) 42 _ rfl g 27 (by exact rfl) _ Tryz.underlying42 (Ti.tc (b).t1) (by kernel_rfl) T0.out.q.tb (Ti.tv (b).t1) rfl ?_))
    exact bodyPost_ret (v := bv ({ b with t1 := Ti.writeT b.t1 1 v })) (results_c Tryz.results8 _ _ _ _ _ rfl (run_loadVar_b WZ ra 46 _ Tryz.underlying46 (by kernel_rfl) 46 HZ.out)) rfl ⟨rfl, BZ.out⟩
  by_cases e11 : r = 11
  · subst e11
    rw [show writeB b 11 v = { b with t1 := Ti.writeT b.t1 2 v } from (if_neg (by decide)).trans ((if_neg (by decide)).trans ((if_neg (by decide)).trans (if_pos (by decide))))]
    have KK := Lib.hid (fun W => Ti.rWriteT_any b.t1 2 v W h.t1 (by decide) (by decide) h3 h4)
    unfold bv
    go_enter Tryz.func8, Tryz.ntmps8
    go_upto_region 1 with (fail)
    refine name_two (Q := fun X => Code.wp _ _ _ _ X) ?_
    intro W0 hq1 hq2 hB0
    have T0 : Hid (Tw w W0 w.heap.size (w.heap.size + 1) 46 b) := Lib.hid (Tw.new 46 hq1 hq2 hB0)
    clear hq1 hq2 hB0
    obtain ⟨g, hg⟩ : ∃ g, w.heap.size = g := ⟨_, rfl⟩
    obtain ⟨ra, hra⟩ : ∃ r, w.heap.size + 1 = r := ⟨_, rfl⟩
    rw [hra, hg] at T0 ⊢
    clear hra hg
    have i0 := I0.out g
    have i1 := I1.out g
    go_wp2_with (first
      | ((with_reducible show wpList _ _ _ (⟨none, .store 46 (.tmp 6) (.tmp 69), _, _, _, _⟩ :: _) _ _); refine wpList_store_b rfl 46 _ _ rfl ra (by exact rfl) (by exact rfl) (by kernel_rfl) 46 T2.out.z ?_; intro WZ HN HO HB
         have HZ := HN
         have BZ := Lib.hid (T2.out.b.trans (HB.out.mono T2.out.lr))
         clear HN HO HB)
      | ((with_reducible show wpList _ _ _ (⟨some 69, .load 46 (.tmp 3), _, _, _, _⟩ :: _) _ _); refine wpList_load_b (by rfl) 46 _ rfl g (by exact rfl) _ Tryz.underlying46 (by kernel_rfl) 46 T2.out.q ?_)
      | ((with_reducible show wpList _ _ _ (⟨none, .store 42 (.tmp 55) (.tmp 53), _, _, _, _⟩ :: _) _ _); refine wpList_store_dev (d := { b with t1 := Ti.writeT b.t1 2 v }) rfl 42 _ _ rfl g 27 (by exact rfl) (Ti.tc (Ti.writeT b.t1 2 v)) (by exact rfl) (by kernel_rfl) (Ti.tc_one _) (by simp [Ti.tc]) (bc_tb _) 46 T1.out.q ?_; intro WT2 HN HO HB
         have T2 := Lib.hid (T1.out.setG HN.out HO.out HB.out)
         clear HN HO HB T1)
      | (go_at_call 24; refine (KK.out _).mono ?_; rintro e WT1 ⟨rfl, hB⟩
         have T1 := Lib.hid (T0.out.under hB)
         clear hB T0)
      | ((with_reducible show wpList _ _ _ (⟨some 48, .load 42 (.tmp 47), _, _, _, _⟩ :: _) _ _); refine wpList_load_dev (by rfl) 42 _ rfl g 27 (by exact rfl) _ Tryz.underlying42 (Ti.tc (b).t1) (by kernel_rfl) T0.out.q.tb (Ti.tv (b).t1) rfl ?_))
    exact bodyPost_ret (v := bv ({ b with t1 := Ti.writeT b.t1 2 v })) (results_c Tryz.results8 _ _ _ _ _ rfl (run_loadVar_b WZ ra 46 _ Tryz.underlying46 (by kernel_rfl) 46 HZ.out)) rfl ⟨rfl, BZ.out⟩
  by_cases h14 : 12 ≤ r ∧ r ≤ 14
  · have d1 : 0 ≤ r := by omega
    have d2 : ¬ r ≤ 2 := by omega
    have d3 : 3 ≤ r := by omega
    have d4 : ¬ r ≤ 5 := by omega
    have d5 : 6 ≤ r := by omega
    have d6 : ¬ r ≤ 11 := by omega
    obtain ⟨d7, d8⟩ := h14
    rw [show writeB b r v = { b with q := Iq.writeI b.q r v } from (if_neg (by omega)).trans ((if_neg (by omega)).trans ((if_neg (by omega)).trans ((if_neg (by omega)).trans (if_pos ⟨d7, d8⟩))))]
    have KK := Lib.hid (fun W => Iq.rWrite_any b.q r v W h.q h0 h1 h3 h4)
    unfold bv
    go_enter Tryz.func8, Tryz.ntmps8
    go_upto_region 1 with (fail)
    refine name_two (Q := fun X => Code.wp _ _ _ _ X) ?_
    intro W0 hq1 hq2 hB0
    have T0 : Hid (Tw w W0 w.heap.size (w.heap.size + 1) 46 b) := Lib.hid (Tw.new 46 hq1 hq2 hB0)
    clear hq1 hq2 hB0
    obtain ⟨g, hg⟩ : ∃ g, w.heap.size = g := ⟨_, rfl⟩
    obtain ⟨ra, hra⟩ : ∃ r, w.heap.size + 1 = r := ⟨_, rfl⟩
    rw [hra, hg] at T0 ⊢
    clear hra hg
    go_wp2_with (first
      | ((with_reducible show wpList _ _ _ (⟨none, .store 46 (.tmp 6) (.tmp 69), _, _, _, _⟩ :: _) _ _); refine wpList_store_b rfl 46 _ _ rfl ra (by exact rfl) (by exact rfl) (by kernel_rfl) 46 T2.out.z ?_; intro WZ HN HO HB
         have HZ := HN
         have BZ := Lib.hid (T2.out.b.trans (HB.out.mono T2.out.lr))
         clear HN HO HB)
      | ((with_reducible show wpList _ _ _ (⟨some 69, .load 46 (.tmp 3), _, _, _, _⟩ :: _) _ _); refine wpList_load_b (by rfl) 46 _ rfl g (by exact rfl) _ Tryz.underlying46 (by kernel_rfl) 46 T2.out.q ?_)
      | ((with_reducible show wpList _ _ _ (⟨none, .store 44 (.tmp 68) (.tmp 67), _, _, _, _⟩ :: _) _ _); refine wpList_store_dev (d := { b with q := Iq.writeI b.q r v }) rfl 44 _ _ rfl g 30 (by exact rfl) (Iq.icc (Iq.writeI b.q r v)) (by exact rfl) (by kernel_rfl) (Iq.icc_one _) (by simp [Iq.icc]) (bc_iq _) 46 T1.out.q ?_; intro WT2 HN HO HB
         have T2 := Lib.hid (T1.out.setG HN.out HO.out HB.out)
         clear HN HO HB T1)
      | (go_at_call 25; refine (KK.out _).mono ?_; rintro e WT1 ⟨rfl, hB⟩
         have T1 := Lib.hid (T0.out.under hB)
         clear hB T0)
      | ((with_reducible show wpList _ _ _ (⟨some 64, .load 44 (.tmp 63), _, _, _, _⟩ :: _) _ _); refine wpList_load_dev (by rfl) 44 _ rfl g 30 (by exact rfl) _ Tryz.underlying44 (Iq.icc (b).q) (by kernel_rfl) T0.out.q.iq (Iq.cv (b).q) rfl ?_))
    exact bodyPost_ret (v := bv ({ b with q := Iq.writeI b.q r v })) (results_c Tryz.results8 _ _ _ _ _ rfl (run_loadVar_b WZ ra 46 _ Tryz.underlying46 (by kernel_rfl) 46 HZ.out)) rfl ⟨rfl, BZ.out⟩
  by_cases hneg : r < 0
  · have d1 : ¬ 0 ≤ r := by omega
    have d3 : ¬ 3 ≤ r := by omega
    have d5 : ¬ 6 ≤ r := by omega
    have d7 : ¬ 12 ≤ r := by omega
    rw [show writeB b r v = b from (if_neg (by omega)).trans ((if_neg (by omega)).trans ((if_neg (by omega)).trans ((if_neg (by omega)).trans (if_neg (by omega)))))]
    unfold bv
    go_enter Tryz.func8, Tryz.ntmps8
    go_upto_region 1 with (fail)
    refine name_two (Q := fun X => Code.wp _ _ _ _ X) ?_
    intro W0 hq1 hq2 hB0
    have T0 : Hid (Tw w W0 w.heap.size (w.heap.size + 1) 46 b) := Lib.hid (Tw.new 46 hq1 hq2 hB0)
    clear hq1 hq2 hB0
    obtain ⟨g, hg⟩ : ∃ g, w.heap.size = g := ⟨_, rfl⟩
    obtain ⟨ra, hra⟩ : ∃ r, w.heap.size + 1 = r := ⟨_, rfl⟩
    rw [hra, hg] at T0 ⊢
    clear hra hg
    go_wp2_with (first
      | ((with_reducible show wpList _ _ _ (⟨none, .store 46 (.tmp 6) (.tmp 69), _, _, _, _⟩ :: _) _ _); refine wpList_store_b rfl 46 _ _ rfl ra (by exact rfl) (by exact rfl) (by kernel_rfl) 46 T0.out.z ?_; intro WZ HN HO HB
         have HZ := HN
         have BZ := Lib.hid (T0.out.b.trans (HB.out.mono T0.out.lr))
         clear HN HO HB)
      | ((with_reducible show wpList _ _ _ (⟨some 69, .load 46 (.tmp 3), _, _, _, _⟩ :: _) _ _); refine wpList_load_b (by rfl) 46 _ rfl g (by exact rfl) _ Tryz.underlying46 (by kernel_rfl) 46 T0.out.q ?_))
    exact bodyPost_ret (v := bv (b)) (results_c Tryz.results8 _ _ _ _ _ rfl (run_loadVar_b WZ ra 46 _ Tryz.underlying46 (by kernel_rfl) 46 HZ.out)) rfl ⟨rfl, BZ.out⟩
  · have d1 : 0 ≤ r := by omega
    have d2 : ¬ r ≤ 2 := by omega
    have d3 : 3 ≤ r := by omega
    have d4 : ¬ r ≤ 5 := by omega
    have d5 : 6 ≤ r := by omega
    have d6 : ¬ r ≤ 11 := by omega
    have d7 : 12 ≤ r := by omega
    have d8 : ¬ r ≤ 14 := by omega
    rw [show writeB b r v = b from (if_neg (by omega)).trans ((if_neg (by omega)).trans ((if_neg (by omega)).trans ((if_neg (by omega)).trans (if_neg (by omega)))))]
    unfold bv
    go_enter Tryz.func8, Tryz.ntmps8
    go_upto_region 1 with (fail)
    refine name_two (Q := fun X => Code.wp _ _ _ _ X) ?_
    intro W0 hq1 hq2 hB0
    have T0 : Hid (Tw w W0 w.heap.size (w.heap.size + 1) 46 b) := Lib.hid (Tw.new 46 hq1 hq2 hB0)
    clear hq1 hq2 hB0
    obtain ⟨g, hg⟩ : ∃ g, w.heap.size = g := ⟨_, rfl⟩
    obtain ⟨ra, hra⟩ : ∃ r, w.heap.size + 1 = r := ⟨_, rfl⟩
    rw [hra, hg] at T0 ⊢
    clear hra hg
    go_wp2_with (first
      | ((with_reducible show wpList _ _ _ (⟨none, .store 46 (.tmp 6) (.tmp 69), _, _, _, _⟩ :: _) _ _); refine wpList_store_b rfl 46 _ _ rfl ra (by exact rfl) (by exact rfl) (by kernel_rfl) 46 T0.out.z ?_; intro WZ HN HO HB
         have HZ := HN
         have BZ := Lib.hid (T0.out.b.trans (HB.out.mono T0.out.lr))
         clear HN HO HB)
      | ((with_reducible show wpList _ _ _ (⟨some 69, .load 46 (.tmp 3), _, _, _, _⟩ :: _) _ _); refine wpList_load_b (by rfl) 46 _ rfl g (by exact rfl) _ Tryz.underlying46 (by kernel_rfl) 46 T0.out.q ?_))
    exact bodyPost_ret (v := bv (b)) (results_c Tryz.results8 _ _ _ _ _ rfl (run_loadVar_b WZ ra 46 _ Tryz.underlying46 (by kernel_rfl) 46 HZ.out)) rfl ⟨rfl, BZ.out⟩
end Go.Proofs.YtkodoldkfeopdaaGreat
