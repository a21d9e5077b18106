/-
  Iq: my texts of that device in one, in a namespace of its own. Made by wip/tools/merge.py.
-/
import Derived.Test.YtkodoldkfeopdaaGreatVRow
import Derived.Test.YtkodoldkfeopdaaGreatDIrq
/- OkSmall -/
namespace Go.Proofs.YtkodoldkfeopdaaGreat.Iq
open Go.RowKit
set_option linter.unusedVariables false
set_option maxRecDepth 100000
theorem and_bit (b v : Nat) (hb : b < 256) : (bits .and .u8 ((b : Int) / 2 ^ v) 1 == 1) = b.testBit v := by
  have h1 : ((b : Int) / 2 ^ v) = ((b / 2 ^ v : Nat) : Int) := by simp
  have h2 : b / 2 ^ v < 256 := Nat.lt_of_le_of_lt (Nat.div_le_self _ _) hb
  rw [h1, Nat.testBit_eq_decide_div_mod_eq]
  generalize b / 2 ^ v = x at *
  rw [show (1 : Int) = ((1 : Nat) : Int) from rfl, u8_and_nat x 1 h2 (by decide), Nat.and_one_is_mod, Bool.eq_iff_iff]
  simp only [beq_iff_eq, decide_eq_true_eq]
  omega
set_option maxRecDepth 100000 in
theorem request_any : RequestC 50 := by
  intro c b w h hb
  have HO := Lib.hid (u8_or_nat c.p b h.p hb)
  unfold cv
  go_enter Tryz.func50, Tryz.ntmps50
  go_upto_region 1 with (fail)
  refine name_two (Q := fun X => Code.wp _ _ _ _ X) ?_
  intro W0 hq1 hq2 hB0
  have T0 := Lib.hid (Tw.new 35 hq1 hq2 hB0)
  clear hq1 hq2 hB0
  obtain ⟨g, hg⟩ : ∃ g, w.heap.size = g := ⟨_, rfl⟩
  obtain ⟨r, hr⟩ : ∃ r, w.heap.size + 1 = r := ⟨_, rfl⟩
  rw [hr, hg] at T0 ⊢
  clear hr hg
  have z1 := T0.out.q.c1
  go_wp2_with (first
    | ((with_reducible show wpList _ _ _ (⟨none, .store 35 (.tmp 4) (.tmp 10), _, _, _, _⟩ :: _) _ _); refine wpList_store_c2 rfl 35 _ _ rfl r (by exact rfl) (by exact rfl) (by kernel_rfl) 35 T1.out.z ?_; intro WZ HN HO HB; have HZ := HN; have BZ := Lib.hid (T1.out.b.trans (HB.out.mono T1.out.lr)); clear HN HO HB)
    | ((with_reducible show wpList _ _ _ (⟨some 10, .load 35 (.tmp 2), _, _, _, _⟩ :: _) _ _); refine wpList_load_c (by rfl) 35 _ rfl g (by exact rfl) _ Tryz.underlying35 (by kernel_rfl) 35 T1.out.q ?_)
    | ((with_reducible show wpList _ _ _ (⟨none, .store 5 (.tmp 9) (.tmp 8), _, _, _, _⟩ :: _) _ _); refine wpList_store_c rfl 5 _ _ rfl g 1 (by exact rfl) (.int .u8 (((c.p ||| b : Nat) : Int))) (by rw [← HO.out]; exact rfl) rfl (by kernel_rfl) 35 _ T0.out.q (show 1 < 2 by decide) ?_; intro WT1 HN HO HB; have T1 : Hid (Tw w WT1 g r 35 (requestI c b)) := Lib.hid (T0.out.setG HN.out HO.out HB.out); clear HN HO HB T0))
  exact bodyPost_ret (v := cv (requestI c b)) (results_c Tryz.results50 _ _ _ _ _ rfl (run_loadVar_c WZ r 35 _ Tryz.underlying35 (by kernel_rfl) 35 HZ.out)) rfl ⟨rfl, BZ.out⟩
set_option maxRecDepth 100000 in
theorem peek_any : PeekC 76 := by
  intro c r w h h0 h1
  have hwm : wrap32 (c.m : Int) = (c.m : Int) := by have := h.m; unfold wrap32; omega
  have hwp : wrap32 (c.p : Int) = (c.p : Int) := by have := h.p; unfold wrap32; omega
  have HM := Lib.hid hwm
  have HP := Lib.hid hwp
  clear hwm hwp
  unfold cv
  by_cases e0 : r = 12
  · subst e0
    rw [show peekI c 12 = (c.m : Int) from if_pos rfl]
    go_enter Tryz.func76, Tryz.ntmps76
    go_upto_region 1 with (fail)
    refine name_one (Q := fun X => Code.wp _ _ _ _ X) ?_
    intro W0 hq1 hB0 hz
    have T0 : CRow W0 w.heap.size 35 c := hq1
    have z0 := T0.c0
    go_wp2
    go_ret
    exact ⟨by rw [HM.out]; rfl, hB0⟩
  by_cases e1 : r = 13
  · subst e1
    rw [show peekI c 13 = (c.p : Int) from (if_neg (by decide)).trans (if_pos rfl)]
    go_enter Tryz.func76, Tryz.ntmps76
    go_upto_region 1 with (fail)
    refine name_one (Q := fun X => Code.wp _ _ _ _ X) ?_
    intro W0 hq1 hB0 hz
    have T0 : CRow W0 w.heap.size 35 c := hq1
    have z1 := T0.c1
    go_wp2
    go_ret
    exact ⟨by rw [HP.out]; rfl, hB0⟩
  · rw [show peekI c r = 0 from (if_neg e0).trans (if_neg e1)]
    go_enter Tryz.func76, Tryz.ntmps76
    go_upto_region 1 with (fail)
    refine name_one (Q := fun X => Code.wp _ _ _ _ X) ?_
    intro W0 hq1 hB0 hz
    have T0 : CRow W0 w.heap.size 35 c := hq1
    go_wp2
    go_ret
    exact ⟨rfl, hB0⟩
set_option maxRecDepth 100000 in
theorem write_any : WriteC 118 := by
  intro c reg v w h h0 h1 h2 h3
  have hl := lowN_lt v
  have HQ := Lib.hid (fun W => request_any c (lowN v) W h hl)
  have HN := Lib.hid (u8_andNot_nat c.p (lowN v) h.p hl)
  have HW : Hid (v % 256 = ((lowN v : Nat) : Int)) := Lib.hid (lowN_cast v).symm
  by_cases e0 : reg = 12
  · subst e0
    rw [show writeI c 12 v = ⟨lowN v, c.p⟩ from if_pos rfl]
    unfold cv
    go_enter Tryz.func118, Tryz.ntmps118
    go_upto_region 1 with (fail)
    refine name_two (Q := fun X => Code.wp _ _ _ _ X) ?_
    intro W0 hq1 hq2 hB0
    have T0 := Lib.hid (Tw.new 35 hq1 hq2 hB0)
    clear hq1 hq2 hB0
    obtain ⟨g, hg⟩ : ∃ g, w.heap.size = g := ⟨_, rfl⟩
    obtain ⟨r, hr⟩ : ∃ r, w.heap.size + 1 = r := ⟨_, rfl⟩
    rw [hr, hg] at T0 ⊢
    clear hr hg
    have z0 := T0.out.q.c0
    have z1 := T0.out.q.c1
    go_wp2_with (first
      | ((with_reducible show wpList _ _ _ (⟨none, .store 35 (.tmp 6) (.tmp 27), _, _, _, _⟩ :: _) _ _); refine wpList_store_c2 rfl 35 _ _ rfl r (by exact rfl) (by exact rfl) (by kernel_rfl) 35 T1.out.z ?_; intro WZ HN HO HB; have HZ := HN; have BZ := Lib.hid (T1.out.b.trans (HB.out.mono T1.out.lr)); clear HN HO HB)
      | ((with_reducible show wpList _ _ _ (⟨some 27, .load 35 (.tmp 3), _, _, _, _⟩ :: _) _ _); refine wpList_load_c (by rfl) 35 _ rfl g (by exact rfl) _ Tryz.underlying35 (by kernel_rfl) 35 T1.out.q ?_)
      | ((with_reducible show wpList _ _ _ (⟨none, .store 5 (.tmp 14) (.tmp 13), _, _, _, _⟩ :: _) _ _); refine wpList_store_c rfl 5 _ _ rfl g 0 (by exact rfl) (.int .u8 (((lowN v : Nat) : Int))) (by rw [← HW.out]; exact rfl) rfl (by kernel_rfl) 35 _ T0.out.q (show 0 < 2 by decide) ?_; intro WT1 HN HO HB; have T1 : Hid (Tw w WT1 g r 35 (⟨lowN v, c.p⟩)) := Lib.hid (T0.out.setG HN.out HO.out HB.out); clear HN HO HB T0))
    exact bodyPost_ret (v := cv (⟨lowN v, c.p⟩)) (results_c Tryz.results118 _ _ _ _ _ rfl (run_loadVar_c WZ r 35 _ Tryz.underlying35 (by kernel_rfl) 35 HZ.out)) rfl ⟨rfl, BZ.out⟩
  by_cases e1 : reg = 13
  · subst e1
    rw [show writeI c 13 v = requestI c (lowN v) from (if_neg (by decide)).trans (if_pos rfl)]
    unfold cv
    go_enter Tryz.func118, Tryz.ntmps118
    go_upto_region 1 with (fail)
    refine name_two (Q := fun X => Code.wp _ _ _ _ X) ?_
    intro W0 hq1 hq2 hB0
    have T0 := Lib.hid (Tw.new 35 hq1 hq2 hB0)
    clear hq1 hq2 hB0
    obtain ⟨g, hg⟩ : ∃ g, w.heap.size = g := ⟨_, rfl⟩
    obtain ⟨r, hr⟩ : ∃ r, w.heap.size + 1 = r := ⟨_, rfl⟩
    rw [hr, hg] at T0 ⊢
    clear hr hg
    have z0 := T0.out.q.c0
    have z1 := T0.out.q.c1
    go_wp2_with (first
      | ((with_reducible show wpList _ _ _ (⟨none, .store 35 (.tmp 6) (.tmp 19), _, _, _, _⟩ :: _) _ _); refine wpList_store_c2 rfl 35 _ _ rfl r (by exact rfl) (by exact rfl) (by kernel_rfl) 35 T1.out.z ?_; intro WZ HN HO HB; have HZ := HN; have BZ := Lib.hid (T1.out.b.trans (HB.out.mono T1.out.lr)); clear HN HO HB)
      | (go_at_call 50; rw [HW.out]; refine (HQ.out _).mono ?_; rintro e WT1 ⟨rfl, hB⟩; have T1 := Lib.hid (T0.out.under hB); clear hB T0)
      | ((with_reducible show wpList _ _ _ (⟨some 17, .load 35 (.tmp 3), _, _, _, _⟩ :: _) _ _); refine wpList_load_c (by rfl) 35 _ rfl g (by exact rfl) _ Tryz.underlying35 (by kernel_rfl) 35 T0.out.q ?_))
    exact bodyPost_ret (v := cv (requestI c (lowN v))) (results_c Tryz.results118 _ _ _ _ _ rfl (run_loadVar_c WZ r 35 _ Tryz.underlying35 (by kernel_rfl) 35 HZ.out)) rfl ⟨rfl, BZ.out⟩
  by_cases e2 : reg = 14
  · subst e2
    rw [show writeI c 14 v = clearI c (lowN v) from (if_neg (by decide)).trans ((if_neg (by decide)).trans (if_pos rfl))]
    unfold cv
    go_enter Tryz.func118, Tryz.ntmps118
    go_upto_region 1 with (fail)
    refine name_two (Q := fun X => Code.wp _ _ _ _ X) ?_
    intro W0 hq1 hq2 hB0
    have T0 := Lib.hid (Tw.new 35 hq1 hq2 hB0)
    clear hq1 hq2 hB0
    obtain ⟨g, hg⟩ : ∃ g, w.heap.size = g := ⟨_, rfl⟩
    obtain ⟨r, hr⟩ : ∃ r, w.heap.size + 1 = r := ⟨_, rfl⟩
    rw [hr, hg] at T0 ⊢
    clear hr hg
    have z0 := T0.out.q.c0
    have z1 := T0.out.q.c1
    go_wp2_with (first
      | ((with_reducible show wpList _ _ _ (⟨none, .store 35 (.tmp 6) (.tmp 27), _, _, _, _⟩ :: _) _ _); refine wpList_store_c2 rfl 35 _ _ rfl r (by exact rfl) (by exact rfl) (by kernel_rfl) 35 T1.out.z ?_; intro WZ HN HO HB; have HZ := HN; have BZ := Lib.hid (T1.out.b.trans (HB.out.mono T1.out.lr)); clear HN HO HB)
      | ((with_reducible show wpList _ _ _ (⟨some 27, .load 35 (.tmp 3), _, _, _, _⟩ :: _) _ _); refine wpList_load_c (by rfl) 35 _ rfl g (by exact rfl) _ Tryz.underlying35 (by kernel_rfl) 35 T1.out.q ?_)
      | ((with_reducible show wpList _ _ _ (⟨none, .store 5 (.tmp 26) (.tmp 25), _, _, _, _⟩ :: _) _ _); refine wpList_store_c rfl 5 _ _ rfl g 1 (by exact rfl) (.int .u8 (((c.p &&& (255 - lowN v) : Nat) : Int))) (by rw [← HN.out, ← HW.out]; exact rfl) rfl (by kernel_rfl) 35 _ T0.out.q (show 1 < 2 by decide) ?_; intro WT1 HN HO HB; have T1 : Hid (Tw w WT1 g r 35 (clearI c (lowN v))) := Lib.hid (T0.out.setG HN.out HO.out HB.out); clear HN HO HB T0))
    exact bodyPost_ret (v := cv (clearI c (lowN v))) (results_c Tryz.results118 _ _ _ _ _ rfl (run_loadVar_c WZ r 35 _ Tryz.underlying35 (by kernel_rfl) 35 HZ.out)) rfl ⟨rfl, BZ.out⟩
  · rw [show writeI c reg v = c from (if_neg e0).trans ((if_neg e1).trans (if_neg e2))]
    unfold cv
    go_enter Tryz.func118, Tryz.ntmps118
    go_upto_region 1 with (fail)
    refine name_two (Q := fun X => Code.wp _ _ _ _ X) ?_
    intro W0 hq1 hq2 hB0
    have T0 := Lib.hid (Tw.new 35 hq1 hq2 hB0)
    clear hq1 hq2 hB0
    obtain ⟨g, hg⟩ : ∃ g, w.heap.size = g := ⟨_, rfl⟩
    obtain ⟨r, hr⟩ : ∃ r, w.heap.size + 1 = r := ⟨_, rfl⟩
    rw [hr, hg] at T0 ⊢
    clear hr hg
    go_wp2_with (first
      | ((with_reducible show wpList _ _ _ (⟨none, .store 35 (.tmp 6) (.tmp 27), _, _, _, _⟩ :: _) _ _); refine wpList_store_c2 rfl 35 _ _ rfl r (by exact rfl) (by exact rfl) (by kernel_rfl) 35 T0.out.z ?_; intro WZ HN HO HB; have HZ := HN; have BZ := Lib.hid (T0.out.b.trans (HB.out.mono T0.out.lr)); clear HN HO HB)
      | ((with_reducible show wpList _ _ _ (⟨some 27, .load 35 (.tmp 3), _, _, _, _⟩ :: _) _ _); refine wpList_load_c (by rfl) 35 _ rfl g (by exact rfl) _ Tryz.underlying35 (by kernel_rfl) 35 T0.out.q ?_))
    exact bodyPost_ret (v := cv (c)) (results_c Tryz.results118 _ _ _ _ _ rfl (run_loadVar_c WZ r 35 _ Tryz.underlying35 (by kernel_rfl) 35 HZ.out)) rfl ⟨rfl, BZ.out⟩
end Go.Proofs.YtkodoldkfeopdaaGreat.Iq
