/-
  The document's Peek, Write by their contracts. Made by wip/gentimerref.py.
-/
import Derived.Test.YtgibindoblhkeaaRlow
namespace Go.Proofs.Ytgibindoblhkeaa
open Go.RowKit
set_option linter.unusedVariables false
set_option maxRecDepth 100000 in
theorem rPeekT_any : PeekC 16 := by
  intro t rg w h hg0 hg1
  have ha := h.a
  have hb := h.b
  have hc := h.c
  unfold tv
  by_cases h0 : rg = 0
  · subst h0
    have HE : Hid (peekT t 0 = (t.a : Int)) := Lib.hid (if_pos rfl)
    go_enter Try.func16, Try.ntmps16
    go_wp2
    go_ret
    exact ⟨by rw [HE.out]; rfl, (Below.refl _ _).alloc (Nat.le_refl _) _⟩
  by_cases h1 : rg = 1
  · subst h1
    have HE : Hid (peekT t 1 = (t.b : Int)) := Lib.hid ((if_neg (by decide)).trans (if_pos rfl))
    go_enter Try.func16, Try.ntmps16
    go_wp2
    go_ret
    exact ⟨by rw [HE.out]; rfl, (Below.refl _ _).alloc (Nat.le_refl _) _⟩
  by_cases h2 : rg = 2
  · subst h2
    have HE : Hid (peekT t 2 = (t.c : Int)) := Lib.hid ((if_neg (by decide)).trans ((if_neg (by decide)).trans (if_pos rfl)))
    go_enter Try.func16, Try.ntmps16
    go_wp2
    go_ret
    exact ⟨by rw [HE.out]; rfl, (Below.refl _ _).alloc (Nat.le_refl _) _⟩
  · have HE : Hid (peekT t rg = 0) := Lib.hid ((if_neg h0).trans ((if_neg h1).trans (if_neg h2)))
    go_enter Try.func16, Try.ntmps16
    go_wp2
    go_ret
    exact ⟨by rw [HE.out]; rfl, (Below.refl _ _).alloc (Nat.le_refl _) _⟩
set_option maxHeartbeats 400000 in
set_option maxRecDepth 100000 in
theorem rWriteT_any : WriteC 10 := by
  intro t rg v w h hg0 hg1 hv0 hv1
  have HL := Lib.hid (fun W => rLow_any v W hv0 hv1)
  unfold tv
  go_enter Try.func10, Try.ntmps10
  go_upto_region 1 with (fail)
  refine name_two (Q := fun X => Code.wp _ _ _ _ X) ?_
  intro W0 hq1 hq2 hB0
  have T0 := Lib.hid (Tw.new (t := t) 26 hq1 hq2 hB0)
  clear hq1 hq2 hB0
  obtain ⟨g, hg⟩ : ∃ g, w.heap.size = g := ⟨_, rfl⟩
  obtain ⟨r, hr⟩ : ∃ r, w.heap.size + 1 = r := ⟨_, rfl⟩
  rw [hr, hg] at T0 ⊢
  clear hr hg
  by_cases h0 : rg = 0
  · subst h0
    have HE : Hid (writeT t 0 v = ⟨low16 v, t.b, t.c⟩) := Lib.hid (if_pos rfl)
    go_wp2_with (first
      | ((with_reducible show wpList _ _ _ (⟨none, .store 26 (.tmp 6) (.tmp 23), _, _, _, _⟩ :: _) _ _); refine wpList_store_t rfl 26 _ _ rfl r (by exact rfl) (by exact rfl) (by kernel_rfl) 26 T1.out.z ?_; intro WZ HN HO HB
         have HZ := HN
         have BZ := Lib.hid (T1.out.b.trans (HB.out.mono T1.out.lr))
         clear HN HO HB)
      | ((with_reducible show wpList _ _ _ (⟨some 23, .load 26 (.tmp 3), _, _, _, _⟩ :: _) _ _); refine wpList_load_t (by rfl) 26 _ rfl g (by exact rfl) _ Try.underlying26 (by kernel_rfl) 26 T1.out.q ?_)
      | ((with_reducible show wpList _ _ _ (⟨none, .store 22 (.tmp 12) (.tmp 11), _, _, _, _⟩ :: _) _ _); refine wpList_store_c rfl 22 _ _ rfl g 0 (by exact rfl) (.int .u16 ((low16 v : Nat) : Int)) (by exact rfl) rfl (by kernel_rfl) 26 _ T0.out.q (show 0 < 3 by decide) ?_; intro WT1 HN HO HB
         have T1 : Hid (Tw w WT1 g r 26 ⟨low16 v, t.b, t.c⟩) := Lib.hid (T0.out.setG HN.out HO.out HB.out)
         clear HN HO HB)
      | (go_at_call 21; refine (HL.out _).mono ?_; rintro e W9 ⟨rfl, rfl⟩))
    exact bodyPost_ret (v := tv (⟨low16 v, t.b, t.c⟩)) (results_c Try.results10 _ _ _ _ _ rfl (run_loadVar_t WZ r 26 _ Try.underlying26 (by kernel_rfl) 26 HZ.out)) rfl ⟨by first | (rw [HE.out]; done) | (rw [HE.out]; rfl), BZ.out⟩
  by_cases h1 : rg = 1
  · subst h1
    have HE : Hid (writeT t 1 v = ⟨t.a, low16 v, t.c⟩) := Lib.hid ((if_neg (by decide)).trans (if_pos rfl))
    go_wp2_with (first
      | ((with_reducible show wpList _ _ _ (⟨none, .store 26 (.tmp 6) (.tmp 23), _, _, _, _⟩ :: _) _ _); refine wpList_store_t rfl 26 _ _ rfl r (by exact rfl) (by exact rfl) (by kernel_rfl) 26 T1.out.z ?_; intro WZ HN HO HB
         have HZ := HN
         have BZ := Lib.hid (T1.out.b.trans (HB.out.mono T1.out.lr))
         clear HN HO HB)
      | ((with_reducible show wpList _ _ _ (⟨some 23, .load 26 (.tmp 3), _, _, _, _⟩ :: _) _ _); refine wpList_load_t (by rfl) 26 _ rfl g (by exact rfl) _ Try.underlying26 (by kernel_rfl) 26 T1.out.q ?_)
      | ((with_reducible show wpList _ _ _ (⟨none, .store 22 (.tmp 17) (.tmp 16), _, _, _, _⟩ :: _) _ _); refine wpList_store_c rfl 22 _ _ rfl g 1 (by exact rfl) (.int .u16 ((low16 v : Nat) : Int)) (by exact rfl) rfl (by kernel_rfl) 26 _ T0.out.q (show 1 < 3 by decide) ?_; intro WT1 HN HO HB
         have T1 : Hid (Tw w WT1 g r 26 ⟨t.a, low16 v, t.c⟩) := Lib.hid (T0.out.setG HN.out HO.out HB.out)
         clear HN HO HB)
      | (go_at_call 21; refine (HL.out _).mono ?_; rintro e W9 ⟨rfl, rfl⟩))
    exact bodyPost_ret (v := tv (⟨t.a, low16 v, t.c⟩)) (results_c Try.results10 _ _ _ _ _ rfl (run_loadVar_t WZ r 26 _ Try.underlying26 (by kernel_rfl) 26 HZ.out)) rfl ⟨by first | (rw [HE.out]; done) | (rw [HE.out]; rfl), BZ.out⟩
  by_cases h2 : rg = 2
  · subst h2
    have HE : Hid (writeT t 2 v = ⟨t.a, t.b, low16 v⟩) := Lib.hid ((if_neg (by decide)).trans ((if_neg (by decide)).trans (if_pos rfl)))
    go_wp2_with (first
      | ((with_reducible show wpList _ _ _ (⟨none, .store 26 (.tmp 6) (.tmp 23), _, _, _, _⟩ :: _) _ _); refine wpList_store_t rfl 26 _ _ rfl r (by exact rfl) (by exact rfl) (by kernel_rfl) 26 T1.out.z ?_; intro WZ HN HO HB
         have HZ := HN
         have BZ := Lib.hid (T1.out.b.trans (HB.out.mono T1.out.lr))
         clear HN HO HB)
      | ((with_reducible show wpList _ _ _ (⟨some 23, .load 26 (.tmp 3), _, _, _, _⟩ :: _) _ _); refine wpList_load_t (by rfl) 26 _ rfl g (by exact rfl) _ Try.underlying26 (by kernel_rfl) 26 T1.out.q ?_)
      | ((with_reducible show wpList _ _ _ (⟨none, .store 22 (.tmp 22) (.tmp 21), _, _, _, _⟩ :: _) _ _); refine wpList_store_c rfl 22 _ _ rfl g 2 (by exact rfl) (.int .u16 ((low16 v : Nat) : Int)) (by exact rfl) rfl (by kernel_rfl) 26 _ T0.out.q (show 2 < 3 by decide) ?_; intro WT1 HN HO HB
         have T1 : Hid (Tw w WT1 g r 26 ⟨t.a, t.b, low16 v⟩) := Lib.hid (T0.out.setG HN.out HO.out HB.out)
         clear HN HO HB)
      | (go_at_call 21; refine (HL.out _).mono ?_; rintro e W9 ⟨rfl, rfl⟩))
    exact bodyPost_ret (v := tv (⟨t.a, t.b, low16 v⟩)) (results_c Try.results10 _ _ _ _ _ rfl (run_loadVar_t WZ r 26 _ Try.underlying26 (by kernel_rfl) 26 HZ.out)) rfl ⟨by first | (rw [HE.out]; done) | (rw [HE.out]; rfl), BZ.out⟩
  · have HE : Hid (writeT t rg v = t) := Lib.hid ((if_neg h0).trans ((if_neg h1).trans (if_neg h2)))
    go_wp2_with (first
      | ((with_reducible show wpList _ _ _ (⟨none, .store 26 (.tmp 6) (.tmp 23), _, _, _, _⟩ :: _) _ _); refine wpList_store_t rfl 26 _ _ rfl r (by exact rfl) (by exact rfl) (by kernel_rfl) 26 T0.out.z ?_; intro WZ HN HO HB
         have HZ := HN
         have BZ := Lib.hid (T0.out.b.trans (HB.out.mono T0.out.lr))
         clear HN HO HB)
      | ((with_reducible show wpList _ _ _ (⟨some 23, .load 26 (.tmp 3), _, _, _, _⟩ :: _) _ _); refine wpList_load_t (by rfl) 26 _ rfl g (by exact rfl) _ Try.underlying26 (by kernel_rfl) 26 T0.out.q ?_))
    exact bodyPost_ret (v := tv (t)) (results_c Try.results10 _ _ _ _ _ rfl (run_loadVar_t WZ r 26 _ Try.underlying26 (by kernel_rfl) 26 HZ.out)) rfl ⟨by first | (rw [HE.out]; done) | (rw [HE.out]; rfl), BZ.out⟩
end Go.Proofs.Ytgibindoblhkeaa
