/-
  The program's Peek, Write by their contracts. Made by wip/gentimerok2.py.
-/
import Derived.Test.YtgibindoblhkeaaOkSmall
namespace Go.Proofs.Ytgibindoblhkeaa
open Go.RowKit
set_option linter.unusedVariables false
set_option maxHeartbeats 400000 in
set_option maxRecDepth 100000 in
theorem peekT_any : PeekC 15 := by
  intro t rg w h hg0 hg1
  have ha := h.a
  have hb := h.b
  have hc := h.c
  unfold tv
  go_enter Try.func15, Try.ntmps15
  go_upto_region 1 with (fail)
  refine name_one (Q := fun X => Code.wp _ _ _ _ X) ?_
  intro W0 hq1 hB0 hz
  have R0 : Hid (TRow W0 w.heap.size 25 t) := Lib.hid hq1
  have B0 : Hid (Below w.heap.size w W0) := Lib.hid hB0
  clear hq1 hB0 hz
  obtain ⟨g, hg⟩ : ∃ g, w.heap.size = g := ⟨_, rfl⟩
  have LG : Hid (w.heap.size ≤ g) := Lib.hid (by omega)
  rw [hg] at R0 ⊢
  clear hg
  have KR := Lib.hid (fun W => register_any g rg W hg0 hg1)
  by_cases h0 : rg = 0
  · subst h0
    have HE : Hid (peekT t 0 = (t.a : Int)) := Lib.hid (if_pos rfl)
    replace KR : Hid (∀ W, Calls Try.prog 20 #[.pointer (some ⟨g, 0, none⟩), .int .i64 0] W fun x w' => x = .returned (.pointer (some ⟨g, 0, none⟩)) ∧ Below W.heap.size W w') := KR
    go_wp2_with (go_at_call 20; refine (KR.out _).mono ?_; rintro e W1 ⟨rfl, hB⟩; have R1 := Lib.hid (R0.out.below hB R0.out.lt); have B1 := Lib.hid (B0.out.trans (hB.mono B0.out.size)); clear hB; have c0 := R1.out.c0; have c1 := R1.out.c1; have c2 := R1.out.c2)
    go_ret
    exact ⟨by rw [HE.out]; rfl, B1.out⟩
  by_cases h1 : rg = 1
  · subst h1
    have HE : Hid (peekT t 1 = (t.b : Int)) := Lib.hid ((if_neg (by decide)).trans (if_pos rfl))
    replace KR : Hid (∀ W, Calls Try.prog 20 #[.pointer (some ⟨g, 0, none⟩), .int .i64 1] W fun x w' => x = .returned (.pointer (some ⟨g, 1, none⟩)) ∧ Below W.heap.size W w') := KR
    go_wp2_with (go_at_call 20; refine (KR.out _).mono ?_; rintro e W1 ⟨rfl, hB⟩; have R1 := Lib.hid (R0.out.below hB R0.out.lt); have B1 := Lib.hid (B0.out.trans (hB.mono B0.out.size)); clear hB; have c0 := R1.out.c0; have c1 := R1.out.c1; have c2 := R1.out.c2)
    go_ret
    exact ⟨by rw [HE.out]; rfl, B1.out⟩
  by_cases h2 : rg = 2
  · subst h2
    have HE : Hid (peekT t 2 = (t.c : Int)) := Lib.hid ((if_neg (by decide)).trans ((if_neg (by decide)).trans (if_pos rfl)))
    replace KR : Hid (∀ W, Calls Try.prog 20 #[.pointer (some ⟨g, 0, none⟩), .int .i64 2] W fun x w' => x = .returned (.pointer (some ⟨g, 2, none⟩)) ∧ Below W.heap.size W w') := KR
    go_wp2_with (go_at_call 20; refine (KR.out _).mono ?_; rintro e W1 ⟨rfl, hB⟩; have R1 := Lib.hid (R0.out.below hB R0.out.lt); have B1 := Lib.hid (B0.out.trans (hB.mono B0.out.size)); clear hB; have c0 := R1.out.c0; have c1 := R1.out.c1; have c2 := R1.out.c2)
    go_ret
    exact ⟨by rw [HE.out]; rfl, B1.out⟩
  · have HE : Hid (peekT t rg = 0) := Lib.hid ((if_neg h0).trans ((if_neg h1).trans (if_neg h2)))
    have KR2 : Hid (∀ W, Calls Try.prog 20 #[.pointer (some ⟨g, 0, none⟩), .int .i64 rg] W fun x w' => x = .returned (.pointer none) ∧ Below W.heap.size W w') := Lib.hid (fun W => by
      have := KR.out W
      unfold regT at this
      rwa [if_neg h0, if_neg h1, if_neg h2] at this)
    clear h0 h1 h2 KR
    go_wp2_with (go_at_call 20; refine (KR2.out _).mono ?_; rintro e W1 ⟨rfl, hB⟩; have R1 := Lib.hid (R0.out.below hB R0.out.lt); have B1 := Lib.hid (B0.out.trans (hB.mono B0.out.size)); clear hB; have c0 := R1.out.c0; have c1 := R1.out.c1; have c2 := R1.out.c2)
    go_ret
    exact ⟨by rw [HE.out]; rfl, B1.out⟩
set_option maxHeartbeats 400000 in
set_option maxRecDepth 100000 in
theorem writeT_any : WriteC 9 := by
  intro t rg v w h hg0 hg1 hv0 hv1
  have HL := Lib.hid (wrapped_eq v)
  have HL2 := Lib.hid (low16_cast v)
  unfold tv
  go_enter Try.func9, Try.ntmps9
  go_upto_region 1 with (fail)
  refine name_two (Q := fun X => Code.wp _ _ _ _ X) ?_
  intro W0 hq1 hq2 hB0
  have T0 := Lib.hid (Tw.new (t := t) 25 hq1 hq2 hB0)
  clear hq1 hq2 hB0
  obtain ⟨g, hg⟩ : ∃ g, w.heap.size = g := ⟨_, rfl⟩
  obtain ⟨r, hr⟩ : ∃ r, w.heap.size + 1 = r := ⟨_, rfl⟩
  rw [hr, hg] at T0 ⊢
  clear hr hg
  have KR := Lib.hid (fun W => register_any g rg W hg0 hg1)
  by_cases h0 : rg = 0
  · subst h0
    have HE : Hid (writeT t 0 v = ⟨low16 v, t.b, t.c⟩) := Lib.hid (if_pos rfl)
    replace KR : Hid (∀ W, Calls Try.prog 20 #[.pointer (some ⟨g, 0, none⟩), .int .i64 0] W fun x w' => x = .returned (.pointer (some ⟨g, 0, none⟩)) ∧ Below W.heap.size W w') := KR
    go_wp2_with (first
      | ((with_reducible show wpList _ _ _ (⟨none, .store 25 (.tmp 6) (.tmp 16), _, _, _, _⟩ :: _) _ _); refine wpList_store_t rfl 25 _ _ rfl r (by exact rfl) (by exact rfl) (by kernel_rfl) 25 T2.out.z ?_; intro WZ HN HO HB; have HZ := HN; have BZ := Lib.hid (T2.out.b.trans (HB.out.mono T2.out.lr)); clear HN HO HB)
      | ((with_reducible show wpList _ _ _ (⟨some 16, .load 25 (.tmp 3), _, _, _, _⟩ :: _) _ _); refine wpList_load_t (by rfl) 25 _ rfl g (by exact rfl) _ Try.underlying25 (by kernel_rfl) 25 T2.out.q ?_)
      | ((with_reducible show wpList _ _ _ (⟨none, .store 22 (.tmp 15) (.tmp 14), _, _, _, _⟩ :: _) _ _); refine wpList_store_c rfl 22 _ _ rfl g 0 (by exact rfl) (.int .u16 ((low16 v : Nat) : Int)) (by first | exact rfl | (rw [← HL.out]; exact rfl) | (rw [HL2.out]; exact rfl)) rfl (by kernel_rfl) 25 _ T1.out.q (show 0 < 3 by decide) ?_; intro WT2 HN HO HB; have T2 : Hid (Tw w WT2 g r 25 ⟨low16 v, t.b, t.c⟩) := Lib.hid (T1.out.setG HN.out HO.out HB.out); clear HN HO HB)
      | (go_at_call 20; refine (KR.out _).mono ?_; rintro e W1 ⟨rfl, hB⟩; have T1 := Lib.hid (T0.out.under hB); clear hB))
    exact bodyPost_ret (v := tv (⟨low16 v, t.b, t.c⟩)) (results_c Try.results9 _ _ _ _ _ rfl (run_loadVar_t WZ r 25 _ Try.underlying25 (by kernel_rfl) 25 HZ.out)) rfl ⟨by first | (rw [HE.out]; done) | (rw [HE.out]; rfl), BZ.out⟩
  by_cases h1 : rg = 1
  · subst h1
    have HE : Hid (writeT t 1 v = ⟨t.a, low16 v, t.c⟩) := Lib.hid ((if_neg (by decide)).trans (if_pos rfl))
    replace KR : Hid (∀ W, Calls Try.prog 20 #[.pointer (some ⟨g, 0, none⟩), .int .i64 1] W fun x w' => x = .returned (.pointer (some ⟨g, 1, none⟩)) ∧ Below W.heap.size W w') := KR
    go_wp2_with (first
      | ((with_reducible show wpList _ _ _ (⟨none, .store 25 (.tmp 6) (.tmp 16), _, _, _, _⟩ :: _) _ _); refine wpList_store_t rfl 25 _ _ rfl r (by exact rfl) (by exact rfl) (by kernel_rfl) 25 T2.out.z ?_; intro WZ HN HO HB; have HZ := HN; have BZ := Lib.hid (T2.out.b.trans (HB.out.mono T2.out.lr)); clear HN HO HB)
      | ((with_reducible show wpList _ _ _ (⟨some 16, .load 25 (.tmp 3), _, _, _, _⟩ :: _) _ _); refine wpList_load_t (by rfl) 25 _ rfl g (by exact rfl) _ Try.underlying25 (by kernel_rfl) 25 T2.out.q ?_)
      | ((with_reducible show wpList _ _ _ (⟨none, .store 22 (.tmp 15) (.tmp 14), _, _, _, _⟩ :: _) _ _); refine wpList_store_c rfl 22 _ _ rfl g 1 (by exact rfl) (.int .u16 ((low16 v : Nat) : Int)) (by first | exact rfl | (rw [← HL.out]; exact rfl) | (rw [HL2.out]; exact rfl)) rfl (by kernel_rfl) 25 _ T1.out.q (show 1 < 3 by decide) ?_; intro WT2 HN HO HB; have T2 : Hid (Tw w WT2 g r 25 ⟨t.a, low16 v, t.c⟩) := Lib.hid (T1.out.setG HN.out HO.out HB.out); clear HN HO HB)
      | (go_at_call 20; refine (KR.out _).mono ?_; rintro e W1 ⟨rfl, hB⟩; have T1 := Lib.hid (T0.out.under hB); clear hB))
    exact bodyPost_ret (v := tv (⟨t.a, low16 v, t.c⟩)) (results_c Try.results9 _ _ _ _ _ rfl (run_loadVar_t WZ r 25 _ Try.underlying25 (by kernel_rfl) 25 HZ.out)) rfl ⟨by first | (rw [HE.out]; done) | (rw [HE.out]; rfl), BZ.out⟩
  by_cases h2 : rg = 2
  · subst h2
    have HE : Hid (writeT t 2 v = ⟨t.a, t.b, low16 v⟩) := Lib.hid ((if_neg (by decide)).trans ((if_neg (by decide)).trans (if_pos rfl)))
    replace KR : Hid (∀ W, Calls Try.prog 20 #[.pointer (some ⟨g, 0, none⟩), .int .i64 2] W fun x w' => x = .returned (.pointer (some ⟨g, 2, none⟩)) ∧ Below W.heap.size W w') := KR
    go_wp2_with (first
      | ((with_reducible show wpList _ _ _ (⟨none, .store 25 (.tmp 6) (.tmp 16), _, _, _, _⟩ :: _) _ _); refine wpList_store_t rfl 25 _ _ rfl r (by exact rfl) (by exact rfl) (by kernel_rfl) 25 T2.out.z ?_; intro WZ HN HO HB; have HZ := HN; have BZ := Lib.hid (T2.out.b.trans (HB.out.mono T2.out.lr)); clear HN HO HB)
      | ((with_reducible show wpList _ _ _ (⟨some 16, .load 25 (.tmp 3), _, _, _, _⟩ :: _) _ _); refine wpList_load_t (by rfl) 25 _ rfl g (by exact rfl) _ Try.underlying25 (by kernel_rfl) 25 T2.out.q ?_)
      | ((with_reducible show wpList _ _ _ (⟨none, .store 22 (.tmp 15) (.tmp 14), _, _, _, _⟩ :: _) _ _); refine wpList_store_c rfl 22 _ _ rfl g 2 (by exact rfl) (.int .u16 ((low16 v : Nat) : Int)) (by first | exact rfl | (rw [← HL.out]; exact rfl) | (rw [HL2.out]; exact rfl)) rfl (by kernel_rfl) 25 _ T1.out.q (show 2 < 3 by decide) ?_; intro WT2 HN HO HB; have T2 : Hid (Tw w WT2 g r 25 ⟨t.a, t.b, low16 v⟩) := Lib.hid (T1.out.setG HN.out HO.out HB.out); clear HN HO HB)
      | (go_at_call 20; refine (KR.out _).mono ?_; rintro e W1 ⟨rfl, hB⟩; have T1 := Lib.hid (T0.out.under hB); clear hB))
    exact bodyPost_ret (v := tv (⟨t.a, t.b, low16 v⟩)) (results_c Try.results9 _ _ _ _ _ rfl (run_loadVar_t WZ r 25 _ Try.underlying25 (by kernel_rfl) 25 HZ.out)) rfl ⟨by first | (rw [HE.out]; done) | (rw [HE.out]; rfl), BZ.out⟩
  · have HE : Hid (writeT t rg v = t) := Lib.hid ((if_neg h0).trans ((if_neg h1).trans (if_neg h2)))
    have KR2 : Hid (∀ W, Calls Try.prog 20 #[.pointer (some ⟨g, 0, none⟩), .int .i64 rg] W fun x w' => x = .returned (.pointer none) ∧ Below W.heap.size W w') := Lib.hid (fun W => by
      have := KR.out W
      unfold regT at this
      rwa [if_neg h0, if_neg h1, if_neg h2] at this)
    clear h0 h1 h2 KR
    go_wp2_with (first
      | ((with_reducible show wpList _ _ _ (⟨none, .store 25 (.tmp 6) (.tmp 16), _, _, _, _⟩ :: _) _ _); refine wpList_store_t rfl 25 _ _ rfl r (by exact rfl) (by exact rfl) (by kernel_rfl) 25 T1.out.z ?_; intro WZ HN HO HB; have HZ := HN; have BZ := Lib.hid (T1.out.b.trans (HB.out.mono T1.out.lr)); clear HN HO HB)
      | ((with_reducible show wpList _ _ _ (⟨some 16, .load 25 (.tmp 3), _, _, _, _⟩ :: _) _ _); refine wpList_load_t (by rfl) 25 _ rfl g (by exact rfl) _ Try.underlying25 (by kernel_rfl) 25 T1.out.q ?_)
      | (go_at_call 20; refine (KR2.out _).mono ?_; rintro e W1 ⟨rfl, hB⟩; have T1 := Lib.hid (T0.out.under hB); clear hB))
    exact bodyPost_ret (v := tv (t)) (results_c Try.results9 _ _ _ _ _ rfl (run_loadVar_t WZ r 25 _ Try.underlying25 (by kernel_rfl) 25 HZ.out)) rfl ⟨by first | (rw [HE.out]; done) | (rw [HE.out]; rfl), BZ.out⟩
end Go.Proofs.Ytgibindoblhkeaa
