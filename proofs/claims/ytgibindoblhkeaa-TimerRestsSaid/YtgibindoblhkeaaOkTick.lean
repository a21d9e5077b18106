/-
  The program's Tick, Next by their contracts. Made by wip/gentimerok2.py.
-/
import Derived.Test.YtgibindoblhkeaaOkSmall
namespace Go.Proofs.Ytgibindoblhkeaa
open Go.RowKit
set_option linter.unusedVariables false
theorem low_inc (a : Nat) : low16 ((a : Int) + 1) = (a + 1) % 65536 := by unfold low16; omega
set_option maxHeartbeats 1000000 in
set_option maxRecDepth 100000 in
theorem tickT_any : TickC 11 := by
  intro t w h
  have ha := h.a
  have hb := h.b
  have hc := h.c
  have KR := Lib.hid (fun W => runs_any t W h)
  have KW := Lib.hid (fun W => wrapped_any ((t.a : Int) + 1) W (by omega) (by omega))
  rw [low_inc] at KW
  unfold tv at KR
  unfold tv
  go_enter Try.func11, Try.ntmps11
  go_upto_region 1 with (fail)
  refine name_two (Q := fun X => Code.wp _ _ _ _ X) ?_
  intro W0 hq1 hq2 hB0
  have T0 := Lib.hid (Tw.new (t := t) 25 hq1 hq2 hB0)
  clear hq1 hq2 hB0
  obtain ⟨g, hg⟩ : ∃ g, w.heap.size = g := ⟨_, rfl⟩
  obtain ⟨r, hr⟩ : ∃ r, w.heap.size + 1 = r := ⟨_, rfl⟩
  rw [hr, hg] at T0 ⊢
  clear hr hg
  by_cases hr : t.c % 2 = 0
  · have HE : Hid (tickT t = t) := Lib.hid (if_pos hr)
    have HA : Hid (asksT t = false) := Lib.hid (by unfold asksT; rw [decide_eq_false (by omega)]; rfl)
    rw [decide_eq_false (show ¬ t.c % 2 = 1 by omega)] at KR
    clear hr KW
    go_wp2_with (first
      | ((with_reducible show wpList _ _ _ (⟨none, .store 25 (.tmp 2) (.tmp 7), _, _, _, _⟩ :: _) _ _); refine wpList_store_t rfl 25 _ _ rfl r (by exact rfl) (by exact rfl) (by kernel_rfl) 25 T1.out.z ?_; intro WZ HN HO HB; have HZ := HN; have BZ := Lib.hid (T1.out.b.trans (HB.out.mono T1.out.lr)); clear HN HO HB)
      | (go_at_call 18; refine (KR.out _).mono ?_; rintro e WA ⟨rfl, hB⟩; have T1 := Lib.hid (T0.out.under hB); have c0 := T1.out.q.c0; clear hB)
      | ((with_reducible show wpList _ _ _ (⟨some 4, .load 25 (.tmp 1), _, _, _, _⟩ :: _) _ _); refine wpList_load_t (by rfl) 25 _ rfl g (by exact rfl) _ Try.underlying25 (by kernel_rfl) 25 T0.out.q ?_)
      | ((with_reducible show wpList _ _ _ (⟨some 7, .load 25 (.tmp 1), _, _, _, _⟩ :: _) _ _); refine wpList_load_t (by rfl) 25 _ rfl g (by exact rfl) _ Try.underlying25 (by kernel_rfl) 25 T1.out.q ?_))
    exact bodyPost_ret (v := .tuple #[tv (t), .bool false]) (results_ct Try.results11 _ _ _ _ _ _ rfl (run_loadVar_t WZ r 25 _ Try.underlying25 (by kernel_rfl) 25 HZ.out) rfl) rfl ⟨by first | (rw [HE.out, HA.out]; done) | (rw [HE.out, HA.out]; rfl), BZ.out⟩
  rw [decide_eq_true (show t.c % 2 = 1 by omega)] at KR
  have d1 : t.c % 2 = 1 := by omega
  obtain ⟨n, hn⟩ : ∃ n, (t.a + 1) % 65536 = n := ⟨_, rfl⟩
  rw [hn] at KW
  by_cases hq : n = t.b
  · have hne : ((n : Int) != (t.b : Int)) = false := by simp [hq]
    have HA : Hid (asksT t = true) := Lib.hid (by unfold asksT; rw [decide_eq_true (by omega), decide_eq_true (by omega)]; rfl)
    by_cases hag : t.c / 2 % 2 = 0
    · have HE : Hid (tickT t = ⟨0, t.b, t.c - 1⟩) := Lib.hid ((if_neg hr).trans ((if_pos (hn.trans hq)).trans (by rw [if_pos hag])))
      have d2 : bits .and .u16 (t.c : Int) 2 = 0 := by rw [u16_and2 _ hc, if_neg (by omega)]
      have HC : Hid (bits .andNot .u16 (t.c : Int) 1 = ((t.c - 1 : Nat) : Int)) := Lib.hid (by rw [u16_andNot1 _ hc, d1])
      clear hag hq hr hn d1
      go_wp2_with (first
        | ((with_reducible show wpList _ _ _ (⟨none, .store 25 (.tmp 2) (.tmp 29), _, _, _, _⟩ :: _) _ _); refine wpList_store_t rfl 25 _ _ rfl r (by exact rfl) (by exact rfl) (by kernel_rfl) 25 T4.out.z ?_; intro WZ HN HO HB; have HZ := HN; have BZ := Lib.hid (T4.out.b.trans (HB.out.mono T4.out.lr)); clear HN HO HB)
        | ((with_reducible show wpList _ _ _ (⟨some 29, .load 25 (.tmp 1), _, _, _, _⟩ :: _) _ _); refine wpList_load_t (by rfl) 25 _ rfl g (by exact rfl) _ Try.underlying25 (by kernel_rfl) 25 T4.out.q ?_)
        | ((with_reducible show wpList _ _ _ (⟨none, .store 22 (.tmp 28) (.tmp 27), _, _, _, _⟩ :: _) _ _); refine wpList_store_c rfl 22 _ _ rfl g 2 (by exact rfl) (.int .u16 ((t.c - 1 : Nat) : Int)) (by first | exact rfl | (rw [← HC.out]; exact rfl)) rfl (by kernel_rfl) 25 _ T3.out.q (show 2 < 3 by decide) ?_; intro WT4 HN HO HB; have T4 : Hid (Tw w WT4 g r 25 ⟨0, t.b, t.c - 1⟩) := Lib.hid (T3.out.setG HN.out HO.out HB.out); clear HN HO HB)
        | ((with_reducible show wpList _ _ _ (⟨none, .store 22 (.tmp 20) _, _, _, _, _⟩ :: _) _ _); refine wpList_store_c rfl 22 _ _ rfl g 0 (by exact rfl) (.int .u16 ((0 : Nat) : Int)) (by exact rfl) rfl (by kernel_rfl) 25 _ T2.out.q (show 0 < 3 by decide) ?_; intro WT3 HN HO HB; have T3 : Hid (Tw w WT3 g r 25 ⟨0, t.b, t.c⟩) := Lib.hid (T2.out.setG HN.out HO.out HB.out); clear HN HO HB; have e2 := T3.out.q.c2)
        | ((with_reducible show wpList _ _ _ (⟨none, .store 22 (.tmp 13) (.tmp 12), _, _, _, _⟩ :: _) _ _); refine wpList_store_c rfl 22 _ _ rfl g 0 (by exact rfl) (.int .u16 (n : Int)) (by exact rfl) rfl (by kernel_rfl) 25 _ T1.out.q (show 0 < 3 by decide) ?_; intro WT2 HN HO HB; have T2 : Hid (Tw w WT2 g r 25 ⟨n, t.b, t.c⟩) := Lib.hid (T1.out.setG HN.out HO.out HB.out); clear HN HO HB; have e0 := T2.out.q.c0; have e1 := T2.out.q.c1)
        | (go_at_call 19; refine (KW.out _).mono ?_; rintro e WB ⟨rfl, rfl⟩)
        | (go_at_call 18; refine (KR.out _).mono ?_; rintro e WA ⟨rfl, hB⟩; have T1 := Lib.hid (T0.out.under hB); have c0 := T1.out.q.c0; clear hB)
        | ((with_reducible show wpList _ _ _ (⟨some 4, .load 25 (.tmp 1), _, _, _, _⟩ :: _) _ _); refine wpList_load_t (by rfl) 25 _ rfl g (by exact rfl) _ Try.underlying25 (by kernel_rfl) 25 T0.out.q ?_))
      exact bodyPost_ret (v := .tuple #[tv (⟨0, t.b, t.c - 1⟩), .bool true]) (results_ct Try.results11 _ _ _ _ _ _ rfl (run_loadVar_t WZ r 25 _ Try.underlying25 (by kernel_rfl) 25 HZ.out) rfl) rfl ⟨by first | (rw [HE.out, HA.out]; done) | (rw [HE.out, HA.out]; rfl), BZ.out⟩
    · have HE : Hid (tickT t = ⟨0, t.b, t.c⟩) := Lib.hid ((if_neg hr).trans ((if_pos (hn.trans hq)).trans (by rw [if_neg hag])))
      have d2 : bits .and .u16 (t.c : Int) 2 = 2 := by rw [u16_and2 _ hc, if_pos (by omega)]
      clear hag hq hr hn d1
      go_wp2_with (first
        | ((with_reducible show wpList _ _ _ (⟨none, .store 25 (.tmp 2) (.tmp 29), _, _, _, _⟩ :: _) _ _); refine wpList_store_t rfl 25 _ _ rfl r (by exact rfl) (by exact rfl) (by kernel_rfl) 25 T3.out.z ?_; intro WZ HN HO HB; have HZ := HN; have BZ := Lib.hid (T3.out.b.trans (HB.out.mono T3.out.lr)); clear HN HO HB)
        | ((with_reducible show wpList _ _ _ (⟨some 29, .load 25 (.tmp 1), _, _, _, _⟩ :: _) _ _); refine wpList_load_t (by rfl) 25 _ rfl g (by exact rfl) _ Try.underlying25 (by kernel_rfl) 25 T3.out.q ?_)
        | ((with_reducible show wpList _ _ _ (⟨none, .store 22 (.tmp 20) _, _, _, _, _⟩ :: _) _ _); refine wpList_store_c rfl 22 _ _ rfl g 0 (by exact rfl) (.int .u16 ((0 : Nat) : Int)) (by exact rfl) rfl (by kernel_rfl) 25 _ T2.out.q (show 0 < 3 by decide) ?_; intro WT3 HN HO HB; have T3 : Hid (Tw w WT3 g r 25 ⟨0, t.b, t.c⟩) := Lib.hid (T2.out.setG HN.out HO.out HB.out); clear HN HO HB; have e2 := T3.out.q.c2)
        | ((with_reducible show wpList _ _ _ (⟨none, .store 22 (.tmp 13) (.tmp 12), _, _, _, _⟩ :: _) _ _); refine wpList_store_c rfl 22 _ _ rfl g 0 (by exact rfl) (.int .u16 (n : Int)) (by exact rfl) rfl (by kernel_rfl) 25 _ T1.out.q (show 0 < 3 by decide) ?_; intro WT2 HN HO HB; have T2 : Hid (Tw w WT2 g r 25 ⟨n, t.b, t.c⟩) := Lib.hid (T1.out.setG HN.out HO.out HB.out); clear HN HO HB; have e0 := T2.out.q.c0; have e1 := T2.out.q.c1)
        | (go_at_call 19; refine (KW.out _).mono ?_; rintro e WB ⟨rfl, rfl⟩)
        | (go_at_call 18; refine (KR.out _).mono ?_; rintro e WA ⟨rfl, hB⟩; have T1 := Lib.hid (T0.out.under hB); have c0 := T1.out.q.c0; clear hB)
        | ((with_reducible show wpList _ _ _ (⟨some 4, .load 25 (.tmp 1), _, _, _, _⟩ :: _) _ _); refine wpList_load_t (by rfl) 25 _ rfl g (by exact rfl) _ Try.underlying25 (by kernel_rfl) 25 T0.out.q ?_))
      exact bodyPost_ret (v := .tuple #[tv (⟨0, t.b, t.c⟩), .bool true]) (results_ct Try.results11 _ _ _ _ _ _ rfl (run_loadVar_t WZ r 25 _ Try.underlying25 (by kernel_rfl) 25 HZ.out) rfl) rfl ⟨by first | (rw [HE.out, HA.out]; done) | (rw [HE.out, HA.out]; rfl), BZ.out⟩
  · have hne : ((n : Int) != (t.b : Int)) = true := by simp; omega
    have HA : Hid (asksT t = false) := Lib.hid (by unfold asksT; rw [decide_eq_true (by omega), decide_eq_false (by omega)]; rfl)
    have HE : Hid (tickT t = ⟨n, t.b, t.c⟩) := Lib.hid ((if_neg hr).trans ((if_neg (by rw [hn]; exact hq)).trans (by rw [hn])))
    clear hq hr hn d1
    go_wp2_with (first
      | ((with_reducible show wpList _ _ _ (⟨none, .store 25 (.tmp 2) (.tmp 19), _, _, _, _⟩ :: _) _ _); refine wpList_store_t rfl 25 _ _ rfl r (by exact rfl) (by exact rfl) (by kernel_rfl) 25 T2.out.z ?_; intro WZ HN HO HB; have HZ := HN; have BZ := Lib.hid (T2.out.b.trans (HB.out.mono T2.out.lr)); clear HN HO HB)
      | ((with_reducible show wpList _ _ _ (⟨some 19, .load 25 (.tmp 1), _, _, _, _⟩ :: _) _ _); refine wpList_load_t (by rfl) 25 _ rfl g (by exact rfl) _ Try.underlying25 (by kernel_rfl) 25 T2.out.q ?_)
      | ((with_reducible show wpList _ _ _ (⟨none, .store 22 (.tmp 13) (.tmp 12), _, _, _, _⟩ :: _) _ _); refine wpList_store_c rfl 22 _ _ rfl g 0 (by exact rfl) (.int .u16 (n : Int)) (by exact rfl) rfl (by kernel_rfl) 25 _ T1.out.q (show 0 < 3 by decide) ?_; intro WT2 HN HO HB; have T2 : Hid (Tw w WT2 g r 25 ⟨n, t.b, t.c⟩) := Lib.hid (T1.out.setG HN.out HO.out HB.out); clear HN HO HB; have e0 := T2.out.q.c0; have e1 := T2.out.q.c1)
      | (go_at_call 19; refine (KW.out _).mono ?_; rintro e WB ⟨rfl, rfl⟩)
      | (go_at_call 18; refine (KR.out _).mono ?_; rintro e WA ⟨rfl, hB⟩; have T1 := Lib.hid (T0.out.under hB); have c0 := T1.out.q.c0; clear hB)
      | ((with_reducible show wpList _ _ _ (⟨some 4, .load 25 (.tmp 1), _, _, _, _⟩ :: _) _ _); refine wpList_load_t (by rfl) 25 _ rfl g (by exact rfl) _ Try.underlying25 (by kernel_rfl) 25 T0.out.q ?_))
    exact bodyPost_ret (v := .tuple #[tv (⟨n, t.b, t.c⟩), .bool false]) (results_ct Try.results11 _ _ _ _ _ _ rfl (run_loadVar_t WZ r 25 _ Try.underlying25 (by kernel_rfl) 25 HZ.out) rfl) rfl ⟨by first | (rw [HE.out, HA.out]; done) | (rw [HE.out, HA.out]; rfl), BZ.out⟩
theorem low_gap {t : Tm} (h : t.ok) : low16 ((t.b : Int) - (t.a : Int) - 1) = (t.b + 65535 - t.a) % 65536 := by
  have ha := h.a
  have hb := h.b
  unfold low16
  omega
set_option maxHeartbeats 1000000 in
set_option maxRecDepth 100000 in
theorem nextT_any : NextC 7 := by
  intro t w h
  have ha := h.a
  have hb := h.b
  have hc := h.c
  have KR := Lib.hid (fun W => runs_any t W h)
  have KW := Lib.hid (fun W => wrapped_any ((t.b : Int) - (t.a : Int) - 1) W (by omega) (by omega))
  rw [low_gap h] at KW
  unfold tv at KR
  unfold tv
  go_enter Try.func7, Try.ntmps7
  go_upto_region 1 with (fail)
  refine name_one (Q := fun X => Code.wp _ _ _ _ X) ?_
  intro W0 hq1 hB0 hz
  have R0 : Hid (TRow W0 w.heap.size 25 t) := Lib.hid hq1
  have B0 : Hid (Below w.heap.size w W0) := Lib.hid hB0
  clear hq1 hB0 hz
  obtain ⟨g, hg⟩ : ∃ g, w.heap.size = g := ⟨_, rfl⟩
  rw [hg] at R0 ⊢
  clear hg
  by_cases hr : t.c % 2 = 0
  · have HE : Hid (nextT t = 0) := Lib.hid (if_pos hr)
    rw [decide_eq_false (show ¬ t.c % 2 = 1 by omega)] at KR
    clear hr KW
    go_wp2_with (first
      | ((with_reducible show wpList _ _ _ (⟨some 3, .load 25 (.tmp 1), _, _, _, _⟩ :: _) _ _); refine wpList_load_t (by rfl) 25 _ rfl g (by exact rfl) _ Try.underlying25 (by kernel_rfl) 25 R0.out ?_)
      | (go_at_call 18; refine (KR.out _).mono ?_; rintro e WA ⟨rfl, hB⟩; have R1 := Lib.hid (R0.out.below hB R0.out.lt); have B1 := Lib.hid (B0.out.trans (hB.mono B0.out.size)); have c0 := R1.out.c0; have c1 := R1.out.c1; clear hB))
    go_ret
    exact ⟨by rw [HE.out]; rfl, B1.out⟩
  · rw [decide_eq_true (show t.c % 2 = 1 by omega)] at KR
    have hE := nextT_run (show t.c % 2 = 1 by omega)
    obtain ⟨m, hm⟩ : ∃ m, (t.b + 65535 - t.a) % 65536 = m := ⟨_, rfl⟩
    rw [hm] at KW hE
    have hm2 : m < 65536 := by omega
    have HE := Lib.hid hE
    clear hr hE hm
    go_wp2_with (first
      | ((with_reducible show wpList _ _ _ (⟨some 3, .load 25 (.tmp 1), _, _, _, _⟩ :: _) _ _); refine wpList_load_t (by rfl) 25 _ rfl g (by exact rfl) _ Try.underlying25 (by kernel_rfl) 25 R0.out ?_)
      | (go_at_call 18; refine (KR.out _).mono ?_; rintro e WA ⟨rfl, hB⟩; have R1 := Lib.hid (R0.out.below hB R0.out.lt); have B1 := Lib.hid (B0.out.trans (hB.mono B0.out.size)); have c0 := R1.out.c0; have c1 := R1.out.c1; clear hB)
      | (go_at_call 19; refine (KW.out _).mono ?_; rintro e WB ⟨rfl, rfl⟩))
    go_ret
    exact ⟨by rw [HE.out]; rfl, B1.out⟩
end Go.Proofs.Ytgibindoblhkeaa
