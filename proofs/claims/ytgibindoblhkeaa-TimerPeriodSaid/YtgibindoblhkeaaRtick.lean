/-
  The document's Tick by their contracts. Made by wip/gentimerref.py.
-/
import Derived.Test.YtgibindoblhkeaaRpeek
namespace Go.Proofs.Ytgibindoblhkeaa
open Go.RowKit
set_option linter.unusedVariables false
set_option maxHeartbeats 400000 in
set_option maxRecDepth 100000 in
theorem rTickT_any : TickC 12 := by
  intro t w h
  have ha := h.a
  have hb := h.b
  have hc := h.c
  unfold tv
  go_enter Try.func12, Try.ntmps12
  go_upto_region 1 with (fail)
  refine name_two (Q := fun X => Code.wp _ _ _ _ X) ?_
  intro W0 hq1 hq2 hB0
  have T0 := Lib.hid (Tw.new (t := t) 26 hq1 hq2 hB0)
  clear hq1 hq2 hB0
  obtain ⟨g, hg⟩ : ∃ g, w.heap.size = g := ⟨_, rfl⟩
  obtain ⟨r, hr⟩ : ∃ r, w.heap.size + 1 = r := ⟨_, rfl⟩
  rw [hr, hg] at T0 ⊢
  clear hr hg
  have c2 := T0.out.q.c2
  have c0 := T0.out.q.c0
  by_cases hr : t.c % 2 = 0
  · have HE : Hid (tickT t = t) := Lib.hid (if_pos hr)
    have HA : Hid (asksT t = false) := Lib.hid (by unfold asksT; rw [decide_eq_false (by omega)]; rfl)
    have d1 : (t.c : Int) % 2 = 0 := by omega
    clear hr
    go_wp2_with (first
      | ((with_reducible show wpList _ _ _ (⟨none, .store 26 (.tmp 2) (.tmp 8), _, _, _, _⟩ :: _) _ _); refine wpList_store_t rfl 26 _ _ rfl r (by exact rfl) (by exact rfl) (by kernel_rfl) 26 T0.out.z ?_; intro WZ HN HO HB
         have HZ := HN
         have BZ := Lib.hid (T0.out.b.trans (HB.out.mono T0.out.lr))
         clear HN HO HB)
      | ((with_reducible show wpList _ _ _ (⟨some 8, .load 26 (.tmp 1), _, _, _, _⟩ :: _) _ _); refine wpList_load_t (by rfl) 26 _ rfl g (by exact rfl) _ Try.underlying26 (by kernel_rfl) 26 T0.out.q ?_))
    exact bodyPost_ret (v := .tuple #[tv (t), .bool false]) (results_ct Try.results12 _ _ _ _ _ _ rfl (run_loadVar_t WZ r 26 _ Try.underlying26 (by kernel_rfl) 26 HZ.out) rfl) rfl ⟨by first | (rw [HE.out, HA.out]; done) | (rw [HE.out, HA.out]; rfl), BZ.out⟩
  have d1 : (t.c : Int) % 2 = 1 := by omega
  have HV : Hid (((t.a : Int) + 1) % 65536 = (((t.a + 1) % 65536 : Nat) : Int)) := Lib.hid (by omega)
  have HV2 : Hid (IntKind.u16.wrap (((t.a : Int) + 1) % 65536) = (((t.a + 1) % 65536 : Nat) : Int)) := Lib.hid (by simp [IntKind.wrap, IntKind.bits, IntKind.signed])
  obtain ⟨n, hn⟩ : ∃ n, (t.a + 1) % 65536 = n := ⟨_, rfl⟩
  rw [hn] at HV HV2
  by_cases hq : n = t.b
  · have hne : ((n : Int) != (t.b : Int)) = false := by simp [hq]
    have HA : Hid (asksT t = true) := Lib.hid (by unfold asksT; rw [decide_eq_true (by omega), decide_eq_true (by omega)]; rfl)
    by_cases hag : t.c / 2 % 2 = 0
    · have HE : Hid (tickT t = ⟨0, t.b, t.c - 1⟩) := Lib.hid ((if_neg hr).trans ((if_pos (hn.trans hq)).trans (by rw [if_pos hag])))
      have d2 : ((t.c : Int) / 2) % 2 = 0 := by omega
      have HC : Hid ((t.c : Int) - 1 = ((t.c - 1 : Nat) : Int)) := Lib.hid (by omega)
      have hc1 : 1 ≤ t.c := by omega
      clear hag hq hr hn
      go_wp2_with (first
      | ((with_reducible show wpList _ _ _ (⟨none, .store 26 (.tmp 2) (.tmp 32), _, _, _, _⟩ :: _) _ _); refine wpList_store_t rfl 26 _ _ rfl r (by exact rfl) (by exact rfl) (by kernel_rfl) 26 T3.out.z ?_; intro WZ HN HO HB
         have HZ := HN
         have BZ := Lib.hid (T3.out.b.trans (HB.out.mono T3.out.lr))
         clear HN HO HB)
      | ((with_reducible show wpList _ _ _ (⟨some 32, .load 26 (.tmp 1), _, _, _, _⟩ :: _) _ _); refine wpList_load_t (by rfl) 26 _ rfl g (by exact rfl) _ Try.underlying26 (by kernel_rfl) 26 T3.out.q ?_)
      | ((with_reducible show wpList _ _ _ (⟨none, .store 22 (.tmp 31) (.tmp 30), _, _, _, _⟩ :: _) _ _); refine wpList_store_c rfl 22 _ _ rfl g 2 (by exact rfl) (.int .u16 ((t.c - 1 : Nat) : Int)) (by first | exact rfl | (rw [← HC.out]; exact rfl)) rfl (by kernel_rfl) 26 _ T2.out.q (show 2 < 3 by decide) ?_; intro WT3 HN HO HB
         have T3 : Hid (Tw w WT3 g r 26 ⟨0, t.b, t.c - 1⟩) := Lib.hid (T2.out.setG HN.out HO.out HB.out)
         clear HN HO HB)
      | ((with_reducible show wpList _ _ _ (⟨none, .store 22 (.tmp 22) _, _, _, _, _⟩ :: _) _ _); refine wpList_store_c rfl 22 _ _ rfl g 0 (by exact rfl) (.int .u16 ((0 : Nat) : Int)) (by exact rfl) rfl (by kernel_rfl) 26 _ T1.out.q (show 0 < 3 by decide) ?_; intro WT2 HN HO HB
         have T2 : Hid (Tw w WT2 g r 26 ⟨0, t.b, t.c⟩) := Lib.hid (T1.out.setG HN.out HO.out HB.out)
         have e2 := T2.out.q.c2
         clear HN HO HB)
      | ((with_reducible show wpList _ _ _ (⟨none, .store 22 (.tmp 15) (.tmp 14), _, _, _, _⟩ :: _) _ _); refine wpList_store_c rfl 22 _ _ rfl g 0 (by exact rfl) (.int .u16 (n : Int)) (by first | exact rfl | (rw [← HV.out]; exact rfl) | (rw [← HV2.out]; exact rfl)) rfl (by kernel_rfl) 26 _ T0.out.q (show 0 < 3 by decide) ?_; intro WT1 HN HO HB
         have T1 : Hid (Tw w WT1 g r 26 ⟨n, t.b, t.c⟩) := Lib.hid (T0.out.setG HN.out HO.out HB.out)
         have e0 := T1.out.q.c0
         have e1 := T1.out.q.c1
         clear HN HO HB))
      exact bodyPost_ret (v := .tuple #[tv (⟨0, t.b, t.c - 1⟩), .bool true]) (results_ct Try.results12 _ _ _ _ _ _ rfl (run_loadVar_t WZ r 26 _ Try.underlying26 (by kernel_rfl) 26 HZ.out) rfl) rfl ⟨by first | (rw [HE.out, HA.out]; done) | (rw [HE.out, HA.out]; rfl), BZ.out⟩
    · have HE : Hid (tickT t = ⟨0, t.b, t.c⟩) := Lib.hid ((if_neg hr).trans ((if_pos (hn.trans hq)).trans (by rw [if_neg hag])))
      have d2 : ((t.c : Int) / 2) % 2 = 1 := by omega
      clear hag hq hr hn
      go_wp2_with (first
      | ((with_reducible show wpList _ _ _ (⟨none, .store 26 (.tmp 2) (.tmp 32), _, _, _, _⟩ :: _) _ _); refine wpList_store_t rfl 26 _ _ rfl r (by exact rfl) (by exact rfl) (by kernel_rfl) 26 T2.out.z ?_; intro WZ HN HO HB
         have HZ := HN
         have BZ := Lib.hid (T2.out.b.trans (HB.out.mono T2.out.lr))
         clear HN HO HB)
      | ((with_reducible show wpList _ _ _ (⟨some 32, .load 26 (.tmp 1), _, _, _, _⟩ :: _) _ _); refine wpList_load_t (by rfl) 26 _ rfl g (by exact rfl) _ Try.underlying26 (by kernel_rfl) 26 T2.out.q ?_)
      | ((with_reducible show wpList _ _ _ (⟨none, .store 22 (.tmp 22) _, _, _, _, _⟩ :: _) _ _); refine wpList_store_c rfl 22 _ _ rfl g 0 (by exact rfl) (.int .u16 ((0 : Nat) : Int)) (by exact rfl) rfl (by kernel_rfl) 26 _ T1.out.q (show 0 < 3 by decide) ?_; intro WT2 HN HO HB
         have T2 : Hid (Tw w WT2 g r 26 ⟨0, t.b, t.c⟩) := Lib.hid (T1.out.setG HN.out HO.out HB.out)
         have e2 := T2.out.q.c2
         clear HN HO HB)
      | ((with_reducible show wpList _ _ _ (⟨none, .store 22 (.tmp 15) (.tmp 14), _, _, _, _⟩ :: _) _ _); refine wpList_store_c rfl 22 _ _ rfl g 0 (by exact rfl) (.int .u16 (n : Int)) (by first | exact rfl | (rw [← HV.out]; exact rfl) | (rw [← HV2.out]; exact rfl)) rfl (by kernel_rfl) 26 _ T0.out.q (show 0 < 3 by decide) ?_; intro WT1 HN HO HB
         have T1 : Hid (Tw w WT1 g r 26 ⟨n, t.b, t.c⟩) := Lib.hid (T0.out.setG HN.out HO.out HB.out)
         have e0 := T1.out.q.c0
         have e1 := T1.out.q.c1
         clear HN HO HB))
      exact bodyPost_ret (v := .tuple #[tv (⟨0, t.b, t.c⟩), .bool true]) (results_ct Try.results12 _ _ _ _ _ _ rfl (run_loadVar_t WZ r 26 _ Try.underlying26 (by kernel_rfl) 26 HZ.out) rfl) rfl ⟨by first | (rw [HE.out, HA.out]; done) | (rw [HE.out, HA.out]; rfl), BZ.out⟩
  · have hne : ((n : Int) != (t.b : Int)) = true := by simp; omega
    have HA : Hid (asksT t = false) := Lib.hid (by unfold asksT; rw [decide_eq_true (by omega), decide_eq_false (by omega)]; rfl)
    have HE : Hid (tickT t = ⟨n, t.b, t.c⟩) := Lib.hid ((if_neg hr).trans ((if_neg (by rw [hn]; exact hq)).trans (by rw [hn])))
    clear hq hr hn
    go_wp2_with (first
      | ((with_reducible show wpList _ _ _ (⟨none, .store 26 (.tmp 2) (.tmp 21), _, _, _, _⟩ :: _) _ _); refine wpList_store_t rfl 26 _ _ rfl r (by exact rfl) (by exact rfl) (by kernel_rfl) 26 T1.out.z ?_; intro WZ HN HO HB
         have HZ := HN
         have BZ := Lib.hid (T1.out.b.trans (HB.out.mono T1.out.lr))
         clear HN HO HB)
      | ((with_reducible show wpList _ _ _ (⟨some 21, .load 26 (.tmp 1), _, _, _, _⟩ :: _) _ _); refine wpList_load_t (by rfl) 26 _ rfl g (by exact rfl) _ Try.underlying26 (by kernel_rfl) 26 T1.out.q ?_)
      | ((with_reducible show wpList _ _ _ (⟨none, .store 22 (.tmp 15) (.tmp 14), _, _, _, _⟩ :: _) _ _); refine wpList_store_c rfl 22 _ _ rfl g 0 (by exact rfl) (.int .u16 (n : Int)) (by first | exact rfl | (rw [← HV.out]; exact rfl) | (rw [← HV2.out]; exact rfl)) rfl (by kernel_rfl) 26 _ T0.out.q (show 0 < 3 by decide) ?_; intro WT1 HN HO HB
         have T1 : Hid (Tw w WT1 g r 26 ⟨n, t.b, t.c⟩) := Lib.hid (T0.out.setG HN.out HO.out HB.out)
         have e0 := T1.out.q.c0
         have e1 := T1.out.q.c1
         clear HN HO HB))
    exact bodyPost_ret (v := .tuple #[tv (⟨n, t.b, t.c⟩), .bool false]) (results_ct Try.results12 _ _ _ _ _ _ rfl (run_loadVar_t WZ r 26 _ Try.underlying26 (by kernel_rfl) 26 HZ.out) rfl) rfl ⟨by first | (rw [HE.out, HA.out]; done) | (rw [HE.out, HA.out]; rfl), BZ.out⟩
end Go.Proofs.Ytgibindoblhkeaa
