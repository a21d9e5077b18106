/-
  The program's Choose; all five functions.
-/
import Derived.Test.YtcdomelfmkbloaaOkChoose
namespace Go.Proofs.Ytcdomelfmkbloaa
open Go.RowKit
set_option linter.unusedVariables false
set_option maxRecDepth 100000 in
set_option maxHeartbeats 1000000 in
theorem choose_any : ChooseC 10 := by
  intro c ps lev cr mk w h hp h0 h1 h2 h3 hm
  by_cases hcr : 0 < cr
  · have d1 : ¬ cr ≤ 0 := by omega
    rw [show chooseI c ps lev cr mk = -1 from if_pos hcr]
    unfold cv pv
    go_enter Try.func10, Try.ntmps10
    go_upto_region 1 with (fail)
    refine name_two (Q := fun X => Code.wp _ _ _ _ X) ?_
    intro W0 hq1 hq2 hB0
    have HB := Lib.hid hB0
    clear hq1 hq2 hB0
    go_wp2_with fail
    go_ret2
    exact ⟨by first | rfl | (simp; done), HB.out⟩
  · have d1 : cr ≤ 0 := by omega
    rw [show chooseI c ps lev cr mk = bestK c ps lev mk 8 from if_neg hcr]
    clear hcr
    have KR := Lib.hid (fun X => ready_any c ps lev mk X h hp h0 h1 hm)
    have KB := Lib.hid (fun q lb wb lk q2 X => best_any q lb wb lk q2 c ps lev mk X h hp h0 h1 hm)
    have HPS := Lib.hid hp
    have hrg := (bestK_range c ps lev mk 8).1
    obtain ⟨b, hb⟩ : ∃ b, bestK c ps lev mk 8 = b := ⟨_, rfl⟩
    rw [hb] at KB hrg ⊢
    clear hb
    by_cases hn : b < 0
    · obtain rfl : b = -1 := by omega
      clear hrg hn
      have KB : Hid _ := Lib.hid KB.out
      unfold cv pv
      go_enter Try.func10, Try.ntmps10
      go_upto_region 1 with (fail)
      refine name_two (Q := fun X => Code.wp _ _ _ _ X) ?_
      intro W0 hq1 hq2 hB0
      have RC : Hid (CRow W0 w.heap.size 23 c) := Lib.hid hq1
      have RP : Hid (PRow W0 (w.heap.size + 1) ps) := Lib.hid hq2
      have HB := Lib.hid hB0
      clear hq1 hq2 hB0 h hp
      obtain ⟨g, hg⟩ : ∃ g, w.heap.size = g := ⟨_, rfl⟩
      obtain ⟨q2, hq⟩ : ∃ q, w.heap.size + 1 = q := ⟨_, rfl⟩
      rw [hq] at RP ⊢
      rw [hg] at RC ⊢
      clear hg hq
      go_wp2_with (first
        | ((with_reducible show wpList _ _ _ (⟨some 17, .load 23 (.tmp 5), _, _, _, _⟩ :: _) _ _); refine wpList_load_c (by rfl) 23 _ rfl g (by exact rfl) _ Try.underlying23 (by kernel_rfl) 23 RC.out ?_)
        | ((with_reducible show wpList _ _ _ (⟨some 18, .load 24 (.tmp 6), _, _, _, _⟩ :: _) _ _); refine wpList_load_p (by rfl) 24 _ rfl q2 (by exact rfl) _ _ Try.underlying24 (by kernel_rfl) HPS.out RP.out ?_)
        | (go_at_call 20; (with_reducible refine (KR.out _).mono ?_); rintro e W1 ⟨q, lb, wb, lk, rfl, hE, hB1⟩; have HE := Lib.hid hE; have HR1 := Lib.hid (RP.out.below hB1 RP.out.lt); have HB1 := Lib.hid (HB.out.trans (hB1.mono HB.out.size)); clear hE hB1)
        | (go_at_call 19; (with_reducible refine (KB.out _ _ _ _ _ _ HE.out HR1.out).mono ?_); rintro e W2 ⟨rfl, hB2⟩; have HB2 := Lib.hid (HB1.out.trans (hB2.mono HB1.out.size)); clear hB2))
      go_ret2
      exact ⟨rfl, HB2.out⟩
    · have e0 : decide (0 ≤ b) = true := decide_eq_true (by omega)
      have e1 : fnd b = b := if_neg hn
      rw [e0, e1] at KB
      rw [e0]
      clear hn e0 e1 hrg
      unfold cv pv
      go_enter Try.func10, Try.ntmps10
      go_upto_region 1 with (fail)
      refine name_two (Q := fun X => Code.wp _ _ _ _ X) ?_
      intro W0 hq1 hq2 hB0
      have RC : Hid (CRow W0 w.heap.size 23 c) := Lib.hid hq1
      have RP : Hid (PRow W0 (w.heap.size + 1) ps) := Lib.hid hq2
      have HB := Lib.hid hB0
      clear hq1 hq2 hB0 h hp
      obtain ⟨g, hg⟩ : ∃ g, w.heap.size = g := ⟨_, rfl⟩
      obtain ⟨q2, hq⟩ : ∃ q, w.heap.size + 1 = q := ⟨_, rfl⟩
      rw [hq] at RP ⊢
      rw [hg] at RC ⊢
      clear hg hq
      go_wp2_with (first
        | ((with_reducible show wpList _ _ _ (⟨some 17, .load 23 (.tmp 5), _, _, _, _⟩ :: _) _ _); refine wpList_load_c (by rfl) 23 _ rfl g (by exact rfl) _ Try.underlying23 (by kernel_rfl) 23 RC.out ?_)
        | ((with_reducible show wpList _ _ _ (⟨some 18, .load 24 (.tmp 6), _, _, _, _⟩ :: _) _ _); refine wpList_load_p (by rfl) 24 _ rfl q2 (by exact rfl) _ _ Try.underlying24 (by kernel_rfl) HPS.out RP.out ?_)
        | (go_at_call 20; (with_reducible refine (KR.out _).mono ?_); rintro e W1 ⟨q, lb, wb, lk, rfl, hE, hB1⟩; have HE := Lib.hid hE; have HR1 := Lib.hid (RP.out.below hB1 RP.out.lt); have HB1 := Lib.hid (HB.out.trans (hB1.mono HB.out.size)); clear hE hB1)
        | (go_at_call 19; (with_reducible refine (KB.out _ _ _ _ _ _ HE.out HR1.out).mono ?_); rintro e W2 ⟨rfl, hB2⟩; have HB2 := Lib.hid (HB1.out.trans (hB2.mono HB1.out.size)); clear hB2))
      go_ret2
      exact ⟨rfl, HB2.out⟩
theorem irq_ok : IrqOk := ⟨peek_any, write_any, request_any, choose_any, taken_any⟩
end Go.Proofs.Ytcdomelfmkbloaa
