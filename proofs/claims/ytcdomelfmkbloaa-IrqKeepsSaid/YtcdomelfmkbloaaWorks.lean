/-
  chosen, works by their contracts, if the program's functions are what they must be. Made by wip/genirqworks.py.
-/
import Derived.Test.YtcdomelfmkbloaaChoose
namespace Go.Proofs.Ytcdomelfmkbloaa
open Go.RowKit
set_option linter.unusedVariables false
abbrev zeros8 : List Int := [0, 0, 0, 0, 0, 0, 0, 0]
theorem zeros_ok : PsOk zeros8 := ⟨rfl, by decide, by decide⟩
set_option maxRecDepth 100000 in
theorem chosen_any (H : IrqOk) (c : Ic) (ps : List Int) (lev cr : Int) (mk : Nat) (want : Int) (w : World) (h : c.ok) (hp : PsOk ps) (h0 : -9223372036854775808 ≤ lev) (h1 : lev ≤ 9223372036854775807) (h2 : -9223372036854775808 ≤ cr) (h3 : cr ≤ 9223372036854775807) (hm : mk < 256) :
    Calls Try.prog 13 #[cv c, pv ps, .int .i64 lev, .int .i64 cr, .int .u8 (mk : Int), .int .i64 want] w fun x w' => x = .returned (.bool (decide (chooseI c ps lev cr mk = want))) ∧ Below w.heap.size w w' := by
  have KC := Lib.hid (fun W => H.choose c ps lev cr mk W h hp h0 h1 h2 h3 hm)
  have OK_RP := Lib.hid hp
  obtain ⟨ch, hch⟩ : ∃ x, chooseI c ps lev cr mk = x := ⟨_, rfl⟩
  rw [hch] at KC ⊢
  clear hch
  by_cases hw : ch = want
  · subst hw
    rw [decide_eq_true rfl]
    unfold cv pv
    go_enter Try.func13, Try.ntmps13
    go_upto_region 1 with (fail)
    refine name_two (Q := fun X => Code.wp _ _ _ _ X) ?_
    intro W0 hq1 hq2 hB0
    have RC_W0 : Hid (CRow W0 w.heap.size 23 c) := Lib.hid hq1
    have RP_W0 : Hid (PRow W0 (w.heap.size + 1) ps) := Lib.hid hq2
    have BB_W0 := Lib.hid hB0
    clear hq1 hq2 hB0
    obtain ⟨g, hg⟩ : ∃ g, w.heap.size = g := ⟨_, rfl⟩
    obtain ⟨q, hq⟩ : ∃ q, w.heap.size + 1 = q := ⟨_, rfl⟩
    rw [hq] at RP_W0 ⊢
    rw [hg] at RC_W0 ⊢
    clear hg hq
    go_wp2_with (first
      | (go_at_call 10; have hc := BB_W0; clear hc; (with_reducible refine (KC.out _).mono ?_); rintro e w1 ⟨rfl, hB⟩
         have RC_w1 : Hid (CRow w1 (g) 23 (c)) := Lib.hid (CRow.below RC_W0.out hB RC_W0.out.lt)
         have RP_w1 : Hid (PRow w1 (q) (ps)) := Lib.hid (PRow.below RP_W0.out hB RP_W0.out.lt)
         have BB_w1 : Hid (Below w.heap.size w w1) := Lib.hid (BB_W0.out.trans (hB.mono BB_W0.out.size))
         clear hB RC_W0 RP_W0 BB_W0)
      | ((with_reducible show wpList _ _ _ (⟨some 17, .load 24 (.tmp 7), _, _, _, _⟩ :: _) _ _); refine wpList_load_p (by rfl) 24 _ rfl (q) (by exact rfl) _ _ Try.underlying24 (by kernel_rfl) OK_RP.out RP_W0.out ?_)
      | ((with_reducible show wpList _ _ _ (⟨some 16, .load 23 (.tmp 6), _, _, _, _⟩ :: _) _ _); refine wpList_load_c (by rfl) 23 _ rfl (g) (by exact rfl) _ Try.underlying23 (by kernel_rfl) 23 RC_W0.out ?_))
    go_ret
    exact ⟨by first | rfl | (simp; done), BB_w1.out⟩
  · have hne : (ch == want) = false := by simpa using hw
    rw [decide_eq_false hw]
    unfold cv pv
    go_enter Try.func13, Try.ntmps13
    go_upto_region 1 with (fail)
    refine name_two (Q := fun X => Code.wp _ _ _ _ X) ?_
    intro W0 hq1 hq2 hB0
    have RC_W0 : Hid (CRow W0 w.heap.size 23 c) := Lib.hid hq1
    have RP_W0 : Hid (PRow W0 (w.heap.size + 1) ps) := Lib.hid hq2
    have BB_W0 := Lib.hid hB0
    clear hq1 hq2 hB0
    obtain ⟨g, hg⟩ : ∃ g, w.heap.size = g := ⟨_, rfl⟩
    obtain ⟨q, hq⟩ : ∃ q, w.heap.size + 1 = q := ⟨_, rfl⟩
    rw [hq] at RP_W0 ⊢
    rw [hg] at RC_W0 ⊢
    clear hg hq
    clear hw
    go_wp2_with (first
      | (go_at_call 10; have hc := BB_W0; clear hc; (with_reducible refine (KC.out _).mono ?_); rintro e w1 ⟨rfl, hB⟩
         have RC_w1 : Hid (CRow w1 (g) 23 (c)) := Lib.hid (CRow.below RC_W0.out hB RC_W0.out.lt)
         have RP_w1 : Hid (PRow w1 (q) (ps)) := Lib.hid (PRow.below RP_W0.out hB RP_W0.out.lt)
         have BB_w1 : Hid (Below w.heap.size w w1) := Lib.hid (BB_W0.out.trans (hB.mono BB_W0.out.size))
         clear hB RC_W0 RP_W0 BB_W0)
      | ((with_reducible show wpList _ _ _ (⟨some 17, .load 24 (.tmp 7), _, _, _, _⟩ :: _) _ _); refine wpList_load_p (by rfl) 24 _ rfl (q) (by exact rfl) _ _ Try.underlying24 (by kernel_rfl) OK_RP.out RP_W0.out ?_)
      | ((with_reducible show wpList _ _ _ (⟨some 16, .load 23 (.tmp 6), _, _, _, _⟩ :: _) _ _); refine wpList_load_c (by rfl) 23 _ rfl (g) (by exact rfl) _ Try.underlying23 (by kernel_rfl) 23 RC_W0.out ?_))
    go_ret
    exact ⟨by first | rfl | (simp; done), BB_w1.out⟩
abbrev ps5 : List Int := [0, 2, 0, 5, 5, 0, 0, 0]
theorem ps5_ok : PsOk ps5 := ⟨rfl, by decide, by decide⟩
set_option maxHeartbeats 1000000 in
set_option maxRecDepth 100000 in
theorem works_any (H : IrqOk) (w : World) : Calls Try.prog 7 #[] w fun e w' => e = .returned (.bool true) ∧ Below w.heap.size w w' := by
  have K1 : Hid (∀ W : World, Calls Try.prog 8 #[.agg #[.int .u8 255, .int .u8 0], .int .u8 26] W fun e w' => e = .returned (cv ⟨255, 26⟩) ∧ Below W.heap.size W w') := Lib.hid (fun W => (H.request ⟨255, 0⟩ 26 W ⟨by decide, by decide⟩ (by decide)).mono (fun e w' h => ⟨h.1.trans (by kernel_rfl), h.2⟩))
  have K2 : Hid (∀ W : World, Calls Try.prog 11 #[cv ⟨255, 26⟩, .int .i64 3] W fun e w' => e = .returned (cv ⟨255, 18⟩) ∧ Below W.heap.size W w') := Lib.hid (fun W => (H.taken ⟨255, 26⟩ 3 W ⟨by decide, by decide⟩ (by decide) (by decide)).mono (fun e w' h => ⟨h.1.trans (by kernel_rfl), h.2⟩))
  have K3 : Hid (∀ W : World, Calls Try.prog 11 #[cv ⟨255, 18⟩, .int .i64 4] W fun e w' => e = .returned (cv ⟨255, 2⟩) ∧ Below W.heap.size W w') := Lib.hid (fun W => (H.taken ⟨255, 18⟩ 4 W ⟨by decide, by decide⟩ (by decide) (by decide)).mono (fun e w' h => ⟨h.1.trans (by kernel_rfl), h.2⟩))
  have K4 : Hid (∀ W : World, Calls Try.prog 9 #[.agg #[.int .u8 255, .int .u8 0], .int .i64 13, .int .i32 1] W fun e w' => e = .returned (cv ⟨255, 1⟩) ∧ Below W.heap.size W w') := Lib.hid (fun W => (H.write ⟨255, 0⟩ 13 1 W ⟨by decide, by decide⟩ (by decide) (by decide) (by decide) (by decide)).mono (fun e w' h => ⟨h.1.trans (by kernel_rfl), h.2⟩))
  have K5 : Hid (∀ W : World, Calls Try.prog 13 #[cv ⟨255, 26⟩, pv [0, 2, 0, 5, 5, 0, 0, 0], .int .i64 0, .int .i64 0, .int .u8 0, .int .i64 3] W fun e w' => e = .returned (.bool true) ∧ Below W.heap.size W w') := Lib.hid (fun W => (chosen_any H ⟨255, 26⟩ [0, 2, 0, 5, 5, 0, 0, 0] 0 0 0 3 W ⟨by decide, by decide⟩ ps5_ok (by decide) (by decide) (by decide) (by decide) (by decide)).mono (fun e w' h => ⟨h.1.trans (by kernel_rfl), h.2⟩))
  have K6 : Hid (∀ W : World, Calls Try.prog 13 #[cv ⟨255, 26⟩, pv [0, 2, 0, 5, 5, 0, 0, 0], .int .i64 2, .int .i64 0, .int .u8 0, .int .i64 3] W fun e w' => e = .returned (.bool true) ∧ Below W.heap.size W w') := Lib.hid (fun W => (chosen_any H ⟨255, 26⟩ [0, 2, 0, 5, 5, 0, 0, 0] 2 0 0 3 W ⟨by decide, by decide⟩ ps5_ok (by decide) (by decide) (by decide) (by decide) (by decide)).mono (fun e w' h => ⟨h.1.trans (by kernel_rfl), h.2⟩))
  have K7 : Hid (∀ W : World, Calls Try.prog 13 #[cv ⟨255, 26⟩, pv [0, 2, 0, 5, 5, 0, 0, 0], .int .i64 5, .int .i64 0, .int .u8 0, .int .i64 (-1)] W fun e w' => e = .returned (.bool true) ∧ Below W.heap.size W w') := Lib.hid (fun W => (chosen_any H ⟨255, 26⟩ [0, 2, 0, 5, 5, 0, 0, 0] 5 0 0 (-1) W ⟨by decide, by decide⟩ ps5_ok (by decide) (by decide) (by decide) (by decide) (by decide)).mono (fun e w' h => ⟨h.1.trans (by kernel_rfl), h.2⟩))
  have K8 : Hid (∀ W : World, Calls Try.prog 13 #[cv ⟨255, 26⟩, pv [0, 2, 0, 5, 5, 0, 0, 0], .int .i64 0, .int .i64 1, .int .u8 0, .int .i64 (-1)] W fun e w' => e = .returned (.bool true) ∧ Below W.heap.size W w') := Lib.hid (fun W => (chosen_any H ⟨255, 26⟩ [0, 2, 0, 5, 5, 0, 0, 0] 0 1 0 (-1) W ⟨by decide, by decide⟩ ps5_ok (by decide) (by decide) (by decide) (by decide) (by decide)).mono (fun e w' h => ⟨h.1.trans (by kernel_rfl), h.2⟩))
  have K9 : Hid (∀ W : World, Calls Try.prog 13 #[cv ⟨255, 26⟩, pv [0, 2, 0, 5, 5, 0, 0, 0], .int .i64 0, .int .i64 0, .int .u8 8, .int .i64 4] W fun e w' => e = .returned (.bool true) ∧ Below W.heap.size W w') := Lib.hid (fun W => (chosen_any H ⟨255, 26⟩ [0, 2, 0, 5, 5, 0, 0, 0] 0 0 8 4 W ⟨by decide, by decide⟩ ps5_ok (by decide) (by decide) (by decide) (by decide) (by decide)).mono (fun e w' h => ⟨h.1.trans (by kernel_rfl), h.2⟩))
  have K10 : Hid (∀ W : World, Calls Try.prog 13 #[cv ⟨255, 18⟩, pv [0, 2, 0, 5, 5, 0, 0, 0], .int .i64 0, .int .i64 0, .int .u8 0, .int .i64 4] W fun e w' => e = .returned (.bool true) ∧ Below W.heap.size W w') := Lib.hid (fun W => (chosen_any H ⟨255, 18⟩ [0, 2, 0, 5, 5, 0, 0, 0] 0 0 0 4 W ⟨by decide, by decide⟩ ps5_ok (by decide) (by decide) (by decide) (by decide) (by decide)).mono (fun e w' h => ⟨h.1.trans (by kernel_rfl), h.2⟩))
  have K11 : Hid (∀ W : World, Calls Try.prog 13 #[cv ⟨255, 2⟩, pv [0, 2, 0, 5, 5, 0, 0, 0], .int .i64 0, .int .i64 0, .int .u8 0, .int .i64 1] W fun e w' => e = .returned (.bool true) ∧ Below W.heap.size W w') := Lib.hid (fun W => (chosen_any H ⟨255, 2⟩ [0, 2, 0, 5, 5, 0, 0, 0] 0 0 0 1 W ⟨by decide, by decide⟩ ps5_ok (by decide) (by decide) (by decide) (by decide) (by decide)).mono (fun e w' h => ⟨h.1.trans (by kernel_rfl), h.2⟩))
  have K12 : Hid (∀ W : World, Calls Try.prog 13 #[cv ⟨255, 1⟩, pv [0, 2, 0, 5, 5, 0, 0, 0], .int .i64 0, .int .i64 0, .int .u8 0, .int .i64 (-1)] W fun e w' => e = .returned (.bool true) ∧ Below W.heap.size W w') := Lib.hid (fun W => (chosen_any H ⟨255, 1⟩ [0, 2, 0, 5, 5, 0, 0, 0] 0 0 0 (-1) W ⟨by decide, by decide⟩ ps5_ok (by decide) (by decide) (by decide) (by decide) (by decide)).mono (fun e w' h => ⟨h.1.trans (by kernel_rfl), h.2⟩))
  have OK_RP := Lib.hid ps5_ok
  have BB_w := Lib.hid (Below.refl w.heap.size w)
  go_enter Try.func7, Try.ntmps7
  go_wp2_with (first
      | (go_at_call 13; have hc := BB_w16; clear hc; (with_reducible refine (K12.out _).mono ?_); rintro e w17 ⟨rfl, hB⟩
         have RP_w17 : Hid (PRow w17 (w.heap.size) ([0, 2, 0, 5, 5, 0, 0, 0])) := Lib.hid (PRow.below RP_w16.out hB RP_w16.out.lt)
         have RC_w17 : Hid (CRow w17 (w2.heap.size) 23 (⟨255, 26⟩)) := Lib.hid (CRow.below RC_w16.out hB RC_w16.out.lt)
         have RD_w17 : Hid (CRow w17 (w4.heap.size) 23 (⟨255, 18⟩)) := Lib.hid (CRow.below RD_w16.out hB RD_w16.out.lt)
         have RE_w17 : Hid (CRow w17 (w6.heap.size) 23 (⟨255, 2⟩)) := Lib.hid (CRow.below RE_w16.out hB RE_w16.out.lt)
         have RS_w17 : Hid (CRow w17 (w8.heap.size) 23 (⟨255, 1⟩)) := Lib.hid (CRow.below RS_w16.out hB RS_w16.out.lt)
         have BB_w17 : Hid (Below w.heap.size w w17) := Lib.hid (BB_w16.out.trans (hB.mono BB_w16.out.size))
         clear hB RP_w16 RC_w16 RD_w16 RE_w16 RS_w16 BB_w16)
      | ((with_reducible show wpList _ _ _ (⟨some 55, .load 24 (.tmp 1), _, _, _, _⟩ :: _) _ _); refine wpList_load_p (by kernel_rfl) 24 _ rfl (w.heap.size) (by exact rfl) _ _ Try.underlying24 (by kernel_rfl) OK_RP.out RP_w16.out ?_)
      | ((with_reducible show wpList _ _ _ (⟨some 54, .load 23 (.tmp 5), _, _, _, _⟩ :: _) _ _); refine wpList_load_c (by kernel_rfl) 23 _ rfl (w8.heap.size) (by exact rfl) _ Try.underlying23 (by kernel_rfl) 23 RS_w16.out ?_)
      | (go_at_call 13; have hc := BB_w15; clear hc; (with_reducible refine (K11.out _).mono ?_); rintro e w16 ⟨rfl, hB⟩
         have RP_w16 : Hid (PRow w16 (w.heap.size) ([0, 2, 0, 5, 5, 0, 0, 0])) := Lib.hid (PRow.below RP_w15.out hB RP_w15.out.lt)
         have RC_w16 : Hid (CRow w16 (w2.heap.size) 23 (⟨255, 26⟩)) := Lib.hid (CRow.below RC_w15.out hB RC_w15.out.lt)
         have RD_w16 : Hid (CRow w16 (w4.heap.size) 23 (⟨255, 18⟩)) := Lib.hid (CRow.below RD_w15.out hB RD_w15.out.lt)
         have RE_w16 : Hid (CRow w16 (w6.heap.size) 23 (⟨255, 2⟩)) := Lib.hid (CRow.below RE_w15.out hB RE_w15.out.lt)
         have RS_w16 : Hid (CRow w16 (w8.heap.size) 23 (⟨255, 1⟩)) := Lib.hid (CRow.below RS_w15.out hB RS_w15.out.lt)
         have BB_w16 : Hid (Below w.heap.size w w16) := Lib.hid (BB_w15.out.trans (hB.mono BB_w15.out.size))
         have z1 := RS_w16.out.c1
         clear hB RP_w15 RC_w15 RD_w15 RE_w15 RS_w15 BB_w15)
      | ((with_reducible show wpList _ _ _ (⟨some 45, .load 24 (.tmp 1), _, _, _, _⟩ :: _) _ _); refine wpList_load_p (by kernel_rfl) 24 _ rfl (w.heap.size) (by exact rfl) _ _ Try.underlying24 (by kernel_rfl) OK_RP.out RP_w15.out ?_)
      | ((with_reducible show wpList _ _ _ (⟨some 44, .load 23 (.tmp 4), _, _, _, _⟩ :: _) _ _); refine wpList_load_c (by kernel_rfl) 23 _ rfl (w6.heap.size) (by exact rfl) _ Try.underlying23 (by kernel_rfl) 23 RE_w15.out ?_)
      | (go_at_call 13; have hc := BB_w14; clear hc; (with_reducible refine (K10.out _).mono ?_); rintro e w15 ⟨rfl, hB⟩
         have RP_w15 : Hid (PRow w15 (w.heap.size) ([0, 2, 0, 5, 5, 0, 0, 0])) := Lib.hid (PRow.below RP_w14.out hB RP_w14.out.lt)
         have RC_w15 : Hid (CRow w15 (w2.heap.size) 23 (⟨255, 26⟩)) := Lib.hid (CRow.below RC_w14.out hB RC_w14.out.lt)
         have RD_w15 : Hid (CRow w15 (w4.heap.size) 23 (⟨255, 18⟩)) := Lib.hid (CRow.below RD_w14.out hB RD_w14.out.lt)
         have RE_w15 : Hid (CRow w15 (w6.heap.size) 23 (⟨255, 2⟩)) := Lib.hid (CRow.below RE_w14.out hB RE_w14.out.lt)
         have RS_w15 : Hid (CRow w15 (w8.heap.size) 23 (⟨255, 1⟩)) := Lib.hid (CRow.below RS_w14.out hB RS_w14.out.lt)
         have BB_w15 : Hid (Below w.heap.size w w15) := Lib.hid (BB_w14.out.trans (hB.mono BB_w14.out.size))
         clear hB RP_w14 RC_w14 RD_w14 RE_w14 RS_w14 BB_w14)
      | ((with_reducible show wpList _ _ _ (⟨some 40, .load 24 (.tmp 1), _, _, _, _⟩ :: _) _ _); refine wpList_load_p (by kernel_rfl) 24 _ rfl (w.heap.size) (by exact rfl) _ _ Try.underlying24 (by kernel_rfl) OK_RP.out RP_w14.out ?_)
      | ((with_reducible show wpList _ _ _ (⟨some 39, .load 23 (.tmp 3), _, _, _, _⟩ :: _) _ _); refine wpList_load_c (by kernel_rfl) 23 _ rfl (w4.heap.size) (by exact rfl) _ Try.underlying23 (by kernel_rfl) 23 RD_w14.out ?_)
      | (go_at_call 13; have hc := BB_w13; clear hc; (with_reducible refine (K9.out _).mono ?_); rintro e w14 ⟨rfl, hB⟩
         have RP_w14 : Hid (PRow w14 (w.heap.size) ([0, 2, 0, 5, 5, 0, 0, 0])) := Lib.hid (PRow.below RP_w13.out hB RP_w13.out.lt)
         have RC_w14 : Hid (CRow w14 (w2.heap.size) 23 (⟨255, 26⟩)) := Lib.hid (CRow.below RC_w13.out hB RC_w13.out.lt)
         have RD_w14 : Hid (CRow w14 (w4.heap.size) 23 (⟨255, 18⟩)) := Lib.hid (CRow.below RD_w13.out hB RD_w13.out.lt)
         have RE_w14 : Hid (CRow w14 (w6.heap.size) 23 (⟨255, 2⟩)) := Lib.hid (CRow.below RE_w13.out hB RE_w13.out.lt)
         have RS_w14 : Hid (CRow w14 (w8.heap.size) 23 (⟨255, 1⟩)) := Lib.hid (CRow.below RS_w13.out hB RS_w13.out.lt)
         have BB_w14 : Hid (Below w.heap.size w w14) := Lib.hid (BB_w13.out.trans (hB.mono BB_w13.out.size))
         clear hB RP_w13 RC_w13 RD_w13 RE_w13 RS_w13 BB_w13)
      | ((with_reducible show wpList _ _ _ (⟨some 35, .load 24 (.tmp 1), _, _, _, _⟩ :: _) _ _); refine wpList_load_p (by kernel_rfl) 24 _ rfl (w.heap.size) (by exact rfl) _ _ Try.underlying24 (by kernel_rfl) OK_RP.out RP_w13.out ?_)
      | ((with_reducible show wpList _ _ _ (⟨some 34, .load 23 (.tmp 2), _, _, _, _⟩ :: _) _ _); refine wpList_load_c (by kernel_rfl) 23 _ rfl (w2.heap.size) (by exact rfl) _ Try.underlying23 (by kernel_rfl) 23 RC_w13.out ?_)
      | (go_at_call 13; have hc := BB_w12; clear hc; (with_reducible refine (K8.out _).mono ?_); rintro e w13 ⟨rfl, hB⟩
         have RP_w13 : Hid (PRow w13 (w.heap.size) ([0, 2, 0, 5, 5, 0, 0, 0])) := Lib.hid (PRow.below RP_w12.out hB RP_w12.out.lt)
         have RC_w13 : Hid (CRow w13 (w2.heap.size) 23 (⟨255, 26⟩)) := Lib.hid (CRow.below RC_w12.out hB RC_w12.out.lt)
         have RD_w13 : Hid (CRow w13 (w4.heap.size) 23 (⟨255, 18⟩)) := Lib.hid (CRow.below RD_w12.out hB RD_w12.out.lt)
         have RE_w13 : Hid (CRow w13 (w6.heap.size) 23 (⟨255, 2⟩)) := Lib.hid (CRow.below RE_w12.out hB RE_w12.out.lt)
         have RS_w13 : Hid (CRow w13 (w8.heap.size) 23 (⟨255, 1⟩)) := Lib.hid (CRow.below RS_w12.out hB RS_w12.out.lt)
         have BB_w13 : Hid (Below w.heap.size w w13) := Lib.hid (BB_w12.out.trans (hB.mono BB_w12.out.size))
         clear hB RP_w12 RC_w12 RD_w12 RE_w12 RS_w12 BB_w12)
      | ((with_reducible show wpList _ _ _ (⟨some 30, .load 24 (.tmp 1), _, _, _, _⟩ :: _) _ _); refine wpList_load_p (by kernel_rfl) 24 _ rfl (w.heap.size) (by exact rfl) _ _ Try.underlying24 (by kernel_rfl) OK_RP.out RP_w12.out ?_)
      | ((with_reducible show wpList _ _ _ (⟨some 29, .load 23 (.tmp 2), _, _, _, _⟩ :: _) _ _); refine wpList_load_c (by kernel_rfl) 23 _ rfl (w2.heap.size) (by exact rfl) _ Try.underlying23 (by kernel_rfl) 23 RC_w12.out ?_)
      | (go_at_call 13; have hc := BB_w11; clear hc; (with_reducible refine (K7.out _).mono ?_); rintro e w12 ⟨rfl, hB⟩
         have RP_w12 : Hid (PRow w12 (w.heap.size) ([0, 2, 0, 5, 5, 0, 0, 0])) := Lib.hid (PRow.below RP_w11.out hB RP_w11.out.lt)
         have RC_w12 : Hid (CRow w12 (w2.heap.size) 23 (⟨255, 26⟩)) := Lib.hid (CRow.below RC_w11.out hB RC_w11.out.lt)
         have RD_w12 : Hid (CRow w12 (w4.heap.size) 23 (⟨255, 18⟩)) := Lib.hid (CRow.below RD_w11.out hB RD_w11.out.lt)
         have RE_w12 : Hid (CRow w12 (w6.heap.size) 23 (⟨255, 2⟩)) := Lib.hid (CRow.below RE_w11.out hB RE_w11.out.lt)
         have RS_w12 : Hid (CRow w12 (w8.heap.size) 23 (⟨255, 1⟩)) := Lib.hid (CRow.below RS_w11.out hB RS_w11.out.lt)
         have BB_w12 : Hid (Below w.heap.size w w12) := Lib.hid (BB_w11.out.trans (hB.mono BB_w11.out.size))
         clear hB RP_w11 RC_w11 RD_w11 RE_w11 RS_w11 BB_w11)
      | ((with_reducible show wpList _ _ _ (⟨some 25, .load 24 (.tmp 1), _, _, _, _⟩ :: _) _ _); refine wpList_load_p (by kernel_rfl) 24 _ rfl (w.heap.size) (by exact rfl) _ _ Try.underlying24 (by kernel_rfl) OK_RP.out RP_w11.out ?_)
      | ((with_reducible show wpList _ _ _ (⟨some 24, .load 23 (.tmp 2), _, _, _, _⟩ :: _) _ _); refine wpList_load_c (by kernel_rfl) 23 _ rfl (w2.heap.size) (by exact rfl) _ Try.underlying23 (by kernel_rfl) 23 RC_w11.out ?_)
      | (go_at_call 13; have hc := BB_w10; clear hc; (with_reducible refine (K6.out _).mono ?_); rintro e w11 ⟨rfl, hB⟩
         have RP_w11 : Hid (PRow w11 (w.heap.size) ([0, 2, 0, 5, 5, 0, 0, 0])) := Lib.hid (PRow.below RP_w10.out hB RP_w10.out.lt)
         have RC_w11 : Hid (CRow w11 (w2.heap.size) 23 (⟨255, 26⟩)) := Lib.hid (CRow.below RC_w10.out hB RC_w10.out.lt)
         have RD_w11 : Hid (CRow w11 (w4.heap.size) 23 (⟨255, 18⟩)) := Lib.hid (CRow.below RD_w10.out hB RD_w10.out.lt)
         have RE_w11 : Hid (CRow w11 (w6.heap.size) 23 (⟨255, 2⟩)) := Lib.hid (CRow.below RE_w10.out hB RE_w10.out.lt)
         have RS_w11 : Hid (CRow w11 (w8.heap.size) 23 (⟨255, 1⟩)) := Lib.hid (CRow.below RS_w10.out hB RS_w10.out.lt)
         have BB_w11 : Hid (Below w.heap.size w w11) := Lib.hid (BB_w10.out.trans (hB.mono BB_w10.out.size))
         clear hB RP_w10 RC_w10 RD_w10 RE_w10 RS_w10 BB_w10)
      | ((with_reducible show wpList _ _ _ (⟨some 20, .load 24 (.tmp 1), _, _, _, _⟩ :: _) _ _); refine wpList_load_p (by kernel_rfl) 24 _ rfl (w.heap.size) (by exact rfl) _ _ Try.underlying24 (by kernel_rfl) OK_RP.out RP_w10.out ?_)
      | ((with_reducible show wpList _ _ _ (⟨some 19, .load 23 (.tmp 2), _, _, _, _⟩ :: _) _ _); refine wpList_load_c (by kernel_rfl) 23 _ rfl (w2.heap.size) (by exact rfl) _ Try.underlying23 (by kernel_rfl) 23 RC_w10.out ?_)
      | (go_at_call 13; have hc := BB_w9; clear hc; (with_reducible refine (K5.out _).mono ?_); rintro e w10 ⟨rfl, hB⟩
         have RP_w10 : Hid (PRow w10 (w.heap.size) ([0, 2, 0, 5, 5, 0, 0, 0])) := Lib.hid (PRow.below RP_w9.out hB RP_w9.out.lt)
         have RC_w10 : Hid (CRow w10 (w2.heap.size) 23 (⟨255, 26⟩)) := Lib.hid (CRow.below RC_w9.out hB RC_w9.out.lt)
         have RD_w10 : Hid (CRow w10 (w4.heap.size) 23 (⟨255, 18⟩)) := Lib.hid (CRow.below RD_w9.out hB RD_w9.out.lt)
         have RE_w10 : Hid (CRow w10 (w6.heap.size) 23 (⟨255, 2⟩)) := Lib.hid (CRow.below RE_w9.out hB RE_w9.out.lt)
         have RS_w10 : Hid (CRow w10 (w8.heap.size) 23 (⟨255, 1⟩)) := Lib.hid (CRow.below RS_w9.out hB RS_w9.out.lt)
         have BB_w10 : Hid (Below w.heap.size w w10) := Lib.hid (BB_w9.out.trans (hB.mono BB_w9.out.size))
         clear hB RP_w9 RC_w9 RD_w9 RE_w9 RS_w9 BB_w9)
      | ((with_reducible show wpList _ _ _ (⟨some 16, .load 24 (.tmp 1), _, _, _, _⟩ :: _) _ _); refine wpList_load_p (by rfl) 24 _ rfl (w.heap.size) (by exact rfl) _ _ Try.underlying24 (by kernel_rfl) OK_RP.out RP_w9.out ?_)
      | ((with_reducible show wpList _ _ _ (⟨some 15, .load 23 (.tmp 2), _, _, _, _⟩ :: _) _ _); refine wpList_load_c (by rfl) 23 _ rfl (w2.heap.size) (by exact rfl) _ Try.underlying23 (by kernel_rfl) 23 RC_w9.out ?_)
      | ((with_reducible show wpList _ _ _ (⟨none, .store 23 (.tmp 5) (.tmp 14), _, _, _, _⟩ :: _) _ _); refine wpList_store_c2  rfl 23 _ _ rfl (w8.heap.size) (by exact rfl) (by exact rfl) (by kernel_rfl) 23 (show CRow _ _ _ ⟨0, 0⟩ from alloc_at _ _) ?_; intro w9 HN HO HB
         have RP_w9 : Hid (PRow w9 (w.heap.size) ([0, 2, 0, 5, 5, 0, 0, 0])) := Lib.hid (PRow.other (PRow.below RP_w8.out ((Below.refl _ _).alloc (Nat.le_refl _) _) RP_w8.out.lt) HO.out (Nat.ne_of_lt RP_w8.out.lt))
         have RC_w9 : Hid (CRow w9 (w2.heap.size) 23 (⟨255, 26⟩)) := Lib.hid (CRow.other (CRow.below RC_w8.out ((Below.refl _ _).alloc (Nat.le_refl _) _) RC_w8.out.lt) HO.out (Nat.ne_of_lt RC_w8.out.lt))
         have RD_w9 : Hid (CRow w9 (w4.heap.size) 23 (⟨255, 18⟩)) := Lib.hid (CRow.other (CRow.below RD_w8.out ((Below.refl _ _).alloc (Nat.le_refl _) _) RD_w8.out.lt) HO.out (Nat.ne_of_lt RD_w8.out.lt))
         have RE_w9 : Hid (CRow w9 (w6.heap.size) 23 (⟨255, 2⟩)) := Lib.hid (CRow.other (CRow.below RE_w8.out ((Below.refl _ _).alloc (Nat.le_refl _) _) RE_w8.out.lt) HO.out (Nat.ne_of_lt RE_w8.out.lt))
         have RS_w9 : Hid (CRow w9 (w8.heap.size) 23 (⟨255, 1⟩)) := HN
         have BB_w9 : Hid (Below w.heap.size w w9) := Lib.hid ((BB_w8.out.alloc BB_w8.out.size _).trans (HB.out.mono BB_w8.out.size))
         clear HO HB HN RP_w8 RC_w8 RD_w8 RE_w8 BB_w8)
      | (go_at_call 9; have hc := BB_w7; clear hc; (with_reducible refine (K4.out _).mono ?_); rintro e w8 ⟨rfl, hB⟩
         have RP_w8 : Hid (PRow w8 (w.heap.size) ([0, 2, 0, 5, 5, 0, 0, 0])) := Lib.hid (PRow.below RP_w7.out hB RP_w7.out.lt)
         have RC_w8 : Hid (CRow w8 (w2.heap.size) 23 (⟨255, 26⟩)) := Lib.hid (CRow.below RC_w7.out hB RC_w7.out.lt)
         have RD_w8 : Hid (CRow w8 (w4.heap.size) 23 (⟨255, 18⟩)) := Lib.hid (CRow.below RD_w7.out hB RD_w7.out.lt)
         have RE_w8 : Hid (CRow w8 (w6.heap.size) 23 (⟨255, 2⟩)) := Lib.hid (CRow.below RE_w7.out hB RE_w7.out.lt)
         have BB_w8 : Hid (Below w.heap.size w w8) := Lib.hid (BB_w7.out.trans (hB.mono BB_w7.out.size))
         clear hB RP_w7 RC_w7 RD_w7 RE_w7 BB_w7)
      | ((with_reducible show wpList _ _ _ (⟨none, .store 23 (.tmp 4) (.tmp 12), _, _, _, _⟩ :: _) _ _); refine wpList_store_c2  rfl 23 _ _ rfl (w6.heap.size) (by exact rfl) (by exact rfl) (by kernel_rfl) 23 (show CRow _ _ _ ⟨0, 0⟩ from alloc_at _ _) ?_; intro w7 HN HO HB
         have RP_w7 : Hid (PRow w7 (w.heap.size) ([0, 2, 0, 5, 5, 0, 0, 0])) := Lib.hid (PRow.other (PRow.below RP_w6.out ((Below.refl _ _).alloc (Nat.le_refl _) _) RP_w6.out.lt) HO.out (Nat.ne_of_lt RP_w6.out.lt))
         have RC_w7 : Hid (CRow w7 (w2.heap.size) 23 (⟨255, 26⟩)) := Lib.hid (CRow.other (CRow.below RC_w6.out ((Below.refl _ _).alloc (Nat.le_refl _) _) RC_w6.out.lt) HO.out (Nat.ne_of_lt RC_w6.out.lt))
         have RD_w7 : Hid (CRow w7 (w4.heap.size) 23 (⟨255, 18⟩)) := Lib.hid (CRow.other (CRow.below RD_w6.out ((Below.refl _ _).alloc (Nat.le_refl _) _) RD_w6.out.lt) HO.out (Nat.ne_of_lt RD_w6.out.lt))
         have RE_w7 : Hid (CRow w7 (w6.heap.size) 23 (⟨255, 2⟩)) := HN
         have BB_w7 : Hid (Below w.heap.size w w7) := Lib.hid ((BB_w6.out.alloc BB_w6.out.size _).trans (HB.out.mono BB_w6.out.size))
         clear HO HB HN RP_w6 RC_w6 RD_w6 BB_w6)
      | (go_at_call 11; have hc := BB_w5; clear hc; (with_reducible refine (K3.out _).mono ?_); rintro e w6 ⟨rfl, hB⟩
         have RP_w6 : Hid (PRow w6 (w.heap.size) ([0, 2, 0, 5, 5, 0, 0, 0])) := Lib.hid (PRow.below RP_w5.out hB RP_w5.out.lt)
         have RC_w6 : Hid (CRow w6 (w2.heap.size) 23 (⟨255, 26⟩)) := Lib.hid (CRow.below RC_w5.out hB RC_w5.out.lt)
         have RD_w6 : Hid (CRow w6 (w4.heap.size) 23 (⟨255, 18⟩)) := Lib.hid (CRow.below RD_w5.out hB RD_w5.out.lt)
         have BB_w6 : Hid (Below w.heap.size w w6) := Lib.hid (BB_w5.out.trans (hB.mono BB_w5.out.size))
         clear hB RP_w5 RC_w5 RD_w5 BB_w5)
      | ((with_reducible show wpList _ _ _ (⟨some 11, .load 23 (.tmp 3), _, _, _, _⟩ :: _) _ _); refine wpList_load_c (by rfl) 23 _ rfl (w4.heap.size) (by exact rfl) _ Try.underlying23 (by kernel_rfl) 23 RD_w5.out ?_)
      | ((with_reducible show wpList _ _ _ (⟨none, .store 23 (.tmp 3) (.tmp 10), _, _, _, _⟩ :: _) _ _); refine wpList_store_c2  rfl 23 _ _ rfl (w4.heap.size) (by exact rfl) (by exact rfl) (by kernel_rfl) 23 (show CRow _ _ _ ⟨0, 0⟩ from alloc_at _ _) ?_; intro w5 HN HO HB
         have RP_w5 : Hid (PRow w5 (w.heap.size) ([0, 2, 0, 5, 5, 0, 0, 0])) := Lib.hid (PRow.other (PRow.below RP_w4.out ((Below.refl _ _).alloc (Nat.le_refl _) _) RP_w4.out.lt) HO.out (Nat.ne_of_lt RP_w4.out.lt))
         have RC_w5 : Hid (CRow w5 (w2.heap.size) 23 (⟨255, 26⟩)) := Lib.hid (CRow.other (CRow.below RC_w4.out ((Below.refl _ _).alloc (Nat.le_refl _) _) RC_w4.out.lt) HO.out (Nat.ne_of_lt RC_w4.out.lt))
         have RD_w5 : Hid (CRow w5 (w4.heap.size) 23 (⟨255, 18⟩)) := HN
         have BB_w5 : Hid (Below w.heap.size w w5) := Lib.hid ((BB_w4.out.alloc BB_w4.out.size _).trans (HB.out.mono BB_w4.out.size))
         clear HO HB HN RP_w4 RC_w4 BB_w4)
      | (go_at_call 11; have hc := BB_w3; clear hc; (with_reducible refine (K2.out _).mono ?_); rintro e w4 ⟨rfl, hB⟩
         have RP_w4 : Hid (PRow w4 (w.heap.size) ([0, 2, 0, 5, 5, 0, 0, 0])) := Lib.hid (PRow.below RP_w3.out hB RP_w3.out.lt)
         have RC_w4 : Hid (CRow w4 (w2.heap.size) 23 (⟨255, 26⟩)) := Lib.hid (CRow.below RC_w3.out hB RC_w3.out.lt)
         have BB_w4 : Hid (Below w.heap.size w w4) := Lib.hid (BB_w3.out.trans (hB.mono BB_w3.out.size))
         clear hB RP_w3 RC_w3 BB_w3)
      | ((with_reducible show wpList _ _ _ (⟨some 9, .load 23 (.tmp 2), _, _, _, _⟩ :: _) _ _); refine wpList_load_c (by rfl) 23 _ rfl (w2.heap.size) (by exact rfl) _ Try.underlying23 (by kernel_rfl) 23 RC_w3.out ?_)
      | ((with_reducible show wpList _ _ _ (⟨none, .store 23 (.tmp 2) (.tmp 8), _, _, _, _⟩ :: _) _ _); refine wpList_store_c2  rfl 23 _ _ rfl (w2.heap.size) (by exact rfl) (by exact rfl) (by kernel_rfl) 23 (show CRow _ _ _ ⟨0, 0⟩ from alloc_at _ _) ?_; intro w3 HN HO HB
         have RP_w3 : Hid (PRow w3 (w.heap.size) ([0, 2, 0, 5, 5, 0, 0, 0])) := Lib.hid (PRow.other (PRow.below RP_w2.out ((Below.refl _ _).alloc (Nat.le_refl _) _) RP_w2.out.lt) HO.out (Nat.ne_of_lt RP_w2.out.lt))
         have RC_w3 : Hid (CRow w3 (w2.heap.size) 23 (⟨255, 26⟩)) := HN
         have BB_w3 : Hid (Below w.heap.size w w3) := Lib.hid ((BB_w2.out.alloc BB_w2.out.size _).trans (HB.out.mono BB_w2.out.size))
         clear HO HB HN RP_w2 BB_w2)
      | (go_at_call 8; have hc := BB_w1; clear hc; (with_reducible refine (K1.out _).mono ?_); rintro e w2 ⟨rfl, hB⟩
         have RP_w2 : Hid (PRow w2 (w.heap.size) ([0, 2, 0, 5, 5, 0, 0, 0])) := Lib.hid (PRow.below RP_w1.out hB RP_w1.out.lt)
         have BB_w2 : Hid (Below w.heap.size w w2) := Lib.hid (BB_w1.out.trans (hB.mono BB_w1.out.size))
         clear hB RP_w1 BB_w1)
      | ((with_reducible show wpList _ _ _ (⟨none, .store 24 (.tmp 1) (.tmp 6), _, _, _, _⟩ :: _) _ _); refine wpList_store_p  rfl 24 _ _ rfl (w.heap.size) (by exact rfl) (by exact rfl) (by kernel_rfl) zeros_ok OK_RP.out (show PRow _ _ zeros8 from alloc_at _ _) ?_; intro w1 HN HO HB
         have RP_w1 : Hid (PRow w1 (w.heap.size) ([0, 2, 0, 5, 5, 0, 0, 0])) := HN
         have BB_w1 : Hid (Below w.heap.size w w1) := Lib.hid ((BB_w.out.alloc BB_w.out.size _).trans (HB.out.mono BB_w.out.size))
         clear HO HB HN  BB_w))
  go_ret
  exact ⟨rfl, BB_w17.out⟩
end Go.Proofs.Ytcdomelfmkbloaa
