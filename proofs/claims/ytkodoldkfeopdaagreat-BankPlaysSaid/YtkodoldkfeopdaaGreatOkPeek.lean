/-
  The program's Peek by its contract. Made by wip/genbankok.py.
-/
import Derived.Test.YtkodoldkfeopdaaGreatOkShow
import Derived.Test.YtkodoldkfeopdaaGreatOkMeth
import Derived.Test.YtkodoldkfeopdaaGreatOkOwn
import Derived.Test.YtkodoldkfeopdaaGreatOkRd
import Derived.Handy
namespace Go.Proofs.YtkodoldkfeopdaaGreat
open Go.RowKit
set_option linter.unusedVariables false
set_option maxRecDepth 100000
theorem wrap_sub (r k : Int) (h0 : 0 ≤ r - k) (h1 : r - k ≤ 2) : IntKind.i64.wrap (r - k) = r - k := by
  simp [IntKind.wrap, IntKind.bits, IntKind.signed]
  omega
theorem Tw.wrt {w W W' : World} {g r : Nat} {ty : TypeId} {b d : Bk} (h : Tw w W g r ty b) (hw : Wrt W W' g ty d) : Tw w W' g r ty d :=
  ⟨hw.q, (hw.o r h.z.lt h.gr.symm).trans h.z, h.b.trans (hw.b.mono h.lg), h.lg, h.lr, h.gr⟩
theorem kinds_of (r : Int) : (0 ≤ r ∧ r ≤ 2) ∨ (3 ≤ r ∧ r ≤ 5) ∨ (6 ≤ r ∧ r ≤ 8) ∨ (9 ≤ r ∧ r ≤ 11) ∨ (12 ≤ r ∧ r ≤ 14) ∨ (r < 0 ∨ 14 < r) := by omega
set_option maxHeartbeats 1000000 in
theorem peekB_any : PeekC 11 := by
  intro b r w h h0 h1
  rcases kinds_of r with ⟨d0, d1⟩ | ⟨d0, d1⟩ | ⟨d0, d1⟩ | ⟨d0, d1⟩ | ⟨d0, d1⟩ | d0
  · rw [show peekB b r = Gp.peekN b.o b.i b.e r from if_pos (by omega)]
    unfold bv
    go_enter Tryz.func11, Tryz.ntmps11
    go_upto_region 1 with (fail)
    refine name_one (Q := fun X => Code.wp _ _ _ _ X) ?_
    intro W0 hq1 hB0 hz0
    have T0 : Hid (On w W0 w.heap.size 37 b) := Lib.hid ⟨hq1, hB0⟩
    clear hq1 hB0 hz0
    obtain ⟨g, hg⟩ : ∃ g, w.heap.size = g := ⟨_, rfl⟩
    rw [hg] at T0 ⊢
    clear hg
    have KO := Lib.hid (fun W => owner_pinsOf r d0 d1 g W)
    go_wp2_with (first
      | (go_at_call 21; refine (KO.out _).mono ?_; rintro e W1 ⟨c, rfl, hC, hB⟩
         have T1 := Lib.hid (T0.out.under hB)
         have C1 := Lib.hid hC
         clear hB hC T0)
      | (go_at_call 104; refine (peek_pinsOf c r _ _ (fun W hBW => look_pinsOf b r W g c 37 h h0 h1 (T1.out.q.below hBW T1.out.q.lt) (C1.out.below hBW (VRow.lt C1.out)))).mono ?_; rintro e W2 ⟨rfl, hB⟩
         have T2 := Lib.hid (T1.out.under hB)
         clear hB T1))
    go_ret
    exact ⟨rfl, T2.out.b⟩
  · rw [show peekB b r = Ua.peekU b.R b.T b.l b.c r from (if_neg (by omega)).trans (if_pos (by omega))]
    unfold bv
    go_enter Tryz.func11, Tryz.ntmps11
    go_upto_region 1 with (fail)
    refine name_one (Q := fun X => Code.wp _ _ _ _ X) ?_
    intro W0 hq1 hB0 hz0
    have T0 : Hid (On w W0 w.heap.size 37 b) := Lib.hid ⟨hq1, hB0⟩
    clear hq1 hB0 hz0
    obtain ⟨g, hg⟩ : ∃ g, w.heap.size = g := ⟨_, rfl⟩
    rw [hg] at T0 ⊢
    clear hg
    have KO := Lib.hid (fun W => owner_serialOf r d0 d1 g W)
    go_wp2_with (first
      | (go_at_call 21; refine (KO.out _).mono ?_; rintro e W1 ⟨c, rfl, hC, hB⟩
         have T1 := Lib.hid (T0.out.under hB)
         have C1 := Lib.hid hC
         clear hB hC T0)
      | (go_at_call 104; refine (peek_serialOf c r _ _ (fun W hBW => look_serialOf b r W g c 37 h h0 h1 (T1.out.q.below hBW T1.out.q.lt) (C1.out.below hBW (VRow.lt C1.out)))).mono ?_; rintro e W2 ⟨rfl, hB⟩
         have T2 := Lib.hid (T1.out.under hB)
         clear hB T1))
    go_ret
    exact ⟨rfl, T2.out.b⟩
  · rw [show peekB b r = Ti.peekT b.t0 (r - 6) from (if_neg (by omega)).trans ((if_neg (by omega)).trans (if_pos (by omega)))]
    unfold bv
    go_enter Tryz.func11, Tryz.ntmps11
    go_upto_region 1 with (fail)
    refine name_one (Q := fun X => Code.wp _ _ _ _ X) ?_
    intro W0 hq1 hB0 hz0
    have T0 : Hid (On w W0 w.heap.size 37 b) := Lib.hid ⟨hq1, hB0⟩
    clear hq1 hB0 hz0
    obtain ⟨g, hg⟩ : ∃ g, w.heap.size = g := ⟨_, rfl⟩
    rw [hg] at T0 ⊢
    clear hg
    have KO := Lib.hid (fun W => owner_firstOf r d0 d1 g W)
    go_wp2_with (first
      | (go_at_call 21; refine (KO.out _).mono ?_; rintro e W1 ⟨c, d, rfl, hC, hD, hB⟩
         have T1 := Lib.hid (T0.out.under hB)
         have C1 := Lib.hid hC
         have D1 := Lib.hid hD
         clear hB hC T0 hD)
      | (go_at_call 104; refine (peek_counterOf c d r _ _ (fun W hBW => look_counterOf b.t0 r 6 (r - 6) W g 24 c d h.t0 (wrap_sub r 6 (by omega) (by omega)) (by omega) (by omega) ⟨C1.out.below hBW (VRow.lt C1.out), D1.out.below hBW (VRow.lt D1.out), (T1.out.q.below hBW T1.out.q.lt).ta, (T1.out.q.below hBW T1.out.q.lt).lt, Below.refl _ _⟩)).mono ?_; rintro e W2 ⟨rfl, hB⟩
         have T2 := Lib.hid (T1.out.under hB)
         clear hB T1))
    go_ret
    exact ⟨rfl, T2.out.b⟩
  · rw [show peekB b r = Ti.peekT b.t1 (r - 9) from (if_neg (by omega)).trans ((if_neg (by omega)).trans ((if_neg (by omega)).trans (if_pos (by omega))))]
    unfold bv
    go_enter Tryz.func11, Tryz.ntmps11
    go_upto_region 1 with (fail)
    refine name_one (Q := fun X => Code.wp _ _ _ _ X) ?_
    intro W0 hq1 hB0 hz0
    have T0 : Hid (On w W0 w.heap.size 37 b) := Lib.hid ⟨hq1, hB0⟩
    clear hq1 hB0 hz0
    obtain ⟨g, hg⟩ : ∃ g, w.heap.size = g := ⟨_, rfl⟩
    rw [hg] at T0 ⊢
    clear hg
    have KO := Lib.hid (fun W => owner_secondOf r d0 d1 g W)
    go_wp2_with (first
      | (go_at_call 21; refine (KO.out _).mono ?_; rintro e W1 ⟨c, d, rfl, hC, hD, hB⟩
         have T1 := Lib.hid (T0.out.under hB)
         have C1 := Lib.hid hC
         have D1 := Lib.hid hD
         clear hB hC T0 hD)
      | (go_at_call 104; refine (peek_counterOf c d r _ _ (fun W hBW => look_counterOf b.t1 r 9 (r - 9) W g 27 c d h.t1 (wrap_sub r 9 (by omega) (by omega)) (by omega) (by omega) ⟨C1.out.below hBW (VRow.lt C1.out), D1.out.below hBW (VRow.lt D1.out), (T1.out.q.below hBW T1.out.q.lt).tb, (T1.out.q.below hBW T1.out.q.lt).lt, Below.refl _ _⟩)).mono ?_; rintro e W2 ⟨rfl, hB⟩
         have T2 := Lib.hid (T1.out.under hB)
         clear hB T1))
    go_ret
    exact ⟨rfl, T2.out.b⟩
  · rw [show peekB b r = Iq.peekI b.q r from (if_neg (by omega)).trans ((if_neg (by omega)).trans ((if_neg (by omega)).trans ((if_neg (by omega)).trans (if_pos (by omega)))))]
    unfold bv
    go_enter Tryz.func11, Tryz.ntmps11
    go_upto_region 1 with (fail)
    refine name_one (Q := fun X => Code.wp _ _ _ _ X) ?_
    intro W0 hq1 hB0 hz0
    have T0 : Hid (On w W0 w.heap.size 37 b) := Lib.hid ⟨hq1, hB0⟩
    clear hq1 hB0 hz0
    obtain ⟨g, hg⟩ : ∃ g, w.heap.size = g := ⟨_, rfl⟩
    rw [hg] at T0 ⊢
    clear hg
    have KO := Lib.hid (fun W => owner_controllerOf r d0 d1 g W)
    go_wp2_with (first
      | (go_at_call 21; refine (KO.out _).mono ?_; rintro e W1 ⟨c, rfl, hC, hB⟩
         have T1 := Lib.hid (T0.out.under hB)
         have C1 := Lib.hid hC
         clear hB hC T0)
      | (go_at_call 104; refine (peek_controllerOf c r _ _ (fun W hBW => look_controllerOf b r W g c 37 h h0 h1 (T1.out.q.below hBW T1.out.q.lt) (C1.out.below hBW (VRow.lt C1.out)))).mono ?_; rintro e W2 ⟨rfl, hB⟩
         have T2 := Lib.hid (T1.out.under hB)
         clear hB T1))
    go_ret
    exact ⟨rfl, T2.out.b⟩
  · rw [show peekB b r = 0 from (if_neg (by omega)).trans ((if_neg (by omega)).trans ((if_neg (by omega)).trans ((if_neg (by omega)).trans (if_neg (by omega)))))]
    unfold bv
    go_enter Tryz.func11, Tryz.ntmps11
    go_upto_region 1 with (fail)
    refine name_one (Q := fun X => Code.wp _ _ _ _ X) ?_
    intro W0 hq1 hB0 hz0
    have T0 : Hid (On w W0 w.heap.size 37 b) := Lib.hid ⟨hq1, hB0⟩
    clear hq1 hB0 hz0
    obtain ⟨g, hg⟩ : ∃ g, w.heap.size = g := ⟨_, rfl⟩
    rw [hg] at T0 ⊢
    clear hg
    have KO := Lib.hid (fun W => owner_none r d0 g W)
    go_wp2_with (go_at_call 21; refine (KO.out _).mono ?_; rintro e W1 ⟨rfl, hB⟩
                 have T1 := Lib.hid (T0.out.under hB)
                 clear hB T0)
    go_ret
    exact ⟨rfl, T1.out.b⟩
end Go.Proofs.YtkodoldkfeopdaaGreat
