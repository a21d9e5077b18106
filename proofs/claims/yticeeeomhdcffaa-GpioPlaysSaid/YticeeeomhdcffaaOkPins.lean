/-
  Pins by its contract.
-/
import Derived.Test.YticeeeomhdcffaaOkRise
namespace Go.Proofs.Yticeeeomhdcffaa
open Go.RowKit
set_option linter.unusedVariables false
/-- What rises of the pins that are looked at. -/
theorem rise_masked (i l e : Nat) : riseK (i &&& e) (l &&& e) 8 = (riseK i l 8).filter (bitB e) := by
  unfold riseK
  rw [List.filter_filter]
  refine List.filter_congr fun n _ => ?_
  rw [bitB_testBit, bitB_testBit, bitB_testBit, bitB_testBit, bitB_testBit, Nat.testBit_and, Nat.testBit_and]
  cases i.testBit n <;> cases l.testBit n <;> cases e.testBit n <;> rfl
theorem asks_masked (i l e : Nat) : asksL e (riseK i l 8) = decide (0 < (riseK (i &&& e) (l &&& e) 8).length) := by
  rw [rise_masked]
  generalize riseK i l 8 = L
  unfold asksL
  induction L with
  | nil => rfl
  | cons a L ih =>
    rw [List.any_cons, List.filter_cons]
    cases bitB e a
    · simpa using ih
    · simp
theorem and_256 (a b : Nat) (h : a < 256) : a &&& b < 256 := Nat.lt_of_le_of_lt Nat.and_le_left h
set_option maxRecDepth 100000 in
theorem pins_any (o i e level : Nat) (w : World) (ho : o < 256) (hi : i < 256) (he : e < 256) (hv : level < 256) :
    Calls Try.prog 8 #[gv o i e, .int .u8 level] w fun x w' => x = .returned (.tuple #[gv o level e, .bool (asksL e (riseK i level 8))]) ∧ Below w.heap.size w w' := by
  have HRs : Hid (∀ W : World, Calls Try.prog 11 #[.int .u8 ((i &&& e : Nat) : Int), .int .u8 ((level &&& e : Nat) : Int)] W fun x w' => ∃ v, x = .returned v ∧ OwnN w' W.heap.size v (riseK (i &&& e) (level &&& e) 8) ∧ Below W.heap.size W w') := Lib.hid (fun W => rising_any (i &&& e) (level &&& e) W (and_256 _ _ hi) (and_256 _ _ hv))
  have e1 := u8_and_nat i e hi he
  have e2 := u8_and_nat level e hv he
  have HA := Lib.hid (asks_masked i level e)
  have hL8 := riseK_len (i &&& e) (level &&& e) 8
  generalize riseK (i &&& e) (level &&& e) 8 = L at *
  generalize asksL e (riseK i level 8) = b at *
  generalize i &&& e = x1 at *
  generalize level &&& e = x2 at *
  unfold gv
  go_enter Try.func8, Try.ntmps8
  go_wp2_with (first
    | (go_at_call 11; (first | rw [e1] | skip); (first | rw [e2] | skip); refine (HRs.out _).mono ?_; rintro x w1 ⟨lv, rfl, hown, hB⟩
       have HQ : Hid (VRow w1 w.heap.size 24 (gc o i e)) := Lib.hid (VRow.below (two_at0 _ _ _) hB (by simp; omega))
       have HR : Hid (VRow w1 (w.heap.size + 1) 24 (gc 0 0 0)) := Lib.hid (VRow.below (two_at _ _ _) hB (by simp))
       have HB : Hid (Below w.heap.size w w1) := Lib.hid ((two_below _ _ _).trans (hB.mono (by simp; omega)))
       obtain ⟨A, c, rfl⟩ := hown.form
       clear hB hown)
    | ((with_reducible show wpList _ _ _ (⟨none, .store 5 (.tmp 20) (.tmp 19), _, _, _, _⟩ :: _) _ _); refine wpList_store_c rfl 5 _ _ rfl w.heap.size 1 (by exact rfl) (.int .u8 (level : Int)) (by exact rfl) rfl (by kernel_rfl) 24 _ HQ.out (show 1 < 3 by decide) ?_; intro w3 HN HO3 HB3
       have HN3 : Hid (VRow w3 w.heap.size 24 (gc o level e)) := HN
       have HR3 : Hid (VRow w3 (w.heap.size + 1) 24 (gc 0 0 0)) := Lib.hid ((HO3.out _ (by omega)).trans HR.out)
       have HB3' : Hid (Below w.heap.size w w3) := Lib.hid (HB.out.trans HB3.out)
       clear HN HO3 HB3)
    | ((with_reducible show wpList _ _ _ (⟨some 21, .load 24 (.tmp 2), _, _, _, _⟩ :: _) _ _); refine wpList_load_v (by rfl) 24 _ rfl w.heap.size (by exact rfl) _ Try.underlying24 24 _ HN3.out (by kernel_rfl) ?_)
    | ((with_reducible show wpList _ _ _ (⟨none, .store 24 (.tmp 4) (.tmp 21), _, _, _, _⟩ :: _) _ _); refine wpList_store_v rfl 24 _ _ rfl (w.heap.size + 1) (by exact rfl) (gc o level e) (by exact rfl) (by kernel_rfl) (gc_one _ _ _) 24 _ HR3.out rfl ?_; intro w4 HN4 HO4 HB4))
  exact bodyPost_ret (v := .tuple #[gv o level e, .bool b]) (results_ct Try.results8 _ _ _ _ _ _ rfl (run_loadVar_v _ _ _ _ Try.underlying24 24 (gc o level e) HN4.out (by kernel_rfl)) (by rw [HA.out]; rfl)) rfl ⟨rfl, HB3'.out.trans (HB4.out.mono (by omega))⟩
end Go.Proofs.Yticeeeomhdcffaa
