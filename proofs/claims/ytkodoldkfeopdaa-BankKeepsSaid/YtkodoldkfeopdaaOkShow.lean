/-
  What is shown. Made by wip/genbankok.py.
-/
import Derived.Test.YtkodoldkfeopdaaOkDev
namespace Go.Proofs.Ytkodoldkfeopdaa
open Go.RowKit
set_option linter.unusedVariables false
set_option maxRecDepth 100000
theorem peek_pinsOf (c : Nat) (r : Int) (v : Int) (w : World) (H : ∀ W : World, Below w.heap.size w W → Calls Try.prog 44 #[.int .i64 r, .pointer (some ⟨c, 0, none⟩)] W fun x w' => x = .returned (.int .i32 v) ∧ Below W.heap.size W w') :
    Calls Try.prog 79 #[.agg #[.func (.func 44) #[] #[.pointer (some ⟨c, 0, none⟩)]], .int .i64 r] w fun x w' => x = .returned (.int .i32 v) ∧ Below w.heap.size w w' := by
  have KK := Lib.hid H
  clear H
  go_enter Try.func79, Try.ntmps79
  go_wp2_with (go_at_call 44; refine (KK.out _ ((Below.refl _ _).alloc (Nat.le_refl _) _)).mono ?_; rintro e W1 ⟨rfl, hB⟩)
  go_ret
  exact ⟨rfl, ((Below.refl _ _).alloc (Nat.le_refl _) _).trans (hB.mono (by simp))⟩
theorem peek_serialOf (c : Nat) (r : Int) (v : Int) (w : World) (H : ∀ W : World, Below w.heap.size w W → Calls Try.prog 46 #[.int .i64 r, .pointer (some ⟨c, 0, none⟩)] W fun x w' => x = .returned (.int .i32 v) ∧ Below W.heap.size W w') :
    Calls Try.prog 79 #[.agg #[.func (.func 46) #[] #[.pointer (some ⟨c, 0, none⟩)]], .int .i64 r] w fun x w' => x = .returned (.int .i32 v) ∧ Below w.heap.size w w' := by
  have KK := Lib.hid H
  clear H
  go_enter Try.func79, Try.ntmps79
  go_wp2_with (go_at_call 46; refine (KK.out _ ((Below.refl _ _).alloc (Nat.le_refl _) _)).mono ?_; rintro e W1 ⟨rfl, hB⟩)
  go_ret
  exact ⟨rfl, ((Below.refl _ _).alloc (Nat.le_refl _) _).trans (hB.mono (by simp))⟩
theorem peek_controllerOf (c : Nat) (r : Int) (v : Int) (w : World) (H : ∀ W : World, Below w.heap.size w W → Calls Try.prog 49 #[.int .i64 r, .pointer (some ⟨c, 0, none⟩)] W fun x w' => x = .returned (.int .i32 v) ∧ Below W.heap.size W w') :
    Calls Try.prog 79 #[.agg #[.func (.func 49) #[] #[.pointer (some ⟨c, 0, none⟩)]], .int .i64 r] w fun x w' => x = .returned (.int .i32 v) ∧ Below w.heap.size w w' := by
  have KK := Lib.hid H
  clear H
  go_enter Try.func79, Try.ntmps79
  go_wp2_with (go_at_call 49; refine (KK.out _ ((Below.refl _ _).alloc (Nat.le_refl _) _)).mono ?_; rintro e W1 ⟨rfl, hB⟩)
  go_ret
  exact ⟨rfl, ((Below.refl _ _).alloc (Nat.le_refl _) _).trans (hB.mono (by simp))⟩
theorem peek_counterOf (c d : Nat) (r : Int) (v : Int) (w : World) (H : ∀ W : World, Below w.heap.size w W → Calls Try.prog 53 #[.int .i64 r, .pointer (some ⟨c, 0, none⟩), .pointer (some ⟨d, 0, none⟩)] W fun x w' => x = .returned (.int .i32 v) ∧ Below W.heap.size W w') :
    Calls Try.prog 79 #[.agg #[.func (.func 53) #[] #[.pointer (some ⟨c, 0, none⟩), .pointer (some ⟨d, 0, none⟩)]], .int .i64 r] w fun x w' => x = .returned (.int .i32 v) ∧ Below w.heap.size w w' := by
  have KK := Lib.hid H
  clear H
  go_enter Try.func79, Try.ntmps79
  go_wp2_with (go_at_call 53; refine (KK.out _ ((Below.refl _ _).alloc (Nat.le_refl _) _)).mono ?_; rintro e W1 ⟨rfl, hB⟩)
  go_ret
  exact ⟨rfl, ((Below.refl _ _).alloc (Nat.le_refl _) _).trans (hB.mono (by simp))⟩
theorem read_pinsOf (c : Nat) (r : Int) (v : Int) (w : World) (H : ∀ W : World, Below w.heap.size w W → Calls Try.prog 44 #[.int .i64 r, .pointer (some ⟨c, 0, none⟩)] W fun x w' => x = .returned (.int .i32 v) ∧ Below W.heap.size W w') :
    Calls Try.prog 80 #[.agg #[.func (.func 44) #[] #[.pointer (some ⟨c, 0, none⟩)]], .int .i64 r] w fun x w' => x = .returned (.int .i32 v) ∧ Below w.heap.size w w' := by
  have KK := Lib.hid H
  clear H
  go_enter Try.func80, Try.ntmps80
  go_wp2_with (go_at_call 44; refine (KK.out _ ((Below.refl _ _).alloc (Nat.le_refl _) _)).mono ?_; rintro e W1 ⟨rfl, hB⟩)
  go_ret
  exact ⟨rfl, ((Below.refl _ _).alloc (Nat.le_refl _) _).trans (hB.mono (by simp))⟩
theorem read_serialOf (c : Nat) (r : Int) (v : Int) (w : World) (H : ∀ W : World, Below w.heap.size w W → Calls Try.prog 46 #[.int .i64 r, .pointer (some ⟨c, 0, none⟩)] W fun x w' => x = .returned (.int .i32 v) ∧ Below W.heap.size W w') :
    Calls Try.prog 80 #[.agg #[.func (.func 46) #[] #[.pointer (some ⟨c, 0, none⟩)]], .int .i64 r] w fun x w' => x = .returned (.int .i32 v) ∧ Below w.heap.size w w' := by
  have KK := Lib.hid H
  clear H
  go_enter Try.func80, Try.ntmps80
  go_wp2_with (go_at_call 46; refine (KK.out _ ((Below.refl _ _).alloc (Nat.le_refl _) _)).mono ?_; rintro e W1 ⟨rfl, hB⟩)
  go_ret
  exact ⟨rfl, ((Below.refl _ _).alloc (Nat.le_refl _) _).trans (hB.mono (by simp))⟩
theorem read_controllerOf (c : Nat) (r : Int) (v : Int) (w : World) (H : ∀ W : World, Below w.heap.size w W → Calls Try.prog 49 #[.int .i64 r, .pointer (some ⟨c, 0, none⟩)] W fun x w' => x = .returned (.int .i32 v) ∧ Below W.heap.size W w') :
    Calls Try.prog 80 #[.agg #[.func (.func 49) #[] #[.pointer (some ⟨c, 0, none⟩)]], .int .i64 r] w fun x w' => x = .returned (.int .i32 v) ∧ Below w.heap.size w w' := by
  have KK := Lib.hid H
  clear H
  go_enter Try.func80, Try.ntmps80
  go_wp2_with (go_at_call 49; refine (KK.out _ ((Below.refl _ _).alloc (Nat.le_refl _) _)).mono ?_; rintro e W1 ⟨rfl, hB⟩)
  go_ret
  exact ⟨rfl, ((Below.refl _ _).alloc (Nat.le_refl _) _).trans (hB.mono (by simp))⟩
theorem read_counterOf (c d : Nat) (r : Int) (v : Int) (w : World) (H : ∀ W : World, Below w.heap.size w W → Calls Try.prog 53 #[.int .i64 r, .pointer (some ⟨c, 0, none⟩), .pointer (some ⟨d, 0, none⟩)] W fun x w' => x = .returned (.int .i32 v) ∧ Below W.heap.size W w') :
    Calls Try.prog 80 #[.agg #[.func (.func 53) #[] #[.pointer (some ⟨c, 0, none⟩), .pointer (some ⟨d, 0, none⟩)]], .int .i64 r] w fun x w' => x = .returned (.int .i32 v) ∧ Below w.heap.size w w' := by
  have KK := Lib.hid H
  clear H
  go_enter Try.func80, Try.ntmps80
  go_wp2_with (go_at_call 53; refine (KK.out _ ((Below.refl _ _).alloc (Nat.le_refl _) _)).mono ?_; rintro e W1 ⟨rfl, hB⟩)
  go_ret
  exact ⟨rfl, ((Below.refl _ _).alloc (Nat.le_refl _) _).trans (hB.mono (by simp))⟩
end Go.Proofs.Ytkodoldkfeopdaa
