/-
  What is shown. Made by wip/genbankok.py.
-/
import Derived.Test.YtkodoldkfeopdaaGreatOkDev
namespace Go.Proofs.YtkodoldkfeopdaaGreat
open Go.RowKit
set_option linter.unusedVariables false
set_option maxRecDepth 100000
theorem peek_pinsOf (c : Nat) (r : Int) (v : Int) (w : World) (H : ∀ W : World, Below w.heap.size w W → Calls Tryz.prog 70 #[.int .i64 r, .pointer (some ⟨c, 0, none⟩)] W fun x w' => x = .returned (.int .i32 v) ∧ Below W.heap.size W w') :
    Calls Tryz.prog 104 #[.agg #[.func (.func 70) #[] #[.pointer (some ⟨c, 0, none⟩)]], .int .i64 r] w fun x w' => x = .returned (.int .i32 v) ∧ Below w.heap.size w w' := by
  have KK := Lib.hid H
  clear H
  go_enter Tryz.func104, Tryz.ntmps104
  go_wp2_with (go_at_call 70; refine (KK.out _ ((Below.refl _ _).alloc (Nat.le_refl _) _)).mono ?_; rintro e W1 ⟨rfl, hB⟩)
  go_ret
  exact ⟨rfl, ((Below.refl _ _).alloc (Nat.le_refl _) _).trans (hB.mono (by simp))⟩
theorem peek_serialOf (c : Nat) (r : Int) (v : Int) (w : World) (H : ∀ W : World, Below w.heap.size w W → Calls Tryz.prog 72 #[.int .i64 r, .pointer (some ⟨c, 0, none⟩)] W fun x w' => x = .returned (.int .i32 v) ∧ Below W.heap.size W w') :
    Calls Tryz.prog 104 #[.agg #[.func (.func 72) #[] #[.pointer (some ⟨c, 0, none⟩)]], .int .i64 r] w fun x w' => x = .returned (.int .i32 v) ∧ Below w.heap.size w w' := by
  have KK := Lib.hid H
  clear H
  go_enter Tryz.func104, Tryz.ntmps104
  go_wp2_with (go_at_call 72; refine (KK.out _ ((Below.refl _ _).alloc (Nat.le_refl _) _)).mono ?_; rintro e W1 ⟨rfl, hB⟩)
  go_ret
  exact ⟨rfl, ((Below.refl _ _).alloc (Nat.le_refl _) _).trans (hB.mono (by simp))⟩
theorem peek_controllerOf (c : Nat) (r : Int) (v : Int) (w : World) (H : ∀ W : World, Below w.heap.size w W → Calls Tryz.prog 75 #[.int .i64 r, .pointer (some ⟨c, 0, none⟩)] W fun x w' => x = .returned (.int .i32 v) ∧ Below W.heap.size W w') :
    Calls Tryz.prog 104 #[.agg #[.func (.func 75) #[] #[.pointer (some ⟨c, 0, none⟩)]], .int .i64 r] w fun x w' => x = .returned (.int .i32 v) ∧ Below w.heap.size w w' := by
  have KK := Lib.hid H
  clear H
  go_enter Tryz.func104, Tryz.ntmps104
  go_wp2_with (go_at_call 75; refine (KK.out _ ((Below.refl _ _).alloc (Nat.le_refl _) _)).mono ?_; rintro e W1 ⟨rfl, hB⟩)
  go_ret
  exact ⟨rfl, ((Below.refl _ _).alloc (Nat.le_refl _) _).trans (hB.mono (by simp))⟩
theorem peek_counterOf (c d : Nat) (r : Int) (v : Int) (w : World) (H : ∀ W : World, Below w.heap.size w W → Calls Tryz.prog 79 #[.int .i64 r, .pointer (some ⟨c, 0, none⟩), .pointer (some ⟨d, 0, none⟩)] W fun x w' => x = .returned (.int .i32 v) ∧ Below W.heap.size W w') :
    Calls Tryz.prog 104 #[.agg #[.func (.func 79) #[] #[.pointer (some ⟨c, 0, none⟩), .pointer (some ⟨d, 0, none⟩)]], .int .i64 r] w fun x w' => x = .returned (.int .i32 v) ∧ Below w.heap.size w w' := by
  have KK := Lib.hid H
  clear H
  go_enter Tryz.func104, Tryz.ntmps104
  go_wp2_with (go_at_call 79; refine (KK.out _ ((Below.refl _ _).alloc (Nat.le_refl _) _)).mono ?_; rintro e W1 ⟨rfl, hB⟩)
  go_ret
  exact ⟨rfl, ((Below.refl _ _).alloc (Nat.le_refl _) _).trans (hB.mono (by simp))⟩
theorem read_pinsOf (c : Nat) (r : Int) (v : Int) (w : World) (H : ∀ W : World, Below w.heap.size w W → Calls Tryz.prog 70 #[.int .i64 r, .pointer (some ⟨c, 0, none⟩)] W fun x w' => x = .returned (.int .i32 v) ∧ Below W.heap.size W w') :
    Calls Tryz.prog 105 #[.agg #[.func (.func 70) #[] #[.pointer (some ⟨c, 0, none⟩)]], .int .i64 r] w fun x w' => x = .returned (.int .i32 v) ∧ Below w.heap.size w w' := by
  have KK := Lib.hid H
  clear H
  go_enter Tryz.func105, Tryz.ntmps105
  go_wp2_with (go_at_call 70; refine (KK.out _ ((Below.refl _ _).alloc (Nat.le_refl _) _)).mono ?_; rintro e W1 ⟨rfl, hB⟩)
  go_ret
  exact ⟨rfl, ((Below.refl _ _).alloc (Nat.le_refl _) _).trans (hB.mono (by simp))⟩
theorem read_serialOf (c : Nat) (r : Int) (v : Int) (w : World) (H : ∀ W : World, Below w.heap.size w W → Calls Tryz.prog 72 #[.int .i64 r, .pointer (some ⟨c, 0, none⟩)] W fun x w' => x = .returned (.int .i32 v) ∧ Below W.heap.size W w') :
    Calls Tryz.prog 105 #[.agg #[.func (.func 72) #[] #[.pointer (some ⟨c, 0, none⟩)]], .int .i64 r] w fun x w' => x = .returned (.int .i32 v) ∧ Below w.heap.size w w' := by
  have KK := Lib.hid H
  clear H
  go_enter Tryz.func105, Tryz.ntmps105
  go_wp2_with (go_at_call 72; refine (KK.out _ ((Below.refl _ _).alloc (Nat.le_refl _) _)).mono ?_; rintro e W1 ⟨rfl, hB⟩)
  go_ret
  exact ⟨rfl, ((Below.refl _ _).alloc (Nat.le_refl _) _).trans (hB.mono (by simp))⟩
theorem read_controllerOf (c : Nat) (r : Int) (v : Int) (w : World) (H : ∀ W : World, Below w.heap.size w W → Calls Tryz.prog 75 #[.int .i64 r, .pointer (some ⟨c, 0, none⟩)] W fun x w' => x = .returned (.int .i32 v) ∧ Below W.heap.size W w') :
    Calls Tryz.prog 105 #[.agg #[.func (.func 75) #[] #[.pointer (some ⟨c, 0, none⟩)]], .int .i64 r] w fun x w' => x = .returned (.int .i32 v) ∧ Below w.heap.size w w' := by
  have KK := Lib.hid H
  clear H
  go_enter Tryz.func105, Tryz.ntmps105
  go_wp2_with (go_at_call 75; refine (KK.out _ ((Below.refl _ _).alloc (Nat.le_refl _) _)).mono ?_; rintro e W1 ⟨rfl, hB⟩)
  go_ret
  exact ⟨rfl, ((Below.refl _ _).alloc (Nat.le_refl _) _).trans (hB.mono (by simp))⟩
theorem read_counterOf (c d : Nat) (r : Int) (v : Int) (w : World) (H : ∀ W : World, Below w.heap.size w W → Calls Tryz.prog 79 #[.int .i64 r, .pointer (some ⟨c, 0, none⟩), .pointer (some ⟨d, 0, none⟩)] W fun x w' => x = .returned (.int .i32 v) ∧ Below W.heap.size W w') :
    Calls Tryz.prog 105 #[.agg #[.func (.func 79) #[] #[.pointer (some ⟨c, 0, none⟩), .pointer (some ⟨d, 0, none⟩)]], .int .i64 r] w fun x w' => x = .returned (.int .i32 v) ∧ Below w.heap.size w w' := by
  have KK := Lib.hid H
  clear H
  go_enter Tryz.func105, Tryz.ntmps105
  go_wp2_with (go_at_call 79; refine (KK.out _ ((Below.refl _ _).alloc (Nat.le_refl _) _)).mono ?_; rintro e W1 ⟨rfl, hB⟩)
  go_ret
  exact ⟨rfl, ((Below.refl _ _).alloc (Nat.le_refl _) _).trans (hB.mono (by simp))⟩
end Go.Proofs.YtkodoldkfeopdaaGreat
