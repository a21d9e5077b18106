/-
  What the operators do, each by its contract: the closures out of the maps, at each operator. Made by wip/genfoldbin.py.
-/
import Derived.Test.YthmphmndpfkbcaaMapLit
import Derived.IntWalk
namespace Go.Proofs.Ythmphmndpfkbcaa
open Go.RowKit
set_option linter.unusedVariables false
theorem uInt : Try.prog.underlying 3 = some (.int .i64) := by kernel_rfl
abbrev fnV (f : Nat) : Value := .func (.func f) #[] #[]
abbrev en (k : Int) (f : Nat) (b : Nat) : MapEntry := { key := .int .i64 k, val := fnV f, born := b }
theorem ret_i64 {a b : Int} (h : a = b) : Ending.returned (.int .i64 a) = .returned (.int .i64 b) := by rw [h]
theorem ret_i64b {a b : Int} (x : Bool) (h : a = b) : Ending.returned (.tuple #[.int .i64 a, .bool x]) = .returned (.tuple #[.int .i64 b, .bool x]) := by rw [h]
theorem mty_ii : Try.prog.underlying 101 = some (.map 3 99) := by kernel_rfl
theorem zfn_ii (w : World) : (zeroValue 99).run Try.prog w = .ok .nilFunc w := by kernel_rfl
theorem mty_ib : Try.prog.underlying 98 = some (.map 3 96) := by kernel_rfl
theorem zfn_ib (w : World) : (zeroValue 96).run Try.prog w = .ok .nilFunc w := by kernel_rfl
theorem mty_i : Try.prog.underlying 84 = some (.map 3 82) := by kernel_rfl
theorem zfn_i (w : World) : (zeroValue 82).run Try.prog w = .ok .nilFunc w := by kernel_rfl
set_option maxRecDepth 100000 in
theorem exact9 (a b : Int) (w : World) (ha : -2147483648 ≤ a) (ha2 : a ≤ 2147483647) (hb : -2147483648 ≤ b) (hb2 : b ≤ 2147483647) (hm : -4611686018427387904 ≤ a * b) (hm2 : a * b ≤ 4611686018427387904) :
    Calls Try.prog 43 #[.int .i64 9, .int .i64 a, .int .i64 b] w fun e w' => e = .returned (.tuple #[.int .i64 (a * b), .bool true]) ∧ Below w.heap.size w w' := by
  have hmm := @run_makeMap Try.prog
  have i0 := run_ins mty_ii uInt w #[] #[en 9 62 0] 0 1 9 (fnV 62) rfl rfl rfl
  have i1 := run_ins mty_ii uInt w #[en 9 62 0] #[en 9 62 0, en 10 63 1] 1 2 10 (fnV 63) rfl rfl rfl
  have i2 := run_ins mty_ii uInt w #[en 9 62 0, en 10 63 1] #[en 9 62 0, en 10 63 1, en 12 64 2] 2 3 12 (fnV 64) rfl rfl rfl
  have i3 := run_ins mty_ii uInt w #[en 9 62 0, en 10 63 1, en 12 64 2] #[en 9 62 0, en 10 63 1, en 12 64 2, en 13 65 3] 3 4 13 (fnV 65) rfl rfl rfl
  have i4 := run_ins mty_ii uInt w #[en 9 62 0, en 10 63 1, en 12 64 2, en 13 65 3] #[en 9 62 0, en 10 63 1, en 12 64 2, en 13 65 3, en 14 66 4] 4 5 14 (fnV 66) rfl rfl rfl
  have l := run_look mty_ii uInt (w.alloc (.map #[en 9 62 0, en 10 63 1, en 12 64 2, en 13 65 3, en 14 66 4] 5)) w.heap.size _ _ (alloc_at _ _) 9 0 (fnV 62) rfl
  go_enter Try.func43, Try.ntmps43
  go_wp2
  go_ret2
  exact ⟨rfl, (Below.refl _ _).alloc (Nat.le_refl _) _⟩
set_option maxRecDepth 100000 in
theorem exact10 (a b : Int) (w : World) (ha : -2147483648 ≤ a) (ha2 : a ≤ 2147483647) (hb : -2147483648 ≤ b) (hb2 : b ≤ 2147483647) (hz : b ≠ 0) (hz2 : (b == 0) = false) :
    Calls Try.prog 43 #[.int .i64 10, .int .i64 a, .int .i64 b] w fun e w' => e = .returned (.tuple #[.int .i64 (wrap64 (a.tdiv b)), .bool true]) ∧ Below w.heap.size w w' := by
  have hmm := @run_makeMap Try.prog
  have i0 := run_ins mty_ii uInt w #[] #[en 9 62 0] 0 1 9 (fnV 62) rfl rfl rfl
  have i1 := run_ins mty_ii uInt w #[en 9 62 0] #[en 9 62 0, en 10 63 1] 1 2 10 (fnV 63) rfl rfl rfl
  have i2 := run_ins mty_ii uInt w #[en 9 62 0, en 10 63 1] #[en 9 62 0, en 10 63 1, en 12 64 2] 2 3 12 (fnV 64) rfl rfl rfl
  have i3 := run_ins mty_ii uInt w #[en 9 62 0, en 10 63 1, en 12 64 2] #[en 9 62 0, en 10 63 1, en 12 64 2, en 13 65 3] 3 4 13 (fnV 65) rfl rfl rfl
  have i4 := run_ins mty_ii uInt w #[en 9 62 0, en 10 63 1, en 12 64 2, en 13 65 3] #[en 9 62 0, en 10 63 1, en 12 64 2, en 13 65 3, en 14 66 4] 4 5 14 (fnV 66) rfl rfl rfl
  have l := run_look mty_ii uInt (w.alloc (.map #[en 9 62 0, en 10 63 1, en 12 64 2, en 13 65 3, en 14 66 4] 5)) w.heap.size _ _ (alloc_at _ _) 10 1 (fnV 63) rfl
  go_enter Try.func43, Try.ntmps43
  go_wp2
  go_ret2
  exact ⟨rfl, (Below.refl _ _).alloc (Nat.le_refl _) _⟩
set_option maxRecDepth 100000 in
theorem exact11 (a b : Int) (w : World) (ha : -2147483648 ≤ a) (ha2 : a ≤ 2147483647) (hb : -2147483648 ≤ b) (hb2 : b ≤ 2147483647)  :
    Calls Try.prog 43 #[.int .i64 11, .int .i64 a, .int .i64 b] w fun e w' => e = .returned (.tuple #[.int .i64 0, .bool false]) ∧ Below w.heap.size w w' := by
  have hmm := @run_makeMap Try.prog
  have i0 := run_ins mty_ii uInt w #[] #[en 9 62 0] 0 1 9 (fnV 62) rfl rfl rfl
  have i1 := run_ins mty_ii uInt w #[en 9 62 0] #[en 9 62 0, en 10 63 1] 1 2 10 (fnV 63) rfl rfl rfl
  have i2 := run_ins mty_ii uInt w #[en 9 62 0, en 10 63 1] #[en 9 62 0, en 10 63 1, en 12 64 2] 2 3 12 (fnV 64) rfl rfl rfl
  have i3 := run_ins mty_ii uInt w #[en 9 62 0, en 10 63 1, en 12 64 2] #[en 9 62 0, en 10 63 1, en 12 64 2, en 13 65 3] 3 4 13 (fnV 65) rfl rfl rfl
  have i4 := run_ins mty_ii uInt w #[en 9 62 0, en 10 63 1, en 12 64 2, en 13 65 3] #[en 9 62 0, en 10 63 1, en 12 64 2, en 13 65 3, en 14 66 4] 4 5 14 (fnV 66) rfl rfl rfl
  have l := run_look_none mty_ii uInt (w.alloc (.map #[en 9 62 0, en 10 63 1, en 12 64 2, en 13 65 3, en 14 66 4] 5)) w.heap.size _ _ (alloc_at _ _) 11 _ (zfn_ii _) rfl
  go_enter Try.func43, Try.ntmps43
  go_wp2
  go_ret2
  exact ⟨rfl, (Below.refl _ _).alloc (Nat.le_refl _) _⟩
set_option maxRecDepth 100000 in
theorem exact12 (a b : Int) (w : World) (ha : -2147483648 ≤ a) (ha2 : a ≤ 2147483647) (hb : -2147483648 ≤ b) (hb2 : b ≤ 2147483647)  :
    Calls Try.prog 43 #[.int .i64 12, .int .i64 a, .int .i64 b] w fun e w' => e = .returned (.tuple #[.int .i64 (a + b), .bool true]) ∧ Below w.heap.size w w' := by
  have hmm := @run_makeMap Try.prog
  have i0 := run_ins mty_ii uInt w #[] #[en 9 62 0] 0 1 9 (fnV 62) rfl rfl rfl
  have i1 := run_ins mty_ii uInt w #[en 9 62 0] #[en 9 62 0, en 10 63 1] 1 2 10 (fnV 63) rfl rfl rfl
  have i2 := run_ins mty_ii uInt w #[en 9 62 0, en 10 63 1] #[en 9 62 0, en 10 63 1, en 12 64 2] 2 3 12 (fnV 64) rfl rfl rfl
  have i3 := run_ins mty_ii uInt w #[en 9 62 0, en 10 63 1, en 12 64 2] #[en 9 62 0, en 10 63 1, en 12 64 2, en 13 65 3] 3 4 13 (fnV 65) rfl rfl rfl
  have i4 := run_ins mty_ii uInt w #[en 9 62 0, en 10 63 1, en 12 64 2, en 13 65 3] #[en 9 62 0, en 10 63 1, en 12 64 2, en 13 65 3, en 14 66 4] 4 5 14 (fnV 66) rfl rfl rfl
  have l := run_look mty_ii uInt (w.alloc (.map #[en 9 62 0, en 10 63 1, en 12 64 2, en 13 65 3, en 14 66 4] 5)) w.heap.size _ _ (alloc_at _ _) 12 2 (fnV 64) rfl
  go_enter Try.func43, Try.ntmps43
  go_wp2
  go_ret2
  exact ⟨rfl, (Below.refl _ _).alloc (Nat.le_refl _) _⟩
set_option maxRecDepth 100000 in
theorem exact13 (a b : Int) (w : World) (ha : -2147483648 ≤ a) (ha2 : a ≤ 2147483647) (hb : -2147483648 ≤ b) (hb2 : b ≤ 2147483647)  :
    Calls Try.prog 43 #[.int .i64 13, .int .i64 a, .int .i64 b] w fun e w' => e = .returned (.tuple #[.int .i64 (a - b), .bool true]) ∧ Below w.heap.size w w' := by
  have hmm := @run_makeMap Try.prog
  have i0 := run_ins mty_ii uInt w #[] #[en 9 62 0] 0 1 9 (fnV 62) rfl rfl rfl
  have i1 := run_ins mty_ii uInt w #[en 9 62 0] #[en 9 62 0, en 10 63 1] 1 2 10 (fnV 63) rfl rfl rfl
  have i2 := run_ins mty_ii uInt w #[en 9 62 0, en 10 63 1] #[en 9 62 0, en 10 63 1, en 12 64 2] 2 3 12 (fnV 64) rfl rfl rfl
  have i3 := run_ins mty_ii uInt w #[en 9 62 0, en 10 63 1, en 12 64 2] #[en 9 62 0, en 10 63 1, en 12 64 2, en 13 65 3] 3 4 13 (fnV 65) rfl rfl rfl
  have i4 := run_ins mty_ii uInt w #[en 9 62 0, en 10 63 1, en 12 64 2, en 13 65 3] #[en 9 62 0, en 10 63 1, en 12 64 2, en 13 65 3, en 14 66 4] 4 5 14 (fnV 66) rfl rfl rfl
  have l := run_look mty_ii uInt (w.alloc (.map #[en 9 62 0, en 10 63 1, en 12 64 2, en 13 65 3, en 14 66 4] 5)) w.heap.size _ _ (alloc_at _ _) 13 3 (fnV 65) rfl
  go_enter Try.func43, Try.ntmps43
  go_wp2
  go_ret2
  exact ⟨rfl, (Below.refl _ _).alloc (Nat.le_refl _) _⟩
set_option maxRecDepth 100000 in
theorem exact14 (a b : Int) (w : World) (ha : -2147483648 ≤ a) (ha2 : a ≤ 2147483647) (hb : -2147483648 ≤ b) (hb2 : b ≤ 2147483647) (h0 : 0 ≤ b) (h1 : b ≤ 31) :
    Calls Try.prog 43 #[.int .i64 14, .int .i64 a, .int .i64 b] w fun e w' => e = .returned (.tuple #[.int .i64 (wrap64 (a * 2 ^ b.toNat)), .bool true]) ∧ Below w.heap.size w w' := by
  have hmm := @run_makeMap Try.prog
  have i0 := run_ins mty_ii uInt w #[] #[en 9 62 0] 0 1 9 (fnV 62) rfl rfl rfl
  have i1 := run_ins mty_ii uInt w #[en 9 62 0] #[en 9 62 0, en 10 63 1] 1 2 10 (fnV 63) rfl rfl rfl
  have i2 := run_ins mty_ii uInt w #[en 9 62 0, en 10 63 1] #[en 9 62 0, en 10 63 1, en 12 64 2] 2 3 12 (fnV 64) rfl rfl rfl
  have i3 := run_ins mty_ii uInt w #[en 9 62 0, en 10 63 1, en 12 64 2] #[en 9 62 0, en 10 63 1, en 12 64 2, en 13 65 3] 3 4 13 (fnV 65) rfl rfl rfl
  have i4 := run_ins mty_ii uInt w #[en 9 62 0, en 10 63 1, en 12 64 2, en 13 65 3] #[en 9 62 0, en 10 63 1, en 12 64 2, en 13 65 3, en 14 66 4] 4 5 14 (fnV 66) rfl rfl rfl
  have l := run_look mty_ii uInt (w.alloc (.map #[en 9 62 0, en 10 63 1, en 12 64 2, en 13 65 3, en 14 66 4] 5)) w.heap.size _ _ (alloc_at _ _) 14 4 (fnV 66) rfl
  go_enter Try.func43, Try.ntmps43
  go_wp2
  go_ret2
  exact ⟨rfl, (Below.refl _ _).alloc (Nat.le_refl _) _⟩
set_option maxRecDepth 100000 in
theorem exact15 (a b : Int) (w : World) (ha : -2147483648 ≤ a) (ha2 : a ≤ 2147483647) (hb : -2147483648 ≤ b) (hb2 : b ≤ 2147483647)  :
    Calls Try.prog 43 #[.int .i64 15, .int .i64 a, .int .i64 b] w fun e w' => e = .returned (.tuple #[.int .i64 0, .bool false]) ∧ Below w.heap.size w w' := by
  have hmm := @run_makeMap Try.prog
  have i0 := run_ins mty_ii uInt w #[] #[en 9 62 0] 0 1 9 (fnV 62) rfl rfl rfl
  have i1 := run_ins mty_ii uInt w #[en 9 62 0] #[en 9 62 0, en 10 63 1] 1 2 10 (fnV 63) rfl rfl rfl
  have i2 := run_ins mty_ii uInt w #[en 9 62 0, en 10 63 1] #[en 9 62 0, en 10 63 1, en 12 64 2] 2 3 12 (fnV 64) rfl rfl rfl
  have i3 := run_ins mty_ii uInt w #[en 9 62 0, en 10 63 1, en 12 64 2] #[en 9 62 0, en 10 63 1, en 12 64 2, en 13 65 3] 3 4 13 (fnV 65) rfl rfl rfl
  have i4 := run_ins mty_ii uInt w #[en 9 62 0, en 10 63 1, en 12 64 2, en 13 65 3] #[en 9 62 0, en 10 63 1, en 12 64 2, en 13 65 3, en 14 66 4] 4 5 14 (fnV 66) rfl rfl rfl
  have l := run_look_none mty_ii uInt (w.alloc (.map #[en 9 62 0, en 10 63 1, en 12 64 2, en 13 65 3, en 14 66 4] 5)) w.heap.size _ _ (alloc_at _ _) 15 _ (zfn_ii _) rfl
  go_enter Try.func43, Try.ntmps43
  go_wp2
  go_ret2
  exact ⟨rfl, (Below.refl _ _).alloc (Nat.le_refl _) _⟩
set_option maxRecDepth 100000 in
theorem exact22 (a b : Int) (w : World) (ha : -2147483648 ≤ a) (ha2 : a ≤ 2147483647) (hb : -2147483648 ≤ b) (hb2 : b ≤ 2147483647)  :
    Calls Try.prog 43 #[.int .i64 22, .int .i64 a, .int .i64 b] w fun e w' => e = .returned (.tuple #[.int .i64 0, .bool false]) ∧ Below w.heap.size w w' := by
  have hmm := @run_makeMap Try.prog
  have i0 := run_ins mty_ii uInt w #[] #[en 9 62 0] 0 1 9 (fnV 62) rfl rfl rfl
  have i1 := run_ins mty_ii uInt w #[en 9 62 0] #[en 9 62 0, en 10 63 1] 1 2 10 (fnV 63) rfl rfl rfl
  have i2 := run_ins mty_ii uInt w #[en 9 62 0, en 10 63 1] #[en 9 62 0, en 10 63 1, en 12 64 2] 2 3 12 (fnV 64) rfl rfl rfl
  have i3 := run_ins mty_ii uInt w #[en 9 62 0, en 10 63 1, en 12 64 2] #[en 9 62 0, en 10 63 1, en 12 64 2, en 13 65 3] 3 4 13 (fnV 65) rfl rfl rfl
  have i4 := run_ins mty_ii uInt w #[en 9 62 0, en 10 63 1, en 12 64 2, en 13 65 3] #[en 9 62 0, en 10 63 1, en 12 64 2, en 13 65 3, en 14 66 4] 4 5 14 (fnV 66) rfl rfl rfl
  have l := run_look_none mty_ii uInt (w.alloc (.map #[en 9 62 0, en 10 63 1, en 12 64 2, en 13 65 3, en 14 66 4] 5)) w.heap.size _ _ (alloc_at _ _) 22 _ (zfn_ii _) rfl
  go_enter Try.func43, Try.ntmps43
  go_wp2
  go_ret2
  exact ⟨rfl, (Below.refl _ _).alloc (Nat.le_refl _) _⟩
set_option maxRecDepth 100000 in
theorem exact23 (a b : Int) (w : World) (ha : -2147483648 ≤ a) (ha2 : a ≤ 2147483647) (hb : -2147483648 ≤ b) (hb2 : b ≤ 2147483647)  :
    Calls Try.prog 43 #[.int .i64 23, .int .i64 a, .int .i64 b] w fun e w' => e = .returned (.tuple #[.int .i64 0, .bool false]) ∧ Below w.heap.size w w' := by
  have hmm := @run_makeMap Try.prog
  have i0 := run_ins mty_ii uInt w #[] #[en 9 62 0] 0 1 9 (fnV 62) rfl rfl rfl
  have i1 := run_ins mty_ii uInt w #[en 9 62 0] #[en 9 62 0, en 10 63 1] 1 2 10 (fnV 63) rfl rfl rfl
  have i2 := run_ins mty_ii uInt w #[en 9 62 0, en 10 63 1] #[en 9 62 0, en 10 63 1, en 12 64 2] 2 3 12 (fnV 64) rfl rfl rfl
  have i3 := run_ins mty_ii uInt w #[en 9 62 0, en 10 63 1, en 12 64 2] #[en 9 62 0, en 10 63 1, en 12 64 2, en 13 65 3] 3 4 13 (fnV 65) rfl rfl rfl
  have i4 := run_ins mty_ii uInt w #[en 9 62 0, en 10 63 1, en 12 64 2, en 13 65 3] #[en 9 62 0, en 10 63 1, en 12 64 2, en 13 65 3, en 14 66 4] 4 5 14 (fnV 66) rfl rfl rfl
  have l := run_look_none mty_ii uInt (w.alloc (.map #[en 9 62 0, en 10 63 1, en 12 64 2, en 13 65 3, en 14 66 4] 5)) w.heap.size _ _ (alloc_at _ _) 23 _ (zfn_ii _) rfl
  go_enter Try.func43, Try.ntmps43
  go_wp2
  go_ret2
  exact ⟨rfl, (Below.refl _ _).alloc (Nat.le_refl _) _⟩
set_option maxRecDepth 100000 in
theorem exact24 (a b : Int) (w : World) (ha : -2147483648 ≤ a) (ha2 : a ≤ 2147483647) (hb : -2147483648 ≤ b) (hb2 : b ≤ 2147483647)  :
    Calls Try.prog 43 #[.int .i64 24, .int .i64 a, .int .i64 b] w fun e w' => e = .returned (.tuple #[.int .i64 0, .bool false]) ∧ Below w.heap.size w w' := by
  have hmm := @run_makeMap Try.prog
  have i0 := run_ins mty_ii uInt w #[] #[en 9 62 0] 0 1 9 (fnV 62) rfl rfl rfl
  have i1 := run_ins mty_ii uInt w #[en 9 62 0] #[en 9 62 0, en 10 63 1] 1 2 10 (fnV 63) rfl rfl rfl
  have i2 := run_ins mty_ii uInt w #[en 9 62 0, en 10 63 1] #[en 9 62 0, en 10 63 1, en 12 64 2] 2 3 12 (fnV 64) rfl rfl rfl
  have i3 := run_ins mty_ii uInt w #[en 9 62 0, en 10 63 1, en 12 64 2] #[en 9 62 0, en 10 63 1, en 12 64 2, en 13 65 3] 3 4 13 (fnV 65) rfl rfl rfl
  have i4 := run_ins mty_ii uInt w #[en 9 62 0, en 10 63 1, en 12 64 2, en 13 65 3] #[en 9 62 0, en 10 63 1, en 12 64 2, en 13 65 3, en 14 66 4] 4 5 14 (fnV 66) rfl rfl rfl
  have l := run_look_none mty_ii uInt (w.alloc (.map #[en 9 62 0, en 10 63 1, en 12 64 2, en 13 65 3, en 14 66 4] 5)) w.heap.size _ _ (alloc_at _ _) 24 _ (zfn_ii _) rfl
  go_enter Try.func43, Try.ntmps43
  go_wp2
  go_ret2
  exact ⟨rfl, (Below.refl _ _).alloc (Nat.le_refl _) _⟩
set_option maxRecDepth 100000 in
theorem exact0 (a b : Int) (w : World) (ha : -2147483648 ≤ a) (ha2 : a ≤ 2147483647) (hb : -2147483648 ≤ b) (hb2 : b ≤ 2147483647)  :
    Calls Try.prog 43 #[.int .i64 0, .int .i64 a, .int .i64 b] w fun e w' => e = .returned (.tuple #[.int .i64 0, .bool false]) ∧ Below w.heap.size w w' := by
  have hmm := @run_makeMap Try.prog
  have i0 := run_ins mty_ii uInt w #[] #[en 9 62 0] 0 1 9 (fnV 62) rfl rfl rfl
  have i1 := run_ins mty_ii uInt w #[en 9 62 0] #[en 9 62 0, en 10 63 1] 1 2 10 (fnV 63) rfl rfl rfl
  have i2 := run_ins mty_ii uInt w #[en 9 62 0, en 10 63 1] #[en 9 62 0, en 10 63 1, en 12 64 2] 2 3 12 (fnV 64) rfl rfl rfl
  have i3 := run_ins mty_ii uInt w #[en 9 62 0, en 10 63 1, en 12 64 2] #[en 9 62 0, en 10 63 1, en 12 64 2, en 13 65 3] 3 4 13 (fnV 65) rfl rfl rfl
  have i4 := run_ins mty_ii uInt w #[en 9 62 0, en 10 63 1, en 12 64 2, en 13 65 3] #[en 9 62 0, en 10 63 1, en 12 64 2, en 13 65 3, en 14 66 4] 4 5 14 (fnV 66) rfl rfl rfl
  have l := run_look_none mty_ii uInt (w.alloc (.map #[en 9 62 0, en 10 63 1, en 12 64 2, en 13 65 3, en 14 66 4] 5)) w.heap.size _ _ (alloc_at _ _) 0 _ (zfn_ii _) rfl
  go_enter Try.func43, Try.ntmps43
  go_wp2
  go_ret2
  exact ⟨rfl, (Below.refl _ _).alloc (Nat.le_refl _) _⟩
set_option maxRecDepth 100000 in
theorem inBits11 (a b : Int) (w : World) (ha : -2147483648 ≤ a) (ha2 : a ≤ 2147483647) (hb : -2147483648 ≤ b) (hb2 : b ≤ 2147483647) (hz : b ≠ 0) (hz2 : (b == 0) = false) :
    Calls Try.prog 44 #[.int .i64 11, .int .i64 a, .int .i64 b] w fun e w' => e = .returned (.int .i64 (a.tmod b)) ∧ Below w.heap.size w w' := by
  have hmm := @run_makeMap Try.prog
  have i0 := run_ins mty_ii uInt w #[] #[en 11 67 0] 0 1 11 (fnV 67) rfl rfl rfl
  have i1 := run_ins mty_ii uInt w #[en 11 67 0] #[en 11 67 0, en 15 68 1] 1 2 15 (fnV 68) rfl rfl rfl
  have i2 := run_ins mty_ii uInt w #[en 11 67 0, en 15 68 1] #[en 11 67 0, en 15 68 1, en 22 69 2] 2 3 22 (fnV 69) rfl rfl rfl
  have i3 := run_ins mty_ii uInt w #[en 11 67 0, en 15 68 1, en 22 69 2] #[en 11 67 0, en 15 68 1, en 22 69 2, en 23 70 3] 3 4 23 (fnV 70) rfl rfl rfl
  have i4 := run_ins mty_ii uInt w #[en 11 67 0, en 15 68 1, en 22 69 2, en 23 70 3] #[en 11 67 0, en 15 68 1, en 22 69 2, en 23 70 3, en 24 71 4] 4 5 24 (fnV 71) rfl rfl rfl
  have l := run_look mty_ii uInt (w.alloc (.map #[en 11 67 0, en 15 68 1, en 22 69 2, en 23 70 3, en 24 71 4] 5)) w.heap.size _ _ (alloc_at _ _) 11 0 (fnV 67) rfl
  go_enter Try.func44, Try.ntmps44
  go_wp2
  go_ret
  exact ⟨rfl, (Below.refl _ _).alloc (Nat.le_refl _) _⟩
set_option maxRecDepth 100000 in
theorem inBits15 (a b : Int) (w : World) (ha : -2147483648 ≤ a) (ha2 : a ≤ 2147483647) (hb : -2147483648 ≤ b) (hb2 : b ≤ 2147483647) (h0 : 0 ≤ b) (h1 : b ≤ 31) :
    Calls Try.prog 44 #[.int .i64 15, .int .i64 a, .int .i64 b] w fun e w' => e = .returned (.int .i64 (a / 2 ^ b.toNat)) ∧ Below w.heap.size w w' := by
  have hmm := @run_makeMap Try.prog
  have i0 := run_ins mty_ii uInt w #[] #[en 11 67 0] 0 1 11 (fnV 67) rfl rfl rfl
  have i1 := run_ins mty_ii uInt w #[en 11 67 0] #[en 11 67 0, en 15 68 1] 1 2 15 (fnV 68) rfl rfl rfl
  have i2 := run_ins mty_ii uInt w #[en 11 67 0, en 15 68 1] #[en 11 67 0, en 15 68 1, en 22 69 2] 2 3 22 (fnV 69) rfl rfl rfl
  have i3 := run_ins mty_ii uInt w #[en 11 67 0, en 15 68 1, en 22 69 2] #[en 11 67 0, en 15 68 1, en 22 69 2, en 23 70 3] 3 4 23 (fnV 70) rfl rfl rfl
  have i4 := run_ins mty_ii uInt w #[en 11 67 0, en 15 68 1, en 22 69 2, en 23 70 3] #[en 11 67 0, en 15 68 1, en 22 69 2, en 23 70 3, en 24 71 4] 4 5 24 (fnV 71) rfl rfl rfl
  have l := run_look mty_ii uInt (w.alloc (.map #[en 11 67 0, en 15 68 1, en 22 69 2, en 23 70 3, en 24 71 4] 5)) w.heap.size _ _ (alloc_at _ _) 15 1 (fnV 68) rfl
  go_enter Try.func44, Try.ntmps44
  go_wp2
  go_ret
  exact ⟨rfl, (Below.refl _ _).alloc (Nat.le_refl _) _⟩
set_option maxRecDepth 100000 in
theorem inBits22 (a b : Int) (w : World) (ha : -2147483648 ≤ a) (ha2 : a ≤ 2147483647) (hb : -2147483648 ≤ b) (hb2 : b ≤ 2147483647)  :
    Calls Try.prog 44 #[.int .i64 22, .int .i64 a, .int .i64 b] w fun e w' => e = .returned (.int .i64 (bits BinOp.and IntKind.i64 a b)) ∧ Below w.heap.size w w' := by
  have hmm := @run_makeMap Try.prog
  have i0 := run_ins mty_ii uInt w #[] #[en 11 67 0] 0 1 11 (fnV 67) rfl rfl rfl
  have i1 := run_ins mty_ii uInt w #[en 11 67 0] #[en 11 67 0, en 15 68 1] 1 2 15 (fnV 68) rfl rfl rfl
  have i2 := run_ins mty_ii uInt w #[en 11 67 0, en 15 68 1] #[en 11 67 0, en 15 68 1, en 22 69 2] 2 3 22 (fnV 69) rfl rfl rfl
  have i3 := run_ins mty_ii uInt w #[en 11 67 0, en 15 68 1, en 22 69 2] #[en 11 67 0, en 15 68 1, en 22 69 2, en 23 70 3] 3 4 23 (fnV 70) rfl rfl rfl
  have i4 := run_ins mty_ii uInt w #[en 11 67 0, en 15 68 1, en 22 69 2, en 23 70 3] #[en 11 67 0, en 15 68 1, en 22 69 2, en 23 70 3, en 24 71 4] 4 5 24 (fnV 71) rfl rfl rfl
  have l := run_look mty_ii uInt (w.alloc (.map #[en 11 67 0, en 15 68 1, en 22 69 2, en 23 70 3, en 24 71 4] 5)) w.heap.size _ _ (alloc_at _ _) 22 2 (fnV 69) rfl
  go_enter Try.func44, Try.ntmps44
  go_wp2
  go_ret
  exact ⟨rfl, (Below.refl _ _).alloc (Nat.le_refl _) _⟩
set_option maxRecDepth 100000 in
theorem inBits23 (a b : Int) (w : World) (ha : -2147483648 ≤ a) (ha2 : a ≤ 2147483647) (hb : -2147483648 ≤ b) (hb2 : b ≤ 2147483647)  :
    Calls Try.prog 44 #[.int .i64 23, .int .i64 a, .int .i64 b] w fun e w' => e = .returned (.int .i64 (bits BinOp.xor IntKind.i64 a b)) ∧ Below w.heap.size w w' := by
  have hmm := @run_makeMap Try.prog
  have i0 := run_ins mty_ii uInt w #[] #[en 11 67 0] 0 1 11 (fnV 67) rfl rfl rfl
  have i1 := run_ins mty_ii uInt w #[en 11 67 0] #[en 11 67 0, en 15 68 1] 1 2 15 (fnV 68) rfl rfl rfl
  have i2 := run_ins mty_ii uInt w #[en 11 67 0, en 15 68 1] #[en 11 67 0, en 15 68 1, en 22 69 2] 2 3 22 (fnV 69) rfl rfl rfl
  have i3 := run_ins mty_ii uInt w #[en 11 67 0, en 15 68 1, en 22 69 2] #[en 11 67 0, en 15 68 1, en 22 69 2, en 23 70 3] 3 4 23 (fnV 70) rfl rfl rfl
  have i4 := run_ins mty_ii uInt w #[en 11 67 0, en 15 68 1, en 22 69 2, en 23 70 3] #[en 11 67 0, en 15 68 1, en 22 69 2, en 23 70 3, en 24 71 4] 4 5 24 (fnV 71) rfl rfl rfl
  have l := run_look mty_ii uInt (w.alloc (.map #[en 11 67 0, en 15 68 1, en 22 69 2, en 23 70 3, en 24 71 4] 5)) w.heap.size _ _ (alloc_at _ _) 23 3 (fnV 70) rfl
  go_enter Try.func44, Try.ntmps44
  go_wp2
  go_ret
  exact ⟨rfl, (Below.refl _ _).alloc (Nat.le_refl _) _⟩
set_option maxRecDepth 100000 in
theorem inBits24 (a b : Int) (w : World) (ha : -2147483648 ≤ a) (ha2 : a ≤ 2147483647) (hb : -2147483648 ≤ b) (hb2 : b ≤ 2147483647)  :
    Calls Try.prog 44 #[.int .i64 24, .int .i64 a, .int .i64 b] w fun e w' => e = .returned (.int .i64 (bits BinOp.or IntKind.i64 a b)) ∧ Below w.heap.size w w' := by
  have hmm := @run_makeMap Try.prog
  have i0 := run_ins mty_ii uInt w #[] #[en 11 67 0] 0 1 11 (fnV 67) rfl rfl rfl
  have i1 := run_ins mty_ii uInt w #[en 11 67 0] #[en 11 67 0, en 15 68 1] 1 2 15 (fnV 68) rfl rfl rfl
  have i2 := run_ins mty_ii uInt w #[en 11 67 0, en 15 68 1] #[en 11 67 0, en 15 68 1, en 22 69 2] 2 3 22 (fnV 69) rfl rfl rfl
  have i3 := run_ins mty_ii uInt w #[en 11 67 0, en 15 68 1, en 22 69 2] #[en 11 67 0, en 15 68 1, en 22 69 2, en 23 70 3] 3 4 23 (fnV 70) rfl rfl rfl
  have i4 := run_ins mty_ii uInt w #[en 11 67 0, en 15 68 1, en 22 69 2, en 23 70 3] #[en 11 67 0, en 15 68 1, en 22 69 2, en 23 70 3, en 24 71 4] 4 5 24 (fnV 71) rfl rfl rfl
  have l := run_look mty_ii uInt (w.alloc (.map #[en 11 67 0, en 15 68 1, en 22 69 2, en 23 70 3, en 24 71 4] 5)) w.heap.size _ _ (alloc_at _ _) 24 4 (fnV 71) rfl
  go_enter Try.func44, Try.ntmps44
  go_wp2
  go_ret
  exact ⟨rfl, (Below.refl _ _).alloc (Nat.le_refl _) _⟩
set_option maxRecDepth 100000 in
theorem inBits0 (a b : Int) (w : World) (ha : -2147483648 ≤ a) (ha2 : a ≤ 2147483647) (hb : -2147483648 ≤ b) (hb2 : b ≤ 2147483647)  :
    Calls Try.prog 44 #[.int .i64 0, .int .i64 a, .int .i64 b] w fun e w' => e = .returned (.int .i64 0) ∧ Below w.heap.size w w' := by
  have hmm := @run_makeMap Try.prog
  have i0 := run_ins mty_ii uInt w #[] #[en 11 67 0] 0 1 11 (fnV 67) rfl rfl rfl
  have i1 := run_ins mty_ii uInt w #[en 11 67 0] #[en 11 67 0, en 15 68 1] 1 2 15 (fnV 68) rfl rfl rfl
  have i2 := run_ins mty_ii uInt w #[en 11 67 0, en 15 68 1] #[en 11 67 0, en 15 68 1, en 22 69 2] 2 3 22 (fnV 69) rfl rfl rfl
  have i3 := run_ins mty_ii uInt w #[en 11 67 0, en 15 68 1, en 22 69 2] #[en 11 67 0, en 15 68 1, en 22 69 2, en 23 70 3] 3 4 23 (fnV 70) rfl rfl rfl
  have i4 := run_ins mty_ii uInt w #[en 11 67 0, en 15 68 1, en 22 69 2, en 23 70 3] #[en 11 67 0, en 15 68 1, en 22 69 2, en 23 70 3, en 24 71 4] 4 5 24 (fnV 71) rfl rfl rfl
  have l := run_look_none mty_ii uInt (w.alloc (.map #[en 11 67 0, en 15 68 1, en 22 69 2, en 23 70 3, en 24 71 4] 5)) w.heap.size _ _ (alloc_at _ _) 0 _ (zfn_ii _) rfl
  go_enter Try.func44, Try.ntmps44
  go_wp2
  go_ret
  exact ⟨rfl, (Below.refl _ _).alloc (Nat.le_refl _) _⟩
set_option maxRecDepth 100000 in
theorem compared16 (a b : Int) (w : World) (ha : -2147483648 ≤ a) (ha2 : a ≤ 2147483647) (hb : -2147483648 ≤ b) (hb2 : b ≤ 2147483647)  :
    Calls Try.prog 42 #[.int .i64 16, .int .i64 a, .int .i64 b] w fun e w' => e = .returned (.bool (decide (a < b))) ∧ Below w.heap.size w w' := by
  have hmm := @run_makeMap Try.prog
  have i0 := run_ins mty_ib uInt w #[] #[en 16 56 0] 0 1 16 (fnV 56) rfl rfl rfl
  have i1 := run_ins mty_ib uInt w #[en 16 56 0] #[en 16 56 0, en 17 57 1] 1 2 17 (fnV 57) rfl rfl rfl
  have i2 := run_ins mty_ib uInt w #[en 16 56 0, en 17 57 1] #[en 16 56 0, en 17 57 1, en 18 58 2] 2 3 18 (fnV 58) rfl rfl rfl
  have i3 := run_ins mty_ib uInt w #[en 16 56 0, en 17 57 1, en 18 58 2] #[en 16 56 0, en 17 57 1, en 18 58 2, en 19 59 3] 3 4 19 (fnV 59) rfl rfl rfl
  have i4 := run_ins mty_ib uInt w #[en 16 56 0, en 17 57 1, en 18 58 2, en 19 59 3] #[en 16 56 0, en 17 57 1, en 18 58 2, en 19 59 3, en 20 60 4] 4 5 20 (fnV 60) rfl rfl rfl
  have i5 := run_ins mty_ib uInt w #[en 16 56 0, en 17 57 1, en 18 58 2, en 19 59 3, en 20 60 4] #[en 16 56 0, en 17 57 1, en 18 58 2, en 19 59 3, en 20 60 4, en 21 61 5] 5 6 21 (fnV 61) rfl rfl rfl
  have l := run_look mty_ib uInt (w.alloc (.map #[en 16 56 0, en 17 57 1, en 18 58 2, en 19 59 3, en 20 60 4, en 21 61 5] 6)) w.heap.size _ _ (alloc_at _ _) 16 0 (fnV 56) rfl
  go_enter Try.func42, Try.ntmps42
  go_wp2
  go_ret
  exact ⟨rfl, (Below.refl _ _).alloc (Nat.le_refl _) _⟩
set_option maxRecDepth 100000 in
theorem compared17 (a b : Int) (w : World) (ha : -2147483648 ≤ a) (ha2 : a ≤ 2147483647) (hb : -2147483648 ≤ b) (hb2 : b ≤ 2147483647)  :
    Calls Try.prog 42 #[.int .i64 17, .int .i64 a, .int .i64 b] w fun e w' => e = .returned (.bool (decide (a ≤ b))) ∧ Below w.heap.size w w' := by
  have hmm := @run_makeMap Try.prog
  have i0 := run_ins mty_ib uInt w #[] #[en 16 56 0] 0 1 16 (fnV 56) rfl rfl rfl
  have i1 := run_ins mty_ib uInt w #[en 16 56 0] #[en 16 56 0, en 17 57 1] 1 2 17 (fnV 57) rfl rfl rfl
  have i2 := run_ins mty_ib uInt w #[en 16 56 0, en 17 57 1] #[en 16 56 0, en 17 57 1, en 18 58 2] 2 3 18 (fnV 58) rfl rfl rfl
  have i3 := run_ins mty_ib uInt w #[en 16 56 0, en 17 57 1, en 18 58 2] #[en 16 56 0, en 17 57 1, en 18 58 2, en 19 59 3] 3 4 19 (fnV 59) rfl rfl rfl
  have i4 := run_ins mty_ib uInt w #[en 16 56 0, en 17 57 1, en 18 58 2, en 19 59 3] #[en 16 56 0, en 17 57 1, en 18 58 2, en 19 59 3, en 20 60 4] 4 5 20 (fnV 60) rfl rfl rfl
  have i5 := run_ins mty_ib uInt w #[en 16 56 0, en 17 57 1, en 18 58 2, en 19 59 3, en 20 60 4] #[en 16 56 0, en 17 57 1, en 18 58 2, en 19 59 3, en 20 60 4, en 21 61 5] 5 6 21 (fnV 61) rfl rfl rfl
  have l := run_look mty_ib uInt (w.alloc (.map #[en 16 56 0, en 17 57 1, en 18 58 2, en 19 59 3, en 20 60 4, en 21 61 5] 6)) w.heap.size _ _ (alloc_at _ _) 17 1 (fnV 57) rfl
  go_enter Try.func42, Try.ntmps42
  go_wp2
  go_ret
  exact ⟨rfl, (Below.refl _ _).alloc (Nat.le_refl _) _⟩
set_option maxRecDepth 100000 in
theorem compared18 (a b : Int) (w : World) (ha : -2147483648 ≤ a) (ha2 : a ≤ 2147483647) (hb : -2147483648 ≤ b) (hb2 : b ≤ 2147483647)  :
    Calls Try.prog 42 #[.int .i64 18, .int .i64 a, .int .i64 b] w fun e w' => e = .returned (.bool (decide (b < a))) ∧ Below w.heap.size w w' := by
  have hmm := @run_makeMap Try.prog
  have i0 := run_ins mty_ib uInt w #[] #[en 16 56 0] 0 1 16 (fnV 56) rfl rfl rfl
  have i1 := run_ins mty_ib uInt w #[en 16 56 0] #[en 16 56 0, en 17 57 1] 1 2 17 (fnV 57) rfl rfl rfl
  have i2 := run_ins mty_ib uInt w #[en 16 56 0, en 17 57 1] #[en 16 56 0, en 17 57 1, en 18 58 2] 2 3 18 (fnV 58) rfl rfl rfl
  have i3 := run_ins mty_ib uInt w #[en 16 56 0, en 17 57 1, en 18 58 2] #[en 16 56 0, en 17 57 1, en 18 58 2, en 19 59 3] 3 4 19 (fnV 59) rfl rfl rfl
  have i4 := run_ins mty_ib uInt w #[en 16 56 0, en 17 57 1, en 18 58 2, en 19 59 3] #[en 16 56 0, en 17 57 1, en 18 58 2, en 19 59 3, en 20 60 4] 4 5 20 (fnV 60) rfl rfl rfl
  have i5 := run_ins mty_ib uInt w #[en 16 56 0, en 17 57 1, en 18 58 2, en 19 59 3, en 20 60 4] #[en 16 56 0, en 17 57 1, en 18 58 2, en 19 59 3, en 20 60 4, en 21 61 5] 5 6 21 (fnV 61) rfl rfl rfl
  have l := run_look mty_ib uInt (w.alloc (.map #[en 16 56 0, en 17 57 1, en 18 58 2, en 19 59 3, en 20 60 4, en 21 61 5] 6)) w.heap.size _ _ (alloc_at _ _) 18 2 (fnV 58) rfl
  go_enter Try.func42, Try.ntmps42
  go_wp2
  go_ret
  exact ⟨rfl, (Below.refl _ _).alloc (Nat.le_refl _) _⟩
set_option maxRecDepth 100000 in
theorem compared19 (a b : Int) (w : World) (ha : -2147483648 ≤ a) (ha2 : a ≤ 2147483647) (hb : -2147483648 ≤ b) (hb2 : b ≤ 2147483647)  :
    Calls Try.prog 42 #[.int .i64 19, .int .i64 a, .int .i64 b] w fun e w' => e = .returned (.bool (decide (b ≤ a))) ∧ Below w.heap.size w w' := by
  have hmm := @run_makeMap Try.prog
  have i0 := run_ins mty_ib uInt w #[] #[en 16 56 0] 0 1 16 (fnV 56) rfl rfl rfl
  have i1 := run_ins mty_ib uInt w #[en 16 56 0] #[en 16 56 0, en 17 57 1] 1 2 17 (fnV 57) rfl rfl rfl
  have i2 := run_ins mty_ib uInt w #[en 16 56 0, en 17 57 1] #[en 16 56 0, en 17 57 1, en 18 58 2] 2 3 18 (fnV 58) rfl rfl rfl
  have i3 := run_ins mty_ib uInt w #[en 16 56 0, en 17 57 1, en 18 58 2] #[en 16 56 0, en 17 57 1, en 18 58 2, en 19 59 3] 3 4 19 (fnV 59) rfl rfl rfl
  have i4 := run_ins mty_ib uInt w #[en 16 56 0, en 17 57 1, en 18 58 2, en 19 59 3] #[en 16 56 0, en 17 57 1, en 18 58 2, en 19 59 3, en 20 60 4] 4 5 20 (fnV 60) rfl rfl rfl
  have i5 := run_ins mty_ib uInt w #[en 16 56 0, en 17 57 1, en 18 58 2, en 19 59 3, en 20 60 4] #[en 16 56 0, en 17 57 1, en 18 58 2, en 19 59 3, en 20 60 4, en 21 61 5] 5 6 21 (fnV 61) rfl rfl rfl
  have l := run_look mty_ib uInt (w.alloc (.map #[en 16 56 0, en 17 57 1, en 18 58 2, en 19 59 3, en 20 60 4, en 21 61 5] 6)) w.heap.size _ _ (alloc_at _ _) 19 3 (fnV 59) rfl
  go_enter Try.func42, Try.ntmps42
  go_wp2
  go_ret
  exact ⟨rfl, (Below.refl _ _).alloc (Nat.le_refl _) _⟩
set_option maxRecDepth 100000 in
theorem compared20 (a b : Int) (w : World) (ha : -2147483648 ≤ a) (ha2 : a ≤ 2147483647) (hb : -2147483648 ≤ b) (hb2 : b ≤ 2147483647)  :
    Calls Try.prog 42 #[.int .i64 20, .int .i64 a, .int .i64 b] w fun e w' => e = .returned (.bool (a == b)) ∧ Below w.heap.size w w' := by
  have hmm := @run_makeMap Try.prog
  have i0 := run_ins mty_ib uInt w #[] #[en 16 56 0] 0 1 16 (fnV 56) rfl rfl rfl
  have i1 := run_ins mty_ib uInt w #[en 16 56 0] #[en 16 56 0, en 17 57 1] 1 2 17 (fnV 57) rfl rfl rfl
  have i2 := run_ins mty_ib uInt w #[en 16 56 0, en 17 57 1] #[en 16 56 0, en 17 57 1, en 18 58 2] 2 3 18 (fnV 58) rfl rfl rfl
  have i3 := run_ins mty_ib uInt w #[en 16 56 0, en 17 57 1, en 18 58 2] #[en 16 56 0, en 17 57 1, en 18 58 2, en 19 59 3] 3 4 19 (fnV 59) rfl rfl rfl
  have i4 := run_ins mty_ib uInt w #[en 16 56 0, en 17 57 1, en 18 58 2, en 19 59 3] #[en 16 56 0, en 17 57 1, en 18 58 2, en 19 59 3, en 20 60 4] 4 5 20 (fnV 60) rfl rfl rfl
  have i5 := run_ins mty_ib uInt w #[en 16 56 0, en 17 57 1, en 18 58 2, en 19 59 3, en 20 60 4] #[en 16 56 0, en 17 57 1, en 18 58 2, en 19 59 3, en 20 60 4, en 21 61 5] 5 6 21 (fnV 61) rfl rfl rfl
  have l := run_look mty_ib uInt (w.alloc (.map #[en 16 56 0, en 17 57 1, en 18 58 2, en 19 59 3, en 20 60 4, en 21 61 5] 6)) w.heap.size _ _ (alloc_at _ _) 20 4 (fnV 60) rfl
  go_enter Try.func42, Try.ntmps42
  go_wp2
  go_ret
  exact ⟨rfl, (Below.refl _ _).alloc (Nat.le_refl _) _⟩
set_option maxRecDepth 100000 in
theorem compared21 (a b : Int) (w : World) (ha : -2147483648 ≤ a) (ha2 : a ≤ 2147483647) (hb : -2147483648 ≤ b) (hb2 : b ≤ 2147483647)  :
    Calls Try.prog 42 #[.int .i64 21, .int .i64 a, .int .i64 b] w fun e w' => e = .returned (.bool (a != b)) ∧ Below w.heap.size w w' := by
  have hmm := @run_makeMap Try.prog
  have i0 := run_ins mty_ib uInt w #[] #[en 16 56 0] 0 1 16 (fnV 56) rfl rfl rfl
  have i1 := run_ins mty_ib uInt w #[en 16 56 0] #[en 16 56 0, en 17 57 1] 1 2 17 (fnV 57) rfl rfl rfl
  have i2 := run_ins mty_ib uInt w #[en 16 56 0, en 17 57 1] #[en 16 56 0, en 17 57 1, en 18 58 2] 2 3 18 (fnV 58) rfl rfl rfl
  have i3 := run_ins mty_ib uInt w #[en 16 56 0, en 17 57 1, en 18 58 2] #[en 16 56 0, en 17 57 1, en 18 58 2, en 19 59 3] 3 4 19 (fnV 59) rfl rfl rfl
  have i4 := run_ins mty_ib uInt w #[en 16 56 0, en 17 57 1, en 18 58 2, en 19 59 3] #[en 16 56 0, en 17 57 1, en 18 58 2, en 19 59 3, en 20 60 4] 4 5 20 (fnV 60) rfl rfl rfl
  have i5 := run_ins mty_ib uInt w #[en 16 56 0, en 17 57 1, en 18 58 2, en 19 59 3, en 20 60 4] #[en 16 56 0, en 17 57 1, en 18 58 2, en 19 59 3, en 20 60 4, en 21 61 5] 5 6 21 (fnV 61) rfl rfl rfl
  have l := run_look mty_ib uInt (w.alloc (.map #[en 16 56 0, en 17 57 1, en 18 58 2, en 19 59 3, en 20 60 4, en 21 61 5] 6)) w.heap.size _ _ (alloc_at _ _) 21 5 (fnV 61) rfl
  go_enter Try.func42, Try.ntmps42
  go_wp2
  go_ret
  exact ⟨rfl, (Below.refl _ _).alloc (Nat.le_refl _) _⟩
end Go.Proofs.Ythmphmndpfkbcaa
