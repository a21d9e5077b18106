/-
  Bin by its contract, at each operator. Made by wip/genfoldbin2.py.
-/
import Derived.Test.YthmphmndpfkbcaaWrap
namespace Go.Proofs.Ythmphmndpfkbcaa
open Go.RowKit
set_option linter.unusedVariables false
theorem ret_bin {a b : Int} (h : a = b) : Ending.returned (.tuple #[.int .i32 a, .bool true]) = .returned (.tuple #[.int .i32 b, .bool true]) := by rw [h]
/-- The count of a shift. -/
def cnt (t b : Int) : Int := if t = 1 then b % 16 else b % 32
theorem cnt_bd (t b : Int) : 0 ≤ cnt t b ∧ cnt t b ≤ 31 := by
  unfold cnt
  split <;> omega
/-- What the operators of two make. -/
def binV (op t a b : Int) : Int :=
  if op = 9 then wrapT t (a * b) else if op = 10 then wrapT t (a.tdiv b) else if op = 11 then a.tmod b else if op = 12 then wrapT t (a + b) else if op = 13 then wrapT t (a - b)
  else if op = 14 then wrapT t (a * 2 ^ (cnt t b).toNat) else if op = 15 then a / 2 ^ (cnt t b).toNat
  else if op = 16 then (if a < b then 1 else 0) else if op = 17 then (if a ≤ b then 1 else 0) else if op = 18 then (if b < a then 1 else 0) else if op = 19 then (if b ≤ a then 1 else 0)
  else if op = 20 then (if a = b then 1 else 0) else if op = 21 then (if a = b then 0 else 1)
  else if op = 22 then wrap32 (bits BinOp.and IntKind.i64 a b) else if op = 23 then wrap32 (bits BinOp.xor IntKind.i64 a b) else if op = 24 then wrap32 (bits BinOp.or IntKind.i64 a b) else 0
theorem mul_bd (a b : Int) (ha : -2147483648 ≤ a) (ha2 : a ≤ 2147483647) (hb : -2147483648 ≤ b) (hb2 : b ≤ 2147483647) : -4611686018427387904 ≤ a * b ∧ a * b ≤ 4611686018427387904 := by
  have h1 : (a * b).natAbs ≤ 2147483648 * 2147483648 := by
    rw [Int.natAbs_mul]
    exact Nat.mul_le_mul (by omega) (by omega)
  omega
theorem pow_bd (n : Nat) (h : n ≤ 31) : (2 : Int) ^ n ≤ 2147483648 ∧ 1 ≤ (2 : Int) ^ n := by
  have h1 : 2 ^ n ≤ 2 ^ 31 := Nat.pow_le_pow_right (by decide) h
  have h2 : 0 < 2 ^ n := Nat.two_pow_pos n
  have h3 : ((2 ^ n : Nat) : Int) = (2 : Int) ^ n := by simp
  omega
theorem shl_bd (a : Int) (n : Nat) (ha : -2147483648 ≤ a) (ha2 : a ≤ 2147483647) (h : n ≤ 31) : -4611686018427387904 ≤ a * 2 ^ n ∧ a * 2 ^ n ≤ 4611686018427387904 := by
  have h1 : (a * 2 ^ n).natAbs ≤ 2147483648 * 2147483648 := by
    have hp := pow_bd n h
    rw [Int.natAbs_mul]
    exact Nat.mul_le_mul (by omega) (by omega)
  omega
theorem tdiv_bd (a b : Int) (ha : -2147483648 ≤ a) (ha2 : a ≤ 2147483647) : -2147483648 ≤ a.tdiv b ∧ a.tdiv b ≤ 2147483648 := by
  have h : (a.tdiv b).natAbs ≤ a.natAbs := by
    rw [Int.natAbs_tdiv]
    exact Nat.div_le_self _ _
  omega
theorem tmod_bd (a b : Int) (ha : -2147483648 ≤ a) (ha2 : a ≤ 2147483647) : -2147483648 ≤ a.tmod b ∧ a.tmod b ≤ 2147483647 := by
  have h : (a.tmod b).natAbs ≤ a.natAbs := by
    rw [Int.natAbs_tmod]
    exact Nat.mod_le _ _
  have h2 := Int.tmod_add_mul_tdiv a b
  by_cases h0 : 0 ≤ a
  · have := Int.tmod_nonneg b h0
    omega
  · have h3 : a.tmod b ≤ 0 := by
      have h4 : 0 ≤ (-a).tmod b := Int.tmod_nonneg b (by omega)
      rw [Int.neg_tmod] at h4
      omega
    omega
theorem shr_bd (a : Int) (n : Nat) (ha : -2147483648 ≤ a) (ha2 : a ≤ 2147483647) (h : n ≤ 31) : -2147483648 ≤ a / 2 ^ n ∧ a / 2 ^ n ≤ 2147483647 := by
  obtain ⟨hp, hq⟩ := pow_bd n h
  have h1 : 0 < (2 : Int) ^ n := by omega
  refine ⟨(Int.le_ediv_iff_mul_le h1).2 ?_, Int.lt_add_one_iff.1 ((Int.ediv_lt_iff_lt_mul h1).2 ?_)⟩
  · have h2 : (-2147483648 : Int) * 2 ^ n ≤ (-2147483648) * 1 := Int.mul_le_mul_of_nonpos_left (by omega) hq
    omega
  · have h2 : ((2147483647 + 1 : Int)) * 1 ≤ (2147483647 + 1) * 2 ^ n := Int.mul_le_mul_of_nonneg_left hq (by omega)
    omega
set_option maxRecDepth 100000 in
theorem bin9 (t a b : Int) (w : World) (ha : -2147483648 ≤ a) (ha2 : a ≤ 2147483647) (hb : -2147483648 ≤ b) (hb2 : b ≤ 2147483647) :
    Calls Try.prog 14 #[.int .i64 9, .int .i64 t, .int .i32 a, .int .i32 b] w fun e w' => e = .returned (.tuple #[.int .i32 (binV 9 t a b), .bool true]) ∧ Below w.heap.size w w' := by
  obtain ⟨m1, m2⟩ := mul_bd a b ha ha2 hb hb2
  cases hz2 : (b == 0)
  all_goals
    go_enter Try.func14, Try.ntmps14
    go_wp2_with (first | (go_at_call 43; refine (exact9 a b _ ha ha2 hb hb2 m1 m2).mono ?_; rintro e w1 ⟨rfl, hb1⟩) | (go_at_call 13; refine (wrap_any _ _ _).mono ?_; rintro e w' ⟨rfl, rfl⟩) | go_in)
    go_ret2
    exact ⟨ret_bin (by simp [binV]), hb1⟩
set_option maxRecDepth 100000 in
theorem bin10 (t a b : Int) (w : World) (ha : -2147483648 ≤ a) (ha2 : a ≤ 2147483647) (hb : -2147483648 ≤ b) (hb2 : b ≤ 2147483647) (hz : b ≠ 0) :
    Calls Try.prog 14 #[.int .i64 10, .int .i64 t, .int .i32 a, .int .i32 b] w fun e w' => e = .returned (.tuple #[.int .i32 (binV 10 t a b), .bool true]) ∧ Below w.heap.size w w' := by
  obtain ⟨m1, m2⟩ := tdiv_bd a b ha ha2
  have hz2 : (b == 0) = false := by simpa using hz
  go_enter Try.func14, Try.ntmps14
  go_wp2_with (first | (go_at_call 43; refine (exact10 a b _ ha ha2 hb hb2 hz hz2).mono ?_; rintro e w1 ⟨rfl, hb1⟩) | (go_at_call 13; refine (wrap_any _ _ _).mono ?_; rintro e w' ⟨rfl, rfl⟩) | go_in)
  go_ret2
  exact ⟨ret_bin (by rw [IntWalk.wrap64_in _ (by omega)]; simp [binV]), hb1⟩
set_option maxRecDepth 100000 in
theorem bin11 (t a b : Int) (w : World) (ha : -2147483648 ≤ a) (ha2 : a ≤ 2147483647) (hb : -2147483648 ≤ b) (hb2 : b ≤ 2147483647) (hz : b ≠ 0) :
    Calls Try.prog 14 #[.int .i64 11, .int .i64 t, .int .i32 a, .int .i32 b] w fun e w' => e = .returned (.tuple #[.int .i32 (binV 11 t a b), .bool true]) ∧ Below w.heap.size w w' := by
  obtain ⟨m1, m2⟩ := tmod_bd a b ha ha2
  have hz2 : (b == 0) = false := by simpa using hz
  go_enter Try.func14, Try.ntmps14
  go_wp2_with (first | (go_at_call 43; refine (exact11 a b _ ha ha2 hb hb2).mono ?_; rintro e w1 ⟨rfl, hb1⟩) | (go_at_call 44; refine (inBits11 a b _ ha ha2 hb hb2 hz hz2).mono ?_; rintro e w2 ⟨rfl, hb2⟩) | go_in)
  go_ret2
  exact ⟨ret_bin (by simp [binV]), hb1.trans (hb2.mono (by have := hb1.size; omega))⟩
set_option maxRecDepth 100000 in
theorem bin12 (t a b : Int) (w : World) (ha : -2147483648 ≤ a) (ha2 : a ≤ 2147483647) (hb : -2147483648 ≤ b) (hb2 : b ≤ 2147483647) :
    Calls Try.prog 14 #[.int .i64 12, .int .i64 t, .int .i32 a, .int .i32 b] w fun e w' => e = .returned (.tuple #[.int .i32 (binV 12 t a b), .bool true]) ∧ Below w.heap.size w w' := by
  cases hz2 : (b == 0)
  all_goals
    go_enter Try.func14, Try.ntmps14
    go_wp2_with (first | (go_at_call 43; refine (exact12 a b _ ha ha2 hb hb2).mono ?_; rintro e w1 ⟨rfl, hb1⟩) | (go_at_call 13; refine (wrap_any _ _ _).mono ?_; rintro e w' ⟨rfl, rfl⟩) | go_in)
    go_ret2
    exact ⟨ret_bin (by simp [binV]), hb1⟩
set_option maxRecDepth 100000 in
theorem bin13 (t a b : Int) (w : World) (ha : -2147483648 ≤ a) (ha2 : a ≤ 2147483647) (hb : -2147483648 ≤ b) (hb2 : b ≤ 2147483647) :
    Calls Try.prog 14 #[.int .i64 13, .int .i64 t, .int .i32 a, .int .i32 b] w fun e w' => e = .returned (.tuple #[.int .i32 (binV 13 t a b), .bool true]) ∧ Below w.heap.size w w' := by
  cases hz2 : (b == 0)
  all_goals
    go_enter Try.func14, Try.ntmps14
    go_wp2_with (first | (go_at_call 43; refine (exact13 a b _ ha ha2 hb hb2).mono ?_; rintro e w1 ⟨rfl, hb1⟩) | (go_at_call 13; refine (wrap_any _ _ _).mono ?_; rintro e w' ⟨rfl, rfl⟩) | go_in)
    go_ret2
    exact ⟨ret_bin (by simp [binV]), hb1⟩
set_option maxRecDepth 100000 in
theorem bin14 (t a b : Int) (w : World) (ha : -2147483648 ≤ a) (ha2 : a ≤ 2147483647) (hb : -2147483648 ≤ b) (hb2 : b ≤ 2147483647) :
    Calls Try.prog 14 #[.int .i64 14, .int .i64 t, .int .i32 a, .int .i32 b] w fun e w' => e = .returned (.tuple #[.int .i32 (binV 14 t a b), .bool true]) ∧ Below w.heap.size w w' := by
  obtain ⟨c0, c1⟩ := cnt_bd t b
  obtain ⟨m1, m2⟩ := shl_bd a (cnt t b).toNat ha ha2 (by omega)
  have HW : Hid (wrap64 (a * 2 ^ (cnt t b).toNat) = a * 2 ^ (cnt t b).toNat) := IntWalk.wrap64_in _ (by omega)
  have kc : bits BinOp.and IntKind.i32 b (if t = 1 then 15 else 31) = cnt t b := by
    unfold cnt
    split
    · exact and_15 b
    · exact and_31 b
  by_cases ht : t = 1
  · subst ht
    rw [if_pos rfl] at kc
    cases hz2 : (b == 0)
    all_goals
      go_enter Try.func14, Try.ntmps14
      go_wp2_with (first | (go_at_call 43; refine (exact14 a (cnt 1 b) _ ha ha2 (by omega) (by omega) c0 c1).mono ?_; rintro e w1 ⟨rfl, hb1⟩) | (go_at_call 13; refine (wrap_any _ _ _).mono ?_; rintro e w' ⟨rfl, rfl⟩) | go_in)
      go_ret2
      exact ⟨ret_bin (by simp [binV, HW.out]), hb1⟩
  · rw [if_neg ht] at kc
    have ht2 : (t == 1) = false := by simpa using ht
    clear ht
    cases hz2 : (b == 0)
    all_goals
      go_enter Try.func14, Try.ntmps14
      go_wp2_with (first | (go_at_call 43; refine (exact14 a (cnt t b) _ ha ha2 (by omega) (by omega) c0 c1).mono ?_; rintro e w1 ⟨rfl, hb1⟩) | (go_at_call 13; refine (wrap_any _ _ _).mono ?_; rintro e w' ⟨rfl, rfl⟩) | go_in)
      go_ret2
      exact ⟨ret_bin (by simp [binV, HW.out]), hb1⟩
set_option maxRecDepth 100000 in
theorem bin15 (t a b : Int) (w : World) (ha : -2147483648 ≤ a) (ha2 : a ≤ 2147483647) (hb : -2147483648 ≤ b) (hb2 : b ≤ 2147483647) :
    Calls Try.prog 14 #[.int .i64 15, .int .i64 t, .int .i32 a, .int .i32 b] w fun e w' => e = .returned (.tuple #[.int .i32 (binV 15 t a b), .bool true]) ∧ Below w.heap.size w w' := by
  obtain ⟨c0, c1⟩ := cnt_bd t b
  obtain ⟨m1, m2⟩ := shr_bd a (cnt t b).toNat ha ha2 (by omega)
  have kc : bits BinOp.and IntKind.i32 b (if t = 1 then 15 else 31) = cnt t b := by
    unfold cnt
    split
    · exact and_15 b
    · exact and_31 b
  by_cases ht : t = 1
  · subst ht
    rw [if_pos rfl] at kc
    cases hz2 : (b == 0)
    all_goals
      go_enter Try.func14, Try.ntmps14
      go_wp2_with (first | (go_at_call 43; refine (exact15 a (cnt 1 b) _ ha ha2 (by omega) (by omega)).mono ?_; rintro e w1 ⟨rfl, hb1⟩) | (go_at_call 44; refine (inBits15 a (cnt 1 b) _ ha ha2 (by omega) (by omega) c0 c1).mono ?_; rintro e w2 ⟨rfl, hb2⟩) | go_in)
      go_ret2
      exact ⟨ret_bin (by simp [binV]), hb1.trans (hb2.mono (by have := hb1.size; omega))⟩
  · rw [if_neg ht] at kc
    have ht2 : (t == 1) = false := by simpa using ht
    clear ht
    cases hz2 : (b == 0)
    all_goals
      go_enter Try.func14, Try.ntmps14
      go_wp2_with (first | (go_at_call 43; refine (exact15 a (cnt t b) _ ha ha2 (by omega) (by omega)).mono ?_; rintro e w1 ⟨rfl, hb1⟩) | (go_at_call 44; refine (inBits15 a (cnt t b) _ ha ha2 (by omega) (by omega) c0 c1).mono ?_; rintro e w2 ⟨rfl, hb2⟩) | go_in)
      go_ret2
      exact ⟨ret_bin (by simp [binV]), hb1.trans (hb2.mono (by have := hb1.size; omega))⟩
set_option maxRecDepth 100000 in
theorem bin16 (t a b : Int) (w : World) (ha : -2147483648 ≤ a) (ha2 : a ≤ 2147483647) (hb : -2147483648 ≤ b) (hb2 : b ≤ 2147483647) :
    Calls Try.prog 14 #[.int .i64 16, .int .i64 t, .int .i32 a, .int .i32 b] w fun e w' => e = .returned (.tuple #[.int .i32 (binV 16 t a b), .bool true]) ∧ Below w.heap.size w w' := by
  cases hz2 : (b == 0)
  all_goals
    by_cases hc : a < b
    all_goals
      go_enter Try.func14, Try.ntmps14
      go_wp2_with (first | (go_at_call 42; refine (compared16 a b _ ha ha2 hb hb2).mono ?_; rintro e w1 ⟨rfl, hb1⟩) | go_in)
      go_ret2
      exact ⟨ret_bin (by simp [binV, hc]), hb1⟩
set_option maxRecDepth 100000 in
theorem bin17 (t a b : Int) (w : World) (ha : -2147483648 ≤ a) (ha2 : a ≤ 2147483647) (hb : -2147483648 ≤ b) (hb2 : b ≤ 2147483647) :
    Calls Try.prog 14 #[.int .i64 17, .int .i64 t, .int .i32 a, .int .i32 b] w fun e w' => e = .returned (.tuple #[.int .i32 (binV 17 t a b), .bool true]) ∧ Below w.heap.size w w' := by
  cases hz2 : (b == 0)
  all_goals
    by_cases hc : a ≤ b
    all_goals
      go_enter Try.func14, Try.ntmps14
      go_wp2_with (first | (go_at_call 42; refine (compared17 a b _ ha ha2 hb hb2).mono ?_; rintro e w1 ⟨rfl, hb1⟩) | go_in)
      go_ret2
      exact ⟨ret_bin (by simp [binV, hc]), hb1⟩
set_option maxRecDepth 100000 in
theorem bin18 (t a b : Int) (w : World) (ha : -2147483648 ≤ a) (ha2 : a ≤ 2147483647) (hb : -2147483648 ≤ b) (hb2 : b ≤ 2147483647) :
    Calls Try.prog 14 #[.int .i64 18, .int .i64 t, .int .i32 a, .int .i32 b] w fun e w' => e = .returned (.tuple #[.int .i32 (binV 18 t a b), .bool true]) ∧ Below w.heap.size w w' := by
  cases hz2 : (b == 0)
  all_goals
    by_cases hc : b < a
    all_goals
      go_enter Try.func14, Try.ntmps14
      go_wp2_with (first | (go_at_call 42; refine (compared18 a b _ ha ha2 hb hb2).mono ?_; rintro e w1 ⟨rfl, hb1⟩) | go_in)
      go_ret2
      exact ⟨ret_bin (by simp [binV, hc]), hb1⟩
set_option maxRecDepth 100000 in
theorem bin19 (t a b : Int) (w : World) (ha : -2147483648 ≤ a) (ha2 : a ≤ 2147483647) (hb : -2147483648 ≤ b) (hb2 : b ≤ 2147483647) :
    Calls Try.prog 14 #[.int .i64 19, .int .i64 t, .int .i32 a, .int .i32 b] w fun e w' => e = .returned (.tuple #[.int .i32 (binV 19 t a b), .bool true]) ∧ Below w.heap.size w w' := by
  cases hz2 : (b == 0)
  all_goals
    by_cases hc : b ≤ a
    all_goals
      go_enter Try.func14, Try.ntmps14
      go_wp2_with (first | (go_at_call 42; refine (compared19 a b _ ha ha2 hb hb2).mono ?_; rintro e w1 ⟨rfl, hb1⟩) | go_in)
      go_ret2
      exact ⟨ret_bin (by simp [binV, hc]), hb1⟩
set_option maxRecDepth 100000 in
theorem bin20 (t a b : Int) (w : World) (ha : -2147483648 ≤ a) (ha2 : a ≤ 2147483647) (hb : -2147483648 ≤ b) (hb2 : b ≤ 2147483647) :
    Calls Try.prog 14 #[.int .i64 20, .int .i64 t, .int .i32 a, .int .i32 b] w fun e w' => e = .returned (.tuple #[.int .i32 (binV 20 t a b), .bool true]) ∧ Below w.heap.size w w' := by
  cases hz2 : (b == 0)
  all_goals
    cases hd : (a == b)
    all_goals
      go_enter Try.func14, Try.ntmps14
      go_wp2_with (first | (go_at_call 42; refine (compared20 a b _ ha ha2 hb hb2).mono ?_; rintro e w1 ⟨rfl, hb1⟩) | go_in)
      go_ret2
      exact ⟨ret_bin (by simp at hd; simp [binV, hd]), hb1⟩
set_option maxRecDepth 100000 in
theorem bin21 (t a b : Int) (w : World) (ha : -2147483648 ≤ a) (ha2 : a ≤ 2147483647) (hb : -2147483648 ≤ b) (hb2 : b ≤ 2147483647) :
    Calls Try.prog 14 #[.int .i64 21, .int .i64 t, .int .i32 a, .int .i32 b] w fun e w' => e = .returned (.tuple #[.int .i32 (binV 21 t a b), .bool true]) ∧ Below w.heap.size w w' := by
  cases hz2 : (b == 0)
  all_goals
    cases hd : (a == b)
    all_goals
      have hd2 : (a != b) = !(a == b) := rfl
      rw [hd] at hd2
      simp only [Bool.not_true, Bool.not_false] at hd2
      go_enter Try.func14, Try.ntmps14
      go_wp2_with (first | (go_at_call 42; refine (compared21 a b _ ha ha2 hb hb2).mono ?_; rintro e w1 ⟨rfl, hb1⟩) | go_in)
      go_ret2
      exact ⟨ret_bin (by simp at hd; simp [binV, hd]), hb1⟩
set_option maxRecDepth 100000 in
theorem bin22 (t a b : Int) (w : World) (ha : -2147483648 ≤ a) (ha2 : a ≤ 2147483647) (hb : -2147483648 ≤ b) (hb2 : b ≤ 2147483647) :
    Calls Try.prog 14 #[.int .i64 22, .int .i64 t, .int .i32 a, .int .i32 b] w fun e w' => e = .returned (.tuple #[.int .i32 (binV 22 t a b), .bool true]) ∧ Below w.heap.size w w' := by
  cases hz2 : (b == 0)
  all_goals
    go_enter Try.func14, Try.ntmps14
    go_wp2_with (first | (go_at_call 43; refine (exact22 a b _ ha ha2 hb hb2).mono ?_; rintro e w1 ⟨rfl, hb1⟩) | (go_at_call 44; refine (inBits22 a b _ ha ha2 hb hb2).mono ?_; rintro e w2 ⟨rfl, hb2⟩) | go_in)
    go_ret2
    exact ⟨ret_bin (by simp [binV]), hb1.trans (hb2.mono (by have := hb1.size; omega))⟩
set_option maxRecDepth 100000 in
theorem bin23 (t a b : Int) (w : World) (ha : -2147483648 ≤ a) (ha2 : a ≤ 2147483647) (hb : -2147483648 ≤ b) (hb2 : b ≤ 2147483647) :
    Calls Try.prog 14 #[.int .i64 23, .int .i64 t, .int .i32 a, .int .i32 b] w fun e w' => e = .returned (.tuple #[.int .i32 (binV 23 t a b), .bool true]) ∧ Below w.heap.size w w' := by
  cases hz2 : (b == 0)
  all_goals
    go_enter Try.func14, Try.ntmps14
    go_wp2_with (first | (go_at_call 43; refine (exact23 a b _ ha ha2 hb hb2).mono ?_; rintro e w1 ⟨rfl, hb1⟩) | (go_at_call 44; refine (inBits23 a b _ ha ha2 hb hb2).mono ?_; rintro e w2 ⟨rfl, hb2⟩) | go_in)
    go_ret2
    exact ⟨ret_bin (by simp [binV]), hb1.trans (hb2.mono (by have := hb1.size; omega))⟩
set_option maxRecDepth 100000 in
theorem bin24 (t a b : Int) (w : World) (ha : -2147483648 ≤ a) (ha2 : a ≤ 2147483647) (hb : -2147483648 ≤ b) (hb2 : b ≤ 2147483647) :
    Calls Try.prog 14 #[.int .i64 24, .int .i64 t, .int .i32 a, .int .i32 b] w fun e w' => e = .returned (.tuple #[.int .i32 (binV 24 t a b), .bool true]) ∧ Below w.heap.size w w' := by
  cases hz2 : (b == 0)
  all_goals
    go_enter Try.func14, Try.ntmps14
    go_wp2_with (first | (go_at_call 43; refine (exact24 a b _ ha ha2 hb hb2).mono ?_; rintro e w1 ⟨rfl, hb1⟩) | (go_at_call 44; refine (inBits24 a b _ ha ha2 hb hb2).mono ?_; rintro e w2 ⟨rfl, hb2⟩) | go_in)
    go_ret2
    exact ⟨ret_bin (by simp [binV]), hb1.trans (hb2.mono (by have := hb1.size; omega))⟩
end Go.Proofs.Ythmphmndpfkbcaa
