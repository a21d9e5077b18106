/-
  The document's own Wrap, Un and powers of two, by their contracts: they answer what the program's do.
-/
import Derived.Test.YthmphmndpfkbcaaUn
import Derived.Deep.LoopGhost
import Derived.Outline
namespace Go.Proofs.Ythmphmndpfkbcaa
open Go.RowKit
set_option linter.unusedVariables false
/-- How many bits a type has. -/
def nbits (t : Int) : Int := if t = 1 then 16 else 32
theorem refBits_any (t : Int) (w : World) :
    Calls Try.prog 36 #[.int .i64 t] w fun e w' => e = .returned (.int .i64 (nbits t)) ∧ w' = w := by
  cases h : (t == 1)
  all_goals
    go_enter Try.func36, Try.ntmps36
    go_wp2
    go_ret
    exact ⟨ret_i64 (by simp at h; simp [nbits, h]), rfl⟩
theorem tmod_lt2 (v s : Int) (hs : 0 < s) : -s < v.tmod s ∧ v.tmod s < s := by
  have := Int.tmod_lt_of_pos v hs
  have h5 : -s < v.tmod s := by
    have := Int.tmod_lt_of_pos (-v) hs
    rw [Int.neg_tmod] at this
    omega
  exact ⟨h5, this⟩
theorem tmod_up (v s : Int) (hs : 0 < s) : (v.tmod s + s).tmod s = v % s := by
  have h1 := Int.emod_nonneg v (Int.ne_of_gt hs)
  have h2 := Int.emod_lt_of_pos v hs
  have h3 := tmod_lt2 v s hs
  rw [Int.tmod_eq_emod_of_nonneg (by omega), Int.add_emod_right]
  have h4 := Int.tmod_add_mul_tdiv v s
  rw [← Int.add_mul_emod_self_left (v.tmod s) s (v.tdiv s), h4]
set_option maxRecDepth 100000 in
theorem refWrap_any (t v : Int) (w : World) (h1 : -9223372036854775808 ≤ v) (h2 : v ≤ 9223372036854775807) :
    Calls Try.prog 22 #[.int .i64 t, .int .i64 v] w fun e w' => e = .returned (.int .i32 (wrapT t v)) ∧ w' = w := by
  by_cases ht : t = 1
  · subst ht
    have hu := tmod_up v 65536 (by decide)
    obtain ⟨hr, hr2⟩ := tmod_lt2 v 65536 (by decide)
    have hn : nbits 1 = 16 := rfl
    cases hc : decide (32768 ≤ v % 65536)
    all_goals
      go_enter Try.func22, Try.ntmps22
      go_wp2_with (go_at_call 36; refine (refBits_any _ _).mono ?_; rintro e w' ⟨rfl, rfl⟩)
      go_ret
      refine ⟨ret_i32 ?_, rfl⟩
      simp at hc
      rw [wrapT_16]
      try unfold wrap32
      omega
  · have hu := tmod_up v 4294967296 (by decide)
    obtain ⟨hr, hr2⟩ := tmod_lt2 v 4294967296 (by decide)
    have hn : nbits t = 32 := if_neg ht
    cases hc : decide (2147483648 ≤ v % 4294967296)
    all_goals
      go_enter Try.func22, Try.ntmps22
      go_wp2_with (go_at_call 36; refine (refBits_any _ _).mono ?_; rintro e w' ⟨rfl, rfl⟩)
      go_ret
      refine ⟨ret_i32 ?_, rfl⟩
      simp at hc
      rw [wrapT_32 _ _ ht]
      try unfold wrap32
      omega
set_option maxRecDepth 100000 in
theorem refUn_any (op t a : Int) (w : World) (h4 : 4 ≤ op) (h8 : op ≤ 8) (ha : -2147483648 ≤ a) (ha2 : a ≤ 2147483647) :
    Calls Try.prog 24 #[.int .i64 op, .int .i64 t, .int .i32 a] w fun e w' => e = .returned (.int .i32 (unV op t a)) ∧ w' = w := by
  cases hz : (a == 0)
  all_goals
    rcases (by omega : op = 4 ∨ op = 5 ∨ op = 6 ∨ op = 7 ∨ op = 8) with rfl | rfl | rfl | rfl | rfl
    all_goals
      go_enter Try.func24, Try.ntmps24
      go_wp2_with (go_at_call 22; refine (refWrap_any _ _ _ (by omega) (by omega)).mono ?_; rintro e w' ⟨rfl, rfl⟩)
      go_ret
      refine ⟨ret_i32 ?_, rfl⟩
      simp at hz
      first | (simp [unV, hz]; done) | (simp [unV]; unfold wrap32; omega)
theorem pow_le32 (k : Nat) (h : k ≤ 32) : 1 ≤ (2 : Int) ^ k ∧ (2 : Int) ^ k ≤ 4294967296 := by
  have h1 : 2 ^ k ≤ 2 ^ 32 := Nat.pow_le_pow_right (by decide) h
  have h2 : 0 < 2 ^ k := Nat.two_pow_pos k
  have h3 : ((2 : Int) ^ k) = ((2 ^ k : Nat) : Int) := by simp
  omega
theorem pow_next (k : Nat) : (2 : Int) ^ (k + 1) = 2 * 2 ^ k := by
  rw [Int.pow_succ, Int.mul_comm]
set_option maxRecDepth 100000 in
theorem refTwo_any (n : Nat) (w : World) (hn : n ≤ 32) :
    Calls Try.prog 37 #[.int .i64 n] w fun e w' => e = .returned (.int .i64 (2 ^ n)) ∧ w' = w := by
  go_enter Try.func37, Try.ntmps37
  go_wp2
  go_loopw [3, 4] (fun v iv wr => ∃ (k : Nat) (p : Int), k ≤ n ∧ iv = .int .i64 k ∧ v = .int .i64 p ∧ wr = w ∧ Hid (p = 2 ^ k) ∧ 1 ≤ p ∧ p ≤ 4294967296) (fun _ iv _ => n - (intOf iv).toNat)
  case atStart => exact ⟨0, 1, by omega, rfl, rfl, rfl, rfl, by omega, by omega⟩
  case round =>
    obtain ⟨k, p, hk, rfl, rfl, rfl, HP, hp1, hp2⟩ := hrel
    by_cases hlt : k < n
    · go_wp2
      go_roundw
      case rel =>
        have h5 := pow_le32 (k + 1) (by omega)
        rw [pow_next, ← HP.out] at h5
        exact ⟨k + 1, 2 * p, by omega, by go_num, rfl, trivial, (show 2 * p = 2 ^ (k + 1) by rw [pow_next, ← HP.out]), by omega, by omega⟩
      case measure =>
        simp [intOf]
        omega
    · obtain rfl : k = n := by omega
      go_wp2
      go_ret
      exact ⟨ret_i64 HP.out, rfl⟩
end Go.Proofs.Ythmphmndpfkbcaa
