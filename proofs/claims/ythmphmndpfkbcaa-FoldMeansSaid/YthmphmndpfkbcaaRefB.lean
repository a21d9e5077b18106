/-
  The document's own and, or, exclusive or, bit by bit, by its contract.
-/
import Derived.Test.YthmphmndpfkbcaaRefW
namespace Go.Proofs.Ythmphmndpfkbcaa
open Go.RowKit
set_option linter.unusedVariables false
/-- The operation, of natural numbers. -/
def opN (op : Int) (x y : Nat) : Nat := if op = 22 then x &&& y else if op = 24 then x ||| y else x ^^^ y
/-- The rule of two bits. -/
def bitN (op : Int) (x y : Nat) : Nat := if op = 22 then x * y else if op = 24 then max x y else (x + y) % 2
theorem opN_bit (op : Int) (k x y : Nat) : opN op x y / 2 ^ k % 2 = bitN op (x / 2 ^ k % 2) (y / 2 ^ k % 2) := by
  have e : opN op x y / 2 ^ k = opN op (x / 2 ^ k) (y / 2 ^ k) := by
    unfold opN
    split
    · exact Nat.and_div_two_pow
    · split
      · exact Nat.or_div_two_pow
      · exact Nat.xor_div_two_pow
  rw [e]
  generalize x / 2 ^ k = X
  generalize y / 2 ^ k = Y
  have a2 : (X &&& Y) % 2 = X % 2 &&& Y % 2 := Nat.and_mod_two_pow (n := 1)
  have o2 : (X ||| Y) % 2 = X % 2 ||| Y % 2 := Nat.or_mod_two_pow (n := 1)
  have x2 : (X ^^^ Y) % 2 = X % 2 ^^^ Y % 2 := Nat.xor_mod_two_pow (n := 1)
  unfold opN bitN
  rcases (by omega : X % 2 = 0 ∨ X % 2 = 1) with hp2 | hp2 <;> rcases (by omega : Y % 2 = 0 ∨ Y % 2 = 1) with hq2 | hq2 <;> rw [hp2, hq2] at a2 o2 x2 <;> rw [hp2, hq2] <;> split <;> first | exact a2 | (split <;> first | exact o2 | exact x2)
theorem opN_lt (op : Int) (x y : Nat) (hx : x < 4294967296) (hy : y < 4294967296) : opN op x y < 4294967296 := by
  unfold opN
  split
  · exact Nat.and_lt_two_pow (n := 32) x hy
  · split
    · exact Nat.or_lt_two_pow (n := 32) hx hy
    · exact Nat.xor_lt_two_pow (n := 32) hx hy
theorem mod_next (z k : Nat) : z % 2 ^ (k + 1) = z % 2 ^ k + 2 ^ k * (z / 2 ^ k % 2) := Nat.mod_pow_succ
/-- A number of 32 bits, as one that is not below 0. -/
def low32 (a : Int) : Nat := (a % 4294967296).toNat
theorem low32_lt (a : Int) : low32 a < 4294967296 := by
  unfold low32
  omega
theorem low32_up (a : Int) : (a.tmod 4294967296 + 4294967296).tmod 4294967296 = (low32 a : Int) := by
  rw [tmod_up a _ (by decide)]
  unfold low32
  omega
theorem bit_i (x k : Nat) (p : Int) (h : p = 2 ^ k) : ((x : Int).tdiv p) = ((x / 2 ^ k : Nat) : Int) ∧ ((x / 2 ^ k : Nat) : Int).tmod 2 = ((x / 2 ^ k % 2 : Nat) : Int) := by
  subst h
  have h3 : ((2 : Int) ^ k) = ((2 ^ k : Nat) : Int) := by simp
  rw [h3]
  exact ⟨(Int.ofNat_tdiv _ _).symm, (Int.ofNat_tmod _ _).symm⟩
theorem low_wrap (m : Nat) : ((m % 2 ^ 32 : Nat) + 2147483648 : Int) % 4294967296 - 2147483648 = wrap32 (((m : Int) + 9223372036854775808) % 18446744073709551616 - 9223372036854775808) := by
  have h3 : (2 : Nat) ^ 32 = 4294967296 := by decide
  rw [h3]
  unfold wrap32
  omega
theorem bits_low (a b : Int) (op : Int) (f : BinOp) (hf : (op = 22 ∧ f = .and) ∨ (op = 23 ∧ f = .xor) ∨ (op = 24 ∧ f = .or)) : wrapT 2 (opN op (low32 a) (low32 b) : Int) = wrap32 (bits f IntKind.i64 a b) := by
  have hx : (BitVec.ofInt 64 a).toNat % 2 ^ 32 = low32 a := by
    have := ofInt_toNat 64 a
    unfold low32
    generalize (BitVec.ofInt 64 a).toNat = m at *
    simp at this
    omega
  have hy : (BitVec.ofInt 64 b).toNat % 2 ^ 32 = low32 b := by
    have := ofInt_toNat 64 b
    unfold low32
    generalize (BitVec.ofInt 64 b).toNat = m at *
    simp at this
    omega
  have key : ∃ m : Nat, bits f IntKind.i64 a b = IntKind.i64.wrap (m : Int) ∧ m % 2 ^ 32 = opN op (low32 a) (low32 b) := by
    rw [← hx, ← hy]
    clear hx hy
    rcases hf with ⟨rfl, rfl⟩ | ⟨rfl, rfl⟩ | ⟨rfl, rfl⟩
    · refine ⟨(BitVec.ofInt 64 a &&& BitVec.ofInt 64 b).toNat, rfl, ?_⟩
      rw [BitVec.toNat_and, Nat.and_mod_two_pow]
      unfold opN
      rw [if_pos rfl]
    · refine ⟨(BitVec.ofInt 64 a ^^^ BitVec.ofInt 64 b).toNat, rfl, ?_⟩
      rw [BitVec.toNat_xor, Nat.xor_mod_two_pow]
      unfold opN
      rw [if_neg (by decide), if_neg (by decide)]
    · refine ⟨(BitVec.ofInt 64 a ||| BitVec.ofInt 64 b).toNat, rfl, ?_⟩
      rw [BitVec.toNat_or, Nat.or_mod_two_pow]
      unfold opN
      rw [if_neg (by decide), if_pos rfl]
  obtain ⟨m, h1, h2⟩ := key
  clear hx hy hf
  rw [h1, ← h2, IntKind.wrap_i64, wrapT_32 _ _ (by decide)]
  exact low_wrap m
end Go.Proofs.Ythmphmndpfkbcaa
