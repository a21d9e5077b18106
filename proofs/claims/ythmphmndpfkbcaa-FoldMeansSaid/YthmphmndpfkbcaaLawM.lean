/-
  The mathematics of FoldLaws: sums, products, quotients, comparisons, bits and shifts go together. No walk.
-/
import Derived.Test.YthmphmndpfkbcaaWorks
namespace Go.Proofs.Ythmphmndpfkbcaa
open Go.RowKit
theorem and_or_sum : ∀ p q : Nat, (p &&& q) + (p ||| q) = p + q := by
  intro p
  induction p using Nat.strongRecOn with
  | _ p ih =>
    intro q
    by_cases hp : p = 0
    · subst hp
      simp
    · have h := ih (p / 2) (by omega) (q / 2)
      have a1 : (p &&& q) / 2 = p / 2 &&& q / 2 := Nat.and_div_two
      have a2 : (p &&& q) % 2 = p % 2 &&& q % 2 := Nat.and_mod_two_pow (n := 1)
      have o1 : (p ||| q) / 2 = p / 2 ||| q / 2 := Nat.or_div_two
      have o2 : (p ||| q) % 2 = p % 2 ||| q % 2 := Nat.or_mod_two_pow (n := 1)
      rw [← a1, ← o1] at h
      clear a1 o1 ih
      generalize p &&& q = A at *
      generalize p ||| q = O at *
      rcases (by omega : p % 2 = 0 ∨ p % 2 = 1) with hp2 | hp2 <;> rcases (by omega : q % 2 = 0 ∨ q % 2 = 1) with hq2 | hq2 <;> rw [hp2, hq2] at a2 o2 <;> simp at a2 o2 <;> omega
theorem xor_sum : ∀ p q : Nat, (p ^^^ q) + 2 * (p &&& q) = p + q := by
  intro p
  induction p using Nat.strongRecOn with
  | _ p ih =>
    intro q
    by_cases hp : p = 0
    · subst hp
      simp
    · have h := ih (p / 2) (by omega) (q / 2)
      have a1 : (p &&& q) / 2 = p / 2 &&& q / 2 := Nat.and_div_two
      have a2 : (p &&& q) % 2 = p % 2 &&& q % 2 := Nat.and_mod_two_pow (n := 1)
      have o1 : (p ^^^ q) / 2 = p / 2 ^^^ q / 2 := Nat.xor_div_two
      have o2 : (p ^^^ q) % 2 = p % 2 ^^^ q % 2 := Nat.xor_mod_two_pow (n := 1)
      rw [← a1, ← o1] at h
      clear a1 o1 ih
      generalize p &&& q = A at *
      generalize p ^^^ q = O at *
      rcases (by omega : p % 2 = 0 ∨ p % 2 = 1) with hp2 | hp2 <;> rcases (by omega : q % 2 = 0 ∨ q % 2 = 1) with hq2 | hq2 <;> rw [hp2, hq2] at a2 o2 <;> simp at a2 o2 <;> omega
/-- n reads as v, of so many bits (K of 64). -/
def Reads (K n : Nat) (v : Int) : Prop := (n / 2 ^ K = 0 ∨ n / 2 ^ K = 2 ^ (64 - K) - 1) ∧ n < 18446744073709551616 ∧ v = IntKind.i64.wrap n
theorem reads_bd {K n : Nat} {v : Int} (hK : K = 15 ∨ K = 31) (h : Reads K n v) : -(2 : Int) ^ K ≤ v ∧ v < (2 : Int) ^ K ∧ (v = n ∨ v = n - 18446744073709551616) := by
  obtain ⟨h1, h2, rfl⟩ := h
  rw [IntKind.wrap_i64]
  rcases hK with rfl | rfl <;> simp at * <;> omega
theorem reads_of {K : Nat} (hK : K = 15 ∨ K = 31) (a : Int) (h1 : -(2 : Int) ^ K ≤ a) (h2 : a < (2 : Int) ^ K) : Reads K (BitVec.ofInt 64 a).toNat a := by
  have h := ofInt_toNat 64 a
  have hl : (BitVec.ofInt 64 a).toNat < 2 ^ 64 := (BitVec.ofInt 64 a).isLt
  refine ⟨?_, by simpa using hl, ?_⟩
  · generalize (BitVec.ofInt 64 a).toNat = m at *
    rcases hK with rfl | rfl <;> simp at * <;> omega
  · rw [IntKind.wrap_i64]
    generalize (BitVec.ofInt 64 a).toNat = m at *
    rcases hK with rfl | rfl <;> simp at * <;> omega
theorem bits_go {K : Nat} (hK : K = 15 ∨ K = 31) (a b : Int) (ha : -(2 : Int) ^ K ≤ a) (ha2 : a < (2 : Int) ^ K) (hb : -(2 : Int) ^ K ≤ b) (hb2 : b < (2 : Int) ^ K) :
    bits BinOp.and IntKind.i64 a b + bits BinOp.or IntKind.i64 a b = a + b ∧ bits BinOp.or IntKind.i64 a b - bits BinOp.and IntKind.i64 a b = bits BinOp.xor IntKind.i64 a b ∧
    (-(2 : Int) ^ K ≤ bits BinOp.and IntKind.i64 a b ∧ bits BinOp.and IntKind.i64 a b < (2 : Int) ^ K) ∧ (-(2 : Int) ^ K ≤ bits BinOp.or IntKind.i64 a b ∧ bits BinOp.or IntKind.i64 a b < (2 : Int) ^ K) ∧ (-(2 : Int) ^ K ≤ bits BinOp.xor IntKind.i64 a b ∧ bits BinOp.xor IntKind.i64 a b < (2 : Int) ^ K) := by
  have rx := reads_of hK a ha ha2
  have ry := reads_of hK b hb hb2
  have eA : bits BinOp.and IntKind.i64 a b = IntKind.i64.wrap (((BitVec.ofInt 64 a).toNat &&& (BitVec.ofInt 64 b).toNat : Nat) : Int) := by
    show IntKind.i64.wrap ((BitVec.ofInt 64 a &&& BitVec.ofInt 64 b).toNat : Int) = _
    rw [BitVec.toNat_and]
  have eO : bits BinOp.or IntKind.i64 a b = IntKind.i64.wrap (((BitVec.ofInt 64 a).toNat ||| (BitVec.ofInt 64 b).toNat : Nat) : Int) := by
    show IntKind.i64.wrap ((BitVec.ofInt 64 a ||| BitVec.ofInt 64 b).toNat : Int) = _
    rw [BitVec.toNat_or]
  have eX : bits BinOp.xor IntKind.i64 a b = IntKind.i64.wrap (((BitVec.ofInt 64 a).toNat ^^^ (BitVec.ofInt 64 b).toNat : Nat) : Int) := by
    show IntKind.i64.wrap ((BitVec.ofInt 64 a ^^^ BitVec.ofInt 64 b).toNat : Int) = _
    rw [BitVec.toNat_xor]
  generalize (BitVec.ofInt 64 a).toNat = x at *
  generalize (BitVec.ofInt 64 b).toNat = y at *
  have s1 := and_or_sum x y
  have s2 := xor_sum x y
  have l1 : x < 2 ^ 64 := by have := rx.2.1; omega
  have l2 : y < 2 ^ 64 := by have := ry.2.1; omega
  have rA : Reads K (x &&& y) (bits BinOp.and IntKind.i64 a b) := by
    refine ⟨?_, by have := Nat.and_lt_two_pow x l2; omega, eA⟩
    rw [Nat.and_div_two_pow]
    rcases rx.1 with h | h <;> rcases ry.1 with h' | h' <;> rw [h, h'] <;> simp
  have rO : Reads K (x ||| y) (bits BinOp.or IntKind.i64 a b) := by
    refine ⟨?_, by have := Nat.or_lt_two_pow l1 l2; omega, eO⟩
    rw [Nat.or_div_two_pow]
    rcases rx.1 with h | h <;> rcases ry.1 with h' | h' <;> rw [h, h'] <;> simp
  have rX : Reads K (x ^^^ y) (bits BinOp.xor IntKind.i64 a b) := by
    refine ⟨?_, by have := Nat.xor_lt_two_pow l1 l2; omega, eX⟩
    rw [Nat.xor_div_two_pow]
    rcases rx.1 with h | h <;> rcases ry.1 with h' | h' <;> rw [h, h'] <;> simp
  have bx := reads_bd hK rx
  have bY := reads_bd hK ry
  have bA := reads_bd hK rA
  have bO := reads_bd hK rO
  have bX := reads_bd hK rX
  clear rx ry rA rO rX eA eO eX ha ha2 hb hb2
  generalize bits BinOp.and IntKind.i64 a b = vA at *
  generalize bits BinOp.or IntKind.i64 a b = vO at *
  generalize bits BinOp.xor IntKind.i64 a b = vX at *
  generalize x &&& y = A at *
  generalize x ||| y = O at *
  generalize x ^^^ y = X at *
  rcases hK with rfl | rfl <;> simp at * <;> omega
end Go.Proofs.Ythmphmndpfkbcaa
