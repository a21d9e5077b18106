/-
  Bits of bytes: what stands behind the laws' own bit operations. Plain mathematics.
-/
import Derived.Test.YticeeeomhdcffaaWorks
import Derived.Laws.BitsAllLaws
namespace Go.Proofs.Yticeeeomhdcffaa
open Go.RowKit
set_option linter.unusedVariables false
theorem and255 (v : Int) (h1 : -2147483648 ≤ v) (h2 : v ≤ 2147483647) : bits .and .i32 v 255 = ((lowN v : Nat) : Int) := by
  have hl := lowN_lt v
  have hc := lowN_cast v
  show IntKind.i32.wrap ((BitVec.ofInt 32 v &&& BitVec.ofInt 32 255).toNat : Int) = _
  have h255 : (BitVec.ofInt 32 255).toNat = 255 := by decide
  rw [BitVec.toNat_and, h255]
  have hm : (BitVec.ofInt 32 v).toNat &&& 255 = (BitVec.ofInt 32 v).toNat % 256 := Nat.and_two_pow_sub_one_eq_mod _ 8
  have hn : (BitVec.ofInt 32 v).toNat = (v % 4294967296).toNat := by rw [BitVec.toNat_ofInt]; rfl
  have hx : ((BitVec.ofInt 32 v).toNat % 256 : Nat) = lowN v := by
    rw [hn]
    have := Int.emod_nonneg v (show (4294967296 : Int) ≠ 0 by decide)
    omega
  rw [hm, hx, IntKind.wrap_i32]
  omega
theorem xorN (a b : Nat) (ha : a < 256) (hb : b < 256) : a ^^^ b < 256 := Nat.xor_lt_two_pow (n := 8) (by omega) (by omega)
theorem bitB_testBit (v n : Nat) : bitB v n = v.testBit n := by
  rw [Nat.testBit_eq_decide_div_mod_eq]
  unfold bitB
  rw [Bool.eq_iff_iff]
  simp
/-- A byte and one bit. -/
theorem and_one (v n : Nat) : (v &&& 2 ^ n = 0) ↔ bitB v n = false := by
  rw [bitB_testBit]
  constructor
  · intro h
    have := congrArg (fun x => x.testBit n) h
    simpa [Nat.testBit_and, Nat.testBit_two_pow] using this
  · intro h
    apply Nat.eq_of_testBit_eq
    intro i
    rw [Nat.testBit_and, Nat.testBit_two_pow]
    by_cases hi : n = i
    · subst hi
      simp [h]
    · simp [hi]
end Go.Proofs.Yticeeeomhdcffaa
