/-
  Wrap by its contract, and the arithmetic of both types as plain mathematics.
-/
import Derived.Test.YthmphmndpfkbcaaOps
namespace Go.Proofs.Ythmphmndpfkbcaa
open Go.RowKit
/-- v wrapped to the type t. -/
def wrapT (t v : Int) : Int := if t = 1 then (v + 32768) % 65536 - 32768 else (v + 2147483648) % 4294967296 - 2147483648
theorem wrapT_16 (v : Int) : wrapT 1 v = (v + 32768) % 65536 - 32768 := rfl
theorem wrapT_32 (t v : Int) (h : t ≠ 1) : wrapT t v = (v + 2147483648) % 4294967296 - 2147483648 := if_neg h
theorem wrapT_bd (t v : Int) : -2147483648 ≤ wrapT t v ∧ wrapT t v ≤ 2147483647 := by
  by_cases h : t = 1
  · subst h
    rw [wrapT_16]
    omega
  · rw [wrapT_32 t v h]
    omega
theorem wrapT_bd16 (v : Int) : -32768 ≤ wrapT 1 v ∧ wrapT 1 v ≤ 32767 := by
  rw [wrapT_16]
  omega
theorem wrap_i16 (v : Int) : IntKind.i16.wrap v = (v + 32768) % 65536 - 32768 := by
  simp [IntKind.wrap, IntKind.bits, IntKind.signed]
  split <;> omega
theorem ret_i32 {a b : Int} (h : a = b) : Ending.returned (.int .i32 a) = .returned (.int .i32 b) := by rw [h]
set_option maxRecDepth 100000 in
theorem wrap_any (t v : Int) (w : World) :
    Calls Try.prog 13 #[.int .i64 t, .int .i64 v] w fun e w' => e = .returned (.int .i32 (wrapT t v)) ∧ w = w' := by
  by_cases ht : t = 1
  · subst ht
    go_enter Try.func13, Try.ntmps13
    go_wp2
    go_ret
    refine ⟨ret_i32 ?_, rfl⟩
    rw [wrapT_16, wrap_i16]
    unfold wrap32
    omega
  · have ht2 : (t == 1) = false := by simpa using ht
    go_enter Try.func13, Try.ntmps13
    go_wp2
    go_ret
    refine ⟨ret_i32 ?_, rfl⟩
    rw [wrapT_32 t v ht, wrap32]
theorem ofInt_toNat (n : Nat) (b : Int) : ((BitVec.ofInt n b).toNat : Int) = b % ((2 ^ n : Nat) : Int) := by
  rw [BitVec.toNat_ofInt, Int.toNat_of_nonneg (Int.emod_nonneg _ (by exact_mod_cast Nat.ne_of_gt (Nat.two_pow_pos n)))]
theorem and_15 (b : Int) : bits BinOp.and IntKind.i32 b 15 = b % 16 := by
  show IntKind.i32.wrap ((BitVec.ofInt 32 b &&& BitVec.ofInt 32 15).toNat : Int) = _
  have h := ofInt_toNat 32 b
  have h15 : (BitVec.ofInt 32 15).toNat = 2 ^ 4 - 1 := by decide
  rw [BitVec.toNat_and, h15, Nat.and_two_pow_sub_one_eq_mod, IntKind.wrap_i32]
  generalize (BitVec.ofInt 32 b).toNat = m at *
  simp at h
  omega
theorem and_31 (b : Int) : bits BinOp.and IntKind.i32 b 31 = b % 32 := by
  show IntKind.i32.wrap ((BitVec.ofInt 32 b &&& BitVec.ofInt 32 31).toNat : Int) = _
  have h := ofInt_toNat 32 b
  have h15 : (BitVec.ofInt 32 31).toNat = 2 ^ 5 - 1 := by decide
  rw [BitVec.toNat_and, h15, Nat.and_two_pow_sub_one_eq_mod, IntKind.wrap_i32]
  generalize (BitVec.ofInt 32 b).toNat = m at *
  simp at h
  omega
end Go.Proofs.Ythmphmndpfkbcaa
