/-
  The document's low, Peek, Write by their contracts.
-/
import Derived.Test.YtgibindoblhkeaaT
namespace Go.Proofs.Ytgibindoblhkeaa
open Go.RowKit
set_option linter.unusedVariables false
theorem low_eq (v : Int) : IntKind.u16.wrap ((wrap64 (v.tmod 65536 + 65536)).tmod 65536) = ((low16 v : Nat) : Int) := by
  have h1 := tmod_lt2 v 65536 (by decide)
  have h2 : v.tmod 65536 % 65536 = v % 65536 := by
    have := Int.tmod_add_mul_tdiv v 65536
    omega
  rw [low16_cast]
  generalize v.tmod 65536 = x at *
  have e1 : wrap64 (x + 65536) = x + 65536 := by
    unfold wrap64
    omega
  rw [e1, Int.tmod_eq_emod_of_nonneg (by omega)]
  simp [IntKind.wrap, IntKind.bits, IntKind.signed]
  omega
theorem rLow_any (v : Int) (w : World) (h0 : -2147483648 ≤ v) (h1 : v ≤ 2147483647) : Calls Try.prog 21 #[.int .i32 v] w fun x w' => x = .returned (.int .u16 (low16 v : Nat)) ∧ w' = w := by
  have HE := Lib.hid (low_eq v)
  go_enter Try.func21, Try.ntmps21
  go_wp2
  go_ret
  exact ⟨by rw [← HE.out]; rfl, rfl⟩
end Go.Proofs.Ytgibindoblhkeaa
