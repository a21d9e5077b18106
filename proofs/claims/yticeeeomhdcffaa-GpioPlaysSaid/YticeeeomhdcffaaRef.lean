/-
  The document's own low, bit, Peek, Write, Rising: by their contracts.
-/
import Derived.Test.YticeeeomhdcffaaG
import Derived.IntWalk
namespace Go.Proofs.Yticeeeomhdcffaa
open Go.RowKit
set_option linter.unusedVariables false
theorem low_any (v : Int) (w : World) (h1 : -2147483648 ≤ v) (h2 : v ≤ 2147483647) : Calls Try.prog 18 #[.int .i32 v] w fun e w' => e = .returned (.int .u8 (lowN v : Nat)) ∧ w' = w := by
  have hc := lowN_cast v
  have hd := Int.mul_tdiv_add_tmod v 256
  have hb := tmod_lt2 v 256 (by decide)
  have hw : IntKind.i64.wrap (v.tmod 256 + 256) = v.tmod 256 + 256 := IntWalk.i64_in _ (by omega)
  have he : (v.tmod 256 + 256).tmod 256 = (v.tmod 256 + 256) % 256 := Int.tmod_eq_emod_of_nonneg (by omega)
  have hk : (v.tmod 256 + 256) % 256 = (lowN v : Nat) := by rw [hc]; omega
  have hl := lowN_lt v
  rw [hk] at he
  have hm : ((lowN v : Nat) : Int) % 256 = (lowN v : Nat) := by omega
  go_enter Try.func18, Try.ntmps18
  go_wp2
  go_ret
  exact ⟨by rw [hc]; rfl, rfl⟩
theorem bit_any (v n : Nat) (w : World) (hv : v < 256) (hn : n ≤ 8) : Calls Try.prog 19 #[.int .u8 v, .int .i64 n] w fun e w' => e = .returned (.bool (bitB v n)) ∧ w' = w := by
  go_enter Try.func19, Try.ntmps19
  go_wp2
  go_loopw [0, 5] (fun vv iv wr => ∃ k : Nat, k ≤ n ∧ iv = .int .i64 k ∧ vv = .int .u8 ((v / 2 ^ k : Nat) : Int) ∧ wr = w) (fun _ iv _ => n - (intOf iv).toNat)
  case atStart => exact ⟨0, by omega, rfl, by simp, rfl⟩
  case round =>
    obtain ⟨k, hk, rfl, rfl, rfl⟩ := hrel
    have hvk : v / 2 ^ k < 256 := Nat.lt_of_le_of_lt (Nat.div_le_self _ _) hv
    by_cases hlt : k < n
    · have d1 : (k : Int) < (n : Int) := by omega
      obtain ⟨x, hx⟩ : ∃ x, v / 2 ^ k = x := ⟨_, rfl⟩
      rw [hx]
      have hx2 : v / 2 ^ (k + 1) = x / 2 := by rw [← hx, Nat.pow_succ, Nat.div_div_eq_div_mul]
      rw [hx] at hvk
      have t1 : (x : Int).tdiv 2 = ((x / 2 : Nat) : Int) := rfl
      go_wp2
      go_roundw
      case rel => exact ⟨k + 1, by omega, by go_num, by rw [hx2]; simp, by first | rfl | trivial⟩
      case measure =>
        simp [intOf]
        omega
    · obtain rfl : k = n := by omega
      obtain ⟨x, hx⟩ : ∃ x, v / 2 ^ k = x := ⟨_, rfl⟩
      rw [hx]
      go_wp2
      go_ret
      refine ⟨ret_bool ?_, rfl⟩
      rw [bitB, hx, Bool.eq_iff_iff]
      simp
      omega
end Go.Proofs.Yticeeeomhdcffaa
