/-
  math/bits.TrailingZeros64 at this program, under its table; least by what it is: the lowest number of the set.
-/
import Derived.Test.YtchhbhgbpimegaaDoorSet4
import Derived.Shelf.Spec.TrailingZeros
namespace Go.Proofs.YtchhbhgbpimegaaDoor
open Go.RowKit Go.Shelf
set_option linter.unusedVariables false
theorem tz_core (x k idx : Nat) (w : World) (hx0 : ((x : Int) == 0) = false)
    (key : IntKind.u64.wrap (bits BinOp.and IntKind.u64 (x : Int) (IntKind.u64.wrap (-(x : Int))) * 285870213051353865) / 288230376151711744 = (idx : Int))
    (hi : idx < 64) (hk : k < 64) (hcell : w.cell? ⟨1, idx, none⟩ = some (.int .u8 k)) :
    Calls Tryd.prog 60 #[.int .u64 x] w fun e w' => e = .returned (.int .i64 k) ∧ w' = w := by
  go_enter Tryd.func60, Tryd.ntmps60
  go_wp2_with (simp only [key])
  go_ret
  exact ⟨rfl, rfl⟩
theorem tz_any (x : Nat) (hx : x < 18446744073709551616) (hx0 : x ≠ 0) (w : World) (hT : TabAt 1 Lib.deBruijn64tab w) :
    Calls Tryd.prog 60 #[.int .u64 x] w fun e w' => e = .returned (.int .i64 (Lib.ctz 64 x)) ∧ w' = w := by
  obtain ⟨hlow, hk⟩ := Lib.lowest_bit 64 x hx0 hx
  obtain ⟨hi, htab⟩ := Lib.deBruijn64_at _ hk
  have hcell := hT _ hi
  rw [htab] at hcell
  exact tz_core x _ _ w (by simp; omega) (Go.Proofs.tz64_key x _ hx hx0 hlow) hi hk hcell
theorem tabAt_below {g : Nat} {tab : List Nat} {w w' : World} {B : Nat} (h : TabAt g tab w) (hb : Below B w w') (hg : g < B) : TabAt g tab w' := fun j hj => (hb.cell (p := ⟨g, j, none⟩) hg).trans (h j hj)
/-- The lowest number of a set that has some. -/
theorem ctz_bits (x : Nat) (hx : x < 18446744073709551616) (hx0 : x ≠ 0) : Lib.ctz 64 x < 64 ∧ x.testBit (Lib.ctz 64 x) = true ∧ ∀ i, i < Lib.ctz 64 x → x.testBit i = false := by
  obtain ⟨m, h1, h2⟩ := Lib.ctzFrom_spec 64 x (by omega) hx
  have he : Lib.ctz 64 x = Lib.ctzFrom 64 x := by simp [Lib.ctz, hx0]
  rw [he]
  refine ⟨h2, ?_, ?_⟩
  · generalize Lib.ctzFrom 64 x = k at *
    rw [h1, Nat.testBit_two_pow_mul]
    simp [Nat.testBit_zero]
  · intro i hi
    generalize Lib.ctzFrom 64 x = k at *
    rw [h1, Nat.testBit_two_pow_mul]
    simp
    omega
theorem least_any (p lv wb x : Nat) (w : World) (h : IsSet w p lv wb x) (hx0 : x ≠ 0) (hT : TabAt 1 Lib.deBruijn64tab w) (hg : 1 < w.heap.size) :
    Calls Tryd.prog 44 #[.pointer (some ⟨p, 0, none⟩)] w fun e w' => e = .returned (.tuple #[.int .i64 (Lib.ctz 64 x), .bool true]) ∧ Below w.heap.size w w' :=
  least_some p lv wb x _ w h hx0 (ctz_bits x h.lt hx0).1 fun w' hb => tz_any x h.lt hx0 w' (tabAt_below hT hb hg)
end Go.Proofs.YtchhbhgbpimegaaDoor
