/-
  A set of bits: least by its contract, under the contract of math/bits.TrailingZeros64.
-/
import Derived.Test.YtchhbhgbpimegaaDoorSet2
import Derived.RangeFuncNested
namespace Go.Proofs.YtchhbhgbpimegaaDoor
open Go.RowKit
set_option linter.unusedVariables false
set_option maxRecDepth 100000 in
theorem least_none (p lv wb : Nat) (w : World) (h : IsSet w p lv wb 0) : Calls Tryd.prog 44 #[.pointer (some ⟨p, 0, none⟩)] w fun e w' => e = .returned (.tuple #[.int .i64 0, .bool false]) ∧ Drawn w w' := by
  obtain ⟨c, hr⟩ := h.row
  obtain ⟨rest, hl⟩ := h.lev
  have c0 := row_at hr 0 _ rfl
  have c1 := row_at hl 0 _ rfl
  have c2 := row_at h.word 0 _ rfl
  clear h hr hl
  go_enter Tryd.func44, Tryd.ntmps44
  go_wp2
  go_quiet (fail)
  go_wp2
  go_ret2
  exact ⟨rfl, (Drawn.refl _).more _⟩
end Go.Proofs.YtchhbhgbpimegaaDoor
