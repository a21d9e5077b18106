/-
  The document's Peek, Write by their contracts. Made by wip/genbankref.py.
-/
import Derived.Test.YtkodoldkfeopdaaRq
import Derived.IntWalk
namespace Go.Proofs.Ytkodoldkfeopdaa
open Go.RowKit
set_option linter.unusedVariables false
set_option maxRecDepth 100000
/-- A function over one bank that answers none. -/
structure On (w W : World) (g : Nat) (ty : TypeId) (b : Bk) : Prop where
  q : BRow W g ty b
  b : Below w.heap.size w W
theorem On.under {w W W' : World} {g : Nat} {ty : TypeId} {b : Bk} (h : On w W g ty b) (hb : Below W.heap.size W W') : On w W' g ty b := ⟨h.q.below hb h.q.lt, h.b.trans (hb.mono h.b.size)⟩
theorem idx0 (g : Nat) (w : World) : (Instr.indexAt 157 (.pointer (some ⟨g, 24, none⟩)) (.int .i64 0)).run Try.prog w = .ok (.pointer (some ⟨g, 24, none⟩)) w := by kernel_rfl
theorem idx1 (g : Nat) (w : World) : (Instr.indexAt 157 (.pointer (some ⟨g, 24, none⟩)) (.int .i64 1)).run Try.prog w = .ok (.pointer (some ⟨g, 27, none⟩)) w := by kernel_rfl
end Go.Proofs.Ytkodoldkfeopdaa
