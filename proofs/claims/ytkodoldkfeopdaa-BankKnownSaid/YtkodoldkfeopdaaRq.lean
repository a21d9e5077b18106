/-
  A function over one bank; the document's request, Write by their contracts. Made by wip/genbankref.py.
-/
import Derived.Test.YtkodoldkfeopdaaB
namespace Go.Proofs.Ytkodoldkfeopdaa
open Go.RowKit
set_option linter.unusedVariables false
set_option maxRecDepth 100000
def bare : Bk := ⟨0, 0, 0, [], [], false, 0, 0, ⟨0, 0, 0⟩, ⟨0, 0, 0⟩, ⟨0, 0⟩⟩
theorem bare_ok : bare.ok := ⟨by decide, by decide, by decide, Ua.Rg.new, ⟨by decide, by decide, by decide⟩, ⟨by decide, by decide, by decide⟩, ⟨by decide, by decide⟩⟩
structure Tw (w W : World) (g r : Nat) (ty : TypeId) (b : Bk) : Prop where
  q : BRow W g ty b
  z : BRow W r ty bare
  b : Below w.heap.size w W
  lg : w.heap.size ≤ g
  lr : w.heap.size ≤ r
  gr : g ≠ r
section
variable {w W W' : World} {g r : Nat} {ty : TypeId} {b d : Bk}
theorem Tw.under (h : Tw w W g r ty b) (hb : Below W.heap.size W W') : Tw w W' g r ty b := ⟨h.q.below hb h.q.lt, h.z.below hb h.z.lt, h.b.trans (hb.mono h.b.size), h.lg, h.lr, h.gr⟩
theorem Tw.setG (h : Tw w W g r ty b) (hn : BRow W' g ty d) (ho : ∀ j, j ≠ g → W'.heap[j]? = W.heap[j]?) (hb : Below g W W') : Tw w W' g r ty d := ⟨hn, h.z.other ho h.gr.symm, h.b.trans (hb.mono h.lg), h.lg, h.lr, h.gr⟩
theorem Tw.new (ty : TypeId) (hq : W.heap[w.heap.size]? = some (.cells (bc b).toArray ty)) (hz : W.heap[w.heap.size + 1]? = some (.cells (bc bare).toArray ty)) (hB : Below w.heap.size w W) : Tw w W w.heap.size (w.heap.size + 1) ty b :=
  ⟨hq, hz, hB, Nat.le_refl _, by omega, by omega⟩
end
theorem pow_lt (n : Nat) (hn : n < 8) : 2 ^ n < 256 := Nat.pow_lt_pow_of_lt (a := 2) (n := n) (m := 8) (by decide) hn
end Go.Proofs.Ytkodoldkfeopdaa
