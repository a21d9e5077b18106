/-
  played: a bank behind acts, if the program's functions are what they must be: some right bank. Made by wip/genbankref.py.
-/
import Derived.Test.YtkodoldkfeopdaaGreatRq
import Derived.Deep.LoopGhost
import Derived.Deep.DeepCutAuto
import Derived.Deep.CutBlock
namespace Go.Proofs.YtkodoldkfeopdaaGreat
open Go.RowKit
set_option linter.unusedVariables false
set_option maxRecDepth 100000
structure Ax where
  wh : Nat
  rg : Int
  v : Int
def xc (x : Ax) : List Value := [.int .u8 (x.wh : Int), .int .i8 x.rg, .int .i32 x.v]
def ARow (w : World) (g : Nat) (ty : TypeId) (x : Ax) : Prop := VRow w g ty (xc x)
section
variable {w w' : World} {B g : Nat} {ty : TypeId} {x : Ax}
theorem ARow.below (h : ARow w g ty x) (hb : Below B w w') (hg : g < B) : ARow w' g ty x := VRow.below h hb hg
theorem ARow.lt (h : ARow w g ty x) : g < w.heap.size := VRow.lt h
theorem ARow.other (h : ARow w g ty x) {r : Nat} (ho : ∀ j, j ≠ r → w'.heap[j]? = w.heap[j]?) (hr : g ≠ r) : ARow w' g ty x := (ho g hr).trans h
theorem ARow.c0 (h : ARow w g ty x) : w.cell? ⟨g, 0, none⟩ = some (.int .u8 (x.wh : Int)) := VRow.cell h 0 _ rfl
theorem ARow.c1 (h : ARow w g ty x) : w.cell? ⟨g, 1, none⟩ = some (.int .i8 x.rg) := VRow.cell h 1 _ rfl
theorem ARow.c2 (h : ARow w g ty x) : w.cell? ⟨g, 2, none⟩ = some (.int .i32 x.v) := VRow.cell h 2 _ rfl
end
/-- Acts, as they lie in memory. -/
def ActsIn (w : World) (A : Option Addr) (len : Nat) : Prop := ∀ j, j < len → ∃ a, A = some a ∧ a.block < w.heap.size ∧ ∃ x : Ax, x.wh < 256 ∧ -128 ≤ x.rg ∧ x.rg ≤ 127 ∧ -2147483648 ≤ x.v ∧ x.v ≤ 2147483647 ∧ CellsA w (a.add (j * 3)) (xc x)
end Go.Proofs.YtkodoldkfeopdaaGreat
