/-
  What the rows of the wire laws share: from the listed variables' data to their cells; a world that holds them (the witness). No condition of its own.
-/
import Derived.Test.YtmmdkoomceikiaaDoorCards
import Derived.Test.YtmmdkoomceikiaaDoorTie
import Derived.Test.YtmmdkoomceikiaaDoorBase
import Derived.ProofKit
import Derived.OpenShut
import Derived.Deep.DeepHandedRow
import Derived.Lib.LaidTab
import Derived.LaidHandle
import Derived.RowKitTokens
namespace Go.Proofs.YtmmdkoomceikiaaDoor
open Go.ChangeShapes Go.WideShapes Go.ChangeAt Go.RowKit

theorem rbOwn : ownKnob Tryd.prog.godebug = none := by kernel_rfl
theorem rbTab : Tryd.prog.globalNamed "plover/wire.sizes" = some 0 := by kernel_rfl
theorem rbTabType : (Tryd.prog.globals[0]?).map (·.type) = some 79 := by kernel_rfl
theorem rbCellsA : Tryd.prog.cellsOf 79 = 4 := by kernel_rfl
theorem rbCellsI : Tryd.prog.cellsOf 3 = 1 := by kernel_rfl
theorem rbEt : Tryd.prog.globalNamed "errors.errorType" = some 1 := by kernel_rfl
theorem rbRt : (Tryd.prog.cutTypes.find? (·.1 == "internal/reflectlite.rtype")).map (·.2) = some 105 := by kernel_rfl
theorem rbOneRow : ((List.range Tryd.prog.types.size).filter fun t => Tryd.prog.rowNamed t [101, 114, 114, 111, 114]) = [38] := by kernel_rfl

/-- The rows' list of variables. -/
def laidList : List (String × DataW Unit) := [("errors.errorType", Rows.laid_errors_errorType), ("plover/wire.sizes", Rows.laid_plover_wire_sizes)]
theorem laid_parts {W : World} (h : laidMetH Tryd.prog laidList W) : laidMet Tryd.prog [("plover/wire.sizes", Lib.tabData .i64 [1, 2, 4, 8])] W ∧ handlesMet Tryd.prog [("errors.errorType", Rows.laid_errors_errorType)] W := h
theorem laid_of {W : World} (h : laidMetH Tryd.prog laidList W) : Laid W := by
  obtain ⟨h1, h2⟩ := laid_parts h
  have ht : Lib.TabIs Tryd.prog W "plover/wire.sizes" .i64 [1, 2, 4, 8] := Lib.tabIs_of_head (rest := []) rbTab rbTabType Tryd.underlying79 Tryd.underlying3 rbCellsI rbCellsA h1
  refine ⟨ht.cell rbTab 0 (by decide), ht.cell rbTab 1 (by decide), ht.cell rbTab 2 (by decide), ht.cell rbTab 3 (by decide), ?_⟩
  obtain ⟨name, u, ty, e1, e2, e3, e4, e5⟩ := h2 _ (List.mem_singleton.2 rfl)
  have en : name = [101, 114, 114, 111, 114] := (Option.some.inj e1).symm
  subst en
  obtain rfl := Option.some.inj (rbRt.symm.trans e2)
  have hm : ty ∈ (List.range Tryd.prog.types.size).filter fun t => Tryd.prog.rowNamed t [101, 114, 114, 111, 114] := List.mem_filter.2 ⟨List.mem_range.2 e3, e4⟩
  rw [rbOneRow] at hm
  obtain rfl := List.mem_singleton.1 hm
  have hh : typeHandle Tryd.prog 38 = .pointer (some ⟨2, 38, none⟩) := by kernel_rfl
  rw [hh] at e5
  simpa using World.var?_cell rbEt e5 0

def putCells (cs : Array Value) : Obj → Obj
  | .cells _ t frozen => .cells cs t frozen
  | o => o
/-- A world for the witness: the settled one, the two variables' cells laid. -/
noncomputable def laidWorld (os : Os) : World :=
  let w0 := World.holding Tryd.prog os ⟨#[], #[], []⟩
  { w0 with heap := (w0.heap.modify 0 (putCells #[.int .i64 1, .int .i64 2, .int .i64 4, .int .i64 8])).modify 1 (putCells #[.iface 105 (.agg #[.pointer (some ⟨2, 38, none⟩)])]) }
end Go.Proofs.YtmmdkoomceikiaaDoor
