/-
  No cell of these rows narrows 'for every input' (looked for: loops, veiled, ifaces, maps, wideKeys, modest, calm, conditions, laid).
  DERIVED. THE GIVEN ROWS OF THIS SEAT. 3 by the template 'for every input the law returns true; each argument reads behind the call as it read before'; 0 by the template 'total and deterministic' (their statements: YticeeeomhdcffaaTotals.lean).
  GIVEN WITH THE SEED: the statements are not yours to turn. If you find one false, say at which input.
  Laid BY PROGRAM, IN A SANDBOX (cutbox-rows.mjs): the forced cells as the released guide's own fill.sh prints them over the translation 7f90480d41344eef… (all of the seat's roots in one cut). By AI agents, Wed Nov 11 2026. No macro, syntax, notation, axiom, sorry.
-/
import Derived.Test.YticeeeomhdcffaaChecked
import GoSem.Claim
import GoSem.ClaimJoined
import GoSem.ClaimMapViews
import Derived.JoinedTies
import Derived.KernelRfl
namespace Go.Proofs.Yticeeeomhdcffaa
/- THE CELL 'sum', in the pinned program and in every row, IS THE sha256 OF THE DUMP (.gsa) THAT YticeeeomhdcffaaProg.lean LOADS. Nothing in Lean hashes anything: it is a label: what it is worth is what the hold of that sum in a sandbox is worth. -/
noncomputable def Try.pinned : Pinned := { name := "yticeeeomhdcffaa", sum := "7f90480d41344eef2dd6f14dbc03171216906c55387888dbaef6ae64f85f484d", checked := Try.checked }
namespace Rows
def none {H : Type} : Left H := { results := [], args := [] }

/-- 'ploverlaw11.GpioPlays': WHATEVER THE INPUT: true; the input reads as it did. -/
def gpioPlaysSpec : ChangeSpec := { name := "gpioPlays", fn := fun _ => fun
  | [d1, d2, d3] => { results := [.lit (.bool true)], args := [d1, d2, d3] }
  | _ => none }
def gpioPlaysRow : OpenClaim := { program := "yticeeeomhdcffaa", sum := "7f90480d41344eef2dd6f14dbc03171216906c55387888dbaef6ae64f85f484d", func := "plover/ploverlaw11.GpioPlays", spec := "gpioPlays", unfollowed := true, recurses := true, apart := false }
def GpioPlaysSaid : Prop := gpioPlaysRow.holds Try.pinned (OpenSpec.ofChange gpioPlaysSpec)

/-- ITS FALSE NEIGHBOUR: 'it returns false'. Refute it at one input. -/
def gpioPlaysWrong : ChangeSpec := { name := "gpioPlays", fn := fun _ => fun
  | [d1, d2, d3] => { results := [.lit (.bool false)], args := [d1, d2, d3] }
  | _ => none }
def GpioPlaysWrongFalsely : Prop := gpioPlaysRow.holds Try.pinned (OpenSpec.ofChange gpioPlaysWrong)

/-- 'ploverlaw11.GpioEdges': WHATEVER THE INPUT: true; the input reads as it did. -/
def gpioEdgesSpec : ChangeSpec := { name := "gpioEdges", fn := fun _ => fun
  | [d1, d2, d3] => { results := [.lit (.bool true)], args := [d1, d2, d3] }
  | _ => none }
def gpioEdgesRow : OpenClaim := { program := "yticeeeomhdcffaa", sum := "7f90480d41344eef2dd6f14dbc03171216906c55387888dbaef6ae64f85f484d", func := "plover/ploverlaw11.GpioEdges", spec := "gpioEdges", unfollowed := true, recurses := true, apart := false }
def GpioEdgesSaid : Prop := gpioEdgesRow.holds Try.pinned (OpenSpec.ofChange gpioEdgesSpec)

/-- ITS FALSE NEIGHBOUR: 'it returns false'. Refute it at one input. -/
def gpioEdgesWrong : ChangeSpec := { name := "gpioEdges", fn := fun _ => fun
  | [d1, d2, d3] => { results := [.lit (.bool false)], args := [d1, d2, d3] }
  | _ => none }
def GpioEdgesWrongFalsely : Prop := gpioEdgesRow.holds Try.pinned (OpenSpec.ofChange gpioEdgesWrong)

/-- 'ploverlaw11.GpioWrites': WHATEVER THE INPUT: true; the input reads as it did. -/
def gpioWritesSpec : ChangeSpec := { name := "gpioWrites", fn := fun _ => fun
  | [d1, d2, d3] => { results := [.lit (.bool true)], args := [d1, d2, d3] }
  | _ => none }
def gpioWritesRow : OpenClaim := { program := "yticeeeomhdcffaa", sum := "7f90480d41344eef2dd6f14dbc03171216906c55387888dbaef6ae64f85f484d", func := "plover/ploverlaw11.GpioWrites", spec := "gpioWrites", unfollowed := true, recurses := true, apart := false }
def GpioWritesSaid : Prop := gpioWritesRow.holds Try.pinned (OpenSpec.ofChange gpioWritesSpec)

/-- ITS FALSE NEIGHBOUR: 'it returns false'. Refute it at one input. -/
def gpioWritesWrong : ChangeSpec := { name := "gpioWrites", fn := fun _ => fun
  | [d1, d2, d3] => { results := [.lit (.bool false)], args := [d1, d2, d3] }
  | _ => none }
def GpioWritesWrongFalsely : Prop := gpioWritesRow.holds Try.pinned (OpenSpec.ofChange gpioWritesWrong)

/- THE SECOND FORM. 'bulk': how many values and letters a reading holds, each counted each time it is reached (what is shared counts as often as it is met; a slice's spare places count too). A statement '..UptoSaid' is the law's where the arguments, and the package variables that the reading takes, are together of bulk at most 1048576: NARROWER than '..Said'. Prove '..Said' where nothing that the law and all that it calls make is longer than what came in: it says more and counts as full. Else prove '..UptoSaid'. A law counts once. -/
mutual
def uptoBulk {H : Type} : DataW H → Nat
  | .lit (.string bytes) => bytes.length + 1
  | .lit _ => 1
  | .nil => 1
  | .ptr d => uptoBulk d + 1
  | .slice elems spare => uptoBulkAll elems + uptoBulkAll spare + 1
  | .agg parts => uptoBulkAll parts + 1
  | .iface _ d => uptoBulk d + 1
  | .map entries => uptoBulkEntries entries + 1
  | .held _ => 1
def uptoBulkAll {H : Type} : List (DataW H) → Nat
  | [] => 0
  | d :: r => uptoBulk d + uptoBulkAll r
def uptoBulkEntries {H : Type} : List (Lit × DataW H) → Nat
  | [] => 0
  | x :: r => uptoBulkEntry x + uptoBulkEntries r
def uptoBulkEntry {H : Type} : Lit × DataW H → Nat
  | (.string bytes, d) => bytes.length + uptoBulk d + 1
  | (_, d) => uptoBulk d + 1
 end
def uptoSmall : (H : Type) → List (DataW H) → Bool := fun _ ds => decide (uptoBulkAll ds ≤ 1048576)
def OpenSpec.upto (s : _root_.Go.ChangeSpec) : _root_.Go.OpenSpec := { _root_.Go.OpenSpec.ofChange s with cond := some uptoSmall }

/-- 'ploverlaw11.GpioPlays', WHERE WHAT IT READS IS OF BULK AT MOST 1048576: true; the input reads as it did. -/
def gpioPlaysUptoRow : OpenClaim := { program := "yticeeeomhdcffaa", sum := "7f90480d41344eef2dd6f14dbc03171216906c55387888dbaef6ae64f85f484d", func := "plover/ploverlaw11.GpioPlays", spec := "gpioPlays", unfollowed := true, recurses := true, apart := false, narrowed := true }
def GpioPlaysUptoSaid : Prop := gpioPlaysUptoRow.holds Try.pinned (OpenSpec.upto gpioPlaysSpec)

/-- 'ploverlaw11.GpioEdges', WHERE WHAT IT READS IS OF BULK AT MOST 1048576: true; the input reads as it did. -/
def gpioEdgesUptoRow : OpenClaim := { program := "yticeeeomhdcffaa", sum := "7f90480d41344eef2dd6f14dbc03171216906c55387888dbaef6ae64f85f484d", func := "plover/ploverlaw11.GpioEdges", spec := "gpioEdges", unfollowed := true, recurses := true, apart := false, narrowed := true }
def GpioEdgesUptoSaid : Prop := gpioEdgesUptoRow.holds Try.pinned (OpenSpec.upto gpioEdgesSpec)

/-- 'ploverlaw11.GpioWrites', WHERE WHAT IT READS IS OF BULK AT MOST 1048576: true; the input reads as it did. -/
def gpioWritesUptoRow : OpenClaim := { program := "yticeeeomhdcffaa", sum := "7f90480d41344eef2dd6f14dbc03171216906c55387888dbaef6ae64f85f484d", func := "plover/ploverlaw11.GpioWrites", spec := "gpioWrites", unfollowed := true, recurses := true, apart := false, narrowed := true }
def GpioWritesUptoSaid : Prop := gpioWritesUptoRow.holds Try.pinned (OpenSpec.upto gpioWritesSpec)

end Rows
end Go.Proofs.Yticeeeomhdcffaa
