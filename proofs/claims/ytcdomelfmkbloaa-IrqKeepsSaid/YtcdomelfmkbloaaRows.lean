/-
  No cell of these rows narrows 'for every input' (looked for: loops, veiled, ifaces, maps, wideKeys, modest, calm, conditions, laid).
  DERIVED. THE GIVEN ROWS OF THIS SEAT. 3 by the template 'for every input the law returns true; each argument reads behind the call as it read before'; 0 by the template 'total and deterministic' (their statements: YtcdomelfmkbloaaTotals.lean).
  GIVEN WITH THE SEED: the statements are not yours to turn. If you find one false, say at which input.
  Laid BY PROGRAM, IN A SANDBOX (cutbox-rows.mjs): the forced cells as the released guide's own fill.sh prints them over the translation a3b5f3e0efd715a7… (all of the seat's roots in one cut). By AI agents, Wed Nov 11 2026. No macro, syntax, notation, axiom, sorry.
-/
import Derived.Test.YtcdomelfmkbloaaChecked
import GoSem.Claim
import GoSem.ClaimJoined
import GoSem.ClaimMapViews
import Derived.JoinedTies
import Derived.KernelRfl
namespace Go.Proofs.Ytcdomelfmkbloaa
/- THE CELL 'sum', in the pinned program and in every row, IS THE sha256 OF THE DUMP (.gsa) THAT YtcdomelfmkbloaaProg.lean LOADS. Nothing in Lean hashes anything: it is a label: what it is worth is what the hold of that sum in a sandbox is worth. -/
noncomputable def Try.pinned : Pinned := { name := "ytcdomelfmkbloaa", sum := "a3b5f3e0efd715a7a608626636d100fc80eed4abcf8ef242b6c05be9b2e7a4e4", checked := Try.checked }
namespace Rows
def none {H : Type} : Left H := { results := [], args := [] }

/-- 'ploverlaw14.IrqTells': WHATEVER THE INPUT: true; the input reads as it did. -/
def irqTellsSpec : ChangeSpec := { name := "irqTells", fn := fun _ => fun
  | [d1, d2, d3] => { results := [.lit (.bool true)], args := [d1, d2, d3] }
  | _ => none }
def irqTellsRow : OpenClaim := { program := "ytcdomelfmkbloaa", sum := "a3b5f3e0efd715a7a608626636d100fc80eed4abcf8ef242b6c05be9b2e7a4e4", func := "plover/ploverlaw14.IrqTells", spec := "irqTells", unfollowed := true, recurses := true, apart := false }
def IrqTellsSaid : Prop := irqTellsRow.holds Try.pinned (OpenSpec.ofChange irqTellsSpec)

/-- ITS FALSE NEIGHBOUR: 'it returns false'. Refute it at one input. -/
def irqTellsWrong : ChangeSpec := { name := "irqTells", fn := fun _ => fun
  | [d1, d2, d3] => { results := [.lit (.bool false)], args := [d1, d2, d3] }
  | _ => none }
def IrqTellsWrongFalsely : Prop := irqTellsRow.holds Try.pinned (OpenSpec.ofChange irqTellsWrong)

/-- 'ploverlaw14.IrqKeeps': WHATEVER THE INPUT: true; the input reads as it did. -/
def irqKeepsSpec : ChangeSpec := { name := "irqKeeps", fn := fun _ => fun
  | [d1, d2] => { results := [.lit (.bool true)], args := [d1, d2] }
  | _ => none }
def irqKeepsRow : OpenClaim := { program := "ytcdomelfmkbloaa", sum := "a3b5f3e0efd715a7a608626636d100fc80eed4abcf8ef242b6c05be9b2e7a4e4", func := "plover/ploverlaw14.IrqKeeps", spec := "irqKeeps", unfollowed := true, recurses := true, apart := false }
def IrqKeepsSaid : Prop := irqKeepsRow.holds Try.pinned (OpenSpec.ofChange irqKeepsSpec)

/-- ITS FALSE NEIGHBOUR: 'it returns false'. Refute it at one input. -/
def irqKeepsWrong : ChangeSpec := { name := "irqKeeps", fn := fun _ => fun
  | [d1, d2] => { results := [.lit (.bool false)], args := [d1, d2] }
  | _ => none }
def IrqKeepsWrongFalsely : Prop := irqKeepsRow.holds Try.pinned (OpenSpec.ofChange irqKeepsWrong)

/-- 'ploverlaw14.IrqLevels': WHATEVER THE INPUT: true; the input reads as it did. -/
def irqLevelsSpec : ChangeSpec := { name := "irqLevels", fn := fun _ => fun
  | [d1, d2, d3] => { results := [.lit (.bool true)], args := [d1, d2, d3] }
  | _ => none }
def irqLevelsRow : OpenClaim := { program := "ytcdomelfmkbloaa", sum := "a3b5f3e0efd715a7a608626636d100fc80eed4abcf8ef242b6c05be9b2e7a4e4", func := "plover/ploverlaw14.IrqLevels", spec := "irqLevels", unfollowed := true, recurses := true, apart := false }
def IrqLevelsSaid : Prop := irqLevelsRow.holds Try.pinned (OpenSpec.ofChange irqLevelsSpec)

/-- ITS FALSE NEIGHBOUR: 'it returns false'. Refute it at one input. -/
def irqLevelsWrong : ChangeSpec := { name := "irqLevels", fn := fun _ => fun
  | [d1, d2, d3] => { results := [.lit (.bool false)], args := [d1, d2, d3] }
  | _ => none }
def IrqLevelsWrongFalsely : Prop := irqLevelsRow.holds Try.pinned (OpenSpec.ofChange irqLevelsWrong)

/- THE SECOND FORM. 'bulk': how many values and letters a reading holds, each counted each time it is reached (what is shared counts as often as it is met; a slice's spare places count too). A statement '..UptoSaid' is the law's where the arguments, and the package variables that the reading takes, are together of bulk at most 1048576: NARROWER than '..Said'. Prove '..Said' where nothing that the law and all that it calls make is longer than what came in: it says more and counts as full. Else prove '..UptoSaid'. A law counts once. -/
mutual
def uptoBulk {H : Type} : DataW H → Nat
  | .lit (.string bytes) => bytes.length + 1
  | .lit _ => 1
  | .nil => 1
  | .ptr d => uptoBulk d + 1
  | .slice elems spare => uptoBulkAll elems + uptoBulkAll spare + 1
  | .agg parts => uptoBulkAll parts + 1
  | .iface _ d => uptoBulk d + 1
  | .map entries => uptoBulkEntries entries + 1
  | .held _ => 1
def uptoBulkAll {H : Type} : List (DataW H) → Nat
  | [] => 0
  | d :: r => uptoBulk d + uptoBulkAll r
def uptoBulkEntries {H : Type} : List (Lit × DataW H) → Nat
  | [] => 0
  | x :: r => uptoBulkEntry x + uptoBulkEntries r
def uptoBulkEntry {H : Type} : Lit × DataW H → Nat
  | (.string bytes, d) => bytes.length + uptoBulk d + 1
  | (_, d) => uptoBulk d + 1
 end
def uptoSmall : (H : Type) → List (DataW H) → Bool := fun _ ds => decide (uptoBulkAll ds ≤ 1048576)
def OpenSpec.upto (s : _root_.Go.ChangeSpec) : _root_.Go.OpenSpec := { _root_.Go.OpenSpec.ofChange s with cond := some uptoSmall }

/-- 'ploverlaw14.IrqTells', WHERE WHAT IT READS IS OF BULK AT MOST 1048576: true; the input reads as it did. -/
def irqTellsUptoRow : OpenClaim := { program := "ytcdomelfmkbloaa", sum := "a3b5f3e0efd715a7a608626636d100fc80eed4abcf8ef242b6c05be9b2e7a4e4", func := "plover/ploverlaw14.IrqTells", spec := "irqTells", unfollowed := true, recurses := true, apart := false, narrowed := true }
def IrqTellsUptoSaid : Prop := irqTellsUptoRow.holds Try.pinned (OpenSpec.upto irqTellsSpec)

/-- 'ploverlaw14.IrqKeeps', WHERE WHAT IT READS IS OF BULK AT MOST 1048576: true; the input reads as it did. -/
def irqKeepsUptoRow : OpenClaim := { program := "ytcdomelfmkbloaa", sum := "a3b5f3e0efd715a7a608626636d100fc80eed4abcf8ef242b6c05be9b2e7a4e4", func := "plover/ploverlaw14.IrqKeeps", spec := "irqKeeps", unfollowed := true, recurses := true, apart := false, narrowed := true }
def IrqKeepsUptoSaid : Prop := irqKeepsUptoRow.holds Try.pinned (OpenSpec.upto irqKeepsSpec)

/-- 'ploverlaw14.IrqLevels', WHERE WHAT IT READS IS OF BULK AT MOST 1048576: true; the input reads as it did. -/
def irqLevelsUptoRow : OpenClaim := { program := "ytcdomelfmkbloaa", sum := "a3b5f3e0efd715a7a608626636d100fc80eed4abcf8ef242b6c05be9b2e7a4e4", func := "plover/ploverlaw14.IrqLevels", spec := "irqLevels", unfollowed := true, recurses := true, apart := false, narrowed := true }
def IrqLevelsUptoSaid : Prop := irqLevelsUptoRow.holds Try.pinned (OpenSpec.upto irqLevelsSpec)

end Rows
end Go.Proofs.Ytcdomelfmkbloaa
