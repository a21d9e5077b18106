/-
  No cell of these rows narrows 'for every input' (looked for: loops, veiled, ifaces, maps, wideKeys, modest, calm, conditions, laid).
  DERIVED. THE GIVEN ROWS OF THIS SEAT. 4 by the template 'for every input the law returns true; each argument reads behind the call as it read before'; 0 by the template 'total and deterministic' (their statements: YtgpgijdciaieaaaTotals.lean).
  GIVEN WITH THE SEED: the statements are not yours to turn. If you find one false, say at which input.
  Laid BY PROGRAM, IN A SANDBOX (cutbox-rows.mjs): the forced cells as the released guide's own fill.sh prints them over the translation e0e928e8deeb7b3a… (all of the seat's roots in one cut). By AI agents, Wed Nov 11 2026. No macro, syntax, notation, axiom, sorry.
-/
import Derived.Test.YtgpgijdciaieaaaChecked
import GoSem.Claim
import GoSem.ClaimJoined
import GoSem.ClaimMapViews
import Derived.JoinedTies
import Derived.KernelRfl
namespace Go.Proofs.Ytgpgijdciaieaaa
/- THE CELL 'sum', in the pinned program and in every row, IS THE sha256 OF THE DUMP (.gsa) THAT YtgpgijdciaieaaaProg.lean LOADS. Nothing in Lean hashes anything: it is a label: what it is worth is what the hold of that sum in a sandbox is worth. -/
noncomputable def Try.pinned : Pinned := { name := "ytgpgijdciaieaaa", sum := "e0e928e8deeb7b3a89d0c4660febf068978d31bfecc04b7e5a036227fe4bb56a", checked := Try.checked }
namespace Rows
def none {H : Type} : Left H := { results := [], args := [] }

/-- 'ploverlaw12.UartTells': WHATEVER THE INPUT: true; the input reads as it did. -/
def uartTellsSpec : ChangeSpec := { name := "uartTells", fn := fun _ => fun
  | [d1, d2, d3] => { results := [.lit (.bool true)], args := [d1, d2, d3] }
  | _ => none }
def uartTellsRow : OpenClaim := { program := "ytgpgijdciaieaaa", sum := "e0e928e8deeb7b3a89d0c4660febf068978d31bfecc04b7e5a036227fe4bb56a", func := "plover/ploverlaw12.UartTells", spec := "uartTells", unfollowed := true, recurses := true, apart := false }
def UartTellsSaid : Prop := uartTellsRow.holds Try.pinned (OpenSpec.ofChange uartTellsSpec)

/-- ITS FALSE NEIGHBOUR: 'it returns false'. Refute it at one input. -/
def uartTellsWrong : ChangeSpec := { name := "uartTells", fn := fun _ => fun
  | [d1, d2, d3] => { results := [.lit (.bool false)], args := [d1, d2, d3] }
  | _ => none }
def UartTellsWrongFalsely : Prop := uartTellsRow.holds Try.pinned (OpenSpec.ofChange uartTellsWrong)

/-- 'ploverlaw12.UartOrder': WHATEVER THE INPUT: true; the input reads as it did. -/
def uartOrderSpec : ChangeSpec := { name := "uartOrder", fn := fun _ => fun
  | [d] => { results := [.lit (.bool true)], args := [d] }
  | _ => none }
def uartOrderRow : OpenClaim := { program := "ytgpgijdciaieaaa", sum := "e0e928e8deeb7b3a89d0c4660febf068978d31bfecc04b7e5a036227fe4bb56a", func := "plover/ploverlaw12.UartOrder", spec := "uartOrder", unfollowed := true, recurses := true, apart := false }
def UartOrderSaid : Prop := uartOrderRow.holds Try.pinned (OpenSpec.ofChange uartOrderSpec)

/-- ITS FALSE NEIGHBOUR: 'it returns false'. Refute it at one input. -/
def uartOrderWrong : ChangeSpec := { name := "uartOrder", fn := fun _ => fun
  | [d] => { results := [.lit (.bool false)], args := [d] }
  | _ => none }
def UartOrderWrongFalsely : Prop := uartOrderRow.holds Try.pinned (OpenSpec.ofChange uartOrderWrong)

/-- 'ploverlaw12.UartKnown': WHATEVER THE INPUT: true; the input reads as it did. -/
def uartKnownSpec : ChangeSpec := { name := "uartKnown", fn := fun _ => fun
  | [] => { results := [.lit (.bool true)], args := [] }
  | _ => none }
def uartKnownRow : OpenClaim := { program := "ytgpgijdciaieaaa", sum := "e0e928e8deeb7b3a89d0c4660febf068978d31bfecc04b7e5a036227fe4bb56a", func := "plover/ploverlaw12.UartKnown", spec := "uartKnown", unfollowed := true, recurses := true, apart := false }
def UartKnownSaid : Prop := uartKnownRow.holds Try.pinned (OpenSpec.ofChange uartKnownSpec)

/-- ITS FALSE NEIGHBOUR: 'it returns false'. Refute it at one input. -/
def uartKnownWrong : ChangeSpec := { name := "uartKnown", fn := fun _ => fun
  | [] => { results := [.lit (.bool false)], args := [] }
  | _ => none }
def UartKnownWrongFalsely : Prop := uartKnownRow.holds Try.pinned (OpenSpec.ofChange uartKnownWrong)

/-- 'ploverlaw12.UartApart': WHATEVER THE INPUT: true; the input reads as it did. -/
def uartApartSpec : ChangeSpec := { name := "uartApart", fn := fun _ => fun
  | [d] => { results := [.lit (.bool true)], args := [d] }
  | _ => none }
def uartApartRow : OpenClaim := { program := "ytgpgijdciaieaaa", sum := "e0e928e8deeb7b3a89d0c4660febf068978d31bfecc04b7e5a036227fe4bb56a", func := "plover/ploverlaw12.UartApart", spec := "uartApart", unfollowed := true, recurses := true, apart := false }
def UartApartSaid : Prop := uartApartRow.holds Try.pinned (OpenSpec.ofChange uartApartSpec)

/-- ITS FALSE NEIGHBOUR: 'it returns false'. Refute it at one input. -/
def uartApartWrong : ChangeSpec := { name := "uartApart", fn := fun _ => fun
  | [d] => { results := [.lit (.bool false)], args := [d] }
  | _ => none }
def UartApartWrongFalsely : Prop := uartApartRow.holds Try.pinned (OpenSpec.ofChange uartApartWrong)

/- THE SECOND FORM. 'bulk': how many values and letters a reading holds, each counted each time it is reached (what is shared counts as often as it is met; a slice's spare places count too). A statement '..UptoSaid' is the law's where the arguments, and the package variables that the reading takes, are together of bulk at most 1048576: NARROWER than '..Said'. Prove '..Said' where nothing that the law and all that it calls make is longer than what came in: it says more and counts as full. Else prove '..UptoSaid'. A law counts once. -/
mutual
def uptoBulk {H : Type} : DataW H → Nat
  | .lit (.string bytes) => bytes.length + 1
  | .lit _ => 1
  | .nil => 1
  | .ptr d => uptoBulk d + 1
  | .slice elems spare => uptoBulkAll elems + uptoBulkAll spare + 1
  | .agg parts => uptoBulkAll parts + 1
  | .iface _ d => uptoBulk d + 1
  | .map entries => uptoBulkEntries entries + 1
  | .held _ => 1
def uptoBulkAll {H : Type} : List (DataW H) → Nat
  | [] => 0
  | d :: r => uptoBulk d + uptoBulkAll r
def uptoBulkEntries {H : Type} : List (Lit × DataW H) → Nat
  | [] => 0
  | x :: r => uptoBulkEntry x + uptoBulkEntries r
def uptoBulkEntry {H : Type} : Lit × DataW H → Nat
  | (.string bytes, d) => bytes.length + uptoBulk d + 1
  | (_, d) => uptoBulk d + 1
 end
def uptoSmall : (H : Type) → List (DataW H) → Bool := fun _ ds => decide (uptoBulkAll ds ≤ 1048576)
def OpenSpec.upto (s : _root_.Go.ChangeSpec) : _root_.Go.OpenSpec := { _root_.Go.OpenSpec.ofChange s with cond := some uptoSmall }

/-- 'ploverlaw12.UartTells', WHERE WHAT IT READS IS OF BULK AT MOST 1048576: true; the input reads as it did. -/
def uartTellsUptoRow : OpenClaim := { program := "ytgpgijdciaieaaa", sum := "e0e928e8deeb7b3a89d0c4660febf068978d31bfecc04b7e5a036227fe4bb56a", func := "plover/ploverlaw12.UartTells", spec := "uartTells", unfollowed := true, recurses := true, apart := false, narrowed := true }
def UartTellsUptoSaid : Prop := uartTellsUptoRow.holds Try.pinned (OpenSpec.upto uartTellsSpec)

/-- 'ploverlaw12.UartOrder', WHERE WHAT IT READS IS OF BULK AT MOST 1048576: true; the input reads as it did. -/
def uartOrderUptoRow : OpenClaim := { program := "ytgpgijdciaieaaa", sum := "e0e928e8deeb7b3a89d0c4660febf068978d31bfecc04b7e5a036227fe4bb56a", func := "plover/ploverlaw12.UartOrder", spec := "uartOrder", unfollowed := true, recurses := true, apart := false, narrowed := true }
def UartOrderUptoSaid : Prop := uartOrderUptoRow.holds Try.pinned (OpenSpec.upto uartOrderSpec)

/-- 'ploverlaw12.UartKnown', WHERE WHAT IT READS IS OF BULK AT MOST 1048576: true; the input reads as it did. -/
def uartKnownUptoRow : OpenClaim := { program := "ytgpgijdciaieaaa", sum := "e0e928e8deeb7b3a89d0c4660febf068978d31bfecc04b7e5a036227fe4bb56a", func := "plover/ploverlaw12.UartKnown", spec := "uartKnown", unfollowed := true, recurses := true, apart := false, narrowed := true }
def UartKnownUptoSaid : Prop := uartKnownUptoRow.holds Try.pinned (OpenSpec.upto uartKnownSpec)

/-- 'ploverlaw12.UartApart', WHERE WHAT IT READS IS OF BULK AT MOST 1048576: true; the input reads as it did. -/
def uartApartUptoRow : OpenClaim := { program := "ytgpgijdciaieaaa", sum := "e0e928e8deeb7b3a89d0c4660febf068978d31bfecc04b7e5a036227fe4bb56a", func := "plover/ploverlaw12.UartApart", spec := "uartApart", unfollowed := true, recurses := true, apart := false, narrowed := true }
def UartApartUptoSaid : Prop := uartApartUptoRow.holds Try.pinned (OpenSpec.upto uartApartSpec)

end Rows
end Go.Proofs.Ytgpgijdciaieaaa
