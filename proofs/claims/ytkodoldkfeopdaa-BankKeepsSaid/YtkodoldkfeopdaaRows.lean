/-
  No cell of these rows narrows 'for every input' (looked for: loops, veiled, ifaces, maps, wideKeys, modest, calm, conditions, laid).
  DERIVED. THE GIVEN ROWS OF THIS SEAT. 4 by the template 'for every input the law returns true; each argument reads behind the call as it read before'; 0 by the template 'total and deterministic' (their statements: YtkodoldkfeopdaaTotals.lean).
  GIVEN WITH THE SEED: the statements are not yours to turn. If you find one false, say at which input.
  Laid BY PROGRAM, IN A SANDBOX (cutbox-rows.mjs): the forced cells as the released guide's own fill.sh prints them over the translation 8f5a1e627b41e25f… (all of the seat's roots in one cut). By AI agents, Wed Nov 11 2026. No macro, syntax, notation, axiom, sorry.
-/
import Derived.Test.YtkodoldkfeopdaaChecked
import GoSem.Claim
import GoSem.ClaimJoined
import GoSem.ClaimMapViews
import Derived.JoinedTies
import Derived.KernelRfl
namespace Go.Proofs.Ytkodoldkfeopdaa
/- THE CELL 'sum', in the pinned program and in every row, IS THE sha256 OF THE DUMP (.gsa) THAT YtkodoldkfeopdaaProg.lean LOADS. Nothing in Lean hashes anything: it is a label: what it is worth is what the hold of that sum in a sandbox is worth. -/
noncomputable def Try.pinned : Pinned := { name := "ytkodoldkfeopdaa", sum := "8f5a1e627b41e25f81d1d4bf30bd75f9e0d20c14547c6ead742df999914f67c5", checked := Try.checked }
namespace Rows
def none {H : Type} : Left H := { results := [], args := [] }

/-- 'ploverlaw15.BankKeeps': WHATEVER THE INPUT: true; the input reads as it did. -/
def bankKeepsSpec : ChangeSpec := { name := "bankKeeps", fn := fun _ => fun
  | [d1, d2] => { results := [.lit (.bool true)], args := [d1, d2] }
  | _ => none }
def bankKeepsRow : OpenClaim := { program := "ytkodoldkfeopdaa", sum := "8f5a1e627b41e25f81d1d4bf30bd75f9e0d20c14547c6ead742df999914f67c5", func := "plover/ploverlaw15.BankKeeps", spec := "bankKeeps", unfollowed := true, recurses := true, apart := false }
def BankKeepsSaid : Prop := bankKeepsRow.holds Try.pinned (OpenSpec.ofChange bankKeepsSpec)

/-- ITS FALSE NEIGHBOUR: 'it returns false'. Refute it at one input. -/
def bankKeepsWrong : ChangeSpec := { name := "bankKeeps", fn := fun _ => fun
  | [d1, d2] => { results := [.lit (.bool false)], args := [d1, d2] }
  | _ => none }
def BankKeepsWrongFalsely : Prop := bankKeepsRow.holds Try.pinned (OpenSpec.ofChange bankKeepsWrong)

/-- 'ploverlaw15.BankApart': WHATEVER THE INPUT: true; the input reads as it did. -/
def bankApartSpec : ChangeSpec := { name := "bankApart", fn := fun _ => fun
  | [d1, d2, d3] => { results := [.lit (.bool true)], args := [d1, d2, d3] }
  | _ => none }
def bankApartRow : OpenClaim := { program := "ytkodoldkfeopdaa", sum := "8f5a1e627b41e25f81d1d4bf30bd75f9e0d20c14547c6ead742df999914f67c5", func := "plover/ploverlaw15.BankApart", spec := "bankApart", unfollowed := true, recurses := true, apart := false }
def BankApartSaid : Prop := bankApartRow.holds Try.pinned (OpenSpec.ofChange bankApartSpec)

/-- ITS FALSE NEIGHBOUR: 'it returns false'. Refute it at one input. -/
def bankApartWrong : ChangeSpec := { name := "bankApart", fn := fun _ => fun
  | [d1, d2, d3] => { results := [.lit (.bool false)], args := [d1, d2, d3] }
  | _ => none }
def BankApartWrongFalsely : Prop := bankApartRow.holds Try.pinned (OpenSpec.ofChange bankApartWrong)

/-- 'ploverlaw15.BankKnown': WHATEVER THE INPUT: true; the input reads as it did. -/
def bankKnownSpec : ChangeSpec := { name := "bankKnown", fn := fun _ => fun
  | [] => { results := [.lit (.bool true)], args := [] }
  | _ => none }
def bankKnownRow : OpenClaim := { program := "ytkodoldkfeopdaa", sum := "8f5a1e627b41e25f81d1d4bf30bd75f9e0d20c14547c6ead742df999914f67c5", func := "plover/ploverlaw15.BankKnown", spec := "bankKnown", unfollowed := true, recurses := true, apart := false }
def BankKnownSaid : Prop := bankKnownRow.holds Try.pinned (OpenSpec.ofChange bankKnownSpec)

/-- ITS FALSE NEIGHBOUR: 'it returns false'. Refute it at one input. -/
def bankKnownWrong : ChangeSpec := { name := "bankKnown", fn := fun _ => fun
  | [] => { results := [.lit (.bool false)], args := [] }
  | _ => none }
def BankKnownWrongFalsely : Prop := bankKnownRow.holds Try.pinned (OpenSpec.ofChange bankKnownWrong)

/-- 'ploverlaw15.BankTicks': WHATEVER THE INPUT: true; the input reads as it did. -/
def bankTicksSpec : ChangeSpec := { name := "bankTicks", fn := fun _ => fun
  | [d1, d2] => { results := [.lit (.bool true)], args := [d1, d2] }
  | _ => none }
def bankTicksRow : OpenClaim := { program := "ytkodoldkfeopdaa", sum := "8f5a1e627b41e25f81d1d4bf30bd75f9e0d20c14547c6ead742df999914f67c5", func := "plover/ploverlaw15.BankTicks", spec := "bankTicks", unfollowed := true, recurses := true, apart := false }
def BankTicksSaid : Prop := bankTicksRow.holds Try.pinned (OpenSpec.ofChange bankTicksSpec)

/-- ITS FALSE NEIGHBOUR: 'it returns false'. Refute it at one input. -/
def bankTicksWrong : ChangeSpec := { name := "bankTicks", fn := fun _ => fun
  | [d1, d2] => { results := [.lit (.bool false)], args := [d1, d2] }
  | _ => none }
def BankTicksWrongFalsely : Prop := bankTicksRow.holds Try.pinned (OpenSpec.ofChange bankTicksWrong)

/- THE SECOND FORM. 'bulk': how many values and letters a reading holds, each counted each time it is reached (what is shared counts as often as it is met; a slice's spare places count too). A statement '..UptoSaid' is the law's where the arguments, and the package variables that the reading takes, are together of bulk at most 1048576: NARROWER than '..Said'. Prove '..Said' where nothing that the law and all that it calls make is longer than what came in: it says more and counts as full. Else prove '..UptoSaid'. A law counts once. -/
mutual
def uptoBulk {H : Type} : DataW H → Nat
  | .lit (.string bytes) => bytes.length + 1
  | .lit _ => 1
  | .nil => 1
  | .ptr d => uptoBulk d + 1
  | .slice elems spare => uptoBulkAll elems + uptoBulkAll spare + 1
  | .agg parts => uptoBulkAll parts + 1
  | .iface _ d => uptoBulk d + 1
  | .map entries => uptoBulkEntries entries + 1
  | .held _ => 1
def uptoBulkAll {H : Type} : List (DataW H) → Nat
  | [] => 0
  | d :: r => uptoBulk d + uptoBulkAll r
def uptoBulkEntries {H : Type} : List (Lit × DataW H) → Nat
  | [] => 0
  | x :: r => uptoBulkEntry x + uptoBulkEntries r
def uptoBulkEntry {H : Type} : Lit × DataW H → Nat
  | (.string bytes, d) => bytes.length + uptoBulk d + 1
  | (_, d) => uptoBulk d + 1
 end
def uptoSmall : (H : Type) → List (DataW H) → Bool := fun _ ds => decide (uptoBulkAll ds ≤ 1048576)
def OpenSpec.upto (s : _root_.Go.ChangeSpec) : _root_.Go.OpenSpec := { _root_.Go.OpenSpec.ofChange s with cond := some uptoSmall }

/-- 'ploverlaw15.BankKeeps', WHERE WHAT IT READS IS OF BULK AT MOST 1048576: true; the input reads as it did. -/
def bankKeepsUptoRow : OpenClaim := { program := "ytkodoldkfeopdaa", sum := "8f5a1e627b41e25f81d1d4bf30bd75f9e0d20c14547c6ead742df999914f67c5", func := "plover/ploverlaw15.BankKeeps", spec := "bankKeeps", unfollowed := true, recurses := true, apart := false, narrowed := true }
def BankKeepsUptoSaid : Prop := bankKeepsUptoRow.holds Try.pinned (OpenSpec.upto bankKeepsSpec)

/-- 'ploverlaw15.BankApart', WHERE WHAT IT READS IS OF BULK AT MOST 1048576: true; the input reads as it did. -/
def bankApartUptoRow : OpenClaim := { program := "ytkodoldkfeopdaa", sum := "8f5a1e627b41e25f81d1d4bf30bd75f9e0d20c14547c6ead742df999914f67c5", func := "plover/ploverlaw15.BankApart", spec := "bankApart", unfollowed := true, recurses := true, apart := false, narrowed := true }
def BankApartUptoSaid : Prop := bankApartUptoRow.holds Try.pinned (OpenSpec.upto bankApartSpec)

/-- 'ploverlaw15.BankKnown', WHERE WHAT IT READS IS OF BULK AT MOST 1048576: true; the input reads as it did. -/
def bankKnownUptoRow : OpenClaim := { program := "ytkodoldkfeopdaa", sum := "8f5a1e627b41e25f81d1d4bf30bd75f9e0d20c14547c6ead742df999914f67c5", func := "plover/ploverlaw15.BankKnown", spec := "bankKnown", unfollowed := true, recurses := true, apart := false, narrowed := true }
def BankKnownUptoSaid : Prop := bankKnownUptoRow.holds Try.pinned (OpenSpec.upto bankKnownSpec)

/-- 'ploverlaw15.BankTicks', WHERE WHAT IT READS IS OF BULK AT MOST 1048576: true; the input reads as it did. -/
def bankTicksUptoRow : OpenClaim := { program := "ytkodoldkfeopdaa", sum := "8f5a1e627b41e25f81d1d4bf30bd75f9e0d20c14547c6ead742df999914f67c5", func := "plover/ploverlaw15.BankTicks", spec := "bankTicks", unfollowed := true, recurses := true, apart := false, narrowed := true }
def BankTicksUptoSaid : Prop := bankTicksUptoRow.holds Try.pinned (OpenSpec.upto bankTicksSpec)

end Rows
end Go.Proofs.Ytkodoldkfeopdaa
