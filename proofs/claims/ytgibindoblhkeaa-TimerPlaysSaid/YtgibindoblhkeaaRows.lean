/-
  No cell of these rows narrows 'for every input' (looked for: loops, veiled, ifaces, maps, wideKeys, modest, calm, conditions, laid).
  DERIVED. THE GIVEN ROWS OF THIS SEAT. 4 by the template 'for every input the law returns true; each argument reads behind the call as it read before'; 0 by the template 'total and deterministic' (their statements: YtgibindoblhkeaaTotals.lean).
  GIVEN WITH THE SEED: the statements are not yours to turn. If you find one false, say at which input.
  Laid BY PROGRAM, IN A SANDBOX (cutbox-rows.mjs): the forced cells as the released guide's own fill.sh prints them over the translation 3c90f5d066f1b7cc… (all of the seat's roots in one cut). By AI agents, Wed Nov 11 2026. No macro, syntax, notation, axiom, sorry.
-/
import Derived.Test.YtgibindoblhkeaaChecked
import GoSem.Claim
import GoSem.ClaimJoined
import GoSem.ClaimMapViews
import Derived.JoinedTies
import Derived.KernelRfl
namespace Go.Proofs.Ytgibindoblhkeaa
/- THE CELL 'sum', in the pinned program and in every row, IS THE sha256 OF THE DUMP (.gsa) THAT YtgibindoblhkeaaProg.lean LOADS. Nothing in Lean hashes anything: it is a label: what it is worth is what the hold of that sum in a sandbox is worth. -/
noncomputable def Try.pinned : Pinned := { name := "ytgibindoblhkeaa", sum := "3c90f5d066f1b7cc7bfa976124b63b9f89ada8263292d986c214209fa98e99c6", checked := Try.checked }
namespace Rows
def none {H : Type} : Left H := { results := [], args := [] }

/-- 'ploverlaw13.TimerPlays': WHATEVER THE INPUT: true; the input reads as it did. -/
def timerPlaysSpec : ChangeSpec := { name := "timerPlays", fn := fun _ => fun
  | [d1, d2, d3] => { results := [.lit (.bool true)], args := [d1, d2, d3] }
  | _ => none }
def timerPlaysRow : OpenClaim := { program := "ytgibindoblhkeaa", sum := "3c90f5d066f1b7cc7bfa976124b63b9f89ada8263292d986c214209fa98e99c6", func := "plover/ploverlaw13.TimerPlays", spec := "timerPlays", unfollowed := true, recurses := true, apart := false }
def TimerPlaysSaid : Prop := timerPlaysRow.holds Try.pinned (OpenSpec.ofChange timerPlaysSpec)

/-- ITS FALSE NEIGHBOUR: 'it returns false'. Refute it at one input. -/
def timerPlaysWrong : ChangeSpec := { name := "timerPlays", fn := fun _ => fun
  | [d1, d2, d3] => { results := [.lit (.bool false)], args := [d1, d2, d3] }
  | _ => none }
def TimerPlaysWrongFalsely : Prop := timerPlaysRow.holds Try.pinned (OpenSpec.ofChange timerPlaysWrong)

/-- 'ploverlaw13.TimerPeriod': WHATEVER THE INPUT: true; the input reads as it did. -/
def timerPeriodSpec : ChangeSpec := { name := "timerPeriod", fn := fun _ => fun
  | [d1, d2, d3] => { results := [.lit (.bool true)], args := [d1, d2, d3] }
  | _ => none }
def timerPeriodRow : OpenClaim := { program := "ytgibindoblhkeaa", sum := "3c90f5d066f1b7cc7bfa976124b63b9f89ada8263292d986c214209fa98e99c6", func := "plover/ploverlaw13.TimerPeriod", spec := "timerPeriod", unfollowed := true, recurses := true, apart := false }
def TimerPeriodSaid : Prop := timerPeriodRow.holds Try.pinned (OpenSpec.ofChange timerPeriodSpec)

/-- ITS FALSE NEIGHBOUR: 'it returns false'. Refute it at one input. -/
def timerPeriodWrong : ChangeSpec := { name := "timerPeriod", fn := fun _ => fun
  | [d1, d2, d3] => { results := [.lit (.bool false)], args := [d1, d2, d3] }
  | _ => none }
def TimerPeriodWrongFalsely : Prop := timerPeriodRow.holds Try.pinned (OpenSpec.ofChange timerPeriodWrong)

/-- 'ploverlaw13.TimerKnown': WHATEVER THE INPUT: true; the input reads as it did. -/
def timerKnownSpec : ChangeSpec := { name := "timerKnown", fn := fun _ => fun
  | [] => { results := [.lit (.bool true)], args := [] }
  | _ => none }
def timerKnownRow : OpenClaim := { program := "ytgibindoblhkeaa", sum := "3c90f5d066f1b7cc7bfa976124b63b9f89ada8263292d986c214209fa98e99c6", func := "plover/ploverlaw13.TimerKnown", spec := "timerKnown", unfollowed := true, recurses := true, apart := false }
def TimerKnownSaid : Prop := timerKnownRow.holds Try.pinned (OpenSpec.ofChange timerKnownSpec)

/-- ITS FALSE NEIGHBOUR: 'it returns false'. Refute it at one input. -/
def timerKnownWrong : ChangeSpec := { name := "timerKnown", fn := fun _ => fun
  | [] => { results := [.lit (.bool false)], args := [] }
  | _ => none }
def TimerKnownWrongFalsely : Prop := timerKnownRow.holds Try.pinned (OpenSpec.ofChange timerKnownWrong)

/-- 'ploverlaw13.TimerRests': WHATEVER THE INPUT: true; the input reads as it did. -/
def timerRestsSpec : ChangeSpec := { name := "timerRests", fn := fun _ => fun
  | [d1, d2, d3] => { results := [.lit (.bool true)], args := [d1, d2, d3] }
  | _ => none }
def timerRestsRow : OpenClaim := { program := "ytgibindoblhkeaa", sum := "3c90f5d066f1b7cc7bfa976124b63b9f89ada8263292d986c214209fa98e99c6", func := "plover/ploverlaw13.TimerRests", spec := "timerRests", unfollowed := true, recurses := true, apart := false }
def TimerRestsSaid : Prop := timerRestsRow.holds Try.pinned (OpenSpec.ofChange timerRestsSpec)

/-- ITS FALSE NEIGHBOUR: 'it returns false'. Refute it at one input. -/
def timerRestsWrong : ChangeSpec := { name := "timerRests", fn := fun _ => fun
  | [d1, d2, d3] => { results := [.lit (.bool false)], args := [d1, d2, d3] }
  | _ => none }
def TimerRestsWrongFalsely : Prop := timerRestsRow.holds Try.pinned (OpenSpec.ofChange timerRestsWrong)

/- THE SECOND FORM. 'bulk': how many values and letters a reading holds, each counted each time it is reached (what is shared counts as often as it is met; a slice's spare places count too). A statement '..UptoSaid' is the law's where the arguments, and the package variables that the reading takes, are together of bulk at most 1048576: NARROWER than '..Said'. Prove '..Said' where nothing that the law and all that it calls make is longer than what came in: it says more and counts as full. Else prove '..UptoSaid'. A law counts once. -/
mutual
def uptoBulk {H : Type} : DataW H → Nat
  | .lit (.string bytes) => bytes.length + 1
  | .lit _ => 1
  | .nil => 1
  | .ptr d => uptoBulk d + 1
  | .slice elems spare => uptoBulkAll elems + uptoBulkAll spare + 1
  | .agg parts => uptoBulkAll parts + 1
  | .iface _ d => uptoBulk d + 1
  | .map entries => uptoBulkEntries entries + 1
  | .held _ => 1
def uptoBulkAll {H : Type} : List (DataW H) → Nat
  | [] => 0
  | d :: r => uptoBulk d + uptoBulkAll r
def uptoBulkEntries {H : Type} : List (Lit × DataW H) → Nat
  | [] => 0
  | x :: r => uptoBulkEntry x + uptoBulkEntries r
def uptoBulkEntry {H : Type} : Lit × DataW H → Nat
  | (.string bytes, d) => bytes.length + uptoBulk d + 1
  | (_, d) => uptoBulk d + 1
 end
def uptoSmall : (H : Type) → List (DataW H) → Bool := fun _ ds => decide (uptoBulkAll ds ≤ 1048576)
def OpenSpec.upto (s : _root_.Go.ChangeSpec) : _root_.Go.OpenSpec := { _root_.Go.OpenSpec.ofChange s with cond := some uptoSmall }

/-- 'ploverlaw13.TimerPlays', WHERE WHAT IT READS IS OF BULK AT MOST 1048576: true; the input reads as it did. -/
def timerPlaysUptoRow : OpenClaim := { program := "ytgibindoblhkeaa", sum := "3c90f5d066f1b7cc7bfa976124b63b9f89ada8263292d986c214209fa98e99c6", func := "plover/ploverlaw13.TimerPlays", spec := "timerPlays", unfollowed := true, recurses := true, apart := false, narrowed := true }
def TimerPlaysUptoSaid : Prop := timerPlaysUptoRow.holds Try.pinned (OpenSpec.upto timerPlaysSpec)

/-- 'ploverlaw13.TimerPeriod', WHERE WHAT IT READS IS OF BULK AT MOST 1048576: true; the input reads as it did. -/
def timerPeriodUptoRow : OpenClaim := { program := "ytgibindoblhkeaa", sum := "3c90f5d066f1b7cc7bfa976124b63b9f89ada8263292d986c214209fa98e99c6", func := "plover/ploverlaw13.TimerPeriod", spec := "timerPeriod", unfollowed := true, recurses := true, apart := false, narrowed := true }
def TimerPeriodUptoSaid : Prop := timerPeriodUptoRow.holds Try.pinned (OpenSpec.upto timerPeriodSpec)

/-- 'ploverlaw13.TimerKnown', WHERE WHAT IT READS IS OF BULK AT MOST 1048576: true; the input reads as it did. -/
def timerKnownUptoRow : OpenClaim := { program := "ytgibindoblhkeaa", sum := "3c90f5d066f1b7cc7bfa976124b63b9f89ada8263292d986c214209fa98e99c6", func := "plover/ploverlaw13.TimerKnown", spec := "timerKnown", unfollowed := true, recurses := true, apart := false, narrowed := true }
def TimerKnownUptoSaid : Prop := timerKnownUptoRow.holds Try.pinned (OpenSpec.upto timerKnownSpec)

/-- 'ploverlaw13.TimerRests', WHERE WHAT IT READS IS OF BULK AT MOST 1048576: true; the input reads as it did. -/
def timerRestsUptoRow : OpenClaim := { program := "ytgibindoblhkeaa", sum := "3c90f5d066f1b7cc7bfa976124b63b9f89ada8263292d986c214209fa98e99c6", func := "plover/ploverlaw13.TimerRests", spec := "timerRests", unfollowed := true, recurses := true, apart := false, narrowed := true }
def TimerRestsUptoSaid : Prop := timerRestsUptoRow.holds Try.pinned (OpenSpec.upto timerRestsSpec)

end Rows
end Go.Proofs.Ytgibindoblhkeaa
