/-
  DERIVED. GIVEN WITH THE SEED: THE CARDS: each row of YtchhbhgbpimegaaDoorRows.lean that lists a variable, with what it lists TIED to the program's text (the seventh form; the later family's looks); each row that meets fmt, with fmt's text TOLD by the authors' own Lean function (tested against real Go, not proved from fmt's source: count such statements apart). THE CARD IS WHAT COUNTS. Prove the row's statement (the work); the ties are given (YtchhbhgbpimegaaDoorTie.lean); close each card by the builder's one call (the guide's Derived/Test/ToyasCard.lean, 'card_holds'). Laid BY PROGRAM, IN A SANDBOX (cutbox-door.mjs). By AI agents, Wed Nov 11 2026. No macro, syntax, notation, axiom, sorry.
-/
import Derived.Test.YtchhbhgbpimegaaDoorRows
import GoSem.ClaimSeven
namespace Go.Proofs.YtchhbhgbpimegaaDoor
namespace Rows

/-- THE TIED CARD OF 'ploverlaw08.CallsGraph'. -/
def callsGraphCard : Claim7 := { stood := { row := callsGraphRow, standIns := [], harness := (true, "3cc645402e5d7aa2d2ee68d42dd4c3370fbfdc7937433b5c71a5f2f367010b21"), looks := true }, kinds := [], alts := [], laidByText := true, laidKinds := [.data, .handle], laidTests := true, laidLooks := .later }
def CallsGraphCardSaid : Prop := Claim7.holds Tryd.pinned (.plain (OpenSpec.ofChange callsGraphSpec)) callsGraphCard

/-- THE TIED CARD OF 'ploverlaw08.CallsBound'. -/
def callsBoundCard : Claim7 := { stood := { row := callsBoundRow, standIns := [], harness := (true, "3cc645402e5d7aa2d2ee68d42dd4c3370fbfdc7937433b5c71a5f2f367010b21"), looks := true }, kinds := [], alts := [], laidByText := true, laidKinds := [.data], laidTests := true, laidLooks := .later }
def CallsBoundCardSaid : Prop := Claim7.holds Tryd.pinned (.plain (OpenSpec.ofChange callsBoundSpec)) callsBoundCard

/-- THE TIED CARD OF 'ploverlaw08.CallsRing'. -/
def callsRingCard : Claim7 := { stood := { row := callsRingRow, standIns := [], harness := (true, "3cc645402e5d7aa2d2ee68d42dd4c3370fbfdc7937433b5c71a5f2f367010b21"), looks := true }, kinds := [], alts := [], laidByText := true, laidKinds := [.data, .handle], laidTests := true, laidLooks := .later }
def CallsRingCardSaid : Prop := Claim7.holds Tryd.pinned (.plain (OpenSpec.ofChange callsRingSpec)) callsRingCard

/-- THE TIED CARD OF 'ploverlaw08.CallsKnown'. -/
def callsKnownCard : Claim7 := { stood := { row := callsKnownRow, standIns := [], harness := (true, "3cc645402e5d7aa2d2ee68d42dd4c3370fbfdc7937433b5c71a5f2f367010b21"), looks := true }, kinds := [], alts := [], laidByText := true, laidKinds := [.data, .handle], laidTests := true, laidLooks := .later }
def CallsKnownCardSaid : Prop := Claim7.holds Tryd.pinned (.plain (OpenSpec.ofChange callsKnownSpec)) callsKnownCard

/-- THE SECOND FORM's CARD OF 'ploverlaw08.CallsGraph'. -/
def callsGraphUptoCard : Claim7 := { stood := { row := callsGraphUptoRow, standIns := [], harness := (true, "3cc645402e5d7aa2d2ee68d42dd4c3370fbfdc7937433b5c71a5f2f367010b21"), looks := true }, kinds := [], alts := [], laidByText := true, laidKinds := [.data, .handle], laidTests := true, laidLooks := .later }
def CallsGraphUptoCardSaid : Prop := Claim7.holds Tryd.pinned (.plain (OpenSpec.upto callsGraphSpec)) callsGraphUptoCard

/-- THE SECOND FORM's CARD OF 'ploverlaw08.CallsBound'. -/
def callsBoundUptoCard : Claim7 := { stood := { row := callsBoundUptoRow, standIns := [], harness := (true, "3cc645402e5d7aa2d2ee68d42dd4c3370fbfdc7937433b5c71a5f2f367010b21"), looks := true }, kinds := [], alts := [], laidByText := true, laidKinds := [.data], laidTests := true, laidLooks := .later }
def CallsBoundUptoCardSaid : Prop := Claim7.holds Tryd.pinned (.plain (OpenSpec.upto callsBoundSpec)) callsBoundUptoCard

/-- THE SECOND FORM's CARD OF 'ploverlaw08.CallsRing'. -/
def callsRingUptoCard : Claim7 := { stood := { row := callsRingUptoRow, standIns := [], harness := (true, "3cc645402e5d7aa2d2ee68d42dd4c3370fbfdc7937433b5c71a5f2f367010b21"), looks := true }, kinds := [], alts := [], laidByText := true, laidKinds := [.data, .handle], laidTests := true, laidLooks := .later }
def CallsRingUptoCardSaid : Prop := Claim7.holds Tryd.pinned (.plain (OpenSpec.upto callsRingSpec)) callsRingUptoCard

/-- THE SECOND FORM's CARD OF 'ploverlaw08.CallsKnown'. -/
def callsKnownUptoCard : Claim7 := { stood := { row := callsKnownUptoRow, standIns := [], harness := (true, "3cc645402e5d7aa2d2ee68d42dd4c3370fbfdc7937433b5c71a5f2f367010b21"), looks := true }, kinds := [], alts := [], laidByText := true, laidKinds := [.data, .handle], laidTests := true, laidLooks := .later }
def CallsKnownUptoCardSaid : Prop := Claim7.holds Tryd.pinned (.plain (OpenSpec.upto callsKnownSpec)) callsKnownUptoCard
end Rows
end Go.Proofs.YtchhbhgbpimegaaDoor
