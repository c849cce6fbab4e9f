/-
  DERIVED. GIVEN WITH THE SEED: THE CARDS: each row of YthoolgbofmnghaaGreatDoorRows.lean that lists a variable, with what it lists TIED to the program's text (the seventh form; the later family's looks); each row that meets fmt, with fmt's text TOLD by the authors' own Lean function (tested against real Go, not proved from fmt's source: count such statements apart). THE CARD IS WHAT COUNTS. Prove the row's statement (the work); the ties are given (YthoolgbofmnghaaGreatDoorTie.lean); close each card by the builder's one call (the guide's Derived/Test/ToyasCard.lean, 'card_holds'). Laid BY PROGRAM, IN A SANDBOX (cutbox-door.mjs). By AI agents, Wed Nov 11 2026. No macro, syntax, notation, axiom, sorry.
-/
import Derived.Test.YthoolgbofmnghaaGreatDoorRows
import GoSem.ClaimSeven
namespace Go.Proofs.YthoolgbofmnghaaGreatDoor
namespace Rows

/-- THE TIED CARD OF 'gnomonlaw10.HexfloatBack'. -/
def hexfloatBackCard : Claim7 := { stood := { row := hexfloatBackRow, standIns := [], harness := (true, "2e1151b96481503a6530dd6aec40baf43ffffc4227866960f13d040175a51f81"), looks := true }, kinds := [], alts := [], laidByText := true, laidKinds := [.data, .data, .data, .data, .sentinel, .sentinel, .pinned], laidTests := true, laidLooks := .later }
def HexfloatBackCardSaid : Prop := Claim7.holds Tryz.pinned (.plain (OpenSpec.ofChange hexfloatBackSpec)) hexfloatBackCard

/-- THE TIED CARD OF 'gnomonlaw10.HexfloatPoint'. -/
def hexfloatPointCard : Claim7 := { stood := { row := hexfloatPointRow, standIns := [], harness := (true, "2e1151b96481503a6530dd6aec40baf43ffffc4227866960f13d040175a51f81"), looks := true }, kinds := [], alts := [], laidByText := true, laidKinds := [.data, .data, .data, .data, .sentinel, .sentinel, .pinned], laidTests := true, laidLooks := .later }
def HexfloatPointCardSaid : Prop := Claim7.holds Tryz.pinned (.plain (OpenSpec.ofChange hexfloatPointSpec)) hexfloatPointCard

/-- THE TIED CARD OF 'gnomonlaw10.HexfloatOrder'. -/
def hexfloatOrderCard : Claim7 := { stood := { row := hexfloatOrderRow, standIns := [], harness := (true, "2e1151b96481503a6530dd6aec40baf43ffffc4227866960f13d040175a51f81"), looks := true }, kinds := [], alts := [], laidByText := true, laidKinds := [.data, .data, .data, .data, .sentinel, .sentinel, .pinned], laidTests := true, laidLooks := .later }
def HexfloatOrderCardSaid : Prop := Claim7.holds Tryz.pinned (.plain (OpenSpec.ofChange hexfloatOrderSpec)) hexfloatOrderCard

/-- THE TIED CARD OF 'gnomonlaw10.HexfloatJoins'. -/
def hexfloatJoinsCard : Claim7 := { stood := { row := hexfloatJoinsRow, standIns := [], harness := (true, "2e1151b96481503a6530dd6aec40baf43ffffc4227866960f13d040175a51f81"), looks := true }, kinds := [], alts := [], laidByText := true, laidKinds := [.data, .data, .data, .data, .sentinel, .sentinel, .pinned], laidTests := true, laidLooks := .later }
def HexfloatJoinsCardSaid : Prop := Claim7.holds Tryz.pinned (.plain (OpenSpec.ofChange hexfloatJoinsSpec)) hexfloatJoinsCard

/-- THE TIED CARD OF 'gnomonlaw10.HexfloatPrints'. -/
def hexfloatPrintsCard : Claim7 := { stood := { row := hexfloatPrintsRow, standIns := [], harness := (true, "2e1151b96481503a6530dd6aec40baf43ffffc4227866960f13d040175a51f81"), looks := true }, kinds := [], alts := [], laidByText := true, laidKinds := [.data, .data, .data, .data, .sentinel, .sentinel, .pinned], laidTests := true, laidLooks := .later }
def HexfloatPrintsCardSaid : Prop := Claim7.holds Tryz.pinned (.plain (OpenSpec.ofChange hexfloatPrintsSpec)) hexfloatPrintsCard

/-- THE TIED CARD OF 'gnomonlaw10.HexfloatParses'. -/
def hexfloatParsesCard : Claim7 := { stood := { row := hexfloatParsesRow, standIns := [], harness := (true, "2e1151b96481503a6530dd6aec40baf43ffffc4227866960f13d040175a51f81"), looks := true }, kinds := [], alts := [], laidByText := true, laidKinds := [.data, .data, .data, .data, .sentinel, .sentinel, .pinned], laidTests := true, laidLooks := .later }
def HexfloatParsesCardSaid : Prop := Claim7.holds Tryz.pinned (.plain (OpenSpec.ofChange hexfloatParsesSpec)) hexfloatParsesCard

/-- THE SECOND FORM's CARD OF 'gnomonlaw10.HexfloatBack'. -/
def hexfloatBackUptoCard : Claim7 := { stood := { row := hexfloatBackUptoRow, standIns := [], harness := (true, "2e1151b96481503a6530dd6aec40baf43ffffc4227866960f13d040175a51f81"), looks := true }, kinds := [], alts := [], laidByText := true, laidKinds := [.data, .data, .data, .data, .sentinel, .sentinel, .pinned], laidTests := true, laidLooks := .later }
def HexfloatBackUptoCardSaid : Prop := Claim7.holds Tryz.pinned (.plain (OpenSpec.upto hexfloatBackSpec)) hexfloatBackUptoCard

/-- THE SECOND FORM's CARD OF 'gnomonlaw10.HexfloatPoint'. -/
def hexfloatPointUptoCard : Claim7 := { stood := { row := hexfloatPointUptoRow, standIns := [], harness := (true, "2e1151b96481503a6530dd6aec40baf43ffffc4227866960f13d040175a51f81"), looks := true }, kinds := [], alts := [], laidByText := true, laidKinds := [.data, .data, .data, .data, .sentinel, .sentinel, .pinned], laidTests := true, laidLooks := .later }
def HexfloatPointUptoCardSaid : Prop := Claim7.holds Tryz.pinned (.plain (OpenSpec.upto hexfloatPointSpec)) hexfloatPointUptoCard

/-- THE SECOND FORM's CARD OF 'gnomonlaw10.HexfloatOrder'. -/
def hexfloatOrderUptoCard : Claim7 := { stood := { row := hexfloatOrderUptoRow, standIns := [], harness := (true, "2e1151b96481503a6530dd6aec40baf43ffffc4227866960f13d040175a51f81"), looks := true }, kinds := [], alts := [], laidByText := true, laidKinds := [.data, .data, .data, .data, .sentinel, .sentinel, .pinned], laidTests := true, laidLooks := .later }
def HexfloatOrderUptoCardSaid : Prop := Claim7.holds Tryz.pinned (.plain (OpenSpec.upto hexfloatOrderSpec)) hexfloatOrderUptoCard

/-- THE SECOND FORM's CARD OF 'gnomonlaw10.HexfloatJoins'. -/
def hexfloatJoinsUptoCard : Claim7 := { stood := { row := hexfloatJoinsUptoRow, standIns := [], harness := (true, "2e1151b96481503a6530dd6aec40baf43ffffc4227866960f13d040175a51f81"), looks := true }, kinds := [], alts := [], laidByText := true, laidKinds := [.data, .data, .data, .data, .sentinel, .sentinel, .pinned], laidTests := true, laidLooks := .later }
def HexfloatJoinsUptoCardSaid : Prop := Claim7.holds Tryz.pinned (.plain (OpenSpec.upto hexfloatJoinsSpec)) hexfloatJoinsUptoCard

/-- THE SECOND FORM's CARD OF 'gnomonlaw10.HexfloatPrints'. -/
def hexfloatPrintsUptoCard : Claim7 := { stood := { row := hexfloatPrintsUptoRow, standIns := [], harness := (true, "2e1151b96481503a6530dd6aec40baf43ffffc4227866960f13d040175a51f81"), looks := true }, kinds := [], alts := [], laidByText := true, laidKinds := [.data, .data, .data, .data, .sentinel, .sentinel, .pinned], laidTests := true, laidLooks := .later }
def HexfloatPrintsUptoCardSaid : Prop := Claim7.holds Tryz.pinned (.plain (OpenSpec.upto hexfloatPrintsSpec)) hexfloatPrintsUptoCard

/-- THE SECOND FORM's CARD OF 'gnomonlaw10.HexfloatParses'. -/
def hexfloatParsesUptoCard : Claim7 := { stood := { row := hexfloatParsesUptoRow, standIns := [], harness := (true, "2e1151b96481503a6530dd6aec40baf43ffffc4227866960f13d040175a51f81"), looks := true }, kinds := [], alts := [], laidByText := true, laidKinds := [.data, .data, .data, .data, .sentinel, .sentinel, .pinned], laidTests := true, laidLooks := .later }
def HexfloatParsesUptoCardSaid : Prop := Claim7.holds Tryz.pinned (.plain (OpenSpec.upto hexfloatParsesSpec)) hexfloatParsesUptoCard
end Rows
end Go.Proofs.YthoolgbofmnghaaGreatDoor
