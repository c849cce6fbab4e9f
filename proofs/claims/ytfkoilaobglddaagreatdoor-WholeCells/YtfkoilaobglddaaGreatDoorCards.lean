/-
  DERIVED. GIVEN WITH THE SEED: THE CARDS: each row of YtfkoilaobglddaaGreatDoorRows.lean that lists a variable, with what it lists TIED to the program's text (the seventh form; the later family's looks); each row that meets fmt, with fmt's text TOLD by the authors' own Lean function (tested against real Go, not proved from fmt's source: count such statements apart). THE CARD IS WHAT COUNTS. Prove the row's statement (the work); the ties are given (YtfkoilaobglddaaGreatDoorTie.lean); close each card by the builder's one call (the guide's Derived/Test/ToyasCard.lean, 'card_holds'). Laid BY PROGRAM, IN A SANDBOX (cutbox-door.mjs). By AI agents, Wed Nov 11 2026. No macro, syntax, notation, axiom, sorry.
-/
import Derived.Test.YtfkoilaobglddaaGreatDoorRows
import GoSem.ClaimSeven
namespace Go.Proofs.YtfkoilaobglddaaGreatDoor
namespace Rows

/-- THE TIED CARD OF 'gnomonlaw08.RoundQuoted'. -/
def roundQuotedCard : Claim7 := { stood := { row := roundQuotedRow, standIns := [], harness := (true, "9a54f79acd0b50f88a9d4dfccc9557217fe5e1b9f8cda7af7fc3e934d36dca65"), looks := false }, kinds := [], alts := [], laidByText := true, laidKinds := [.data], laidTests := true, laidLooks := .later }
def RoundQuotedCardSaid : Prop := Claim7.holds Tryz.pinned (.plain (OpenSpec.ofChange roundQuotedSpec)) roundQuotedCard

/-- THE TIED CARD OF 'gnomonlaw08.RoundRooted'. -/
def roundRootedCard : Claim7 := { stood := { row := roundRootedRow, standIns := [], harness := (true, "9a54f79acd0b50f88a9d4dfccc9557217fe5e1b9f8cda7af7fc3e934d36dca65"), looks := false }, kinds := [], alts := [], laidByText := true, laidKinds := [.data], laidTests := true, laidLooks := .later }
def RoundRootedCardSaid : Prop := Claim7.holds Tryz.pinned (.plain (OpenSpec.ofChange roundRootedSpec)) roundRootedCard

/-- THE TIED CARD OF 'gnomontop.WholeCells'. -/
def wholeCellsCard : Claim7 := { stood := { row := wholeCellsRow, standIns := [], harness := (true, "9a54f79acd0b50f88a9d4dfccc9557217fe5e1b9f8cda7af7fc3e934d36dca65"), looks := false }, kinds := [], alts := [], laidByText := true, laidKinds := [.data], laidTests := true, laidLooks := .later }
def WholeCellsCardSaid : Prop := Claim7.holds Tryz.pinned (.plain (OpenSpec.ofChange wholeCellsSpec)) wholeCellsCard

/-- THE SECOND FORM's CARD OF 'gnomonlaw08.RoundQuoted'. -/
def roundQuotedUptoCard : Claim7 := { stood := { row := roundQuotedUptoRow, standIns := [], harness := (true, "9a54f79acd0b50f88a9d4dfccc9557217fe5e1b9f8cda7af7fc3e934d36dca65"), looks := false }, kinds := [], alts := [], laidByText := true, laidKinds := [.data], laidTests := true, laidLooks := .later }
def RoundQuotedUptoCardSaid : Prop := Claim7.holds Tryz.pinned (.plain (OpenSpec.upto roundQuotedSpec)) roundQuotedUptoCard

/-- THE SECOND FORM's CARD OF 'gnomonlaw08.RoundRooted'. -/
def roundRootedUptoCard : Claim7 := { stood := { row := roundRootedUptoRow, standIns := [], harness := (true, "9a54f79acd0b50f88a9d4dfccc9557217fe5e1b9f8cda7af7fc3e934d36dca65"), looks := false }, kinds := [], alts := [], laidByText := true, laidKinds := [.data], laidTests := true, laidLooks := .later }
def RoundRootedUptoCardSaid : Prop := Claim7.holds Tryz.pinned (.plain (OpenSpec.upto roundRootedSpec)) roundRootedUptoCard

/-- THE SECOND FORM's CARD OF 'gnomontop.WholeCells'. -/
def wholeCellsUptoCard : Claim7 := { stood := { row := wholeCellsUptoRow, standIns := [], harness := (true, "9a54f79acd0b50f88a9d4dfccc9557217fe5e1b9f8cda7af7fc3e934d36dca65"), looks := false }, kinds := [], alts := [], laidByText := true, laidKinds := [.data], laidTests := true, laidLooks := .later }
def WholeCellsUptoCardSaid : Prop := Claim7.holds Tryz.pinned (.plain (OpenSpec.upto wholeCellsSpec)) wholeCellsUptoCard
end Rows
end Go.Proofs.YtfkoilaobglddaaGreatDoor
