/-
  DERIVED. GIVEN WITH THE SEED: THE CARDS: each row of YtmhkabomabkkfaaGreatDoorRows.lean that lists a variable, with what it lists TIED to the program's text (the seventh form; the later family's looks); each row that meets fmt, with fmt's text TOLD by the authors' own Lean function (tested against real Go, not proved from fmt's source: count such statements apart). THE CARD IS WHAT COUNTS. Prove the row's statement (the work); the ties are given (YtmhkabomabkkfaaGreatDoorTie.lean); close each card by the builder's one call (the guide's Derived/Test/ToyasCard.lean, 'card_holds'). Laid BY PROGRAM, IN A SANDBOX (cutbox-door.mjs). By AI agents, Wed Nov 11 2026. No macro, syntax, notation, axiom, sorry.
-/
import Derived.Test.YtmhkabomabkkfaaGreatDoorRows
import GoSem.ClaimSeven
namespace Go.Proofs.YtmhkabomabkkfaaGreatDoor
namespace Rows

/-- THE TIED CARD OF 'gnomonlaw09.SoftMachine'. -/
def softMachineCard : Claim7 := { stood := { row := softMachineRow, standIns := [], harness := (true, "6e971a8adad2370a9d23d59eccb1cefee074bb4f8aa272e7d55ff9e4edfdb4b4"), looks := true }, kinds := [], alts := [], laidByText := true, laidKinds := [.data], laidTests := true, laidLooks := .later }
def SoftMachineCardSaid : Prop := Claim7.holds Tryz.pinned (.plain (OpenSpec.ofChange softMachineSpec)) softMachineCard

/-- THE TIED CARD OF 'gnomonlaw09.SoftThroughDouble'. -/
def softThroughDoubleCard : Claim7 := { stood := { row := softThroughDoubleRow, standIns := [], harness := (true, "6e971a8adad2370a9d23d59eccb1cefee074bb4f8aa272e7d55ff9e4edfdb4b4"), looks := true }, kinds := [], alts := [], laidByText := true, laidKinds := [.data], laidTests := true, laidLooks := .later }
def SoftThroughDoubleCardSaid : Prop := Claim7.holds Tryz.pinned (.plain (OpenSpec.ofChange softThroughDoubleSpec)) softThroughDoubleCard

/-- THE TIED CARD OF 'gnomonlaw09.SoftNearest'. -/
def softNearestCard : Claim7 := { stood := { row := softNearestRow, standIns := [], harness := (true, "6e971a8adad2370a9d23d59eccb1cefee074bb4f8aa272e7d55ff9e4edfdb4b4"), looks := true }, kinds := [], alts := [], laidByText := true, laidKinds := [.data], laidTests := true, laidLooks := .later }
def SoftNearestCardSaid : Prop := Claim7.holds Tryz.pinned (.plain (OpenSpec.ofChange softNearestSpec)) softNearestCard

/-- THE TIED CARD OF 'gnomonlaw09.SoftErrors'. -/
def softErrorsCard : Claim7 := { stood := { row := softErrorsRow, standIns := [], harness := (true, "6e971a8adad2370a9d23d59eccb1cefee074bb4f8aa272e7d55ff9e4edfdb4b4"), looks := true }, kinds := [], alts := [], laidByText := true, laidKinds := [.data], laidTests := true, laidLooks := .later }
def SoftErrorsCardSaid : Prop := Claim7.holds Tryz.pinned (.plain (OpenSpec.ofChange softErrorsSpec)) softErrorsCard

/-- THE SECOND FORM's CARD OF 'gnomonlaw09.SoftMachine'. -/
def softMachineUptoCard : Claim7 := { stood := { row := softMachineUptoRow, standIns := [], harness := (true, "6e971a8adad2370a9d23d59eccb1cefee074bb4f8aa272e7d55ff9e4edfdb4b4"), looks := true }, kinds := [], alts := [], laidByText := true, laidKinds := [.data], laidTests := true, laidLooks := .later }
def SoftMachineUptoCardSaid : Prop := Claim7.holds Tryz.pinned (.plain (OpenSpec.upto softMachineSpec)) softMachineUptoCard

/-- THE SECOND FORM's CARD OF 'gnomonlaw09.SoftThroughDouble'. -/
def softThroughDoubleUptoCard : Claim7 := { stood := { row := softThroughDoubleUptoRow, standIns := [], harness := (true, "6e971a8adad2370a9d23d59eccb1cefee074bb4f8aa272e7d55ff9e4edfdb4b4"), looks := true }, kinds := [], alts := [], laidByText := true, laidKinds := [.data], laidTests := true, laidLooks := .later }
def SoftThroughDoubleUptoCardSaid : Prop := Claim7.holds Tryz.pinned (.plain (OpenSpec.upto softThroughDoubleSpec)) softThroughDoubleUptoCard

/-- THE SECOND FORM's CARD OF 'gnomonlaw09.SoftNearest'. -/
def softNearestUptoCard : Claim7 := { stood := { row := softNearestUptoRow, standIns := [], harness := (true, "6e971a8adad2370a9d23d59eccb1cefee074bb4f8aa272e7d55ff9e4edfdb4b4"), looks := true }, kinds := [], alts := [], laidByText := true, laidKinds := [.data], laidTests := true, laidLooks := .later }
def SoftNearestUptoCardSaid : Prop := Claim7.holds Tryz.pinned (.plain (OpenSpec.upto softNearestSpec)) softNearestUptoCard

/-- THE SECOND FORM's CARD OF 'gnomonlaw09.SoftErrors'. -/
def softErrorsUptoCard : Claim7 := { stood := { row := softErrorsUptoRow, standIns := [], harness := (true, "6e971a8adad2370a9d23d59eccb1cefee074bb4f8aa272e7d55ff9e4edfdb4b4"), looks := true }, kinds := [], alts := [], laidByText := true, laidKinds := [.data], laidTests := true, laidLooks := .later }
def SoftErrorsUptoCardSaid : Prop := Claim7.holds Tryz.pinned (.plain (OpenSpec.upto softErrorsSpec)) softErrorsUptoCard
end Rows
end Go.Proofs.YtmhkabomabkkfaaGreatDoor
