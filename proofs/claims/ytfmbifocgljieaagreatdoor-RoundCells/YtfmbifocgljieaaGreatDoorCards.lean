/-
  DERIVED. GIVEN WITH THE SEED: THE CARDS: each row of YtfmbifocgljieaaGreatDoorRows.lean that lists a variable, with what it lists TIED to the program's text (the seventh form; the later family's looks); each row that meets fmt, with fmt's text TOLD by the authors' own Lean function (tested against real Go, not proved from fmt's source: count such statements apart). THE CARD IS WHAT COUNTS. Prove the row's statement (the work); the ties are given (YtfmbifocgljieaaGreatDoorTie.lean); close each card by the builder's one call (the guide's Derived/Test/ToyasCard.lean, 'card_holds'). Laid BY PROGRAM, IN A SANDBOX (cutbox-door.mjs). By AI agents, Wed Nov 11 2026. No macro, syntax, notation, axiom, sorry.
-/
import Derived.Test.YtfmbifocgljieaaGreatDoorRows
import GoSem.ClaimSeven
namespace Go.Proofs.YtfmbifocgljieaaGreatDoor
namespace Rows

/-- THE TIED CARD OF 'gnomonlaw08.RoundNarrows'. -/
def roundNarrowsCard : Claim7 := { stood := { row := roundNarrowsRow, standIns := [], harness := (true, "5e88650b51fbc7940b0c9e39928705615a0e12f909364afc87874d61c1d9136b"), looks := false }, kinds := [], alts := [], laidByText := true, laidKinds := [.data], laidTests := true, laidLooks := .later }
def RoundNarrowsCardSaid : Prop := Claim7.holds Tryz.pinned (.plain (OpenSpec.ofChange roundNarrowsSpec)) roundNarrowsCard

/-- THE TIED CARD OF 'gnomonlaw08.RoundCells'. -/
def roundCellsCard : Claim7 := { stood := { row := roundCellsRow, standIns := [], harness := (true, "5e88650b51fbc7940b0c9e39928705615a0e12f909364afc87874d61c1d9136b"), looks := false }, kinds := [], alts := [], laidByText := true, laidKinds := [.data], laidTests := true, laidLooks := .later }
def RoundCellsCardSaid : Prop := Claim7.holds Tryz.pinned (.plain (OpenSpec.ofChange roundCellsSpec)) roundCellsCard

/-- THE TIED CARD OF 'gnomonlaw08.RoundQuotients'. -/
def roundQuotientsCard : Claim7 := { stood := { row := roundQuotientsRow, standIns := [], harness := (true, "5e88650b51fbc7940b0c9e39928705615a0e12f909364afc87874d61c1d9136b"), looks := false }, kinds := [], alts := [], laidByText := true, laidKinds := [.data], laidTests := true, laidLooks := .later }
def RoundQuotientsCardSaid : Prop := Claim7.holds Tryz.pinned (.plain (OpenSpec.ofChange roundQuotientsSpec)) roundQuotientsCard

/-- THE TIED CARD OF 'gnomonlaw08.RoundNearests'. -/
def roundNearestsCard : Claim7 := { stood := { row := roundNearestsRow, standIns := [], harness := (true, "5e88650b51fbc7940b0c9e39928705615a0e12f909364afc87874d61c1d9136b"), looks := false }, kinds := [], alts := [], laidByText := true, laidKinds := [.data], laidTests := true, laidLooks := .later }
def RoundNearestsCardSaid : Prop := Claim7.holds Tryz.pinned (.plain (OpenSpec.ofChange roundNearestsSpec)) roundNearestsCard

/-- THE SECOND FORM's CARD OF 'gnomonlaw08.RoundNarrows'. -/
def roundNarrowsUptoCard : Claim7 := { stood := { row := roundNarrowsUptoRow, standIns := [], harness := (true, "5e88650b51fbc7940b0c9e39928705615a0e12f909364afc87874d61c1d9136b"), looks := false }, kinds := [], alts := [], laidByText := true, laidKinds := [.data], laidTests := true, laidLooks := .later }
def RoundNarrowsUptoCardSaid : Prop := Claim7.holds Tryz.pinned (.plain (OpenSpec.upto roundNarrowsSpec)) roundNarrowsUptoCard

/-- THE SECOND FORM's CARD OF 'gnomonlaw08.RoundCells'. -/
def roundCellsUptoCard : Claim7 := { stood := { row := roundCellsUptoRow, standIns := [], harness := (true, "5e88650b51fbc7940b0c9e39928705615a0e12f909364afc87874d61c1d9136b"), looks := false }, kinds := [], alts := [], laidByText := true, laidKinds := [.data], laidTests := true, laidLooks := .later }
def RoundCellsUptoCardSaid : Prop := Claim7.holds Tryz.pinned (.plain (OpenSpec.upto roundCellsSpec)) roundCellsUptoCard

/-- THE SECOND FORM's CARD OF 'gnomonlaw08.RoundQuotients'. -/
def roundQuotientsUptoCard : Claim7 := { stood := { row := roundQuotientsUptoRow, standIns := [], harness := (true, "5e88650b51fbc7940b0c9e39928705615a0e12f909364afc87874d61c1d9136b"), looks := false }, kinds := [], alts := [], laidByText := true, laidKinds := [.data], laidTests := true, laidLooks := .later }
def RoundQuotientsUptoCardSaid : Prop := Claim7.holds Tryz.pinned (.plain (OpenSpec.upto roundQuotientsSpec)) roundQuotientsUptoCard

/-- THE SECOND FORM's CARD OF 'gnomonlaw08.RoundNearests'. -/
def roundNearestsUptoCard : Claim7 := { stood := { row := roundNearestsUptoRow, standIns := [], harness := (true, "5e88650b51fbc7940b0c9e39928705615a0e12f909364afc87874d61c1d9136b"), looks := false }, kinds := [], alts := [], laidByText := true, laidKinds := [.data], laidTests := true, laidLooks := .later }
def RoundNearestsUptoCardSaid : Prop := Claim7.holds Tryz.pinned (.plain (OpenSpec.upto roundNearestsSpec)) roundNearestsUptoCard
end Rows
end Go.Proofs.YtfmbifocgljieaaGreatDoor
