/-
  DERIVED. GIVEN WITH THE SEED: THE CARDS: each row of YtnijhlbociechaaDoorRows.lean that lists a variable, with what it lists TIED to the program's text (the seventh form; the later family's looks); each row that meets fmt, with fmt's text TOLD by the authors' own Lean function (tested against real Go, not proved from fmt's source: count such statements apart). THE CARD IS WHAT COUNTS. Prove the row's statement (the work); the ties are given (YtnijhlbociechaaDoorTie.lean); close each card by the builder's one call (the guide's Derived/Test/ToyasCard.lean, 'card_holds'). Laid BY PROGRAM, IN A SANDBOX (cutbox-door.mjs). By AI agents, Wed Nov 11 2026. No macro, syntax, notation, axiom, sorry.
-/
import Derived.Test.YtnijhlbociechaaDoorRows
import GoSem.ClaimSeven
namespace Go.Proofs.YtnijhlbociechaaDoor
namespace Rows

/-- THE TIED CARD OF 'gnomonlaw23.SintablePlaces'. -/
def sintablePlacesCard : Claim7 := { stood := { row := sintablePlacesRow, standIns := [], harness := (true, "8c891935f135b29326c8f6469ebbc73b8e71af839e20b5d8548a4cb5569929fb"), looks := false }, kinds := [], alts := [], laidByText := true, laidKinds := [.data, .data], laidTests := true, laidLooks := .later }
def SintablePlacesCardSaid : Prop := Claim7.holds Tryd.pinned (.plain (OpenSpec.ofChange sintablePlacesSpec)) sintablePlacesCard

/-- THE SECOND FORM's CARD OF 'gnomonlaw23.SintablePlaces'. -/
def sintablePlacesUptoCard : Claim7 := { stood := { row := sintablePlacesUptoRow, standIns := [], harness := (true, "8c891935f135b29326c8f6469ebbc73b8e71af839e20b5d8548a4cb5569929fb"), looks := false }, kinds := [], alts := [], laidByText := true, laidKinds := [.data, .data], laidTests := true, laidLooks := .later }
def SintablePlacesUptoCardSaid : Prop := Claim7.holds Tryd.pinned (.plain (OpenSpec.upto sintablePlacesSpec)) sintablePlacesUptoCard
end Rows
end Go.Proofs.YtnijhlbociechaaDoor
