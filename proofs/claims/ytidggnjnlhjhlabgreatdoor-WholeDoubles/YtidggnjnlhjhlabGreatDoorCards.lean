/-
  DERIVED. GIVEN WITH THE SEED: THE CARDS: each row of YtidggnjnlhjhlabGreatDoorRows.lean that lists a variable, with what it lists TIED to the program's text (the seventh form; the later family's looks); each row that meets fmt, with fmt's text TOLD by the authors' own Lean function (tested against real Go, not proved from fmt's source: count such statements apart). THE CARD IS WHAT COUNTS. Prove the row's statement (the work); the ties are given (YtidggnjnlhjhlabGreatDoorTie.lean); close each card by the builder's one call (the guide's Derived/Test/ToyasCard.lean, 'card_holds'). Laid BY PROGRAM, IN A SANDBOX (cutbox-door.mjs). By AI agents, Wed Nov 11 2026. No macro, syntax, notation, axiom, sorry.
-/
import Derived.Test.YtidggnjnlhjhlabGreatDoorRows
import GoSem.ClaimSeven
namespace Go.Proofs.YtidggnjnlhjhlabGreatDoor
namespace Rows

/-- THE TIED CARD OF 'gnomontop.WholeDoubles'. -/
def wholeDoublesCard : Claim7 := { stood := { row := wholeDoublesRow, standIns := [], harness := (true, "193f20cdd17aa2fdc6da66a6da578f08a2de6a8390becbf0f9fb76a3e4e62d51"), looks := false }, kinds := [], alts := [], laidByText := true, laidKinds := [.data], laidTests := true, laidLooks := .later }
def WholeDoublesCardSaid : Prop := Claim7.holds Tryz.pinned (.plain (OpenSpec.ofChange wholeDoublesSpec)) wholeDoublesCard

/-- THE SECOND FORM's CARD OF 'gnomontop.WholeDoubles'. -/
def wholeDoublesUptoCard : Claim7 := { stood := { row := wholeDoublesUptoRow, standIns := [], harness := (true, "193f20cdd17aa2fdc6da66a6da578f08a2de6a8390becbf0f9fb76a3e4e62d51"), looks := false }, kinds := [], alts := [], laidByText := true, laidKinds := [.data], laidTests := true, laidLooks := .later }
def WholeDoublesUptoCardSaid : Prop := Claim7.holds Tryz.pinned (.plain (OpenSpec.upto wholeDoublesSpec)) wholeDoublesUptoCard
end Rows
end Go.Proofs.YtidggnjnlhjhlabGreatDoor
