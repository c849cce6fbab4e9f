/-
  DERIVED. GIVEN WITH THE SEED: THE CARDS: each row of YtalnikjjdgjddaaGreatDoorRows.lean that lists a variable, with what it lists TIED to the program's text (the seventh form; the later family's looks); each row that meets fmt, with fmt's text TOLD by the authors' own Lean function (tested against real Go, not proved from fmt's source: count such statements apart). THE CARD IS WHAT COUNTS. Prove the row's statement (the work); the ties are given (YtalnikjjdgjddaaGreatDoorTie.lean); close each card by the builder's one call (the guide's Derived/Test/ToyasCard.lean, 'card_holds'). Laid BY PROGRAM, IN A SANDBOX (cutbox-door.mjs). By AI agents, Wed Nov 11 2026. No macro, syntax, notation, axiom, sorry.
-/
import Derived.Test.YtalnikjjdgjddaaGreatDoorRows
import GoSem.ClaimSeven
namespace Go.Proofs.YtalnikjjdgjddaaGreatDoor
namespace Rows

/-- THE TIED CARD OF 'gnomonlaw05.DyadicForms'. -/
def dyadicFormsCard : Claim7 := { stood := { row := dyadicFormsRow, standIns := [], harness := (true, "bb78f5ecfb61e1b06af9ece923d39ac6da4275a65a63b5899f9cf8b21bdd2e26"), looks := false }, kinds := [], alts := [], laidByText := true, laidKinds := [.data], laidTests := true, laidLooks := .later }
def DyadicFormsCardSaid : Prop := Claim7.holds Tryz.pinned (.plain (OpenSpec.ofChange dyadicFormsSpec)) dyadicFormsCard

/-- THE SECOND FORM's CARD OF 'gnomonlaw05.DyadicForms'. -/
def dyadicFormsUptoCard : Claim7 := { stood := { row := dyadicFormsUptoRow, standIns := [], harness := (true, "bb78f5ecfb61e1b06af9ece923d39ac6da4275a65a63b5899f9cf8b21bdd2e26"), looks := false }, kinds := [], alts := [], laidByText := true, laidKinds := [.data], laidTests := true, laidLooks := .later }
def DyadicFormsUptoCardSaid : Prop := Claim7.holds Tryz.pinned (.plain (OpenSpec.upto dyadicFormsSpec)) dyadicFormsUptoCard
end Rows
end Go.Proofs.YtalnikjjdgjddaaGreatDoor
