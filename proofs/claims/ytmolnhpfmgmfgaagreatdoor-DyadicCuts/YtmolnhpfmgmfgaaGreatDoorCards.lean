/-
  DERIVED. GIVEN WITH THE SEED: THE CARDS: each row of YtmolnhpfmgmfgaaGreatDoorRows.lean that lists a variable, with what it lists TIED to the program's text (the seventh form; the later family's looks); each row that meets fmt, with fmt's text TOLD by the authors' own Lean function (tested against real Go, not proved from fmt's source: count such statements apart). THE CARD IS WHAT COUNTS. Prove the row's statement (the work); the ties are given (YtmolnhpfmgmfgaaGreatDoorTie.lean); close each card by the builder's one call (the guide's Derived/Test/ToyasCard.lean, 'card_holds'). Laid BY PROGRAM, IN A SANDBOX (cutbox-door.mjs). By AI agents, Wed Nov 11 2026. No macro, syntax, notation, axiom, sorry.
-/
import Derived.Test.YtmolnhpfmgmfgaaGreatDoorRows
import GoSem.ClaimSeven
namespace Go.Proofs.YtmolnhpfmgmfgaaGreatDoor
namespace Rows

/-- THE TIED CARD OF 'gnomonlaw05.DyadicCuts'. -/
def dyadicCutsCard : Claim7 := { stood := { row := dyadicCutsRow, standIns := [], harness := (true, "c61742bd6a7b7a924c445bc99d22af3a73ed7b006a9e655a40c1bd5234bffdc4"), looks := false }, kinds := [], alts := [], laidByText := true, laidKinds := [.data], laidTests := true, laidLooks := .later }
def DyadicCutsCardSaid : Prop := Claim7.holds Tryz.pinned (.plain (OpenSpec.ofChange dyadicCutsSpec)) dyadicCutsCard

/-- THE SECOND FORM's CARD OF 'gnomonlaw05.DyadicCuts'. -/
def dyadicCutsUptoCard : Claim7 := { stood := { row := dyadicCutsUptoRow, standIns := [], harness := (true, "c61742bd6a7b7a924c445bc99d22af3a73ed7b006a9e655a40c1bd5234bffdc4"), looks := false }, kinds := [], alts := [], laidByText := true, laidKinds := [.data], laidTests := true, laidLooks := .later }
def DyadicCutsUptoCardSaid : Prop := Claim7.holds Tryz.pinned (.plain (OpenSpec.upto dyadicCutsSpec)) dyadicCutsUptoCard
end Rows
end Go.Proofs.YtmolnhpfmgmfgaaGreatDoor
