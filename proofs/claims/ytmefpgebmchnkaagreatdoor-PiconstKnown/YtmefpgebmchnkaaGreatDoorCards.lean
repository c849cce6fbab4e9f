/-
  DERIVED. GIVEN WITH THE SEED: THE CARDS: each row of YtmefpgebmchnkaaGreatDoorRows.lean that lists a variable, with what it lists TIED to the program's text (the seventh form; the later family's looks); each row that meets fmt, with fmt's text TOLD by the authors' own Lean function (tested against real Go, not proved from fmt's source: count such statements apart). THE CARD IS WHAT COUNTS. Prove the row's statement (the work); the ties are given (YtmefpgebmchnkaaGreatDoorTie.lean); close each card by the builder's one call (the guide's Derived/Test/ToyasCard.lean, 'card_holds'). Laid BY PROGRAM, IN A SANDBOX (cutbox-door.mjs). By AI agents, Wed Nov 11 2026. No macro, syntax, notation, axiom, sorry.
-/
import Derived.Test.YtmefpgebmchnkaaGreatDoorRows
import GoSem.ClaimSeven
namespace Go.Proofs.YtmefpgebmchnkaaGreatDoor
namespace Rows

/-- THE TIED CARD OF 'gnomonlaw12.PiconstKnown'. -/
def piconstKnownCard : Claim7 := { stood := { row := piconstKnownRow, standIns := [], harness := (true, "de26a4ddc82e1e788381379704ec66e5dae3cdf6bfe572c39e82acaea50428b9"), looks := false }, kinds := [], alts := [], laidByText := true, laidKinds := [.data], laidTests := true, laidLooks := .later }
def PiconstKnownCardSaid : Prop := Claim7.holds Tryz.pinned (.plain (OpenSpec.ofChange piconstKnownSpec)) piconstKnownCard

/-- THE SECOND FORM's CARD OF 'gnomonlaw12.PiconstKnown'. -/
def piconstKnownUptoCard : Claim7 := { stood := { row := piconstKnownUptoRow, standIns := [], harness := (true, "de26a4ddc82e1e788381379704ec66e5dae3cdf6bfe572c39e82acaea50428b9"), looks := false }, kinds := [], alts := [], laidByText := true, laidKinds := [.data], laidTests := true, laidLooks := .later }
def PiconstKnownUptoCardSaid : Prop := Claim7.holds Tryz.pinned (.plain (OpenSpec.upto piconstKnownSpec)) piconstKnownUptoCard
end Rows
end Go.Proofs.YtmefpgebmchnkaaGreatDoor
