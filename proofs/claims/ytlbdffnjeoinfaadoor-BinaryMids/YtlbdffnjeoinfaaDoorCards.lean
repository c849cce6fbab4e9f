/-
  DERIVED. GIVEN WITH THE SEED: THE CARDS: each row of YtlbdffnjeoinfaaDoorRows.lean that lists a variable, with what it lists TIED to the program's text (the seventh form; the later family's looks); each row that meets fmt, with fmt's text TOLD by the authors' own Lean function (tested against real Go, not proved from fmt's source: count such statements apart). THE CARD IS WHAT COUNTS. Prove the row's statement (the work); the ties are given (YtlbdffnjeoinfaaDoorTie.lean); close each card by the builder's one call (the guide's Derived/Test/ToyasCard.lean, 'card_holds'). Laid BY PROGRAM, IN A SANDBOX (cutbox-door.mjs). By AI agents, Wed Nov 11 2026. No macro, syntax, notation, axiom, sorry.
-/
import Derived.Test.YtlbdffnjeoinfaaDoorRows
import GoSem.ClaimSeven
namespace Go.Proofs.YtlbdffnjeoinfaaDoor
namespace Rows

/-- THE TIED CARD OF 'gnomonlaw07.BinaryMids'. -/
def binaryMidsCard : Claim7 := { stood := { row := binaryMidsRow, standIns := [], harness := (true, "f48f5e3ac3ce70fd5f0066296f42767edc0d95bc1b06251520c0ad6b12139de8"), looks := false }, kinds := [], alts := [], laidByText := true, laidKinds := [.data], laidTests := true, laidLooks := .later }
def BinaryMidsCardSaid : Prop := Claim7.holds Tryd.pinned (.plain (OpenSpec.ofChange binaryMidsSpec)) binaryMidsCard

/-- THE SECOND FORM's CARD OF 'gnomonlaw07.BinaryMids'. -/
def binaryMidsUptoCard : Claim7 := { stood := { row := binaryMidsUptoRow, standIns := [], harness := (true, "f48f5e3ac3ce70fd5f0066296f42767edc0d95bc1b06251520c0ad6b12139de8"), looks := false }, kinds := [], alts := [], laidByText := true, laidKinds := [.data], laidTests := true, laidLooks := .later }
def BinaryMidsUptoCardSaid : Prop := Claim7.holds Tryd.pinned (.plain (OpenSpec.upto binaryMidsSpec)) binaryMidsUptoCard
end Rows
end Go.Proofs.YtlbdffnjeoinfaaDoor
