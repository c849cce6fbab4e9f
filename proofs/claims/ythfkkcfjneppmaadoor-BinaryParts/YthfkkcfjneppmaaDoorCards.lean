/-
  DERIVED. GIVEN WITH THE SEED: THE CARDS: each row of YthfkkcfjneppmaaDoorRows.lean that lists a variable, with what it lists TIED to the program's text (the seventh form; the later family's looks); each row that meets fmt, with fmt's text TOLD by the authors' own Lean function (tested against real Go, not proved from fmt's source: count such statements apart). THE CARD IS WHAT COUNTS. Prove the row's statement (the work); the ties are given (YthfkkcfjneppmaaDoorTie.lean); close each card by the builder's one call (the guide's Derived/Test/ToyasCard.lean, 'card_holds'). Laid BY PROGRAM, IN A SANDBOX (cutbox-door.mjs). By AI agents, Wed Nov 11 2026. No macro, syntax, notation, axiom, sorry.
-/
import Derived.Test.YthfkkcfjneppmaaDoorRows
import GoSem.ClaimSeven
namespace Go.Proofs.YthfkkcfjneppmaaDoor
namespace Rows

/-- THE TIED CARD OF 'gnomonlaw07.BinaryParts'. -/
def binaryPartsCard : Claim7 := { stood := { row := binaryPartsRow, standIns := [], harness := (true, "20a2c775750308645ee683be6349f0bda55d497bf7e0f46adbb3c0441f07fb99"), looks := false }, kinds := [], alts := [], laidByText := true, laidKinds := [.data], laidTests := true, laidLooks := .later }
def BinaryPartsCardSaid : Prop := Claim7.holds Tryd.pinned (.plain (OpenSpec.ofChange binaryPartsSpec)) binaryPartsCard

/-- THE SECOND FORM's CARD OF 'gnomonlaw07.BinaryParts'. -/
def binaryPartsUptoCard : Claim7 := { stood := { row := binaryPartsUptoRow, standIns := [], harness := (true, "20a2c775750308645ee683be6349f0bda55d497bf7e0f46adbb3c0441f07fb99"), looks := false }, kinds := [], alts := [], laidByText := true, laidKinds := [.data], laidTests := true, laidLooks := .later }
def BinaryPartsUptoCardSaid : Prop := Claim7.holds Tryd.pinned (.plain (OpenSpec.upto binaryPartsSpec)) binaryPartsUptoCard
end Rows
end Go.Proofs.YthfkkcfjneppmaaDoor
