/-
  DERIVED. GIVEN WITH THE SEED: THE CARDS: each row of YtkfonlijgoldfaaGreatDoorRows.lean that lists a variable, with what it lists TIED to the program's text (the seventh form; the later family's looks); each row that meets fmt, with fmt's text TOLD by the authors' own Lean function (tested against real Go, not proved from fmt's source: count such statements apart). THE CARD IS WHAT COUNTS. Prove the row's statement (the work); the ties are given (YtkfonlijgoldfaaGreatDoorTie.lean); close each card by the builder's one call (the guide's Derived/Test/ToyasCard.lean, 'card_holds'). Laid BY PROGRAM, IN A SANDBOX (cutbox-door.mjs). By AI agents, Wed Nov 11 2026. No macro, syntax, notation, axiom, sorry.
-/
import Derived.Test.YtkfonlijgoldfaaGreatDoorRows
import GoSem.ClaimSeven
namespace Go.Proofs.YtkfonlijgoldfaaGreatDoor
namespace Rows

/-- THE TIED CARD OF 'gnomonlaw09.SoftTwins'. -/
def softTwinsCard : Claim7 := { stood := { row := softTwinsRow, standIns := [], harness := (true, "f83511ff8249a4dd32c292ad6f01e13d30d5d55b5ef68cf1fca5f8933f298377"), looks := true }, kinds := [], alts := [], laidByText := true, laidKinds := [.data], laidTests := true, laidLooks := .later }
def SoftTwinsCardSaid : Prop := Claim7.holds Tryz.pinned (.plain (OpenSpec.ofChange softTwinsSpec)) softTwinsCard

/-- THE TIED CARD OF 'gnomonlaw09.SoftRootOfSquare'. -/
def softRootOfSquareCard : Claim7 := { stood := { row := softRootOfSquareRow, standIns := [], harness := (true, "f83511ff8249a4dd32c292ad6f01e13d30d5d55b5ef68cf1fca5f8933f298377"), looks := true }, kinds := [], alts := [], laidByText := true, laidKinds := [.data], laidTests := true, laidLooks := .later }
def SoftRootOfSquareCardSaid : Prop := Claim7.holds Tryz.pinned (.plain (OpenSpec.ofChange softRootOfSquareSpec)) softRootOfSquareCard

/-- THE SECOND FORM's CARD OF 'gnomonlaw09.SoftTwins'. -/
def softTwinsUptoCard : Claim7 := { stood := { row := softTwinsUptoRow, standIns := [], harness := (true, "f83511ff8249a4dd32c292ad6f01e13d30d5d55b5ef68cf1fca5f8933f298377"), looks := true }, kinds := [], alts := [], laidByText := true, laidKinds := [.data], laidTests := true, laidLooks := .later }
def SoftTwinsUptoCardSaid : Prop := Claim7.holds Tryz.pinned (.plain (OpenSpec.upto softTwinsSpec)) softTwinsUptoCard

/-- THE SECOND FORM's CARD OF 'gnomonlaw09.SoftRootOfSquare'. -/
def softRootOfSquareUptoCard : Claim7 := { stood := { row := softRootOfSquareUptoRow, standIns := [], harness := (true, "f83511ff8249a4dd32c292ad6f01e13d30d5d55b5ef68cf1fca5f8933f298377"), looks := true }, kinds := [], alts := [], laidByText := true, laidKinds := [.data], laidTests := true, laidLooks := .later }
def SoftRootOfSquareUptoCardSaid : Prop := Claim7.holds Tryz.pinned (.plain (OpenSpec.upto softRootOfSquareSpec)) softRootOfSquareUptoCard
end Rows
end Go.Proofs.YtkfonlijgoldfaaGreatDoor
