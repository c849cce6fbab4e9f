/-
  DERIVED. GIVEN WITH THE SEED: THE CARDS: each row of YtkiacehilnghiaaGreatDoorRows.lean that lists a variable, with what it lists TIED to the program's text (the seventh form; the later family's looks); each row that meets fmt, with fmt's text TOLD by the authors' own Lean function (tested against real Go, not proved from fmt's source: count such statements apart). THE CARD IS WHAT COUNTS. Prove the row's statement (the work); the ties are given (YtkiacehilnghiaaGreatDoorTie.lean); close each card by the builder's one call (the guide's Derived/Test/ToyasCard.lean, 'card_holds'). Laid BY PROGRAM, IN A SANDBOX (cutbox-door.mjs). By AI agents, Wed Nov 11 2026. No macro, syntax, notation, axiom, sorry.
-/
import Derived.Test.YtkiacehilnghiaaGreatDoorRows
import GoSem.ClaimSeven
namespace Go.Proofs.YtkiacehilnghiaaGreatDoor
namespace Rows

/-- THE TIED CARD OF 'gnomonlaw05.DyadicGrid'. -/
def dyadicGridCard : Claim7 := { stood := { row := dyadicGridRow, standIns := [], harness := (true, "9798845421da417a2178cd7177e796a2d0eebbfb14c763e8e997ced2558de400"), looks := false }, kinds := [], alts := [], laidByText := true, laidKinds := [.data], laidTests := true, laidLooks := .later }
def DyadicGridCardSaid : Prop := Claim7.holds Tryz.pinned (.plain (OpenSpec.ofChange dyadicGridSpec)) dyadicGridCard

/-- THE TIED CARD OF 'gnomonlaw05.DyadicNeighbours'. -/
def dyadicNeighboursCard : Claim7 := { stood := { row := dyadicNeighboursRow, standIns := [], harness := (true, "9798845421da417a2178cd7177e796a2d0eebbfb14c763e8e997ced2558de400"), looks := false }, kinds := [], alts := [], laidByText := true, laidKinds := [.data], laidTests := true, laidLooks := .later }
def DyadicNeighboursCardSaid : Prop := Claim7.holds Tryz.pinned (.plain (OpenSpec.ofChange dyadicNeighboursSpec)) dyadicNeighboursCard

/-- THE TIED CARD OF 'gnomonlaw05.DyadicQuoted'. -/
def dyadicQuotedCard : Claim7 := { stood := { row := dyadicQuotedRow, standIns := [], harness := (true, "9798845421da417a2178cd7177e796a2d0eebbfb14c763e8e997ced2558de400"), looks := false }, kinds := [], alts := [], laidByText := true, laidKinds := [.data], laidTests := true, laidLooks := .later }
def DyadicQuotedCardSaid : Prop := Claim7.holds Tryz.pinned (.plain (OpenSpec.ofChange dyadicQuotedSpec)) dyadicQuotedCard

/-- THE SECOND FORM's CARD OF 'gnomonlaw05.DyadicGrid'. -/
def dyadicGridUptoCard : Claim7 := { stood := { row := dyadicGridUptoRow, standIns := [], harness := (true, "9798845421da417a2178cd7177e796a2d0eebbfb14c763e8e997ced2558de400"), looks := false }, kinds := [], alts := [], laidByText := true, laidKinds := [.data], laidTests := true, laidLooks := .later }
def DyadicGridUptoCardSaid : Prop := Claim7.holds Tryz.pinned (.plain (OpenSpec.upto dyadicGridSpec)) dyadicGridUptoCard

/-- THE SECOND FORM's CARD OF 'gnomonlaw05.DyadicNeighbours'. -/
def dyadicNeighboursUptoCard : Claim7 := { stood := { row := dyadicNeighboursUptoRow, standIns := [], harness := (true, "9798845421da417a2178cd7177e796a2d0eebbfb14c763e8e997ced2558de400"), looks := false }, kinds := [], alts := [], laidByText := true, laidKinds := [.data], laidTests := true, laidLooks := .later }
def DyadicNeighboursUptoCardSaid : Prop := Claim7.holds Tryz.pinned (.plain (OpenSpec.upto dyadicNeighboursSpec)) dyadicNeighboursUptoCard

/-- THE SECOND FORM's CARD OF 'gnomonlaw05.DyadicQuoted'. -/
def dyadicQuotedUptoCard : Claim7 := { stood := { row := dyadicQuotedUptoRow, standIns := [], harness := (true, "9798845421da417a2178cd7177e796a2d0eebbfb14c763e8e997ced2558de400"), looks := false }, kinds := [], alts := [], laidByText := true, laidKinds := [.data], laidTests := true, laidLooks := .later }
def DyadicQuotedUptoCardSaid : Prop := Claim7.holds Tryz.pinned (.plain (OpenSpec.upto dyadicQuotedSpec)) dyadicQuotedUptoCard
end Rows
end Go.Proofs.YtkiacehilnghiaaGreatDoor
