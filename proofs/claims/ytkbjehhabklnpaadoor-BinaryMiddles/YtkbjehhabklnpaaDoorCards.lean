/-
  DERIVED. GIVEN WITH THE SEED: THE CARDS: each row of YtkbjehhabklnpaaDoorRows.lean that lists a variable, with what it lists TIED to the program's text (the seventh form; the later family's looks); each row that meets fmt, with fmt's text TOLD by the authors' own Lean function (tested against real Go, not proved from fmt's source: count such statements apart). THE CARD IS WHAT COUNTS. Prove the row's statement (the work); the ties are given (YtkbjehhabklnpaaDoorTie.lean); close each card by the builder's one call (the guide's Derived/Test/ToyasCard.lean, 'card_holds'). Laid BY PROGRAM, IN A SANDBOX (cutbox-door.mjs). By AI agents, Wed Nov 11 2026. No macro, syntax, notation, axiom, sorry.
-/
import Derived.Test.YtkbjehhabklnpaaDoorRows
import GoSem.ClaimSeven
namespace Go.Proofs.YtkbjehhabklnpaaDoor
namespace Rows

/-- THE TIED CARD OF 'gnomonlaw07.BinaryWide'. -/
def binaryWideCard : Claim7 := { stood := { row := binaryWideRow, standIns := [], harness := (true, "32b5f2ab1bf27cb7c6583d8e709676e141ecdbc4b599a9d2f378a154895121a9"), looks := false }, kinds := [], alts := [], laidByText := true, laidKinds := [.data], laidTests := true, laidLooks := .later }
def BinaryWideCardSaid : Prop := Claim7.holds Tryd.pinned (.plain (OpenSpec.ofChange binaryWideSpec)) binaryWideCard

/-- THE TIED CARD OF 'gnomonlaw07.BinaryRejoins'. -/
def binaryRejoinsCard : Claim7 := { stood := { row := binaryRejoinsRow, standIns := [], harness := (true, "32b5f2ab1bf27cb7c6583d8e709676e141ecdbc4b599a9d2f378a154895121a9"), looks := false }, kinds := [], alts := [], laidByText := true, laidKinds := [.data], laidTests := true, laidLooks := .later }
def BinaryRejoinsCardSaid : Prop := Claim7.holds Tryd.pinned (.plain (OpenSpec.ofChange binaryRejoinsSpec)) binaryRejoinsCard

/-- THE TIED CARD OF 'gnomonlaw07.BinaryNeighbours'. -/
def binaryNeighboursCard : Claim7 := { stood := { row := binaryNeighboursRow, standIns := [], harness := (true, "32b5f2ab1bf27cb7c6583d8e709676e141ecdbc4b599a9d2f378a154895121a9"), looks := false }, kinds := [], alts := [], laidByText := true, laidKinds := [.data], laidTests := true, laidLooks := .later }
def BinaryNeighboursCardSaid : Prop := Claim7.holds Tryd.pinned (.plain (OpenSpec.ofChange binaryNeighboursSpec)) binaryNeighboursCard

/-- THE TIED CARD OF 'gnomonlaw07.BinaryMiddles'. -/
def binaryMiddlesCard : Claim7 := { stood := { row := binaryMiddlesRow, standIns := [], harness := (true, "32b5f2ab1bf27cb7c6583d8e709676e141ecdbc4b599a9d2f378a154895121a9"), looks := false }, kinds := [], alts := [], laidByText := true, laidKinds := [.data], laidTests := true, laidLooks := .later }
def BinaryMiddlesCardSaid : Prop := Claim7.holds Tryd.pinned (.plain (OpenSpec.ofChange binaryMiddlesSpec)) binaryMiddlesCard

/-- THE SECOND FORM's CARD OF 'gnomonlaw07.BinaryWide'. -/
def binaryWideUptoCard : Claim7 := { stood := { row := binaryWideUptoRow, standIns := [], harness := (true, "32b5f2ab1bf27cb7c6583d8e709676e141ecdbc4b599a9d2f378a154895121a9"), looks := false }, kinds := [], alts := [], laidByText := true, laidKinds := [.data], laidTests := true, laidLooks := .later }
def BinaryWideUptoCardSaid : Prop := Claim7.holds Tryd.pinned (.plain (OpenSpec.upto binaryWideSpec)) binaryWideUptoCard

/-- THE SECOND FORM's CARD OF 'gnomonlaw07.BinaryRejoins'. -/
def binaryRejoinsUptoCard : Claim7 := { stood := { row := binaryRejoinsUptoRow, standIns := [], harness := (true, "32b5f2ab1bf27cb7c6583d8e709676e141ecdbc4b599a9d2f378a154895121a9"), looks := false }, kinds := [], alts := [], laidByText := true, laidKinds := [.data], laidTests := true, laidLooks := .later }
def BinaryRejoinsUptoCardSaid : Prop := Claim7.holds Tryd.pinned (.plain (OpenSpec.upto binaryRejoinsSpec)) binaryRejoinsUptoCard

/-- THE SECOND FORM's CARD OF 'gnomonlaw07.BinaryNeighbours'. -/
def binaryNeighboursUptoCard : Claim7 := { stood := { row := binaryNeighboursUptoRow, standIns := [], harness := (true, "32b5f2ab1bf27cb7c6583d8e709676e141ecdbc4b599a9d2f378a154895121a9"), looks := false }, kinds := [], alts := [], laidByText := true, laidKinds := [.data], laidTests := true, laidLooks := .later }
def BinaryNeighboursUptoCardSaid : Prop := Claim7.holds Tryd.pinned (.plain (OpenSpec.upto binaryNeighboursSpec)) binaryNeighboursUptoCard

/-- THE SECOND FORM's CARD OF 'gnomonlaw07.BinaryMiddles'. -/
def binaryMiddlesUptoCard : Claim7 := { stood := { row := binaryMiddlesUptoRow, standIns := [], harness := (true, "32b5f2ab1bf27cb7c6583d8e709676e141ecdbc4b599a9d2f378a154895121a9"), looks := false }, kinds := [], alts := [], laidByText := true, laidKinds := [.data], laidTests := true, laidLooks := .later }
def BinaryMiddlesUptoCardSaid : Prop := Claim7.holds Tryd.pinned (.plain (OpenSpec.upto binaryMiddlesSpec)) binaryMiddlesUptoCard
end Rows
end Go.Proofs.YtkbjehhabklnpaaDoor
