/-
  DERIVED. GIVEN WITH THE SEED: THE CARDS: each row of YtglkjbkpgfencaaGreatDoorRows.lean that lists a variable, with what it lists TIED to the program's text (the seventh form; the later family's looks); each row that meets fmt, with fmt's text TOLD by the authors' own Lean function (tested against real Go, not proved from fmt's source: count such statements apart). THE CARD IS WHAT COUNTS. Prove the row's statement (the work); the ties are given (YtglkjbkpgfencaaGreatDoorTie.lean); close each card by the builder's one call (the guide's Derived/Test/ToyasCard.lean, 'card_holds'). Laid BY PROGRAM, IN A SANDBOX (cutbox-door.mjs). By AI agents, Wed Nov 11 2026. No macro, syntax, notation, axiom, sorry.
-/
import Derived.Test.YtglkjbkpgfencaaGreatDoorRows
import GoSem.ClaimSeven
namespace Go.Proofs.YtglkjbkpgfencaaGreatDoor
namespace Rows

/-- THE TIED CARD OF 'gnomonlaw10.HexfloatParses'. -/
def hexfloatParsesCard : Claim7 := { stood := { row := hexfloatParsesRow, standIns := [], harness := (true, "9aa60613f71b27f62a70fc957687745d17d1f6b80005e8102dbddf011d6cc8a9"), looks := true }, kinds := [], alts := [], laidByText := true, laidKinds := [.data, .data, .data, .data, .sentinel, .sentinel, .pinned], laidTests := true, laidLooks := .later }
def HexfloatParsesCardSaid : Prop := Claim7.holds Tryz.pinned (.plain (OpenSpec.ofChange hexfloatParsesSpec)) hexfloatParsesCard

/-- THE TIED CARD OF 'gnomonlaw10.HexfloatAll'. -/
def hexfloatAllCard : Claim7 := { stood := { row := hexfloatAllRow, standIns := [], harness := (true, "9aa60613f71b27f62a70fc957687745d17d1f6b80005e8102dbddf011d6cc8a9"), looks := true }, kinds := [], alts := [], laidByText := true, laidKinds := [.data, .data, .data, .data, .sentinel, .sentinel, .pinned], laidTests := true, laidLooks := .later }
def HexfloatAllCardSaid : Prop := Claim7.holds Tryz.pinned (.plain (OpenSpec.ofChange hexfloatAllSpec)) hexfloatAllCard

/-- THE TIED CARD OF 'gnomonlaw10.HexfloatWide'. -/
def hexfloatWideCard : Claim7 := { stood := { row := hexfloatWideRow, standIns := [], harness := (true, "9aa60613f71b27f62a70fc957687745d17d1f6b80005e8102dbddf011d6cc8a9"), looks := true }, kinds := [], alts := [], laidByText := true, laidKinds := [.data, .data, .data, .data, .sentinel, .sentinel, .pinned], laidTests := true, laidLooks := .later }
def HexfloatWideCardSaid : Prop := Claim7.holds Tryz.pinned (.plain (OpenSpec.ofChange hexfloatWideSpec)) hexfloatWideCard

/-- THE SECOND FORM's CARD OF 'gnomonlaw10.HexfloatParses'. -/
def hexfloatParsesUptoCard : Claim7 := { stood := { row := hexfloatParsesUptoRow, standIns := [], harness := (true, "9aa60613f71b27f62a70fc957687745d17d1f6b80005e8102dbddf011d6cc8a9"), looks := true }, kinds := [], alts := [], laidByText := true, laidKinds := [.data, .data, .data, .data, .sentinel, .sentinel, .pinned], laidTests := true, laidLooks := .later }
def HexfloatParsesUptoCardSaid : Prop := Claim7.holds Tryz.pinned (.plain (OpenSpec.upto hexfloatParsesSpec)) hexfloatParsesUptoCard

/-- THE SECOND FORM's CARD OF 'gnomonlaw10.HexfloatAll'. -/
def hexfloatAllUptoCard : Claim7 := { stood := { row := hexfloatAllUptoRow, standIns := [], harness := (true, "9aa60613f71b27f62a70fc957687745d17d1f6b80005e8102dbddf011d6cc8a9"), looks := true }, kinds := [], alts := [], laidByText := true, laidKinds := [.data, .data, .data, .data, .sentinel, .sentinel, .pinned], laidTests := true, laidLooks := .later }
def HexfloatAllUptoCardSaid : Prop := Claim7.holds Tryz.pinned (.plain (OpenSpec.upto hexfloatAllSpec)) hexfloatAllUptoCard

/-- THE SECOND FORM's CARD OF 'gnomonlaw10.HexfloatWide'. -/
def hexfloatWideUptoCard : Claim7 := { stood := { row := hexfloatWideUptoRow, standIns := [], harness := (true, "9aa60613f71b27f62a70fc957687745d17d1f6b80005e8102dbddf011d6cc8a9"), looks := true }, kinds := [], alts := [], laidByText := true, laidKinds := [.data, .data, .data, .data, .sentinel, .sentinel, .pinned], laidTests := true, laidLooks := .later }
def HexfloatWideUptoCardSaid : Prop := Claim7.holds Tryz.pinned (.plain (OpenSpec.upto hexfloatWideSpec)) hexfloatWideUptoCard
end Rows
end Go.Proofs.YtglkjbkpgfencaaGreatDoor
