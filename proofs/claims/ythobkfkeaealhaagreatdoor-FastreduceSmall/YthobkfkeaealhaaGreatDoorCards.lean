/-
  DERIVED. GIVEN WITH THE SEED: THE CARDS: each row of YthobkfkeaealhaaGreatDoorRows.lean that lists a variable, with what it lists TIED to the program's text (the seventh form; the later family's looks); each row that meets fmt, with fmt's text TOLD by the authors' own Lean function (tested against real Go, not proved from fmt's source: count such statements apart). THE CARD IS WHAT COUNTS. Prove the row's statement (the work); the ties are given (YthobkfkeaealhaaGreatDoorTie.lean); close each card by the builder's one call (the guide's Derived/Test/ToyasCard.lean, 'card_holds'). Laid BY PROGRAM, IN A SANDBOX (cutbox-door.mjs). By AI agents, Wed Nov 11 2026. No macro, syntax, notation, axiom, sorry.
-/
import Derived.Test.YthobkfkeaealhaaGreatDoorRows
import GoSem.ClaimSeven
namespace Go.Proofs.YthobkfkeaealhaaGreatDoor
namespace Rows

/-- THE TIED CARD OF 'gnomonlaw22.FastreduceSmall'. -/
def fastreduceSmallCard : Claim7 := { stood := { row := fastreduceSmallRow, standIns := [], harness := (true, "87ae16bbac2c8b4f62abad1eaec130bc5cb61a1e3cc9f164a433acdc41a8dde9"), looks := false }, kinds := [], alts := [], laidByText := true, laidKinds := [.data, .data], laidTests := true, laidLooks := .later }
def FastreduceSmallCardSaid : Prop := Claim7.holds Tryz.pinned (.plain (OpenSpec.ofChange fastreduceSmallSpec)) fastreduceSmallCard

/-- THE SECOND FORM's CARD OF 'gnomonlaw22.FastreduceSmall'. -/
def fastreduceSmallUptoCard : Claim7 := { stood := { row := fastreduceSmallUptoRow, standIns := [], harness := (true, "87ae16bbac2c8b4f62abad1eaec130bc5cb61a1e3cc9f164a433acdc41a8dde9"), looks := false }, kinds := [], alts := [], laidByText := true, laidKinds := [.data, .data], laidTests := true, laidLooks := .later }
def FastreduceSmallUptoCardSaid : Prop := Claim7.holds Tryz.pinned (.plain (OpenSpec.upto fastreduceSmallSpec)) fastreduceSmallUptoCard
end Rows
end Go.Proofs.YthobkfkeaealhaaGreatDoor
