/-
  DERIVED. GIVEN WITH THE SEED: THE CARDS: each row of YtdmdbdpgdcdifaaGreatDoorRows.lean that lists a variable, with what it lists TIED to the program's text (the seventh form; the later family's looks); each row that meets fmt, with fmt's text TOLD by the authors' own Lean function (tested against real Go, not proved from fmt's source: count such statements apart). THE CARD IS WHAT COUNTS. Prove the row's statement (the work); the ties are given (YtdmdbdpgdcdifaaGreatDoorTie.lean); close each card by the builder's one call (the guide's Derived/Test/ToyasCard.lean, 'card_holds'). Laid BY PROGRAM, IN A SANDBOX (cutbox-door.mjs). By AI agents, Wed Nov 11 2026. No macro, syntax, notation, axiom, sorry.
-/
import Derived.Test.YtdmdbdpgdcdifaaGreatDoorRows
import GoSem.ClaimSeven
namespace Go.Proofs.YtdmdbdpgdcdifaaGreatDoor
namespace Rows

/-- THE TIED CARD OF 'gnomonlaw10.HexfloatSigns'. -/
def hexfloatSignsCard : Claim7 := { stood := { row := hexfloatSignsRow, standIns := [], harness := (true, "dfae27e21aa512e3f1de64ea42584c0024e23364a176ecfa9a62a7882f615fad"), looks := true }, kinds := [], alts := [], laidByText := true, laidKinds := [.data, .data, .data, .data, .sentinel, .sentinel, .pinned], laidTests := true, laidLooks := .later }
def HexfloatSignsCardSaid : Prop := Claim7.holds Tryz.pinned (.plain (OpenSpec.ofChange hexfloatSignsSpec)) hexfloatSignsCard

/-- THE TIED CARD OF 'gnomonlaw10.HexfloatStrange'. -/
def hexfloatStrangeCard : Claim7 := { stood := { row := hexfloatStrangeRow, standIns := [], harness := (true, "dfae27e21aa512e3f1de64ea42584c0024e23364a176ecfa9a62a7882f615fad"), looks := true }, kinds := [], alts := [], laidByText := true, laidKinds := [.data, .data, .data, .data, .sentinel, .sentinel, .pinned], laidTests := true, laidLooks := .later }
def HexfloatStrangeCardSaid : Prop := Claim7.holds Tryz.pinned (.plain (OpenSpec.ofChange hexfloatStrangeSpec)) hexfloatStrangeCard

/-- THE SECOND FORM's CARD OF 'gnomonlaw10.HexfloatSigns'. -/
def hexfloatSignsUptoCard : Claim7 := { stood := { row := hexfloatSignsUptoRow, standIns := [], harness := (true, "dfae27e21aa512e3f1de64ea42584c0024e23364a176ecfa9a62a7882f615fad"), looks := true }, kinds := [], alts := [], laidByText := true, laidKinds := [.data, .data, .data, .data, .sentinel, .sentinel, .pinned], laidTests := true, laidLooks := .later }
def HexfloatSignsUptoCardSaid : Prop := Claim7.holds Tryz.pinned (.plain (OpenSpec.upto hexfloatSignsSpec)) hexfloatSignsUptoCard

/-- THE SECOND FORM's CARD OF 'gnomonlaw10.HexfloatStrange'. -/
def hexfloatStrangeUptoCard : Claim7 := { stood := { row := hexfloatStrangeUptoRow, standIns := [], harness := (true, "dfae27e21aa512e3f1de64ea42584c0024e23364a176ecfa9a62a7882f615fad"), looks := true }, kinds := [], alts := [], laidByText := true, laidKinds := [.data, .data, .data, .data, .sentinel, .sentinel, .pinned], laidTests := true, laidLooks := .later }
def HexfloatStrangeUptoCardSaid : Prop := Claim7.holds Tryz.pinned (.plain (OpenSpec.upto hexfloatStrangeSpec)) hexfloatStrangeUptoCard
end Rows
end Go.Proofs.YtdmdbdpgdcdifaaGreatDoor
