/-
  DERIVED. GIVEN WITH THE SEED: THE CARDS: each row of YtfofoookdlaipaaGreatDoorRows.lean that lists a variable, with what it lists TIED to the program's text (the seventh form; the later family's looks); each row that meets fmt, with fmt's text TOLD by the authors' own Lean function (tested against real Go, not proved from fmt's source: count such statements apart). THE CARD IS WHAT COUNTS. Prove the row's statement (the work); the ties are given (YtfofoookdlaipaaGreatDoorTie.lean); close each card by the builder's one call (the guide's Derived/Test/ToyasCard.lean, 'card_holds'). Laid BY PROGRAM, IN A SANDBOX (cutbox-door.mjs). By AI agents, Wed Nov 11 2026. No macro, syntax, notation, axiom, sorry.
-/
import Derived.Test.YtfofoookdlaipaaGreatDoorRows
import GoSem.ClaimSeven
namespace Go.Proofs.YtfofoookdlaipaaGreatDoor
namespace Rows

/-- THE TIED CARD OF 'gnomontop.WholeNearest'. -/
def wholeNearestCard : Claim7 := { stood := { row := wholeNearestRow, standIns := [], harness := (true, "d54a6b2b1455911c54dddca9d82e979e01105decc5bf8bd55caaa0f402632cf9"), looks := false }, kinds := [], alts := [], laidByText := true, laidKinds := [.data], laidTests := true, laidLooks := .later }
def WholeNearestCardSaid : Prop := Claim7.holds Tryz.pinned (.plain (OpenSpec.ofChange wholeNearestSpec)) wholeNearestCard

/-- THE TIED CARD OF 'gnomonlaw08.RoundQuoted'. -/
def roundQuotedCard : Claim7 := { stood := { row := roundQuotedRow, standIns := [], harness := (true, "d54a6b2b1455911c54dddca9d82e979e01105decc5bf8bd55caaa0f402632cf9"), looks := false }, kinds := [], alts := [], laidByText := true, laidKinds := [.data], laidTests := true, laidLooks := .later }
def RoundQuotedCardSaid : Prop := Claim7.holds Tryz.pinned (.plain (OpenSpec.ofChange roundQuotedSpec)) roundQuotedCard

/-- THE TIED CARD OF 'gnomonlaw08.RoundRooted'. -/
def roundRootedCard : Claim7 := { stood := { row := roundRootedRow, standIns := [], harness := (true, "d54a6b2b1455911c54dddca9d82e979e01105decc5bf8bd55caaa0f402632cf9"), looks := false }, kinds := [], alts := [], laidByText := true, laidKinds := [.data], laidTests := true, laidLooks := .later }
def RoundRootedCardSaid : Prop := Claim7.holds Tryz.pinned (.plain (OpenSpec.ofChange roundRootedSpec)) roundRootedCard

/-- THE SECOND FORM's CARD OF 'gnomontop.WholeNearest'. -/
def wholeNearestUptoCard : Claim7 := { stood := { row := wholeNearestUptoRow, standIns := [], harness := (true, "d54a6b2b1455911c54dddca9d82e979e01105decc5bf8bd55caaa0f402632cf9"), looks := false }, kinds := [], alts := [], laidByText := true, laidKinds := [.data], laidTests := true, laidLooks := .later }
def WholeNearestUptoCardSaid : Prop := Claim7.holds Tryz.pinned (.plain (OpenSpec.upto wholeNearestSpec)) wholeNearestUptoCard

/-- THE SECOND FORM's CARD OF 'gnomonlaw08.RoundQuoted'. -/
def roundQuotedUptoCard : Claim7 := { stood := { row := roundQuotedUptoRow, standIns := [], harness := (true, "d54a6b2b1455911c54dddca9d82e979e01105decc5bf8bd55caaa0f402632cf9"), looks := false }, kinds := [], alts := [], laidByText := true, laidKinds := [.data], laidTests := true, laidLooks := .later }
def RoundQuotedUptoCardSaid : Prop := Claim7.holds Tryz.pinned (.plain (OpenSpec.upto roundQuotedSpec)) roundQuotedUptoCard

/-- THE SECOND FORM's CARD OF 'gnomonlaw08.RoundRooted'. -/
def roundRootedUptoCard : Claim7 := { stood := { row := roundRootedUptoRow, standIns := [], harness := (true, "d54a6b2b1455911c54dddca9d82e979e01105decc5bf8bd55caaa0f402632cf9"), looks := false }, kinds := [], alts := [], laidByText := true, laidKinds := [.data], laidTests := true, laidLooks := .later }
def RoundRootedUptoCardSaid : Prop := Claim7.holds Tryz.pinned (.plain (OpenSpec.upto roundRootedSpec)) roundRootedUptoCard
end Rows
end Go.Proofs.YtfofoookdlaipaaGreatDoor
