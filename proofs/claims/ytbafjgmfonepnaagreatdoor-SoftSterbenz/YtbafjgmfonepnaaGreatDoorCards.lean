/-
  DERIVED. GIVEN WITH THE SEED: THE CARDS: each row of YtbafjgmfonepnaaGreatDoorRows.lean that lists a variable, with what it lists TIED to the program's text (the seventh form; the later family's looks); each row that meets fmt, with fmt's text TOLD by the authors' own Lean function (tested against real Go, not proved from fmt's source: count such statements apart). THE CARD IS WHAT COUNTS. Prove the row's statement (the work); the ties are given (YtbafjgmfonepnaaGreatDoorTie.lean); close each card by the builder's one call (the guide's Derived/Test/ToyasCard.lean, 'card_holds'). Laid BY PROGRAM, IN A SANDBOX (cutbox-door.mjs). By AI agents, Wed Nov 11 2026. No macro, syntax, notation, axiom, sorry.
-/
import Derived.Test.YtbafjgmfonepnaaGreatDoorRows
import GoSem.ClaimSeven
namespace Go.Proofs.YtbafjgmfonepnaaGreatDoor
namespace Rows

/-- THE TIED CARD OF 'gnomonlaw09.SoftSterbenz'. -/
def softSterbenzCard : Claim7 := { stood := { row := softSterbenzRow, standIns := [], harness := (true, "f2639f5fdff383be368123074224aa406b7f01e03dde8fa792852c738472bfe1"), looks := true }, kinds := [], alts := [], laidByText := true, laidKinds := [.data], laidTests := true, laidLooks := .later }
def SoftSterbenzCardSaid : Prop := Claim7.holds Tryz.pinned (.plain (OpenSpec.ofChange softSterbenzSpec)) softSterbenzCard

/-- THE TIED CARD OF 'gnomonlaw09.SoftNearest'. -/
def softNearestCard : Claim7 := { stood := { row := softNearestRow, standIns := [], harness := (true, "f2639f5fdff383be368123074224aa406b7f01e03dde8fa792852c738472bfe1"), looks := true }, kinds := [], alts := [], laidByText := true, laidKinds := [.data], laidTests := true, laidLooks := .later }
def SoftNearestCardSaid : Prop := Claim7.holds Tryz.pinned (.plain (OpenSpec.ofChange softNearestSpec)) softNearestCard

/-- THE TIED CARD OF 'gnomonlaw09.SoftErrors'. -/
def softErrorsCard : Claim7 := { stood := { row := softErrorsRow, standIns := [], harness := (true, "f2639f5fdff383be368123074224aa406b7f01e03dde8fa792852c738472bfe1"), looks := true }, kinds := [], alts := [], laidByText := true, laidKinds := [.data], laidTests := true, laidLooks := .later }
def SoftErrorsCardSaid : Prop := Claim7.holds Tryz.pinned (.plain (OpenSpec.ofChange softErrorsSpec)) softErrorsCard

/-- THE SECOND FORM's CARD OF 'gnomonlaw09.SoftSterbenz'. -/
def softSterbenzUptoCard : Claim7 := { stood := { row := softSterbenzUptoRow, standIns := [], harness := (true, "f2639f5fdff383be368123074224aa406b7f01e03dde8fa792852c738472bfe1"), looks := true }, kinds := [], alts := [], laidByText := true, laidKinds := [.data], laidTests := true, laidLooks := .later }
def SoftSterbenzUptoCardSaid : Prop := Claim7.holds Tryz.pinned (.plain (OpenSpec.upto softSterbenzSpec)) softSterbenzUptoCard

/-- THE SECOND FORM's CARD OF 'gnomonlaw09.SoftNearest'. -/
def softNearestUptoCard : Claim7 := { stood := { row := softNearestUptoRow, standIns := [], harness := (true, "f2639f5fdff383be368123074224aa406b7f01e03dde8fa792852c738472bfe1"), looks := true }, kinds := [], alts := [], laidByText := true, laidKinds := [.data], laidTests := true, laidLooks := .later }
def SoftNearestUptoCardSaid : Prop := Claim7.holds Tryz.pinned (.plain (OpenSpec.upto softNearestSpec)) softNearestUptoCard

/-- THE SECOND FORM's CARD OF 'gnomonlaw09.SoftErrors'. -/
def softErrorsUptoCard : Claim7 := { stood := { row := softErrorsUptoRow, standIns := [], harness := (true, "f2639f5fdff383be368123074224aa406b7f01e03dde8fa792852c738472bfe1"), looks := true }, kinds := [], alts := [], laidByText := true, laidKinds := [.data], laidTests := true, laidLooks := .later }
def SoftErrorsUptoCardSaid : Prop := Claim7.holds Tryz.pinned (.plain (OpenSpec.upto softErrorsSpec)) softErrorsUptoCard
end Rows
end Go.Proofs.YtbafjgmfonepnaaGreatDoor
