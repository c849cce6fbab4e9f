/-
  DERIVED. GIVEN WITH THE SEED: THE CARDS: each row of YtccdaadcpbjgaaaGreatDoorRows.lean that lists a variable, with what it lists TIED to the program's text (the seventh form; the later family's looks); each row that meets fmt, with fmt's text TOLD by the authors' own Lean function (tested against real Go, not proved from fmt's source: count such statements apart). THE CARD IS WHAT COUNTS. Prove the row's statement (the work); the ties are given (YtccdaadcpbjgaaaGreatDoorTie.lean); close each card by the builder's one call (the guide's Derived/Test/ToyasCard.lean, 'card_holds'). Laid BY PROGRAM, IN A SANDBOX (cutbox-door.mjs). By AI agents, Wed Nov 11 2026. No macro, syntax, notation, axiom, sorry.
-/
import Derived.Test.YtccdaadcpbjgaaaGreatDoorRows
import GoSem.ClaimSeven
namespace Go.Proofs.YtccdaadcpbjgaaaGreatDoor
namespace Rows

/-- THE TIED CARD OF 'gnomonlaw20.DdSplits'. -/
def ddSplitsCard : Claim7 := { stood := { row := ddSplitsRow, standIns := [], harness := (true, "7bf6c46249276332fc31a6c4d78531723abcc07609ca577652823fcdc80d252c"), looks := false }, kinds := [], alts := [], laidByText := true, laidKinds := [.data], laidTests := true, laidLooks := .later }
def DdSplitsCardSaid : Prop := Claim7.holds Tryz.pinned (.plain (OpenSpec.ofChange ddSplitsSpec)) ddSplitsCard

/-- THE SECOND FORM's CARD OF 'gnomonlaw20.DdSplits'. -/
def ddSplitsUptoCard : Claim7 := { stood := { row := ddSplitsUptoRow, standIns := [], harness := (true, "7bf6c46249276332fc31a6c4d78531723abcc07609ca577652823fcdc80d252c"), looks := false }, kinds := [], alts := [], laidByText := true, laidKinds := [.data], laidTests := true, laidLooks := .later }
def DdSplitsUptoCardSaid : Prop := Claim7.holds Tryz.pinned (.plain (OpenSpec.upto ddSplitsSpec)) ddSplitsUptoCard
end Rows
end Go.Proofs.YtccdaadcpbjgaaaGreatDoor
