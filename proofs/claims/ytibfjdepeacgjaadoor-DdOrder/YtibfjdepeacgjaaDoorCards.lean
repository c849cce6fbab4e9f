/-
  DERIVED. GIVEN WITH THE SEED: THE CARDS: each row of YtibfjdepeacgjaaDoorRows.lean that lists a variable, with what it lists TIED to the program's text (the seventh form; the later family's looks); each row that meets fmt, with fmt's text TOLD by the authors' own Lean function (tested against real Go, not proved from fmt's source: count such statements apart). THE CARD IS WHAT COUNTS. Prove the row's statement (the work); the ties are given (YtibfjdepeacgjaaDoorTie.lean); close each card by the builder's one call (the guide's Derived/Test/ToyasCard.lean, 'card_holds'). Laid BY PROGRAM, IN A SANDBOX (cutbox-door.mjs). By AI agents, Wed Nov 11 2026. No macro, syntax, notation, axiom, sorry.
-/
import Derived.Test.YtibfjdepeacgjaaDoorRows
import GoSem.ClaimSeven
namespace Go.Proofs.YtibfjdepeacgjaaDoor
namespace Rows

/-- THE TIED CARD OF 'gnomonlaw20.DdOrder'. -/
def ddOrderCard : Claim7 := { stood := { row := ddOrderRow, standIns := [], harness := (true, "d6f87d51b6d37e1fe6d2becd98871636e47ea7abfaddb1886e2b2f378cc35131"), looks := false }, kinds := [], alts := [], laidByText := true, laidKinds := [.data], laidTests := true, laidLooks := .later }
def DdOrderCardSaid : Prop := Claim7.holds Tryd.pinned (.plain (OpenSpec.ofChange ddOrderSpec)) ddOrderCard

/-- THE SECOND FORM's CARD OF 'gnomonlaw20.DdOrder'. -/
def ddOrderUptoCard : Claim7 := { stood := { row := ddOrderUptoRow, standIns := [], harness := (true, "d6f87d51b6d37e1fe6d2becd98871636e47ea7abfaddb1886e2b2f378cc35131"), looks := false }, kinds := [], alts := [], laidByText := true, laidKinds := [.data], laidTests := true, laidLooks := .later }
def DdOrderUptoCardSaid : Prop := Claim7.holds Tryd.pinned (.plain (OpenSpec.upto ddOrderSpec)) ddOrderUptoCard
end Rows
end Go.Proofs.YtibfjdepeacgjaaDoor
