/-
  DERIVED. GIVEN WITH THE SEED: THE CARDS: each row of YtjlblndbiggllaaDoorRows.lean that lists a variable, with what it lists TIED to the program's text (the seventh form; the later family's looks); each row that meets fmt, with fmt's text TOLD by the authors' own Lean function (tested against real Go, not proved from fmt's source: count such statements apart). THE CARD IS WHAT COUNTS. Prove the row's statement (the work); the ties are given (YtjlblndbiggllaaDoorTie.lean); close each card by the builder's one call (the guide's Derived/Test/ToyasCard.lean, 'card_holds'). Laid BY PROGRAM, IN A SANDBOX (cutbox-door.mjs). By AI agents, Wed Nov 11 2026. No macro, syntax, notation, axiom, sorry.
-/
import Derived.Test.YtjlblndbiggllaaDoorRows
import GoSem.ClaimSeven
namespace Go.Proofs.YtjlblndbiggllaaDoor
namespace Rows

/-- THE TIED CARD OF 'gnomonlaw21.PayneTable'. -/
def payneTableCard : Claim7 := { stood := { row := payneTableRow, standIns := [], harness := (true, "5c276a436393b71206f8950e405b7861a42a774f97aea439f4df632809ecbc10"), looks := false }, kinds := [], alts := [], laidByText := true, laidKinds := [.data], laidTests := true, laidLooks := .later }
def PayneTableCardSaid : Prop := Claim7.holds Tryd.pinned (.plain (OpenSpec.ofChange payneTableSpec)) payneTableCard

/-- THE TIED CARD OF 'gnomonlaw21.PayneBits'. -/
def payneBitsCard : Claim7 := { stood := { row := payneBitsRow, standIns := [], harness := (true, "5c276a436393b71206f8950e405b7861a42a774f97aea439f4df632809ecbc10"), looks := false }, kinds := [], alts := [], laidByText := true, laidKinds := [.data], laidTests := true, laidLooks := .later }
def PayneBitsCardSaid : Prop := Claim7.holds Tryd.pinned (.plain (OpenSpec.ofChange payneBitsSpec)) payneBitsCard

/-- THE SECOND FORM's CARD OF 'gnomonlaw21.PayneTable'. -/
def payneTableUptoCard : Claim7 := { stood := { row := payneTableUptoRow, standIns := [], harness := (true, "5c276a436393b71206f8950e405b7861a42a774f97aea439f4df632809ecbc10"), looks := false }, kinds := [], alts := [], laidByText := true, laidKinds := [.data], laidTests := true, laidLooks := .later }
def PayneTableUptoCardSaid : Prop := Claim7.holds Tryd.pinned (.plain (OpenSpec.upto payneTableSpec)) payneTableUptoCard

/-- THE SECOND FORM's CARD OF 'gnomonlaw21.PayneBits'. -/
def payneBitsUptoCard : Claim7 := { stood := { row := payneBitsUptoRow, standIns := [], harness := (true, "5c276a436393b71206f8950e405b7861a42a774f97aea439f4df632809ecbc10"), looks := false }, kinds := [], alts := [], laidByText := true, laidKinds := [.data], laidTests := true, laidLooks := .later }
def PayneBitsUptoCardSaid : Prop := Claim7.holds Tryd.pinned (.plain (OpenSpec.upto payneBitsSpec)) payneBitsUptoCard
end Rows
end Go.Proofs.YtjlblndbiggllaaDoor
