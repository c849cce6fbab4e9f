/-
  DERIVED. GIVEN WITH THE SEED: THE CARDS: each row of YteoccegpbonfpaaDoorRows.lean that lists a variable, with what it lists TIED to the program's text (the seventh form; the later family's looks); each row that meets fmt, with fmt's text TOLD by the authors' own Lean function (tested against real Go, not proved from fmt's source: count such statements apart). THE CARD IS WHAT COUNTS. Prove the row's statement (the work); the ties are given (YteoccegpbonfpaaDoorTie.lean); close each card by the builder's one call (the guide's Derived/Test/ToyasCard.lean, 'card_holds'). Laid BY PROGRAM, IN A SANDBOX (cutbox-door.mjs). By AI agents, Wed Nov 11 2026. No macro, syntax, notation, axiom, sorry.
-/
import Derived.Test.YteoccegpbonfpaaDoorRows
import GoSem.ClaimSeven
namespace Go.Proofs.YteoccegpbonfpaaDoor
namespace Rows

/-- THE TIED CARD OF 'gnomonlaw21.PayneTable'. -/
def payneTableCard : Claim7 := { stood := { row := payneTableRow, standIns := [], harness := (true, "d2d401f84ea467953757ac5dcc0b0bea0f1a4ae60d00f5a24c5b6ac661915bce"), looks := false }, kinds := [], alts := [], laidByText := true, laidKinds := [.data], laidTests := true, laidLooks := .later }
def PayneTableCardSaid : Prop := Claim7.holds Tryd.pinned (.plain (OpenSpec.ofChange payneTableSpec)) payneTableCard

/-- THE TIED CARD OF 'gnomonlaw21.PayneBits'. -/
def payneBitsCard : Claim7 := { stood := { row := payneBitsRow, standIns := [], harness := (true, "d2d401f84ea467953757ac5dcc0b0bea0f1a4ae60d00f5a24c5b6ac661915bce"), looks := false }, kinds := [], alts := [], laidByText := true, laidKinds := [.data], laidTests := true, laidLooks := .later }
def PayneBitsCardSaid : Prop := Claim7.holds Tryd.pinned (.plain (OpenSpec.ofChange payneBitsSpec)) payneBitsCard

/-- THE TIED CARD OF 'gnomonlaw21.PayneWindows'. -/
def payneWindowsCard : Claim7 := { stood := { row := payneWindowsRow, standIns := [], harness := (true, "d2d401f84ea467953757ac5dcc0b0bea0f1a4ae60d00f5a24c5b6ac661915bce"), looks := false }, kinds := [], alts := [], laidByText := true, laidKinds := [.data], laidTests := true, laidLooks := .later }
def PayneWindowsCardSaid : Prop := Claim7.holds Tryd.pinned (.plain (OpenSpec.ofChange payneWindowsSpec)) payneWindowsCard

/-- THE TIED CARD OF 'gnomonlaw21.PayneWords'. -/
def payneWordsCard : Claim7 := { stood := { row := payneWordsRow, standIns := [], harness := (true, "d2d401f84ea467953757ac5dcc0b0bea0f1a4ae60d00f5a24c5b6ac661915bce"), looks := false }, kinds := [], alts := [], laidByText := true, laidKinds := [.data], laidTests := true, laidLooks := .later }
def PayneWordsCardSaid : Prop := Claim7.holds Tryd.pinned (.plain (OpenSpec.ofChange payneWordsSpec)) payneWordsCard

/-- THE SECOND FORM's CARD OF 'gnomonlaw21.PayneTable'. -/
def payneTableUptoCard : Claim7 := { stood := { row := payneTableUptoRow, standIns := [], harness := (true, "d2d401f84ea467953757ac5dcc0b0bea0f1a4ae60d00f5a24c5b6ac661915bce"), looks := false }, kinds := [], alts := [], laidByText := true, laidKinds := [.data], laidTests := true, laidLooks := .later }
def PayneTableUptoCardSaid : Prop := Claim7.holds Tryd.pinned (.plain (OpenSpec.upto payneTableSpec)) payneTableUptoCard

/-- THE SECOND FORM's CARD OF 'gnomonlaw21.PayneBits'. -/
def payneBitsUptoCard : Claim7 := { stood := { row := payneBitsUptoRow, standIns := [], harness := (true, "d2d401f84ea467953757ac5dcc0b0bea0f1a4ae60d00f5a24c5b6ac661915bce"), looks := false }, kinds := [], alts := [], laidByText := true, laidKinds := [.data], laidTests := true, laidLooks := .later }
def PayneBitsUptoCardSaid : Prop := Claim7.holds Tryd.pinned (.plain (OpenSpec.upto payneBitsSpec)) payneBitsUptoCard

/-- THE SECOND FORM's CARD OF 'gnomonlaw21.PayneWindows'. -/
def payneWindowsUptoCard : Claim7 := { stood := { row := payneWindowsUptoRow, standIns := [], harness := (true, "d2d401f84ea467953757ac5dcc0b0bea0f1a4ae60d00f5a24c5b6ac661915bce"), looks := false }, kinds := [], alts := [], laidByText := true, laidKinds := [.data], laidTests := true, laidLooks := .later }
def PayneWindowsUptoCardSaid : Prop := Claim7.holds Tryd.pinned (.plain (OpenSpec.upto payneWindowsSpec)) payneWindowsUptoCard

/-- THE SECOND FORM's CARD OF 'gnomonlaw21.PayneWords'. -/
def payneWordsUptoCard : Claim7 := { stood := { row := payneWordsUptoRow, standIns := [], harness := (true, "d2d401f84ea467953757ac5dcc0b0bea0f1a4ae60d00f5a24c5b6ac661915bce"), looks := false }, kinds := [], alts := [], laidByText := true, laidKinds := [.data], laidTests := true, laidLooks := .later }
def PayneWordsUptoCardSaid : Prop := Claim7.holds Tryd.pinned (.plain (OpenSpec.upto payneWordsSpec)) payneWordsUptoCard
end Rows
end Go.Proofs.YteoccegpbonfpaaDoor
