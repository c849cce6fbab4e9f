/-
  DERIVED. GIVEN WITH THE SEED: THE CARDS: each row of YtoajipejnmjdoaaGreatDoorRows.lean that lists a variable, with what it lists TIED to the program's text (the seventh form; the later family's looks); each row that meets fmt, with fmt's text TOLD by the authors' own Lean function (tested against real Go, not proved from fmt's source: count such statements apart). THE CARD IS WHAT COUNTS. Prove the row's statement (the work); the ties are given (YtoajipejnmjdoaaGreatDoorTie.lean); close each card by the builder's one call (the guide's Derived/Test/ToyasCard.lean, 'card_holds'). Laid BY PROGRAM, IN A SANDBOX (cutbox-door.mjs). By AI agents, Wed Nov 11 2026. No macro, syntax, notation, axiom, sorry.
-/
import Derived.Test.YtoajipejnmjdoaaGreatDoorRows
import GoSem.ClaimSeven
namespace Go.Proofs.YtoajipejnmjdoaaGreatDoor
namespace Rows

/-- THE TIED CARD OF 'gnomonlaw05.DyadicSums'. -/
def dyadicSumsCard : Claim7 := { stood := { row := dyadicSumsRow, standIns := [], harness := (true, "45ae0091355c9e78811d6d3fae8e82b098ba5addc28d76d322ad77b5c9821e60"), looks := false }, kinds := [], alts := [], laidByText := true, laidKinds := [.data], laidTests := true, laidLooks := .later }
def DyadicSumsCardSaid : Prop := Claim7.holds Tryz.pinned (.plain (OpenSpec.ofChange dyadicSumsSpec)) dyadicSumsCard

/-- THE TIED CARD OF 'gnomonlaw05.DyadicCuts'. -/
def dyadicCutsCard : Claim7 := { stood := { row := dyadicCutsRow, standIns := [], harness := (true, "45ae0091355c9e78811d6d3fae8e82b098ba5addc28d76d322ad77b5c9821e60"), looks := false }, kinds := [], alts := [], laidByText := true, laidKinds := [.data], laidTests := true, laidLooks := .later }
def DyadicCutsCardSaid : Prop := Claim7.holds Tryz.pinned (.plain (OpenSpec.ofChange dyadicCutsSpec)) dyadicCutsCard

/-- THE TIED CARD OF 'gnomonlaw05.DyadicForms'. -/
def dyadicFormsCard : Claim7 := { stood := { row := dyadicFormsRow, standIns := [], harness := (true, "45ae0091355c9e78811d6d3fae8e82b098ba5addc28d76d322ad77b5c9821e60"), looks := false }, kinds := [], alts := [], laidByText := true, laidKinds := [.data], laidTests := true, laidLooks := .later }
def DyadicFormsCardSaid : Prop := Claim7.holds Tryz.pinned (.plain (OpenSpec.ofChange dyadicFormsSpec)) dyadicFormsCard

/-- THE SECOND FORM's CARD OF 'gnomonlaw05.DyadicSums'. -/
def dyadicSumsUptoCard : Claim7 := { stood := { row := dyadicSumsUptoRow, standIns := [], harness := (true, "45ae0091355c9e78811d6d3fae8e82b098ba5addc28d76d322ad77b5c9821e60"), looks := false }, kinds := [], alts := [], laidByText := true, laidKinds := [.data], laidTests := true, laidLooks := .later }
def DyadicSumsUptoCardSaid : Prop := Claim7.holds Tryz.pinned (.plain (OpenSpec.upto dyadicSumsSpec)) dyadicSumsUptoCard

/-- THE SECOND FORM's CARD OF 'gnomonlaw05.DyadicCuts'. -/
def dyadicCutsUptoCard : Claim7 := { stood := { row := dyadicCutsUptoRow, standIns := [], harness := (true, "45ae0091355c9e78811d6d3fae8e82b098ba5addc28d76d322ad77b5c9821e60"), looks := false }, kinds := [], alts := [], laidByText := true, laidKinds := [.data], laidTests := true, laidLooks := .later }
def DyadicCutsUptoCardSaid : Prop := Claim7.holds Tryz.pinned (.plain (OpenSpec.upto dyadicCutsSpec)) dyadicCutsUptoCard

/-- THE SECOND FORM's CARD OF 'gnomonlaw05.DyadicForms'. -/
def dyadicFormsUptoCard : Claim7 := { stood := { row := dyadicFormsUptoRow, standIns := [], harness := (true, "45ae0091355c9e78811d6d3fae8e82b098ba5addc28d76d322ad77b5c9821e60"), looks := false }, kinds := [], alts := [], laidByText := true, laidKinds := [.data], laidTests := true, laidLooks := .later }
def DyadicFormsUptoCardSaid : Prop := Claim7.holds Tryz.pinned (.plain (OpenSpec.upto dyadicFormsSpec)) dyadicFormsUptoCard
end Rows
end Go.Proofs.YtoajipejnmjdoaaGreatDoor
