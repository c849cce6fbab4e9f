/-
  DERIVED. GIVEN WITH THE SEED: THE CARDS: each row of YteooedpaeddkcaaDoorRows.lean that lists a variable, with what it lists TIED to the program's text (the seventh form; the later family's looks); each row that meets fmt, with fmt's text TOLD by the authors' own Lean function (tested against real Go, not proved from fmt's source: count such statements apart). THE CARD IS WHAT COUNTS. Prove the row's statement (the work); the ties are given (YteooedpaeddkcaaDoorTie.lean); close each card by the builder's one call (the guide's Derived/Test/ToyasCard.lean, 'card_holds'). Laid BY PROGRAM, IN A SANDBOX (cutbox-door.mjs). By AI agents, Wed Nov 11 2026. No macro, syntax, notation, axiom, sorry.
-/
import Derived.Test.YteooedpaeddkcaaDoorRows
import GoSem.ClaimSeven
namespace Go.Proofs.YteooedpaeddkcaaDoor
namespace Rows

/-- THE TIED CARD OF 'gnomonlaw03.NatdivReadMemory'. -/
def natdivReadMemoryCard : Claim7 := { stood := { row := natdivReadMemoryRow, standIns := [], harness := (true, "8b16d5012b3e2649f9174815f34df3451f0ac409e252aff121de3dbf34ae9992"), looks := false }, kinds := [], alts := [], laidByText := true, laidKinds := [.data, .data, .data, .data, .pinned], laidTests := true, laidLooks := .later }
def NatdivReadMemoryCardSaid : Prop := Claim7.holds Tryd.pinned (.plain (OpenSpec.ofChange natdivReadMemorySpec)) natdivReadMemoryCard

/-- THE SECOND FORM's CARD OF 'gnomonlaw03.NatdivReadMemory'. -/
def natdivReadMemoryUptoCard : Claim7 := { stood := { row := natdivReadMemoryUptoRow, standIns := [], harness := (true, "8b16d5012b3e2649f9174815f34df3451f0ac409e252aff121de3dbf34ae9992"), looks := false }, kinds := [], alts := [], laidByText := true, laidKinds := [.data, .data, .data, .data, .pinned], laidTests := true, laidLooks := .later }
def NatdivReadMemoryUptoCardSaid : Prop := Claim7.holds Tryd.pinned (.plain (OpenSpec.upto natdivReadMemorySpec)) natdivReadMemoryUptoCard
end Rows
end Go.Proofs.YteooedpaeddkcaaDoor
