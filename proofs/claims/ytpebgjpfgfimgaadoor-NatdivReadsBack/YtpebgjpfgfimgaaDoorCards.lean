/-
  DERIVED. GIVEN WITH THE SEED: THE CARDS: each row of YtpebgjpfgfimgaaDoorRows.lean that lists a variable, with what it lists TIED to the program's text (the seventh form; the later family's looks); each row that meets fmt, with fmt's text TOLD by the authors' own Lean function (tested against real Go, not proved from fmt's source: count such statements apart). THE CARD IS WHAT COUNTS. Prove the row's statement (the work); the ties are given (YtpebgjpfgfimgaaDoorTie.lean); close each card by the builder's one call (the guide's Derived/Test/ToyasCard.lean, 'card_holds'). Laid BY PROGRAM, IN A SANDBOX (cutbox-door.mjs). By AI agents, Wed Nov 11 2026. No macro, syntax, notation, axiom, sorry.
-/
import Derived.Test.YtpebgjpfgfimgaaDoorRows
import GoSem.ClaimSeven
namespace Go.Proofs.YtpebgjpfgfimgaaDoor
namespace Rows

/-- THE TIED CARD OF 'gnomonlaw03.NatdivTexts'. -/
def natdivTextsCard : Claim7 := { stood := { row := natdivTextsRow, standIns := [], harness := (true, "4964fb785bd1b0bd3ef6d66d78b415c574dcfdc9a81e808d14e4244028f4fc32"), looks := false }, kinds := [], alts := [], laidByText := true, laidKinds := [.data, .data, .data, .data, .pinned], laidTests := true, laidLooks := .later }
def NatdivTextsCardSaid : Prop := Claim7.holds Tryd.pinned (.plain (OpenSpec.ofChange natdivTextsSpec)) natdivTextsCard

/-- THE TIED CARD OF 'gnomonlaw03.NatdivReadsBack'. -/
def natdivReadsBackCard : Claim7 := { stood := { row := natdivReadsBackRow, standIns := [], harness := (true, "4964fb785bd1b0bd3ef6d66d78b415c574dcfdc9a81e808d14e4244028f4fc32"), looks := false }, kinds := [], alts := [], laidByText := true, laidKinds := [.data, .data, .data, .data, .pinned], laidTests := true, laidLooks := .later }
def NatdivReadsBackCardSaid : Prop := Claim7.holds Tryd.pinned (.plain (OpenSpec.ofChange natdivReadsBackSpec)) natdivReadsBackCard

/-- THE TIED CARD OF 'gnomonlaw03.NatdivReadMemory'. -/
def natdivReadMemoryCard : Claim7 := { stood := { row := natdivReadMemoryRow, standIns := [], harness := (true, "4964fb785bd1b0bd3ef6d66d78b415c574dcfdc9a81e808d14e4244028f4fc32"), looks := false }, kinds := [], alts := [], laidByText := true, laidKinds := [.data, .data, .data, .data, .pinned], laidTests := true, laidLooks := .later }
def NatdivReadMemoryCardSaid : Prop := Claim7.holds Tryd.pinned (.plain (OpenSpec.ofChange natdivReadMemorySpec)) natdivReadMemoryCard

/-- THE SECOND FORM's CARD OF 'gnomonlaw03.NatdivTexts'. -/
def natdivTextsUptoCard : Claim7 := { stood := { row := natdivTextsUptoRow, standIns := [], harness := (true, "4964fb785bd1b0bd3ef6d66d78b415c574dcfdc9a81e808d14e4244028f4fc32"), looks := false }, kinds := [], alts := [], laidByText := true, laidKinds := [.data, .data, .data, .data, .pinned], laidTests := true, laidLooks := .later }
def NatdivTextsUptoCardSaid : Prop := Claim7.holds Tryd.pinned (.plain (OpenSpec.upto natdivTextsSpec)) natdivTextsUptoCard

/-- THE SECOND FORM's CARD OF 'gnomonlaw03.NatdivReadsBack'. -/
def natdivReadsBackUptoCard : Claim7 := { stood := { row := natdivReadsBackUptoRow, standIns := [], harness := (true, "4964fb785bd1b0bd3ef6d66d78b415c574dcfdc9a81e808d14e4244028f4fc32"), looks := false }, kinds := [], alts := [], laidByText := true, laidKinds := [.data, .data, .data, .data, .pinned], laidTests := true, laidLooks := .later }
def NatdivReadsBackUptoCardSaid : Prop := Claim7.holds Tryd.pinned (.plain (OpenSpec.upto natdivReadsBackSpec)) natdivReadsBackUptoCard

/-- THE SECOND FORM's CARD OF 'gnomonlaw03.NatdivReadMemory'. -/
def natdivReadMemoryUptoCard : Claim7 := { stood := { row := natdivReadMemoryUptoRow, standIns := [], harness := (true, "4964fb785bd1b0bd3ef6d66d78b415c574dcfdc9a81e808d14e4244028f4fc32"), looks := false }, kinds := [], alts := [], laidByText := true, laidKinds := [.data, .data, .data, .data, .pinned], laidTests := true, laidLooks := .later }
def NatdivReadMemoryUptoCardSaid : Prop := Claim7.holds Tryd.pinned (.plain (OpenSpec.upto natdivReadMemorySpec)) natdivReadMemoryUptoCard
end Rows
end Go.Proofs.YtpebgjpfgfimgaaDoor
