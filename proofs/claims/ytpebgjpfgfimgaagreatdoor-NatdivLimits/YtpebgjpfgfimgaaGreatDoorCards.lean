/-
  DERIVED. GIVEN WITH THE SEED: THE CARDS: each row of YtpebgjpfgfimgaaGreatDoorRows.lean that lists a variable, with what it lists TIED to the program's text (the seventh form; the later family's looks); each row that meets fmt, with fmt's text TOLD by the authors' own Lean function (tested against real Go, not proved from fmt's source: count such statements apart). THE CARD IS WHAT COUNTS. Prove the row's statement (the work); the ties are given (YtpebgjpfgfimgaaGreatDoorTie.lean); close each card by the builder's one call (the guide's Derived/Test/ToyasCard.lean, 'card_holds'). Laid BY PROGRAM, IN A SANDBOX (cutbox-door.mjs). By AI agents, Wed Nov 11 2026. No macro, syntax, notation, axiom, sorry.
-/
import Derived.Test.YtpebgjpfgfimgaaGreatDoorRows
import GoSem.ClaimSeven
namespace Go.Proofs.YtpebgjpfgfimgaaGreatDoor
namespace Rows

/-- THE TIED CARD OF 'gnomonlaw03.NatdivLimits'. -/
def natdivLimitsCard : Claim7 := { stood := { row := natdivLimitsRow, standIns := [], harness := (true, "39912ba0e7a31be6b8e69ae0383fd8005983b98170b24adb4e715997b60f5ee1"), looks := false }, kinds := [], alts := [], laidByText := true, laidKinds := [.data, .data, .data, .data, .pinned], laidTests := true, laidLooks := .later }
def NatdivLimitsCardSaid : Prop := Claim7.holds Tryz.pinned (.plain (OpenSpec.ofChange natdivLimitsSpec)) natdivLimitsCard

/-- THE TIED CARD OF 'gnomonlaw03.NatdivPlays'. -/
def natdivPlaysCard : Claim7 := { stood := { row := natdivPlaysRow, standIns := [], harness := (true, "39912ba0e7a31be6b8e69ae0383fd8005983b98170b24adb4e715997b60f5ee1"), looks := false }, kinds := [], alts := [], laidByText := true, laidKinds := [.data, .data, .data, .data, .pinned], laidTests := true, laidLooks := .later }
def NatdivPlaysCardSaid : Prop := Claim7.holds Tryz.pinned (.plain (OpenSpec.ofChange natdivPlaysSpec)) natdivPlaysCard

/-- THE SECOND FORM's CARD OF 'gnomonlaw03.NatdivLimits'. -/
def natdivLimitsUptoCard : Claim7 := { stood := { row := natdivLimitsUptoRow, standIns := [], harness := (true, "39912ba0e7a31be6b8e69ae0383fd8005983b98170b24adb4e715997b60f5ee1"), looks := false }, kinds := [], alts := [], laidByText := true, laidKinds := [.data, .data, .data, .data, .pinned], laidTests := true, laidLooks := .later }
def NatdivLimitsUptoCardSaid : Prop := Claim7.holds Tryz.pinned (.plain (OpenSpec.upto natdivLimitsSpec)) natdivLimitsUptoCard

/-- THE SECOND FORM's CARD OF 'gnomonlaw03.NatdivPlays'. -/
def natdivPlaysUptoCard : Claim7 := { stood := { row := natdivPlaysUptoRow, standIns := [], harness := (true, "39912ba0e7a31be6b8e69ae0383fd8005983b98170b24adb4e715997b60f5ee1"), looks := false }, kinds := [], alts := [], laidByText := true, laidKinds := [.data, .data, .data, .data, .pinned], laidTests := true, laidLooks := .later }
def NatdivPlaysUptoCardSaid : Prop := Claim7.holds Tryz.pinned (.plain (OpenSpec.upto natdivPlaysSpec)) natdivPlaysUptoCard
end Rows
end Go.Proofs.YtpebgjpfgfimgaaGreatDoor
