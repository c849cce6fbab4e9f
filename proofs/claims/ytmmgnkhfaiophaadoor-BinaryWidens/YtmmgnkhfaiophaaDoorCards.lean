/-
  DERIVED. GIVEN WITH THE SEED: THE CARDS: each row of YtmmgnkhfaiophaaDoorRows.lean that lists a variable, with what it lists TIED to the program's text (the seventh form; the later family's looks); each row that meets fmt, with fmt's text TOLD by the authors' own Lean function (tested against real Go, not proved from fmt's source: count such statements apart). THE CARD IS WHAT COUNTS. Prove the row's statement (the work); the ties are given (YtmmgnkhfaiophaaDoorTie.lean); close each card by the builder's one call (the guide's Derived/Test/ToyasCard.lean, 'card_holds'). Laid BY PROGRAM, IN A SANDBOX (cutbox-door.mjs). By AI agents, Wed Nov 11 2026. No macro, syntax, notation, axiom, sorry.
-/
import Derived.Test.YtmmgnkhfaiophaaDoorRows
import GoSem.ClaimSeven
namespace Go.Proofs.YtmmgnkhfaiophaaDoor
namespace Rows

/-- THE TIED CARD OF 'gnomonlaw07.BinaryWidens'. -/
def binaryWidensCard : Claim7 := { stood := { row := binaryWidensRow, standIns := [], harness := (true, "bb84fe596730241865f49e26295ea6e7e9dd9d17f85151ec7a4f6f631355eb54"), looks := false }, kinds := [], alts := [], laidByText := true, laidKinds := [.data], laidTests := true, laidLooks := .later }
def BinaryWidensCardSaid : Prop := Claim7.holds Tryd.pinned (.plain (OpenSpec.ofChange binaryWidensSpec)) binaryWidensCard

/-- THE TIED CARD OF 'gnomonlaw07.BinarySteps'. -/
def binaryStepsCard : Claim7 := { stood := { row := binaryStepsRow, standIns := [], harness := (true, "bb84fe596730241865f49e26295ea6e7e9dd9d17f85151ec7a4f6f631355eb54"), looks := false }, kinds := [], alts := [], laidByText := true, laidKinds := [.data], laidTests := true, laidLooks := .later }
def BinaryStepsCardSaid : Prop := Claim7.holds Tryd.pinned (.plain (OpenSpec.ofChange binaryStepsSpec)) binaryStepsCard

/-- THE SECOND FORM's CARD OF 'gnomonlaw07.BinaryWidens'. -/
def binaryWidensUptoCard : Claim7 := { stood := { row := binaryWidensUptoRow, standIns := [], harness := (true, "bb84fe596730241865f49e26295ea6e7e9dd9d17f85151ec7a4f6f631355eb54"), looks := false }, kinds := [], alts := [], laidByText := true, laidKinds := [.data], laidTests := true, laidLooks := .later }
def BinaryWidensUptoCardSaid : Prop := Claim7.holds Tryd.pinned (.plain (OpenSpec.upto binaryWidensSpec)) binaryWidensUptoCard

/-- THE SECOND FORM's CARD OF 'gnomonlaw07.BinarySteps'. -/
def binaryStepsUptoCard : Claim7 := { stood := { row := binaryStepsUptoRow, standIns := [], harness := (true, "bb84fe596730241865f49e26295ea6e7e9dd9d17f85151ec7a4f6f631355eb54"), looks := false }, kinds := [], alts := [], laidByText := true, laidKinds := [.data], laidTests := true, laidLooks := .later }
def BinaryStepsUptoCardSaid : Prop := Claim7.holds Tryd.pinned (.plain (OpenSpec.upto binaryStepsSpec)) binaryStepsUptoCard
end Rows
end Go.Proofs.YtmmgnkhfaiophaaDoor
