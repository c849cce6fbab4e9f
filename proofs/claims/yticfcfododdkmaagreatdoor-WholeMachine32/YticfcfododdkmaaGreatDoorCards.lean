/-
  DERIVED. GIVEN WITH THE SEED: THE CARDS: each row of YticfcfododdkmaaGreatDoorRows.lean that lists a variable, with what it lists TIED to the program's text (the seventh form; the later family's looks); each row that meets fmt, with fmt's text TOLD by the authors' own Lean function (tested against real Go, not proved from fmt's source: count such statements apart). THE CARD IS WHAT COUNTS. Prove the row's statement (the work); the ties are given (YticfcfododdkmaaGreatDoorTie.lean); close each card by the builder's one call (the guide's Derived/Test/ToyasCard.lean, 'card_holds'). Laid BY PROGRAM, IN A SANDBOX (cutbox-door.mjs). By AI agents, Wed Nov 11 2026. No macro, syntax, notation, axiom, sorry.
-/
import Derived.Test.YticfcfododdkmaaGreatDoorRows
import GoSem.ClaimSeven
namespace Go.Proofs.YticfcfododdkmaaGreatDoor
namespace Rows

/-- THE TIED CARD OF 'gnomontop.WholeMachine32'. -/
def wholeMachine32Card : Claim7 := { stood := { row := wholeMachine32Row, standIns := [], harness := (true, "7bcc3f9b678f2c4aeb5ea3848097ace3f93c1c4acffc09247a300a94d7773c13"), looks := true }, kinds := [], alts := [], laidByText := true, laidKinds := [.data], laidTests := true, laidLooks := .later }
def WholeMachine32CardSaid : Prop := Claim7.holds Tryz.pinned (.plain (OpenSpec.ofChange wholeMachine32Spec)) wholeMachine32Card

/-- THE TIED CARD OF 'gnomontop.WholeMachine'. -/
def wholeMachineCard : Claim7 := { stood := { row := wholeMachineRow, standIns := [], harness := (true, "7bcc3f9b678f2c4aeb5ea3848097ace3f93c1c4acffc09247a300a94d7773c13"), looks := true }, kinds := [], alts := [], laidByText := true, laidKinds := [.data], laidTests := true, laidLooks := .later }
def WholeMachineCardSaid : Prop := Claim7.holds Tryz.pinned (.plain (OpenSpec.ofChange wholeMachineSpec)) wholeMachineCard

/-- THE SECOND FORM's CARD OF 'gnomontop.WholeMachine32'. -/
def wholeMachine32UptoCard : Claim7 := { stood := { row := wholeMachine32UptoRow, standIns := [], harness := (true, "7bcc3f9b678f2c4aeb5ea3848097ace3f93c1c4acffc09247a300a94d7773c13"), looks := true }, kinds := [], alts := [], laidByText := true, laidKinds := [.data], laidTests := true, laidLooks := .later }
def WholeMachine32UptoCardSaid : Prop := Claim7.holds Tryz.pinned (.plain (OpenSpec.upto wholeMachine32Spec)) wholeMachine32UptoCard

/-- THE SECOND FORM's CARD OF 'gnomontop.WholeMachine'. -/
def wholeMachineUptoCard : Claim7 := { stood := { row := wholeMachineUptoRow, standIns := [], harness := (true, "7bcc3f9b678f2c4aeb5ea3848097ace3f93c1c4acffc09247a300a94d7773c13"), looks := true }, kinds := [], alts := [], laidByText := true, laidKinds := [.data], laidTests := true, laidLooks := .later }
def WholeMachineUptoCardSaid : Prop := Claim7.holds Tryz.pinned (.plain (OpenSpec.upto wholeMachineSpec)) wholeMachineUptoCard
end Rows
end Go.Proofs.YticfcfododdkmaaGreatDoor
