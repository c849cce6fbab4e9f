/-
  DERIVED. GIVEN WITH THE SEED: THE CARDS: each row of YtabmdpfmlnnpnaaDoorRows.lean that lists a variable, with what it lists TIED to the program's text (the seventh form; the later family's looks); each row that meets fmt, with fmt's text TOLD by the authors' own Lean function (tested against real Go, not proved from fmt's source: count such statements apart). THE CARD IS WHAT COUNTS. Prove the row's statement (the work); the ties are given (YtabmdpfmlnnpnaaDoorTie.lean); close each card by the builder's one call (the guide's Derived/Test/ToyasCard.lean, 'card_holds'). Laid BY PROGRAM, IN A SANDBOX (cutbox-door.mjs). By AI agents, Wed Nov 11 2026. No macro, syntax, notation, axiom, sorry.
-/
import Derived.Test.YtabmdpfmlnnpnaaDoorRows
import GoSem.ClaimSeven
namespace Go.Proofs.YtabmdpfmlnnpnaaDoor
namespace Rows

/-- THE TIED CARD OF 'gnomonlaw23.SintableNearest'. -/
def sintableNearestCard : Claim7 := { stood := { row := sintableNearestRow, standIns := [], harness := (true, "a12e62583adb5434e1079d4da554f4d1c1f95d78e7bcead866eafd38457e9b1a"), looks := false }, kinds := [], alts := [], laidByText := true, laidKinds := [.data, .data, .data], laidTests := true, laidLooks := .later }
def SintableNearestCardSaid : Prop := Claim7.holds Tryd.pinned (.plain (OpenSpec.ofChange sintableNearestSpec)) sintableNearestCard

/-- THE TIED CARD OF 'gnomonlaw23.SintableAdds'. -/
def sintableAddsCard : Claim7 := { stood := { row := sintableAddsRow, standIns := [], harness := (true, "a12e62583adb5434e1079d4da554f4d1c1f95d78e7bcead866eafd38457e9b1a"), looks := false }, kinds := [], alts := [], laidByText := true, laidKinds := [.data, .data, .data], laidTests := true, laidLooks := .later }
def SintableAddsCardSaid : Prop := Claim7.holds Tryd.pinned (.plain (OpenSpec.ofChange sintableAddsSpec)) sintableAddsCard

/-- THE SECOND FORM's CARD OF 'gnomonlaw23.SintableNearest'. -/
def sintableNearestUptoCard : Claim7 := { stood := { row := sintableNearestUptoRow, standIns := [], harness := (true, "a12e62583adb5434e1079d4da554f4d1c1f95d78e7bcead866eafd38457e9b1a"), looks := false }, kinds := [], alts := [], laidByText := true, laidKinds := [.data, .data, .data], laidTests := true, laidLooks := .later }
def SintableNearestUptoCardSaid : Prop := Claim7.holds Tryd.pinned (.plain (OpenSpec.upto sintableNearestSpec)) sintableNearestUptoCard

/-- THE SECOND FORM's CARD OF 'gnomonlaw23.SintableAdds'. -/
def sintableAddsUptoCard : Claim7 := { stood := { row := sintableAddsUptoRow, standIns := [], harness := (true, "a12e62583adb5434e1079d4da554f4d1c1f95d78e7bcead866eafd38457e9b1a"), looks := false }, kinds := [], alts := [], laidByText := true, laidKinds := [.data, .data, .data], laidTests := true, laidLooks := .later }
def SintableAddsUptoCardSaid : Prop := Claim7.holds Tryd.pinned (.plain (OpenSpec.upto sintableAddsSpec)) sintableAddsUptoCard
end Rows
end Go.Proofs.YtabmdpfmlnnpnaaDoor
