/-
  DERIVED. GIVEN WITH THE SEED: THE CARDS: each row of YthfjjadgejmnfaaDoorRows.lean that lists a variable, with what it lists TIED to the program's text (the seventh form; the later family's looks); each row that meets fmt, with fmt's text TOLD by the authors' own Lean function (tested against real Go, not proved from fmt's source: count such statements apart). THE CARD IS WHAT COUNTS. Prove the row's statement (the work); the ties are given (YthfjjadgejmnfaaDoorTie.lean); close each card by the builder's one call (the guide's Derived/Test/ToyasCard.lean, 'card_holds'). Laid BY PROGRAM, IN A SANDBOX (cutbox-door.mjs). By AI agents, Wed Nov 11 2026. No macro, syntax, notation, axiom, sorry.
-/
import Derived.Test.YthfjjadgejmnfaaDoorRows
import GoSem.ClaimSeven
namespace Go.Proofs.YthfjjadgejmnfaaDoor
namespace Rows

/-- THE TIED CARD OF 'gnomonlaw25.AcceptMiddles'. -/
def acceptMiddlesCard : Claim7 := { stood := { row := acceptMiddlesRow, standIns := [], harness := (true, "f1a067bc966ad952276cca95d933d42bd41c5c22ec43da39e122e32af5f55af7"), looks := false }, kinds := [], alts := [], laidByText := true, laidKinds := [.data], laidTests := true, laidLooks := .later }
def AcceptMiddlesCardSaid : Prop := Claim7.holds Tryd.pinned (.plain (OpenSpec.ofChange acceptMiddlesSpec)) acceptMiddlesCard

/-- THE TIED CARD OF 'gnomonlaw25.AcceptRounds'. -/
def acceptRoundsCard : Claim7 := { stood := { row := acceptRoundsRow, standIns := [], harness := (true, "f1a067bc966ad952276cca95d933d42bd41c5c22ec43da39e122e32af5f55af7"), looks := false }, kinds := [], alts := [], laidByText := true, laidKinds := [.data], laidTests := true, laidLooks := .later }
def AcceptRoundsCardSaid : Prop := Claim7.holds Tryd.pinned (.plain (OpenSpec.ofChange acceptRoundsSpec)) acceptRoundsCard

/-- THE SECOND FORM's CARD OF 'gnomonlaw25.AcceptMiddles'. -/
def acceptMiddlesUptoCard : Claim7 := { stood := { row := acceptMiddlesUptoRow, standIns := [], harness := (true, "f1a067bc966ad952276cca95d933d42bd41c5c22ec43da39e122e32af5f55af7"), looks := false }, kinds := [], alts := [], laidByText := true, laidKinds := [.data], laidTests := true, laidLooks := .later }
def AcceptMiddlesUptoCardSaid : Prop := Claim7.holds Tryd.pinned (.plain (OpenSpec.upto acceptMiddlesSpec)) acceptMiddlesUptoCard

/-- THE SECOND FORM's CARD OF 'gnomonlaw25.AcceptRounds'. -/
def acceptRoundsUptoCard : Claim7 := { stood := { row := acceptRoundsUptoRow, standIns := [], harness := (true, "f1a067bc966ad952276cca95d933d42bd41c5c22ec43da39e122e32af5f55af7"), looks := false }, kinds := [], alts := [], laidByText := true, laidKinds := [.data], laidTests := true, laidLooks := .later }
def AcceptRoundsUptoCardSaid : Prop := Claim7.holds Tryd.pinned (.plain (OpenSpec.upto acceptRoundsSpec)) acceptRoundsUptoCard
end Rows
end Go.Proofs.YthfjjadgejmnfaaDoor
