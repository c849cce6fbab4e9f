/-
  DERIVED. GIVEN WITH THE SEED: THE CARDS: each row of YtionkfnapodhbaaDoorRows.lean that lists a variable, with what it lists TIED to the program's text (the seventh form; the later family's looks); each row that meets fmt, with fmt's text TOLD by the authors' own Lean function (tested against real Go, not proved from fmt's source: count such statements apart). THE CARD IS WHAT COUNTS. Prove the row's statement (the work); the ties are given (YtionkfnapodhbaaDoorTie.lean); close each card by the builder's one call (the guide's Derived/Test/ToyasCard.lean, 'card_holds'). Laid BY PROGRAM, IN A SANDBOX (cutbox-door.mjs). By AI agents, Wed Nov 11 2026. No macro, syntax, notation, axiom, sorry.
-/
import Derived.Test.YtionkfnapodhbaaDoorRows
import GoSem.ClaimSeven
namespace Go.Proofs.YtionkfnapodhbaaDoor
namespace Rows

/-- THE TIED CARD OF 'gnomonlaw23.SintableRows'. -/
def sintableRowsCard : Claim7 := { stood := { row := sintableRowsRow, standIns := [], harness := (true, "597656a05c48d462c8992c70ab6455a7f423b3699bc3881b6e8d93cb824b9c27"), looks := false }, kinds := [], alts := [], laidByText := true, laidKinds := [.data, .data], laidTests := true, laidLooks := .later }
def SintableRowsCardSaid : Prop := Claim7.holds Tryd.pinned (.plain (OpenSpec.ofChange sintableRowsSpec)) sintableRowsCard

/-- THE SECOND FORM's CARD OF 'gnomonlaw23.SintableRows'. -/
def sintableRowsUptoCard : Claim7 := { stood := { row := sintableRowsUptoRow, standIns := [], harness := (true, "597656a05c48d462c8992c70ab6455a7f423b3699bc3881b6e8d93cb824b9c27"), looks := false }, kinds := [], alts := [], laidByText := true, laidKinds := [.data, .data], laidTests := true, laidLooks := .later }
def SintableRowsUptoCardSaid : Prop := Claim7.holds Tryd.pinned (.plain (OpenSpec.upto sintableRowsSpec)) sintableRowsUptoCard
end Rows
end Go.Proofs.YtionkfnapodhbaaDoor
