/-
  DERIVED. GIVEN WITH THE SEED: THE CARDS: each row of YtffechjldakmjaaDoorRows.lean that lists a variable, with what it lists TIED to the program's text (the seventh form; the later family's looks); each row that meets fmt, with fmt's text TOLD by the authors' own Lean function (tested against real Go, not proved from fmt's source: count such statements apart). THE CARD IS WHAT COUNTS. Prove the row's statement (the work); the ties are given (YtffechjldakmjaaDoorTie.lean); close each card by the builder's one call (the guide's Derived/Test/ToyasCard.lean, 'card_holds'). Laid BY PROGRAM, IN A SANDBOX (cutbox-door.mjs). By AI agents, Wed Nov 11 2026. No macro, syntax, notation, axiom, sorry.
-/
import Derived.Test.YtffechjldakmjaaDoorRows
import GoSem.ClaimSeven
namespace Go.Proofs.YtffechjldakmjaaDoor
namespace Rows

/-- THE TIED CARD OF 'gnomonlaw07.BinaryKeeps'. -/
def binaryKeepsCard : Claim7 := { stood := { row := binaryKeepsRow, standIns := [], harness := (true, "15aaac3f977c3767f8fd7770e324f9130fd69ba4e9dea6e7c9a759e48ace089a"), looks := false }, kinds := [], alts := [], laidByText := true, laidKinds := [.data], laidTests := true, laidLooks := .later }
def BinaryKeepsCardSaid : Prop := Claim7.holds Tryd.pinned (.plain (OpenSpec.ofChange binaryKeepsSpec)) binaryKeepsCard

/-- THE SECOND FORM's CARD OF 'gnomonlaw07.BinaryKeeps'. -/
def binaryKeepsUptoCard : Claim7 := { stood := { row := binaryKeepsUptoRow, standIns := [], harness := (true, "15aaac3f977c3767f8fd7770e324f9130fd69ba4e9dea6e7c9a759e48ace089a"), looks := false }, kinds := [], alts := [], laidByText := true, laidKinds := [.data], laidTests := true, laidLooks := .later }
def BinaryKeepsUptoCardSaid : Prop := Claim7.holds Tryd.pinned (.plain (OpenSpec.upto binaryKeepsSpec)) binaryKeepsUptoCard
end Rows
end Go.Proofs.YtffechjldakmjaaDoor
