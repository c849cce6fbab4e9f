/-
  DERIVED. GIVEN WITH THE SEED: THE PROGRAM's TIES (one call each: nine closed facts by the kernel) AND EACH ROW's TIE, after the 31st guide's Derived/Test/Toyas{Tie, Card}.lean. No idea stands in it: it is a product of the set-up. Laid BY PROGRAM, IN A SANDBOX (cutbox-door.mjs). By AI agents, Wed Nov 11 2026. No macro, syntax, notation, axiom, sorry.
-/
import Derived.Test.YtionkfnapodhbaaDoorRows
import Derived.LaidByTextLater
import Derived.SevenTiedAt
import Derived.LaidSub
import Derived.LaidOnce
namespace Go.Proofs.YtionkfnapodhbaaDoor
open Go
set_option maxRecDepth 100000
theorem seatTie1 : Tryd.prog.laidByTextLater [("gnomon/sintable.sines", Rows.laid_gnomon_sintable_sines), ("gnomon/sintable.cosines", Rows.laid_gnomon_sintable_cosines)] [.data, .data] true :=
  Program.laidByTextLater_by_one 19 8 107 (by kernel_rfl) (by kernel_rfl) (by kernel_rfl) (by kernel_rfl) (by kernel_rfl) (by kernel_rfl) (fun _ _ => by kernel_rfl)
theorem noOwnUnsafe : Tryd.pinned.checked.prog.headLifts.contains "ownunsafe" = false := by kernel_rfl
theorem tie : Tryd.prog.laidByTextLater [("gnomon/sintable.sines", Rows.laid_gnomon_sintable_sines), ("gnomon/sintable.cosines", Rows.laid_gnomon_sintable_cosines)] [.data, .data] true :=
  Program.laidByTextLater.sub seatTie1 ["gnomon/sintable.sines", "gnomon/sintable.cosines"] (by kernel_rfl) (by kernel_rfl)
theorem sintableRows_row_tie : Rows.sintableRowsRow.laidByTextAt .later Tryd.pinned [.data, .data] true :=
  OpenClaim.laidByTextAt_later rfl rfl tie noOwnUnsafe
theorem sintableRowsUpto_row_tie : Rows.sintableRowsUptoRow.laidByTextAt .later Tryd.pinned [.data, .data] true :=
  OpenClaim.laidByTextAt_later rfl rfl tie noOwnUnsafe
end Go.Proofs.YtionkfnapodhbaaDoor
