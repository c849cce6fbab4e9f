import Derived.Test.YtidggnjnlhjhlaaGreatDoorChecked
import Derived.WalkKit
import Derived.CellFam
import Derived.Deep.QuietTactic
import Derived.BigQuiet
import Derived.Test.YtidggnjnlhjhlaaGreatDoorMem
namespace Go.Proofs.YtidggnjnlhjhlaaGreatDoor
open Go.RowKit
theorem At.trim {w : World} {p p' : Option Addr} {n c m : Nat} {xs : List Nat} (h : At w p n c xs) (hm : m = (trimL xs).length) (hp : m ≠ 0 → p' = p) : At w p' m m (trimL xs) := by
  have hle := trimL_length_le xs
  have h1 := h.len; have h2 := h.cap; have h3 := h.big
  have := h.take m (by omega) m (Nat.le_refl _) (by omega)
  rw [hm, ← trimL_take, ← hm] at this
  refine ⟨this.len, this.cap, this.big, this.dig, ?_⟩
  by_cases h0 : m = 0
  · exact .inl h0
  · rw [hp h0]; exact this.cells
end Go.Proofs.YtidggnjnlhjhlaaGreatDoor
