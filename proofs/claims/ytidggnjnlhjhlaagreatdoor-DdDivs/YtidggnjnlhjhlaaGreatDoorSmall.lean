import Derived.Test.YtidggnjnlhjhlaaGreatDoorCopied
namespace Go.Proofs.YtidggnjnlhjhlaaGreatDoor
open Go.RowKit
def formB (xs : List Nat) : Bool := decide (xs.length ≤ 8192 ∧ (xs.length = 0 ∨ xs.getD (xs.length - 1) 0 ≠ 0))
theorem formB_iff (xs : List Nat) : formB xs = true ↔ xs.length ≤ 8192 ∧ Top xs := by
  unfold formB
  rw [decide_eq_true_iff]
  constructor
  · rintro ⟨h1, h2⟩
    refine ⟨h1, fun x hx => ?_⟩
    rw [List.getLast?_eq_getElem?] at hx
    rcases h2 with h2 | h2
    · have : xs = [] := List.eq_nil_of_length_eq_zero h2
      subst this; simp at hx
    · rw [List.getD_eq_getElem?_getD, hx] at h2; exact h2
  · rintro ⟨h1, h2⟩
    refine ⟨h1, ?_⟩
    by_cases h0 : xs.length = 0
    · exact .inl h0
    · refine .inr ?_
      have hlt : xs.length - 1 < xs.length := by omega
      refine h2 _ ?_
      rw [List.getLast?_eq_getElem?, List.getD_eq_getElem?_getD, List.getElem?_eq_getElem hlt]; rfl
end Go.Proofs.YtidggnjnlhjhlaaGreatDoor
