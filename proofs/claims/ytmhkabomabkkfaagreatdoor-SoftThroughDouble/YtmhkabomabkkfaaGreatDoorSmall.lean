import Derived.Test.YtmhkabomabkkfaaGreatDoorCopied
namespace Go.Proofs.YtmhkabomabkkfaaGreatDoor
open Go.RowKit
set_option maxRecDepth 20000
set_option maxHeartbeats 0
def formB (xs : List Nat) : Bool := decide (xs.length ≤ 8192 ∧ (xs.length = 0 ∨ xs.getD (xs.length - 1) 0 ≠ 0))
theorem formB_iff (xs : List Nat) : formB xs = true ↔ xs.length ≤ 8192 ∧ Top xs := by
  unfold formB
  rw [decide_eq_true_iff]
  constructor
  · rintro ⟨h1, h2⟩
    refine ⟨h1, fun x hx => ?_⟩
    rw [List.getLast?_eq_getElem?] at hx
    rcases h2 with h2 | h2
    · have : xs = [] := List.eq_nil_of_length_eq_zero h2
      subst this; simp at hx
    · rw [List.getD_eq_getElem?_getD, hx] at h2; exact h2
  · rintro ⟨h1, h2⟩
    refine ⟨h1, ?_⟩
    by_cases h0 : xs.length = 0
    · exact .inl h0
    · refine .inr ?_
      have hlt : xs.length - 1 < xs.length := by omega
      refine h2 _ ?_
      rw [List.getLast?_eq_getElem?, List.getD_eq_getElem?_getD, List.getElem?_eq_getElem hlt]; rfl

theorem form_any {p : Option Addr} {n c : Nat} {xs : List Nat} {w : World} (h : At w p n c xs) :
    Calls Tryz.prog 127 #[.slice p n c] w fun e w' => e = .returned (.bool (formB xs)) ∧ w' = w := by
  have hl := h.len; have hcap := h.cap; have hbig := h.big
  unfold maxLen at hbig
  by_cases h1 : n ≤ 8192
  · by_cases h0 : n = 0
    · subst h0
      have hf : formB xs = true := by unfold formB; rw [decide_eq_true_iff]; omega
      have HF : Hid (formB xs = true) := hf
      clear hf hl
      go_enter Tryz.func127, Tryz.ntmps127
      go_wp2
      go_ret
      exact ⟨ret_bool HF.out.symm, rfl⟩
    · obtain ⟨g, off, rfl, hc⟩ := h.cells.resolve_left h0
      obtain ⟨x, hx⟩ : ∃ x, x = xs.getD (n - 1) 0 := ⟨_, rfl⟩
      have hcx : w.cell? ⟨g, off + (n - 1), none⟩ = some (U x) := by rw [hx]; exact hc _ (by omega)
      have h0' : ((n : Int) == 0) = false := by simp; omega
      have hf : formB xs = ((x : Int) != 0) := by
        unfold formB
        rw [hl, ← hx]
        by_cases e : x = 0
        · simp [e, h0]
        · simp [e, h1]
      have HF : Hid (formB xs = ((x : Int) != 0)) := hf
      clear hf hl hx hc
      go_enter Tryz.func127, Tryz.ntmps127
      go_wp2
      go_ret
      exact ⟨ret_bool HF.out.symm, rfl⟩
  · have hf : formB xs = false := by unfold formB; rw [decide_eq_false_iff_not]; omega
    have HF : Hid (formB xs = false) := hf
    clear hf hl
    go_enter Tryz.func127, Tryz.ntmps127
    go_wp2
    go_ret
    exact ⟨ret_bool HF.out.symm, rfl⟩
end Go.Proofs.YtmhkabomabkkfaaGreatDoor
