import Derived.Test.YtidggnjnlhjhlaaGreatDoorCopied
namespace Go.Proofs.YtidggnjnlhjhlaaGreatDoor
open Go.RowKit
set_option maxRecDepth 20000
set_option maxHeartbeats 0
def formB (xs : List Nat) : Bool := decide (xs.length ≤ 8192 ∧ (xs.length = 0 ∨ xs.getD (xs.length - 1) 0 ≠ 0))
theorem formB_iff (xs : List Nat) : formB xs = true ↔ xs.length ≤ 8192 ∧ Top xs := by
  unfold formB
  rw [decide_eq_true_iff]
  constructor
  · rintro ⟨h1, h2⟩
    refine ⟨h1, fun x hx => ?_⟩
    rw [List.getLast?_eq_getElem?] at hx
    rcases h2 with h2 | h2
    · have : xs = [] := List.eq_nil_of_length_eq_zero h2
      subst this; simp at hx
    · rw [List.getD_eq_getElem?_getD, hx] at h2; exact h2
  · rintro ⟨h1, h2⟩
    refine ⟨h1, ?_⟩
    by_cases h0 : xs.length = 0
    · exact .inl h0
    · refine .inr ?_
      have hlt : xs.length - 1 < xs.length := by omega
      refine h2 _ ?_
      rw [List.getLast?_eq_getElem?, List.getD_eq_getElem?_getD, List.getElem?_eq_getElem hlt]; rfl

theorem form_any {p : Option Addr} {n c : Nat} {xs : List Nat} {w : World} (h : At w p n c xs) :
    Calls Tryz.prog 104 #[.slice p n c] w fun e w' => e = .returned (.bool (formB xs)) ∧ w' = w := by
  have hl := h.len; have hcap := h.cap; have hbig := h.big
  unfold maxLen at hbig
  by_cases h1 : n ≤ 8192
  · by_cases h0 : n = 0
    · subst h0
      have hf : formB xs = true := by unfold formB; rw [decide_eq_true_iff]; omega
      have HF : Hid (formB xs = true) := hf
      clear hf hl
      go_enter Tryz.func104, Tryz.ntmps104
      go_wp2
      go_ret
      exact ⟨ret_bool HF.out.symm, rfl⟩
    · obtain ⟨g, off, rfl, hc⟩ := h.cells.resolve_left h0
      obtain ⟨x, hx⟩ : ∃ x, x = xs.getD (n - 1) 0 := ⟨_, rfl⟩
      have hcx : w.cell? ⟨g, off + (n - 1), none⟩ = some (U x) := by rw [hx]; exact hc _ (by omega)
      have h0' : ((n : Int) == 0) = false := by simp; omega
      have hf : formB xs = ((x : Int) != 0) := by
        unfold formB
        rw [hl, ← hx]
        by_cases e : x = 0
        · simp [e, h0]
        · simp [e, h1]
      have HF : Hid (formB xs = ((x : Int) != 0)) := hf
      clear hf hl hx hc
      go_enter Tryz.func104, Tryz.ntmps104
      go_wp2
      go_ret
      exact ⟨ret_bool HF.out.symm, rfl⟩
  · have hf : formB xs = false := by unfold formB; rw [decide_eq_false_iff_not]; omega
    have HF : Hid (formB xs = false) := hf
    clear hf hl
    go_enter Tryz.func104, Tryz.ntmps104
    go_wp2
    go_ret
    exact ⟨ret_bool HF.out.symm, rfl⟩

theorem same_not (xs ys : List Nat) (k x y : Nat) (ex : x = xs.getD k 0) (ey : y = ys.getD k 0) (h : ((x : Int) != (y : Int)) = true) : decide (xs = ys) = false := by
  rw [decide_eq_false_iff_not]; intro e; subst e; subst ex; subst ey; simp at h
theorem same_yes (xs ys : List Nat) (n : Nat) (hx : xs.length = n) (hy : ys.length = n) (h : ∀ j, j < n → xs.getD j 0 = ys.getD j 0) : decide (xs = ys) = true := by
  rw [decide_eq_true_iff]
  apply List.ext_getElem (by omega)
  intro i h1 h2
  have := h i (by omega)
  rw [List.getD_eq_getElem?_getD, List.getD_eq_getElem?_getD, List.getElem?_eq_getElem h1, List.getElem?_eq_getElem h2] at this
  exact this

theorem same_any {p q : Option Addr} {n m c d : Nat} {xs ys : List Nat} {w : World} (h : At w p n c xs) (k : At w q m d ys) :
    Calls Tryz.prog 62 #[.slice p n c, .slice q m d] w fun e w' => e = .returned (.bool (decide (xs = ys))) ∧ ∃ r, w' = w.drewN r := by
  have hl := h.len; have hcap := h.cap; have hbig := h.big
  have kl := k.len; have kcap := k.cap; have kbig := k.big
  unfold maxLen at hbig kbig
  by_cases hne : n = m
  · subst hne
    have hnn : ((n : Int) != (n : Int)) = false := by simp
    obtain ⟨b, hb⟩ : ∃ b, b = decide (xs = ys) := ⟨_, rfl⟩
    rw [← hb]
    by_cases h0 : n = 0
    · subst h0
      have hx : xs = [] := List.eq_nil_of_length_eq_zero hl
      have hy : ys = [] := List.eq_nil_of_length_eq_zero kl
      have hb' : b = true := by rw [hx, hy] at hb; simpa using hb
      have HB : Hid (b = true) := hb'
      clear hb hb' hl kl hx hy
      go_enter Tryz.func62, Tryz.ntmps62
      go_wp2
      go_loop [5] (fun i => i = .int .i64 0) (fun _ => 0)
      case atStart => rfl
      case round =>
        subst hrel
        go_wp2
        go_ret
        exact ⟨ret_bool HB.out.symm, 0, rfl⟩
    · obtain ⟨g, off, rfl, hc⟩ := h.cells.resolve_left h0
      obtain ⟨g2, off2, rfl, hc2⟩ := k.cells.resolve_left h0
      have HB : Hid (b = decide (xs = ys)) := hb
      clear hb
      go_enter Tryz.func62, Tryz.ntmps62
      go_wp2
      go_loopw [5] (fun i wr => ∃ k r : Nat, k ≤ n ∧ i = .int .i64 k ∧ wr = w.drewN r ∧ ∀ j, j < k → xs.getD j 0 = ys.getD j 0) (fun i _ => n - (intOf i).toNat)
      case atStart => exact ⟨0, 0, Nat.zero_le _, rfl, rfl, fun j hj => by omega⟩
      case round =>
        obtain ⟨k, r, hk, rfl, rfl, hz⟩ := hrel
        have HZ : Hid (∀ j, j < k → xs.getD j 0 = ys.getD j 0) := hz
        clear hz
        by_cases hlt : k < n
        · obtain ⟨x, hx⟩ : ∃ x, x = xs.getD k 0 := ⟨_, rfl⟩
          obtain ⟨y, hy⟩ : ∃ y, y = ys.getD k 0 := ⟨_, rfl⟩
          have hcx : w.cell? ⟨g, off + k, none⟩ = some (U x) := by rw [hx]; exact hc _ (by omega)
          have hcy : w.cell? ⟨g2, off2 + k, none⟩ = some (U y) := by rw [hy]; exact hc2 _ (by omega)
          have HX : Hid (x = xs.getD k 0) := hx
          have HY : Hid (y = ys.getD k 0) := hy
          clear hx hy hc hc2
          go_wp2
          go_quiet (fail)
          go_wp2
          · have h0 : ((x : Int) != (y : Int)) = true := by assumption
            go_ret
            exact ⟨ret_bool (by rw [HB.out, same_not xs ys k x y HX.out HY.out h0]), r + nq, by simp⟩
          · have h0 : ((x : Int) != (y : Int)) = false := by assumption
            go_roundw
            case rel => exact ⟨k + 1, r + nq, by omega, by go_num, by simp, fun j hj => if e : j = k then by rw [e, ← HX.out, ← HY.out]; simp at h0; omega else HZ.out j (by omega)⟩
            case measure => simp [intOf]; omega
        · have hkn : k = n := by omega
          subst hkn
          have hy := same_yes xs ys _ hl kl HZ.out
          have HY : Hid (decide (xs = ys) = true) := hy
          clear hy
          go_wp2
          go_ret
          exact ⟨ret_bool (by rw [HB.out, HY.out]), r, rfl⟩
  · have hnn : ((n : Int) != (m : Int)) = true := by simp; omega
    have hf : decide (xs = ys) = false := by rw [decide_eq_false_iff_not]; intro e; subst e; omega
    rw [hf]
    clear hf
    go_enter Tryz.func62, Tryz.ntmps62
    go_wp2
    go_ret
    exact ⟨rfl, 0, rfl⟩
end Go.Proofs.YtidggnjnlhjhlaaGreatDoor
