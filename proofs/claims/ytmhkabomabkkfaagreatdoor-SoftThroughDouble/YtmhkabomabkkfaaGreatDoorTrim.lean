import Derived.Test.YtmhkabomabkkfaaGreatDoorChecked
import Derived.WalkKit
import Derived.CellFam
import Derived.Deep.QuietTactic
import Derived.BigQuiet
import Derived.Test.YtmhkabomabkkfaaGreatDoorMem
namespace Go.Proofs.YtmhkabomabkkfaaGreatDoor
open Go.RowKit
set_option maxRecDepth 20000
set_option maxHeartbeats 0
theorem trim_nil (p : Option Addr) (c : Nat) (w : World) :
    Calls Tryz.prog 118 #[.slice p 0 c] w fun e w' => e = .returned (.slice none 0 0) ∧ w' = w := by
  go_enter Tryz.func118, Tryz.ntmps118
  go_wp2
  go_loop [7] (fun i => i = .int .i64 0) (fun _ => 0)
  case atStart => rfl
  case round =>
    subst hrel
    go_wp2
    go_ret
    exact ⟨rfl, rfl⟩

theorem trim_stop (xs : List Nat) (n k x : Nat) (hl : xs.length = n) (hk : k < n) (hz : ∀ j, n - k ≤ j → j < n → xs.getD j 0 = 0) (hx : x = xs.getD (n - k - 1) 0) (h0 : ((x : Int) != 0) = true) : (trimL xs).length = n - k := by
  have h := trimL_of_take xs (n - k) (by omega) (fun j h1 h2 => hz j h1 (by omega)) (.inr (by rw [← hx]; intro e; simp [e] at h0))
  rw [h, List.length_take]; omega
theorem trim_end (xs : List Nat) (n k : Nat) (hl : xs.length = n) (hk : ¬ k < n) (hz : ∀ j, n - k ≤ j → j < n → xs.getD j 0 = 0) : (trimL xs).length = 0 := by
  have h := trimL_of_take xs 0 (by omega) (fun j h1 h2 => hz j (by omega) (by omega)) (.inl rfl)
  rw [h]; simp

theorem trim_row (g off n c : Nat) (xs : List Nat) (w : World) (hl : xs.length = n) (hnc : n ≤ c) (hbig : c ≤ 9223372036854775807)
    (hc : ∀ j, j < n → w.cell? ⟨g, off + j, none⟩ = some (U (xs.getD j 0))) :
    Calls Tryz.prog 118 #[.slice (some ⟨g, off, none⟩) n c] w fun e w' =>
      ∃ p' m, e = .returned (.slice p' m m) ∧ m = (trimL xs).length ∧ (m ≠ 0 → p' = some ⟨g, off, none⟩) ∧ w' = w := by
  go_enter Tryz.func118, Tryz.ntmps118
  go_wp2
  go_loop [3, 4, 7] (fun _ _ i => ∃ k : Nat, k ≤ n ∧ i = .int .i64 k ∧ ∀ j, n - k ≤ j → j < n → xs.getD j 0 = 0) (fun _ _ i => n - (intOf i).toNat)
  case atStart => exact ⟨0, Nat.zero_le _, rfl, fun j h1 h2 => by omega⟩
  case round =>
    obtain ⟨k, hk, rfl, hz⟩ := hrel
    have HZ : Hid (∀ j, n - k ≤ j → j < n → xs.getD j 0 = 0) := hz
    clear hz
    by_cases hlt : k < n
    · obtain ⟨x, hx⟩ : ∃ x, x = xs.getD (n - k - 1) 0 := ⟨_, rfl⟩
      have hcx : w.cell? ⟨g, off + (n - k - 1), none⟩ = some (U x) := by rw [hx]; exact hc _ (by omega)
      have HX : Hid (x = xs.getD (n - k - 1) 0) := hx
      clear hx hc
      go_wp2
      · have h0 : ((x : Int) != 0) = true := by assumption
        have hm := trim_stop xs n k x hl hlt HZ.out HX.out h0
        go_ret
        exact ⟨_, _, rfl, hm.symm, fun _ => rfl, rfl⟩
      · have h0 : ((x : Int) != 0) = false := by assumption
        go_round
        case rel => exact ⟨k + 1, by omega, by go_num, fun j h1 h2 => if e : j = n - k - 1 then by rw [e, ← HX.out]; simpa using h0 else HZ.out j (by omega) h2⟩
        case measure => simp [intOf]; omega
    · have hm := trim_end xs n k hl hlt HZ.out
      have HM : Hid ((trimL xs).length = 0) := hm
      clear hm
      go_wp2
      go_ret
      exact ⟨none, 0, rfl, HM.out.symm, fun h => absurd rfl h, rfl⟩

theorem trim_any {p : Option Addr} {n c : Nat} {xs : List Nat} {w : World} (h : At w p n c xs) :
    Calls Tryz.prog 118 #[.slice p n c] w fun e w' => ∃ p' m, e = .returned (.slice p' m m) ∧ m = (trimL xs).length ∧ (m ≠ 0 → p' = p) ∧ w' = w := by
  rcases h.cells with rfl | ⟨g, off, rfl, hc⟩
  · refine (trim_nil p c w).mono fun e w' hh => ?_
    obtain ⟨rfl, rfl⟩ := hh
    have hx : xs = [] := List.eq_nil_of_length_eq_zero h.len
    subst hx
    exact ⟨none, 0, rfl, rfl, fun h => absurd rfl h, rfl⟩
  · have hb := h.big
    unfold maxLen at hb
    exact trim_row g off n c xs w h.len h.cap hb hc
theorem At.trim {w : World} {p p' : Option Addr} {n c m : Nat} {xs : List Nat} (h : At w p n c xs) (hm : m = (trimL xs).length) (hp : m ≠ 0 → p' = p) : At w p' m m (trimL xs) := by
  have hle := trimL_length_le xs
  have h1 := h.len; have h2 := h.cap; have h3 := h.big
  have := h.take m (by omega) m (Nat.le_refl _) (by omega)
  rw [hm, ← trimL_take, ← hm] at this
  refine ⟨this.len, this.cap, this.big, this.dig, ?_⟩
  by_cases h0 : m = 0
  · exact .inl h0
  · rw [hp h0]; exact this.cells
end Go.Proofs.YtmhkabomabkkfaaGreatDoor
