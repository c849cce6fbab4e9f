import Derived.Test.YtfofoookdlaipaaGreatDoorBb4
namespace Go.Proofs.YtfofoookdlaipaaGreatDoor
open Go.RowKit Go.Shelf

theorem vs_next {H : Nat} (hH : 0 < H) (s : Nat) : vs H (s + 1) = vs H s + 2 ^ (s / H - 1) := by
  have h1 := Nat.div_add_mod s H
  have h2 := Nat.mod_lt s hH
  have h3 := Nat.div_add_mod (s + 1) H
  have h4 := Nat.mod_lt (s + 1) hH
  have h5 : s / H ≤ (s + 1) / H := Nat.div_le_div_right (by omega)
  have h6 : (s + 1) / H ≤ s / H + 1 := by
    have : (s + 1) / H ≤ (s + H) / H := Nat.div_le_div_right (by omega)
    rw [Nat.add_div_right _ hH] at this
    exact this
  unfold vs
  by_cases h7 : (s + 1) / H = s / H
  · rw [h7]
    have hq : (s / H - 1) * H ≤ s := by
      rw [Nat.sub_mul, Nat.mul_comm]; omega
    rw [show s + 1 - (s / H - 1) * H = s - (s / H - 1) * H + 1 from by omega, Nat.add_mul, Nat.one_mul]
  · have h8 : (s + 1) / H = s / H + 1 := by omega
    rw [h8, Nat.add_sub_cancel]
    rw [h8, Nat.mul_add, Nat.mul_one] at h3
    obtain ⟨k, hk⟩ : ∃ k, k = s / H := ⟨_, rfl⟩
    rw [← hk] at h1 h3 ⊢
    obtain ⟨y, hy⟩ : ∃ y, y = H * k := ⟨_, rfl⟩
    rw [← hy] at h1 h3
    rw [Nat.mul_comm k H, ← hy]
    by_cases h9 : k = 0
    · subst h9
      have : y = 0 := by rw [hy]; simp
      simp
      omega
    · obtain ⟨j, rfl⟩ : ∃ j, k = j + 1 := ⟨k - 1, by omega⟩
      rw [Nat.add_sub_cancel, Nat.pow_succ]
      have hj : j * H + H = y := by rw [hy, Nat.mul_comm H, Nat.add_mul, Nat.one_mul]
      have e1 : s + 1 - y = H := by omega
      have e2 : s - j * H = 2 * H - 1 := by omega
      rw [e1, e2, Nat.mul_comm (2 ^ j) 2, ← Nat.mul_assoc, Nat.sub_mul, Nat.one_mul, Nat.mul_comm H 2]
      have : 1 * 2 ^ j ≤ 2 * H * 2 ^ j := Nat.mul_le_mul_right _ (by omega)
      omega
end Go.Proofs.YtfofoookdlaipaaGreatDoor

