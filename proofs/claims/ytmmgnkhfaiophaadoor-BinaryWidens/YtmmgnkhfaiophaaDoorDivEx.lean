import Derived.Test.YtmmgnkhfaiophaaDoorDiv64
namespace Go.Proofs.YtmmgnkhfaiophaaDoor
open Go.RowKit

theorem bits64 {y : Nat} (h : y < B64) : bitsN y ≤ 64 := by
  by_cases e : y = 0
  · subst e; simp [bitsN]
  · have h1 := bitsN_le y e
    have h2 : bitsN y - 1 < 64 := (Nat.pow_lt_pow_iff_right (by decide : 1 < 2)).1 (Nat.lt_of_le_of_lt h1 (by rw [B64_p] at h; exact h))
    omega
theorem split32 (v : Nat) : v / 4294967296 * 4294967296 + v % 4294967296 = v := by omega
theorem quo_unique {n q y r : Nat} (h : n = q * y + r) (hr : r < y) : q = n / y ∧ r = n % y := by
  have hy : 0 < y := by omega
  have h1 : n = r + y * q := by rw [h, Nat.mul_comm]; omega
  constructor
  · rw [h1, Nat.add_mul_div_left _ _ hy, Nat.div_eq_of_lt hr, Nat.zero_add]
  · rw [h1, Nat.add_mul_mod_self_left, Nat.mod_eq_of_lt hr]

end Go.Proofs.YtmmgnkhfaiophaaDoor
