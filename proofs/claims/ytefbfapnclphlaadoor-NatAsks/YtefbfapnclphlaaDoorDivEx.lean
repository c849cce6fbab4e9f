import Derived.Test.YtefbfapnclphlaaDoorDiv64
namespace Go.Proofs.YtefbfapnclphlaaDoor
open Go.RowKit

theorem bits64 {y : Nat} (h : y < B64) : bitsN y ≤ 64 := by
  by_cases e : y = 0
  · subst e; simp [bitsN]
  · have h1 := bitsN_le y e
    have h2 : bitsN y - 1 < 64 := (Nat.pow_lt_pow_iff_right (by decide : 1 < 2)).1 (Nat.lt_of_le_of_lt h1 (by rw [B64_p] at h; exact h))
    omega
theorem split32 (v : Nat) : v / 4294967296 * 4294967296 + v % 4294967296 = v := by omega
theorem quo_unique {n q y r : Nat} (h : n = q * y + r) (hr : r < y) : q = n / y ∧ r = n % y := by
  have hy : 0 < y := by omega
  have h1 : n = r + y * q := by rw [h, Nat.mul_comm]; omega
  constructor
  · rw [h1, Nat.add_mul_div_left _ _ hy, Nat.div_eq_of_lt hr, Nat.zero_add]
  · rw [h1, Nat.add_mul_mod_self_left, Nat.mod_eq_of_lt hr]

theorem div64_big (hi lo y : Nat) (w : World) (hh : hi ≠ 0) (hhy : hi < y) (hyb : y < B64) (hlo : lo < B64) :
    Calls Tryd.prog 22 #[U hi, U lo, U y] w fun e w' => e = .returned (.tuple #[U ((hi * B64 + lo) / y), U ((hi * B64 + lo) % y)]) ∧ w' = w := by
  obtain ⟨s, hs⟩ : ∃ s, s + bitsN y = 64 := ⟨64 - bitsN y, by have := bits64 hyb; omega⟩
  have hy0 : y ≠ 0 := by omega
  have hs64 : s < 64 := by
    have : bitsN y ≠ 0 := by unfold bitsN; rw [if_neg hy0]; omega
    omega
  obtain ⟨nY, nY2⟩ := norm_y hy0 hs
  have hP := Nat.two_pow_pos s
  have hhs : hi * 2 ^ s < y * 2 ^ s := Nat.mul_lt_mul_of_pos_right hhy hP
  have hls := shrW_lt lo s (by omega) hlo
  have hlse := shrW_eq lo s (by omega)
  have hjoin : (hi * 2 ^ s + lo / 2 ^ (64 - s)) * B64 + shlW lo s = 2 ^ s * (hi * B64 + lo) := by
    have e1 := Nat.mod_add_div (lo * 2 ^ s) B64
    rw [hlse, Nat.add_mul, Nat.mul_add]
    unfold shlW
    have e2 : hi * 2 ^ s * B64 = 2 ^ s * (hi * B64) := by rw [Nat.mul_comm hi, Nat.mul_assoc]
    rw [e2, Nat.mul_comm (lo * 2 ^ s / B64), Nat.mul_comm (2 ^ s) lo]
    generalize B64 * (lo * 2 ^ s / B64) = X1 at *
    generalize lo * 2 ^ s % B64 = X2 at *
    generalize lo * 2 ^ s = X3 at *
    omega
  have huY : hi * 2 ^ s + lo / 2 ^ (64 - s) < y * 2 ^ s := by
    have e1 : (hi + 1) * 2 ^ s ≤ y * 2 ^ s := Nat.mul_le_mul_right _ hhy
    rw [Nat.add_mul, Nat.one_mul] at e1
    omega
  obtain ⟨Y, hY⟩ : ∃ Y, Y = y * 2 ^ s := ⟨_, rfl⟩
  obtain ⟨u, hu⟩ : ∃ u, u = hi * 2 ^ s + lo / 2 ^ (64 - s) := ⟨_, rfl⟩
  obtain ⟨v, hv⟩ : ∃ v, v = shlW lo s := ⟨_, rfl⟩
  have hvb : v < 18446744073709551616 := by rw [hv, ← B64_eq]; exact shlW_lt lo s
  rw [← hY] at nY nY2 huY
  rw [← hu] at huY hjoin
  rw [← hv] at hjoin
  have hsplitY := split32 Y
  have HC : KnC (Y / 4294967296) (Y % 4294967296) u (v / 4294967296) := ⟨by omega, by omega, by rw [hsplitY]; exact huY, by omega⟩
  have hin := Kn.init HC
  have hq := hin.le
  have hle := Nat.div_mul_le_self u (Y / 4294967296)
  have hml := Nat.mod_lt u (show 0 < Y / 4294967296 by omega)
  have hdm := Nat.div_add_mod u (Y / 4294967296)
  rw [Nat.mul_comm] at hdm
  have hub : u < 18446744073709551616 := by omega
  have eY : IntKind.u64.wrap ((y : Int) * 2 ^ s) = (Y : Int) := by
    rw [wrap_nat, hY]; unfold shlW; rw [Nat.mod_eq_of_lt (by rw [B64_eq, ← hY]; exact nY)]
  have ehs : IntKind.u64.wrap ((hi : Int) * 2 ^ s) = ((hi * 2 ^ s : Nat) : Int) := by
    rw [wrap_nat]; unfold shlW; rw [Nat.mod_eq_of_lt (by rw [B64_eq]; rw [← hY] at hhs; omega)]
  have eu : bits .or .u64 ((hi * 2 ^ s : Nat) : Int) ((lo / 2 ^ (64 - s) : Nat) : Int) = (u : Int) := by
    rw [walk_or _ _ (by rw [B64_eq]; rw [← hY] at hhs; omega) (by rw [B64_eq]; omega), Nat.mul_comm hi, or_low s _ _ hls, hu, Nat.mul_comm hi]
  refine (div64_walk hi lo y s Y (Y / 4294967296) (Y % 4294967296) (hi * 2 ^ s) (lo / 2 ^ (64 - s)) u v (v / 4294967296) (v % 4294967296) (u / (Y / 4294967296)) (u / (Y / 4294967296) * (Y / 4294967296)) (u - u / (Y / 4294967296) * (Y / 4294967296)) w
    (by simp; omega) (by simp; omega) hhy hyb hs hs64 eY (div32 Y) (and32 Y nY) ehs (div_nat lo (64 - s)) eu (by rw [wrap_nat, hv]) (div32 v) (and32 v hvb) (Int.natCast_ediv _ _).symm (Int.natCast_mul _ _).symm (by omega) hq (by omega) (by omega) (by omega) (by omega) (by omega) (by omega) (by omega)
    HC hin hsplitY.symm nY).mono ?_
  rintro e w' ⟨q1, q0, r1, r0, rfl, hw, k1, k0⟩
  refine ⟨?_, hw⟩
  have e1 := k1.eq
  have e0 := k0.eq
  have er := k0.rlt
  rw [hsplitY] at e1 e0 er
  have ej := kn_join e1 e0
  rw [split32 v, show (4294967296 : Nat) * 4294967296 = B64 from rfl, hjoin, hY] at ej
  rw [hY] at er
  obtain ⟨f1, f2⟩ := kn_scale hP ej er
  obtain ⟨g1, g2⟩ := quo_unique f1 f2
  have g3 : jq q1 q0 = (hi * B64 + lo) / y := g1
  rw [g3, g2]

/-- math/bits.Div64: quotient and rest, where the quotient is a word. -/
theorem div64_any (hi lo y : Nat) (w : World) (hhy : hi < y) (hyb : y < B64) (hlo : lo < B64) :
    Calls Tryd.prog 22 #[U hi, U lo, U y] w fun e w' => e = .returned (.tuple #[U ((hi * B64 + lo) / y), U ((hi * B64 + lo) % y)]) ∧ ∃ r, w' = w.drewN r := by
  by_cases hh : hi = 0
  · subst hh
    rw [Nat.zero_mul, Nat.zero_add]
    exact div64_zero lo y w (by simp; omega) hlo
  · exact (div64_big hi lo y w hh hhy hyb hlo).mono fun e w' h => ⟨h.1, 0, h.2⟩
end Go.Proofs.YtefbfapnclphlaaDoor
