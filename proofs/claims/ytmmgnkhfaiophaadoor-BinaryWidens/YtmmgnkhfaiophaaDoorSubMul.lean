import Derived.Test.YtmmgnkhfaiophaaDoorAddMul
namespace Go.Proofs.YtmmgnkhfaiophaaDoor
open Go.RowKit Go.Shelf

/-- One limb of SubMul: nothing wraps. -/
theorem smul_limb {x y z cy hi lo l1 c1 l2 c2 : Nat} (hx : x < B64) (hy : y < B64) (hz : z < B64) (hc : cy < B64) (h1 : x * y = lo + B64 * hi) (h2 : lo + cy + 0 = l1 + B64 * c1) (h3 : z + B64 * c2 = l2 + l1 + 0) (hc2 : c2 ≤ 1) (hl2 : l2 < B64) (_hl1 : l1 < B64) :
    hi + c1 < B64 ∧ hi + c1 + c2 < B64 ∧ l2 + x * y + cy = z + B64 * (hi + c1 + c2) := by
  have e0 : x * y + cy = l1 + B64 * (hi + c1) := by rw [Nat.mul_add]; omega
  have e : l2 + x * y + cy = z + B64 * (hi + c1 + c2) := by rw [Nat.mul_add]; omega
  have a1 : x * y ≤ (B64 - 1) * (B64 - 1) := Nat.mul_le_mul (by omega) (by omega)
  have a2 : (B64 - 1) * (B64 - 1) + (B64 - 1) = B64 * (B64 - 1) := by decide
  have a3 : B64 * (hi + c1) + l1 ≤ B64 * (B64 - 1) := by omega
  have a4 : hi + c1 ≤ B64 - 1 := Nat.le_of_mul_le_mul_left (by omega : B64 * (hi + c1) ≤ B64 * (B64 - 1)) B64_pos
  have hp := B64_pos
  refine ⟨by omega, ?_, e⟩
  by_cases hh : hi + c1 = B64 - 1
  · rw [hh] at a3
    have : l1 = 0 := by omega
    have : c2 = 0 := by
      rcases Nat.eq_zero_or_pos c2 with h | h
      · exact h
      · have : c2 = 1 := by omega
        subst this; omega
    omega
  · omega

/-- What SubMul has done at place k. -/
structure SubMulRel (w : World) (g off m : Nat) (zs ys : List Nat) (v k cy : Nat) (dk : List Nat) (wr : World) : Prop where
  wrs : Wr g off m w wr
  row : Row wr g off m dk
  hi : dk.drop k = zs.drop k
  car : cy < B64
  sum : valB B64 (zs.take k) + B64 ^ k * cy = valB B64 (dk.take k) + valB B64 (ys.take k) * v

theorem SubMulRel.step {w : World} {g off m : Nat} {zs ys : List Nat} {v k cy : Nat} {dk : List Nat} {wr : World} (h : SubMulRel w g off m zs ys v k cy dk wr) (hk : k < m)
    {x z l d : Nat} (hz : z = dk.getD k 0) (hx : x = ys.getD k 0) (hs : l + x * v + cy = z + B64 * d) (hl : l < B64) (hd : d < B64) :
    SubMulRel w g off m zs ys v (k + 1) d (dk.set k l) (wr.setCell ⟨g, off + k, none⟩ (U l)) := by
  have hlen := h.row.len
  refine ⟨h.wrs.setCell (off + k) ⟨by omega, by omega⟩ _, h.row.set k l hk hl, ?_, hd, ?_⟩
  · rw [drop_set_lt]; exact drop_succ_of_drop h.hi
  · have hzz : z = zs.getD k 0 := hz.trans (getD_of_drop h.hi)
    rw [take_set_succ dk k l (by omega), valB_snoc, List.length_take, hlen, Nat.min_eq_left (by omega), valB_take_any _ zs k, valB_take_any _ ys k, ← hzz, ← hx, Nat.pow_succ, Nat.add_mul]
    have e1 := h.sum
    have e2 : B64 ^ k * (l + x * v + cy) = B64 ^ k * (z + B64 * d) := by rw [hs]
    rw [Nat.mul_add, Nat.mul_add, Nat.mul_add, ← Nat.mul_assoc] at e2
    have e3 : B64 ^ k * x * v = B64 ^ k * (x * v) := Nat.mul_assoc _ _ _
    have e4 : B64 ^ k * B64 * d = B64 ^ k * (B64 * d) := Nat.mul_assoc _ _ _
    rw [e3, e4]
    rw [← Nat.mul_assoc] at e2
    generalize B64 ^ k * x * v = X0 at *
    generalize B64 ^ k * (x * v) = X1 at *
    generalize B64 ^ k * B64 * d = X2 at *
    generalize B64 ^ k * (B64 * d) = X3 at *
    generalize B64 ^ k * z = X4 at *
    generalize B64 ^ k * cy = X5 at *
    generalize B64 ^ k * l = X6 at *
    omega

end Go.Proofs.YtmmgnkhfaiophaaDoor
