import Derived.Test.YtmmgnkhfaiophaaDoorLimbSub
namespace Go.Proofs.YtmmgnkhfaiophaaDoor
open Go.RowKit

/-- -1, 0 or 1. -/
def cmpN (a b : Nat) : Int := if a < b then -1 else if a = b then 0 else 1
theorem cmpN_lt {a b : Nat} (h : a < b) : cmpN a b = -1 := if_pos h
theorem cmpN_gt {a b : Nat} (h : b < a) : cmpN a b = 1 := by unfold cmpN; rw [if_neg (by omega), if_neg (by omega)]
theorem cmpN_eq {a b : Nat} (h : a = b) : cmpN a b = 0 := by unfold cmpN; rw [if_neg (by omega), if_pos h]
theorem cmpN_neg (a b : Nat) : cmpN a b < 0 ↔ a < b := by unfold cmpN; split <;> rename_i h; · simp [h]
                                                          · split <;> simp [h]

theorem val_lt_len {xs ys : List Nat} (hx : Dig B64 xs) (ty : Top ys) (h : xs.length < ys.length) : valB B64 xs < valB B64 ys := by
  have h1 := valB_lt B64_pos hx
  have h2 := valB_pos B64_pos (show ys ≠ [] by intro e; subst e; simp at h) ty
  have h3 : B64 ^ xs.length ≤ B64 ^ (ys.length - 1) := Nat.pow_le_pow_right B64_pos (by omega)
  omega
theorem val_lt_top {xs ys : List Nat} (hx : Dig B64 xs) {n t x y : Nat} (lx : xs.length = n) (ly : ys.length = n) (ht : t < n) (hd : xs.drop (t + 1) = ys.drop (t + 1)) (ex : x = xs.getD t 0) (ey : y = ys.getD t 0) (h : x < y) : valB B64 xs < valB B64 ys := by
  have h1 := valB_lt B64_pos (hx.take t)
  rw [List.length_take, lx, Nat.min_eq_left (by omega)] at h1
  rw [valB_split B64 xs t (by omega), valB_split B64 ys t (by omega), valB_drop _ xs t (by omega), valB_drop _ ys t (by omega), hd, ← ex, ← ey]
  have h2 : B64 ^ t * (x + 1) ≤ B64 ^ t * y := Nat.mul_le_mul_left _ h
  rw [Nat.mul_add] at h2
  rw [Nat.mul_add, Nat.mul_add]
  omega
theorem drop_step {xs ys : List Nat} {n t : Nat} (lx : xs.length = n) (ly : ys.length = n) (ht : t < n) (hd : xs.drop (t + 1) = ys.drop (t + 1)) (h : xs.getD t 0 = ys.getD t 0) : xs.drop t = ys.drop t := by
  rw [drop_getD xs t (by omega), drop_getD ys t (by omega), h, hd]

theorem drewN_two (w : World) (a b : Nat) : (w.drewN a).drewN b = w.drewN (a + b) := by simp

end Go.Proofs.YtmmgnkhfaiophaaDoor
