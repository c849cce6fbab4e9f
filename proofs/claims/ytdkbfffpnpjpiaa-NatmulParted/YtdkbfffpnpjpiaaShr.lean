import Derived.Test.YtdkbfffpnpjpiaaShl
namespace Go.Proofs.Ytdkbfffpnpjpiaa
open Go.RowKit

theorem div_pow_zero {a n : Nat} (h : bitsN a ≤ n) : a / 2 ^ n = 0 := Nat.div_eq_of_lt ((lt_pow_bits a n).2 h)
theorem mod_pow_self {a n : Nat} (h : bitsN a ≤ n) : a % 2 ^ n = a := Nat.mod_eq_of_lt ((lt_pow_bits a n).2 h)
theorem len_bits {xs : List Nat} {a m : Nat} (hx : Nf B64 xs a) (hl : xs.length = m) : bitsN a ≤ 64 * m := by
  rw [← lt_pow_bits, ← B64_pow]; exact (hx.len_le B64_one).1 (by omega)
theorem drop_div {xs : List Nat} {a k : Nat} (hx : Nf B64 xs a) (hk : k ≤ xs.length) : valB B64 (xs.drop k) = a / B64 ^ k := by
  have h1 := valB_split B64 xs k hk
  have h2 := valB_lt B64_pos (hx.dig.take k)
  rw [List.length_take, Nat.min_eq_left hk] at h2
  rw [hx.val] at h1
  rw [h1, Nat.add_mul_div_left _ _ (Nat.pow_pos B64_pos), Nat.div_eq_of_lt h2, Nat.zero_add]
theorem shr_split (n a : Nat) : a / B64 ^ (n / 64) / 2 ^ (n % 64) = a / 2 ^ n := by
  rw [B64_pow, Nat.div_div_eq_div_mul, ← Nat.pow_add, Nat.div_add_mod]
theorem take_mod {xs : List Nat} {a k : Nat} (hx : Nf B64 xs a) (hk : k ≤ xs.length) : valB B64 (xs.take k) = a % B64 ^ k := by
  have h1 := valB_split B64 xs k hk
  have h2 := valB_lt B64_pos (hx.dig.take k)
  rw [List.length_take, Nat.min_eq_left hk] at h2
  rw [hx.val] at h1
  rw [h1, Nat.add_mul_mod_self_left, Nat.mod_eq_of_lt h2]
theorem Own.empty (B : Nat) (w : World) (p : Option Addr) : Own B w p 0 [] := ⟨rfl, Dig.nil _, .inl rfl⟩
theorem At.drop {w : World} {g off n c : Nat} {xs : List Nat} (h : At w (some ⟨g, off, none⟩) n c xs) (k : Nat) (hk : k < n) : At w (some ⟨g, off + k, none⟩) (n - k) (n - k) (xs.drop k) := by
  have h1 := h.len; have h2 := h.cap; have h3 := h.big
  refine ⟨by rw [List.length_drop, h1], Nat.le_refl _, by omega, h.dig.drop k, .inr ⟨g, off + k, rfl, fun j hj => ?_⟩⟩
  obtain ⟨g', off', hp, hc⟩ := h.cells.resolve_left (by omega)
  simp only [Option.some.injEq, Addr.mk.injEq, and_true] at hp
  obtain ⟨rfl, rfl⟩ := hp
  have e : (xs.drop k).getD j 0 = xs.getD (k + j) 0 := by rw [List.getD_eq_getElem?_getD, List.getD_eq_getElem?_getD, List.getElem?_drop]
  rw [e, Nat.add_assoc]; exact hc (k + j) (by omega)

theorem mask_val {xs ys : List Nat} {a n x : Nat} (hx : Nf B64 xs a) (hk : n / 64 < xs.length) (ex : x = xs.getD (n / 64) 0) (hy : ys = (xs.take (n / 64 + 1)).set (n / 64) (x % 2 ^ (n % 64))) : valB B64 ys = a % 2 ^ n := by
  have hl : (xs.take (n / 64 + 1)).length = n / 64 + 1 := by rw [List.length_take]; omega
  have e1 : ys = xs.take (n / 64) ++ [x % 2 ^ (n % 64)] := by
    have h1 := take_set_succ (xs.take (n / 64 + 1)) (n / 64) (x % 2 ^ (n % 64)) (by omega)
    rw [← hy, List.take_of_length_le (by rw [hy, List.length_set]; omega), List.take_take, Nat.min_eq_left (by omega)] at h1
    exact h1
  have h2 : x = a / B64 ^ (n / 64) % B64 := by
    rw [← drop_div hx (by omega), drop_getD xs _ hk, ← ex, valB_cons, Nat.add_mul_mod_self_left, Nat.mod_eq_of_lt]
    rw [ex]; exact hx.dig.getD B64_pos _
  rw [e1, valB_snoc, List.length_take, Nat.min_eq_left (by omega), take_mod hx (by omega), h2]
  have h3 : 2 ^ n = B64 ^ (n / 64) * 2 ^ (n % 64) := by rw [B64_pow, ← Nat.pow_add, Nat.div_add_mod]
  have h4 : a / B64 ^ (n / 64) % B64 % 2 ^ (n % 64) = a / B64 ^ (n / 64) % 2 ^ (n % 64) := by
    refine Nat.mod_mod_of_dvd _ ⟨2 ^ (64 - n % 64), ?_⟩
    exact (pow_split (n % 64) (by omega)).symm
  rw [h4, h3, Nat.mod_mul]

theorem mask_and (x s : Nat) (hx : x < B64) (hs : s < 64) : Value.int .u64 (bits .and .u64 (x : Int) (IntKind.u64.wrap (IntKind.u64.wrap (2 ^ s) - 1))) = U (x % 2 ^ s) := by
  have h1 : IntKind.u64.wrap ((2 : Int) ^ s) = ((2 ^ s : Nat) : Int) := by
    have h2 : 2 ^ s < B64 := by rw [B64_p]; exact (Nat.pow_lt_pow_iff_right (by decide : 1 < 2)).2 hs
    have := wrap_nat 1 s
    unfold shlW at this
    rw [Nat.one_mul, Nat.mod_eq_of_lt h2] at this
    rw [show ((1 : Nat) : Int) * 2 ^ s = (2 : Int) ^ s by simp] at this
    exact this
  have hp := Nat.two_pow_pos s
  have h2 : 2 ^ s < 18446744073709551616 := by rw [← B64_eq, B64_p]; exact (Nat.pow_lt_pow_iff_right (by decide : 1 < 2)).2 hs
  have h3 : IntKind.u64.wrap (((2 ^ s : Nat) : Int) - 1) = ((2 ^ s - 1 : Nat) : Int) := by
    rw [IntKind.wrap_u64]
    generalize 2 ^ s = P at *
    omega
  rw [B64_eq] at hx
  rw [h1, h3, bits_and_u64_nat x _ hx (by omega), Nat.and_two_pow_sub_one_eq_mod]

end Go.Proofs.Ytdkbfffpnpjpiaa
