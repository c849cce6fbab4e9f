import Derived.Shelf.Strconv.Itoa0
import Derived.Test.YtmmgnkhfaiophaaDoorBw1
namespace Go.Proofs.YtmmgnkhfaiophaaDoor
open Go.RowKit Go.Shelf

def bl_renLen : Ren := ⟨fun x => match x with | 129 => 21 | n => n, fun x => match x with | 53 => 23 | 3 => 3 | 4 => 4 | 46 => 81 | 5 => 5 | 9 => 9 | n => n, fun n => n⟩
theorem bl_laysLen : Lays.n129 Tryd.prog bl_renLen :=
  { mixed := by kernel_rfl, f129 := Tryd.func21.trans (congrArg some (by kernel_rfl)),
    t3 := Tryd.underlying3, a3 := Tryd.isAgg3, z3 := Tryd.sizeOf3, v3 := Tryd.zeroValue3, t4 := Tryd.underlying4, a4 := Tryd.isAgg4, z4 := Tryd.sizeOf4, v4 := Tryd.zeroValue4,
    t5 := Tryd.underlying5, a5 := Tryd.isAgg5, z5 := Tryd.sizeOf5, v5 := Tryd.zeroValue5, t9 := Tryd.underlying9, a9 := Tryd.isAgg9, z9 := Tryd.sizeOf9, v9 := Tryd.zeroValue9,
    t46 := Tryd.underlying81, a46 := Tryd.isAgg81, z46 := Tryd.sizeOf81, v46 := Tryd.zeroValue81, t53 := Tryd.underlying23, a53 := Tryd.isAgg23, z53 := Tryd.sizeOf23, v53 := Tryd.zeroValue23 }

/-- The bit length. -/
def bl_bitsN (n : Nat) : Nat := if n = 0 then 0 else n.log2 + 1
theorem bl_bitsN_zero : bl_bitsN 0 = 0 := rfl
theorem bl_bitsN_lt (n : Nat) : n < 2 ^ bl_bitsN n := by
  unfold bl_bitsN
  split
  · rename_i h; subst h; decide
  · exact Nat.lt_log2_self
theorem bl_bitsN_le (n : Nat) (h : n ≠ 0) : 2 ^ (bl_bitsN n - 1) ≤ n := by
  unfold bl_bitsN
  rw [if_neg h, Nat.add_sub_cancel]
  exact Nat.log2_self_le h
theorem bl_bitsN_unique {n k : Nat} (h1 : n < 2 ^ k) (h2 : n ≠ 0 → 2 ^ (k - 1) ≤ n) (h3 : n = 0 → k = 0) : bl_bitsN n = k := by
  by_cases h0 : n = 0
  · subst h0; rw [h3 rfl]; rfl
  · have a1 := bl_bitsN_lt n
    have a2 := bl_bitsN_le n h0
    have b2 := h2 h0
    have c1 : bl_bitsN n - 1 < k := (Nat.pow_lt_pow_iff_right (by decide : 1 < 2)).1 (Nat.lt_of_le_of_lt a2 h1)
    have c2 : k - 1 < bl_bitsN n := (Nat.pow_lt_pow_iff_right (by decide : 1 < 2)).1 (Nat.lt_of_le_of_lt b2 a1)
    have c3 : bl_bitsN n ≠ 0 := by unfold bl_bitsN; rw [if_neg h0]; omega
    omega
theorem bl_bitsN_half (n : Nat) (h : n ≠ 0) : bl_bitsN n = 1 + bl_bitsN (n / 2) := by
  refine bl_bitsN_unique ?_ ?_ (fun e => absurd e h)
  · have := bl_bitsN_lt (n / 2)
    rw [Nat.add_comm, Nat.pow_succ]; omega
  · intro _
    by_cases h2 : n / 2 = 0
    · rw [h2]; simp [bl_bitsN]; omega
    · have a := bl_bitsN_le _ h2
      have c3 : bl_bitsN (n / 2) ≠ 0 := by unfold bl_bitsN; rw [if_neg h2]; omega
      have e : 1 + bl_bitsN (n / 2) - 1 = bl_bitsN (n / 2) - 1 + 1 := by omega
      rw [e, Nat.pow_succ]; omega
theorem bl_bitLen_eq : ∀ (k n : Nat), n < 2 ^ k → k ≤ 64 → Lib.bitLen n = bl_bitsN n := by
  intro k
  induction k with
  | zero => intro n h _; have : n = 0 := by simpa using h
            subst this; rfl
  | succ k ih =>
    intro n h hk
    by_cases h0 : n = 0
    · subst h0; rfl
    · rw [Lib.bitLen_half n h0 (Nat.lt_of_lt_of_le h (Nat.pow_le_pow_right (by decide) hk)), bl_bitsN_half n h0, ih (n / 2) (by rw [Nat.pow_succ] at h; omega) (by omega)]

theorem bl_len_any (x : Nat) (w : World) (hx : x < B64) : Calls Tryd.prog 21 #[U x] w fun e w' => e = .returned (.int .i64 (bl_bitsN x)) ∧ w' = w := by
  rw [B64_eq] at hx
  have h := Any.bits_Len64 bl_laysLen (x : Int) w (by omega) (by omega)
  rw [Int.toNat_natCast, bl_bitLen_eq 64 x hx (Nat.le_refl _)] at h
  exact h

theorem land_two_pow (b k : Nat) : b &&& 2 ^ k = if b / 2 ^ k % 2 = 1 then 2 ^ k else 0 := by
  refine Nat.eq_of_testBit_eq fun i => ?_
  rw [Nat.testBit_and, Nat.testBit_two_pow]
  by_cases h : k = i
  · subst h
    by_cases h2 : b / 2 ^ k % 2 = 1
    · rw [if_pos h2, Nat.testBit_two_pow_self]; simp [Nat.testBit_eq_decide_div_mod_eq, h2]
    · rw [if_neg h2]; simp [Nat.testBit_eq_decide_div_mod_eq, h2]
  · by_cases h2 : b / 2 ^ k % 2 = 1
    · rw [if_pos h2, Nat.testBit_two_pow]; simp [h]
    · rw [if_neg h2]; simp [h]
theorem sign_and (b S k : Nat) (hS : S = 2 ^ k) (hk : k < 64) (hb : b < 2 * S) : bits BinOp.and IntKind.u64 (b : Int) (S : Int) = ((if S ≤ b then S else 0 : Nat) : Int) := by
  have h1 : S ≤ 9223372036854775808 := by rw [hS]; exact Nat.le_trans (Nat.pow_le_pow_right (by decide) (by omega : k ≤ 63)) (by decide)
  rw [bits_and_u64_nat b S (by omega) (by omega)]
  congr 1
  rw [hS] at hb ⊢
  rw [land_two_pow]
  have hp := Nat.two_pow_pos k
  by_cases h : 2 ^ k ≤ b
  · have : b / 2 ^ k = 1 := by
      rw [Nat.div_eq_of_lt_le] <;> omega
    rw [this, if_pos rfl, if_pos h]
  · rw [Nat.div_eq_of_lt (by omega), if_neg (by decide), if_neg h]
theorem andNot_bv (b k : Nat) (hb : b < 2 ^ (k + 1)) (hk : k < 64) : (BitVec.ofNat 64 b &&& ~~~ BitVec.ofNat 64 (2 ^ k)) = BitVec.ofNat 64 (b % 2 ^ k) := by
  refine BitVec.eq_of_getLsbD_eq fun i hi => ?_
  simp only [BitVec.getLsbD_and, BitVec.getLsbD_not, BitVec.getLsbD_ofNat, Nat.testBit_two_pow, Nat.testBit_mod_two_pow, hi, decide_true, Bool.true_and]
  rcases Nat.lt_trichotomy i k with h | h | h
  · have h2 : ¬ k = i := by omega
    simp [h, h2]
  · subst h; simp
  · have h2 : b.testBit i = false := Nat.testBit_lt_two_pow (Nat.lt_of_lt_of_le hb (Nat.pow_le_pow_right (by decide) h))
    simp [h2]
theorem sign_andNot (b S k : Nat) (hS : S = 2 ^ k) (hk : k < 64) (hb : b < 2 * S) : bits BinOp.andNot IntKind.u64 (b : Int) (S : Int) = ((b % S : Nat) : Int) := by
  have h1 : S ≤ 9223372036854775808 := by rw [hS]; exact Nat.le_trans (Nat.pow_le_pow_right (by decide) (by omega : k ≤ 63)) (by decide)
  have hb2 : b < 2 ^ (k + 1) := by rw [Nat.pow_succ, ← hS]; omega
  show IntKind.u64.wrap ((BitVec.ofInt 64 (b : Int) &&& ~~~ BitVec.ofInt 64 (S : Int)).toNat : Int) = _
  rw [BitVec.ofInt_natCast, BitVec.ofInt_natCast, hS, andNot_bv b k hb2 hk, ← hS, BitVec.toNat_ofNat, IntKind.wrap_u64]
  have h2 : b % S < S := Nat.mod_lt _ (by rw [hS]; exact Nat.two_pow_pos k)
  omega
theorem sign_or (s S k : Nat) (hS : S = 2 ^ k) (hk : k < 64) (hs : s < S) : bits BinOp.or IntKind.u64 (S : Int) (s : Int) = ((S + s : Nat) : Int) := by
  have h1 : S ≤ 9223372036854775808 := by rw [hS]; exact Nat.le_trans (Nat.pow_le_pow_right (by decide) (by omega : k ≤ 63)) (by decide)
  have h2 := Nat.two_pow_add_eq_or_of_lt (i := k) (b := s) (hS ▸ hs) 1
  rw [Nat.mul_one] at h2
  rw [bits_or_u64_nat S s (by omega) (by omega), hS, ← h2]
theorem bl_gt32 {b : Nat} (h : 4294967296 ≤ b) : 32 < bl_bitsN b := by
  rcases Nat.lt_or_ge 32 (bl_bitsN b) with e | e
  · exact e
  · have h1 := bl_bitsN_lt b
    have h2 : 2 ^ bl_bitsN b ≤ 2 ^ 32 := Nat.pow_le_pow_right (by decide) e
    omega
theorem bl_le {b k : Nat} (h : b < 2 ^ k) : bl_bitsN b ≤ k := by
  by_cases h0 : b = 0
  · subst h0; rw [bl_bitsN_zero]; omega
  · have h1 := bl_bitsN_le b h0
    have h2 := (Nat.pow_lt_pow_iff_right (by decide : 1 < 2)).1 (Nat.lt_of_le_of_lt h1 h)
    omega
end Go.Proofs.YtmmgnkhfaiophaaDoor
