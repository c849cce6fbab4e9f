import Derived.Test.YtmefpgebmchnkaaGreatDoorJ14
import Derived.Deep.Draws
import Derived.Test.YtmefpgebmchnkaaGreatDoorChecked
import Derived.Test.YtmefpgebmchnkaaGreatDoorMem
import Derived.Laws.Externs
import Derived.Test.YtmefpgebmchnkaaGreatDoorJ13
import Derived.Test.YtmefpgebmchnkaaGreatDoorJ12
import Derived.Test.YtmefpgebmchnkaaGreatDoorJ11
import Derived.Laws.EntriesVeiled
namespace Go.Proofs.YtmefpgebmchnkaaGreatDoor
open Go.RowKit
set_option maxRecDepth 100000
set_option maxHeartbeats 0
theorem dvd_far {d : Nat} {x y : Int} (hx : (d : Int) ∣ x) (hy : (d : Int) ∣ y) (h : x ≠ y) : d ≤ (x - y).natAbs := by
  have h1 : d ∣ (x - y).natAbs := Int.ofNat_dvd_left.1 (Int.dvd_sub hx hy)
  exact Nat.le_of_dvd (by omega) h1
theorem rn_mk {p L : Nat} {x s : Int} (hp : 1 ≤ p) (h1 : ((2 ^ L : Nat) : Int) ∣ s) (h2 : s.natAbs ≤ 2 ^ (p + L)) (h3 : 2 * (s - x).natAbs ≤ 2 ^ L) (h4 : L = 0 ∨ 2 ^ (p - 1 + L) ≤ x.natAbs) : Rn p x s := by
  have key : ∀ z : Int, ((2 ^ L : Nat) : Int) ∣ z → (s - x).natAbs ≤ (z - x).natAbs := fun z hz => by
    by_cases h : z = s
    · rw [h]; exact Nat.le_refl _
    · have := dvd_far hz h1 h
      omega
  refine ⟨⟨L, h1, h2⟩, fun z hz => ?_⟩
  by_cases hd : ((2 ^ L : Nat) : Int) ∣ z
  · exact key z hd
  · have hL : L ≠ 0 := fun h => hd (by subst h; exact ⟨z, by simp⟩)
    have h4 : 2 ^ (p - 1 + L) ≤ x.natAbs := by rcases h4 with h | h; exact absurd h hL; exact h
    have h5 : z.natAbs < 2 ^ (p - 1 + L) := Nat.lt_of_not_le fun h => hd (hz.dvd hp h)
    rcases Int.le_total 0 x with h0 | h0
    · have := key _ (p2dvd (show L ≤ p - 1 + L by omega))
      omega
    · have := key _ (Int.dvd_neg.2 (p2dvd (show L ≤ p - 1 + L by omega)))
      omega
def rne (n L : Nat) : Nat := n / 2 ^ L + (decide (2 ^ L < 2 * (n % 2 ^ L)) || (2 ^ L == 2 * (n % 2 ^ L) && n / 2 ^ L % 2 == 1)).toNat
theorem cut_eq (neg : Bool) (n L : Nat) (h : L ≤ n.log2 + 2) : Ieee.Toward.even.cut neg n L = rne n L := by
  unfold Ieee.Toward.cut rne
  rw [Nat.min_eq_left h, Nat.one_shiftLeft]
theorem rne_zero (n : Nat) : rne n 0 = n := by
  unfold rne
  simp [Nat.mod_one]
theorem rne_mul (n L d : Nat) : rne (n * 2 ^ d) (L + d) = rne n L := by
  have hd : 0 < 2 ^ d := p2pos d
  have h1 : n * 2 ^ d / 2 ^ (L + d) = n / 2 ^ L := by rw [Nat.pow_add]; exact Nat.mul_div_mul_right _ _ hd
  have h2 : n * 2 ^ d % 2 ^ (L + d) = n % 2 ^ L * 2 ^ d := by rw [Nat.pow_add]; exact Nat.mul_mod_mul_right _ _ _
  have h3 : decide (2 ^ (L + d) < 2 * (n % 2 ^ L * 2 ^ d)) = decide (2 ^ L < 2 * (n % 2 ^ L)) := by
    rw [← Nat.mul_assoc, Nat.pow_add]; exact decide_eq_decide.2 (Nat.mul_lt_mul_right hd)
  have h4 : (2 ^ (L + d) == 2 * (n % 2 ^ L * 2 ^ d)) = (2 ^ L == 2 * (n % 2 ^ L)) := by
    rw [← Nat.mul_assoc, Nat.pow_add, Bool.eq_iff_iff, beq_iff_eq, beq_iff_eq]; exact Nat.mul_right_cancel_iff hd
  unfold rne
  rw [h1, h2, h3, h4]
theorem rne_err (n L : Nat) : 2 * ((rne n L * 2 ^ L : Nat) - (n : Int)).natAbs ≤ 2 ^ L := by
  have h1 := Nat.div_add_mod n (2 ^ L)
  have h2 := Nat.mod_lt n (p2pos L)
  unfold rne
  rw [Nat.mul_comm] at h1
  generalize hr : n % 2 ^ L = r at *
  generalize hq : n / 2 ^ L = q at *
  generalize 2 ^ L = D at *
  by_cases h3 : D < 2 * r
  · rw [decide_eq_true h3, Bool.true_or, Bool.toNat_true, Nat.add_mul]; omega
  · rw [decide_eq_false h3, Bool.false_or]
    by_cases h4 : D = 2 * r
    · rcases Nat.mod_two_eq_zero_or_one q with h5 | h5
      · rw [h5]; simp; omega
      · rw [h5, show (D == 2 * r) = true by simp [h4]]
        simp only [beq_self_eq_true, Bool.and_self, Bool.toNat_true]
        rw [Nat.add_mul]; omega
    · have : (D == 2 * r) = false := by simp [h4]
      rw [this]; simp; omega
theorem rne_le (n L K : Nat) (h : n ≤ K * 2 ^ L) : rne n L ≤ K := by
  have h1 := rne_err n L
  refine Nat.le_of_not_lt fun h2 => ?_
  have h3 : (K + 1) * 2 ^ L ≤ rne n L * 2 ^ L := Nat.mul_le_mul_right _ h2
  rw [Nat.add_mul] at h3
  have := p2pos L
  omega
theorem le_rne (n L K : Nat) (h : K * 2 ^ L ≤ n) : K ≤ rne n L := by
  unfold rne
  have : K ≤ n / 2 ^ L := (Nat.le_div_iff_mul_le (p2pos L)).2 h
  omega
theorem log2_mul (n d : Nat) (h : n ≠ 0) : (n * 2 ^ d).log2 = n.log2 + d := by
  have h1 : 2 ^ n.log2 ≤ n := Nat.log2_self_le h
  have h2 : n < 2 ^ (n.log2 + 1) := Nat.lt_log2_self
  have hd : 0 < 2 ^ d := p2pos d
  have hz : n * 2 ^ d ≠ 0 := Nat.mul_ne_zero h (by omega)
  refine (Nat.log2_eq_iff hz).2 ⟨?_, ?_⟩
  · rw [Nat.pow_add]; exact Nat.mul_le_mul_right _ h1
  · rw [show n.log2 + d + 1 = n.log2 + 1 + d by omega, Nat.pow_add]; exact Nat.mul_lt_mul_of_pos_right h2 hd
def rg (c n : Nat) : Nat := if n = 0 then 0 else min ((n.log2 - 52 - c) * 4503599627370496 + rne n (n.log2 - 52)) 9218868437227405312
theorem nearest_rg (neg : Bool) (mag c d : Nat) (h : c = 0 ∨ c + 52 ≤ (mag * 2 ^ d).log2) :
    Ieee.double.nearest neg mag (-1074 - (c : Int) + (d : Int)) = Ieee.double.word neg (rg c (mag * 2 ^ d)) := by
  have e1 : Ieee.double.leastPlace = -1074 := by decide
  have e2 : Ieee.double.binade = 4503599627370496 := by decide
  have e3 : Ieee.double.infRung = 9218868437227405312 := by decide
  have e4 : Ieee.double.fractionBits = 52 := by decide
  have hd : 0 < 2 ^ d := p2pos d
  unfold Ieee.Format.nearest rg
  by_cases h0 : mag = 0
  · subst h0; simp
  · have hz : mag * 2 ^ d ≠ 0 := Nat.mul_ne_zero h0 (by omega)
    rw [if_neg h0, if_neg hz, e1, e2, e3, e4]
    have hl := log2_mul mag d h0
    obtain ⟨l, hle⟩ : ∃ l, l = mag.log2 := ⟨_, rfl⟩
    rw [← hle] at hl ⊢
    rw [hl] at h ⊢
    obtain ⟨L, hL⟩ : ∃ L, L = l + d - 52 := ⟨_, rfl⟩
    rw [← hL]
    have e5 : max (-1074 - (c : Int) + (d : Int) + (l : Int) - ((52 : Nat) : Int)) (-1074) = -1074 - (c : Int) + (L : Int) := by omega
    dsimp only
    rw [e5]
    have e6 : (-1074 - (c : Int) + (L : Int) - -1074).toNat = L - c := by omega
    rw [e6]
    have e7 : (-1074 - (c : Int) + (d : Int) - (-1074 - (c : Int) + (L : Int))).toNat = d - L := by omega
    have e8 : (-1074 - (c : Int) + (L : Int) - (-1074 - (c : Int) + (d : Int))).toNat = L - d := by omega
    rw [e7, e8, Nat.shiftLeft_eq]
    have e9 : Ieee.Toward.even.cut neg (mag * 2 ^ (d - L)) (L - d) = rne (mag * 2 ^ d) L := by
      rcases Nat.le_total L d with h1 | h1
      · rw [show L - d = 0 by omega, cut_eq _ _ _ (by omega), rne_zero]
        have h2 := rne_mul (mag * 2 ^ (d - L)) 0 L
        rw [Nat.zero_add, rne_zero, Nat.mul_assoc, ← Nat.pow_add, show d - L + L = d by omega] at h2
        exact h2.symm
      · rw [show d - L = 0 by omega, Nat.pow_zero, Nat.mul_one, cut_eq _ _ _ (by omega)]
        have h2 := rne_mul mag (L - d) d
        rw [show L - d + d = L by omega] at h2
        exact h2.symm
    rw [e9]

def ux (b : Nat) : Int := svS 9223372036854775808 4503599627370496 b
theorem ux_eq (b : Nat) : ux b = if 9223372036854775808 ≤ b then -(vs 4503599627370496 (b % 9223372036854775808) : Int) else (vs 4503599627370496 (b % 9223372036854775808) : Int) := svS_eq _ _ _
theorem vs_at (L k : Nat) (h : L = 0 ∨ 4503599627370496 ≤ k) (hk : k ≤ 9007199254740992) : vs 4503599627370496 (L * 4503599627370496 + k) = k * 2 ^ L := by
  unfold vs
  rcases Nat.lt_or_ge k 9007199254740992 with h1 | h1
  · have h2 : (L * 4503599627370496 + k) / 4503599627370496 - 1 = L := by omega
    rw [h2, show L * 4503599627370496 + k - L * 4503599627370496 = k by omega]
  · obtain rfl : k = 9007199254740992 := by omega
    have h2 : (L * 4503599627370496 + 9007199254740992) / 4503599627370496 - 1 = L + 1 := by omega
    rw [h2, p2succ, show L * 4503599627370496 + 9007199254740992 - (L + 1) * 4503599627370496 = 4503599627370496 by omega, ← Nat.mul_assoc]
theorem rg_rn (n : Nat) (h : rg 0 n < 9218868437227405312) : Rn 53 (n : Int) (vs 4503599627370496 (rg 0 n) : Int) := by
  unfold rg at h ⊢
  by_cases h0 : n = 0
  · subst h0
    rw [if_pos rfl]
    exact rn_mk (L := 0) (by omega) ⟨0, by simp [vs]⟩ (by simp [vs]) (by simp [vs]) (.inl rfl)
  · rw [if_neg h0] at h ⊢
    have hl : 2 ^ n.log2 ≤ n := Nat.log2_self_le h0
    have hu : n < 2 ^ (n.log2 + 1) := Nat.lt_log2_self
    rw [Nat.sub_zero] at h ⊢
    rw [Nat.min_eq_left (by omega)]
    obtain ⟨L, hL⟩ : ∃ L, L = n.log2 - 52 := ⟨_, rfl⟩
    rw [← hL]
    have hk : rne n L ≤ 9007199254740992 := by
      refine rne_le n L _ (Nat.le_of_lt (Nat.lt_of_lt_of_le hu ?_))
      rw [show 9007199254740992 = 2 ^ 53 by decide, ← Nat.pow_add]
      exact p2le (by omega)
    have hn : L = 0 ∨ 2 ^ (52 + L) ≤ n := by
      by_cases h1 : L = 0
      · exact .inl h1
      · exact .inr (Nat.le_trans (p2le (by omega)) hl)
    have hk2 : L = 0 ∨ 4503599627370496 ≤ rne n L := by
      rcases hn with h1 | h1
      · exact .inl h1
      · refine .inr (le_rne n L _ ?_)
        rw [show 4503599627370496 = 2 ^ 52 by decide, ← Nat.pow_add]; exact h1
    rw [vs_at L _ hk2 hk]
    refine rn_mk (L := L) (by omega) ⟨rne n L, by rw [Int.natCast_mul, Int.mul_comm]⟩ ?_ (rne_err n L) ?_
    · rw [Int.natAbs_natCast, Nat.pow_add]
      exact Nat.mul_le_mul_right _ hk
    · rw [Int.natAbs_natCast]; exact hn
theorem read_fin {b : Nat} (hb : b < 18446744073709551616) (hf : b % 9223372036854775808 < 9218868437227405312) :
    ∃ m q : Nat, Ieee.double.read b = .number (decide (9223372036854775808 ≤ b)) m (-1074 + (q : Int)) ∧ m * 2 ^ q = vs 4503599627370496 (b % 9223372036854775808) := by
  have e1 : Ieee.double.leastPlace = -1074 := by decide
  have e2 : Ieee.double.binade = 4503599627370496 := by decide
  have e3 : Ieee.double.infRung = 9218868437227405312 := by decide
  have e4 : Ieee.double.signWeight = 9223372036854775808 := by decide
  have hs : (b / 9223372036854775808 % 2 == 1) = decide (9223372036854775808 ≤ b) := by
    by_cases h : 9223372036854775808 ≤ b
    · rw [decide_eq_true h, beq_iff_eq]; omega
    · rw [decide_eq_false h, beq_eq_false_iff_ne]; omega
  unfold Ieee.Format.read
  rw [e1, e2, e3, e4]
  dsimp only
  rw [hs]
  generalize b % 9223372036854775808 = r at hf ⊢
  by_cases h1 : r < 4503599627370496
  · refine ⟨r, 0, by rw [if_pos h1]; rfl, ?_⟩
    unfold vs
    rw [show r / 4503599627370496 - 1 = 0 by omega]; simp
  · refine ⟨4503599627370496 + r % 4503599627370496, r / 4503599627370496 - 1, by rw [if_neg h1, if_pos hf], ?_⟩
    unfold vs
    congr 1
    omega
theorem signed_eq (neg : Bool) (m u : Nat) : Ieee.signed neg m u = if neg then -((m * 2 ^ u : Nat) : Int) else ((m * 2 ^ u : Nat) : Int) := by
  unfold Ieee.signed
  rw [Nat.shiftLeft_eq]
theorem ux_of {b m q : Nat} (h : m * 2 ^ q = vs 4503599627370496 (b % 9223372036854775808)) : ux b = Ieee.signed (decide (9223372036854775808 ≤ b)) m q := by
  rw [ux_eq, signed_eq, ← h]
  by_cases h1 : 9223372036854775808 ≤ b <;> simp [h1]
theorem signed_up (neg : Bool) (m u v : Nat) : Ieee.signed neg m u * ((2 ^ v : Nat) : Int) = Ieee.signed neg m (u + v) := by
  rw [signed_eq, signed_eq, Nat.pow_add, ← Nat.mul_assoc]
  cases neg <;> simp [Int.neg_mul]
theorem sum_fin (s t : Bool) (m n q r : Nat) (X : Int) (hX : X = Ieee.signed s m q + Ieee.signed t n r) :
    ((Ieee.Datum.number s m (-1074 + (q : Int))).sum (.number t n (-1074 + (r : Int)))).map Ieee.double.write = some (Ieee.double.word (if X = 0 then s && t else decide (X < 0)) (rg 0 X.natAbs)) := by
  obtain ⟨d, hd⟩ : ∃ d, d = min q r := ⟨_, rfl⟩
  have hb : min (-1074 + (q : Int)) (-1074 + (r : Int)) = -1074 + (d : Int) := by omega
  unfold Ieee.Datum.sum
  dsimp only
  rw [hb, show (-1074 + (q : Int) - (-1074 + (d : Int))).toNat = q - d by omega, show (-1074 + (r : Int) - (-1074 + (d : Int))).toNat = r - d by omega]
  have hT : (Ieee.signed s m (q - d) + Ieee.signed t n (r - d)) * ((2 ^ d : Nat) : Int) = X := by
    rw [Int.add_mul, signed_up, signed_up, hX, show q - d + d = q by omega, show r - d + d = r by omega]
  generalize Ieee.signed s m (q - d) + Ieee.signed t n (r - d) = T at hT ⊢
  have hp : (0 : Int) < ((2 ^ d : Nat) : Int) := Int.ofNat_lt.2 (p2pos d)
  have h0 : (T = 0) = (X = 0) := by
    rw [← hT, eq_iff_iff, Int.mul_eq_zero]
    exact ⟨fun h => .inl h, fun h => by rcases h with h | h; exact h; omega⟩
  have hn : decide (T < 0) = decide (X < 0) := by
    refine decide_eq_decide.2 ?_
    rw [← hT]
    constructor
    · intro h; exact Int.mul_neg_of_neg_of_pos h hp
    · intro h
      refine Int.lt_of_not_ge fun h1 => ?_
      have := Int.mul_nonneg h1 (Int.le_of_lt hp)
      omega
  have ha : T.natAbs * 2 ^ d = X.natAbs := by rw [← hT, Int.natAbs_mul, Int.natAbs_natCast]
  show some (Ieee.double.nearest _ T.natAbs (-1074 + (d : Int))) = _
  have := nearest_rg (if T = 0 then s && t else decide (T < 0)) T.natAbs 0 d (.inl rfl)
  rw [show (-1074 : Int) - ((0 : Nat) : Int) + (d : Int) = -1074 + (d : Int) by omega, ha] at this
  rw [this, hn]
  simp only [h0]

theorem word_facts (neg : Bool) {r : Nat} (_h : r < 9218868437227405312) : Ieee.double.word neg r < 18446744073709551616 ∧ Ieee.double.word neg r % 9223372036854775808 = r ∧ ux (Ieee.double.word neg r) = if neg then -(vs 4503599627370496 r : Int) else (vs 4503599627370496 r : Int) := by
  have e4 : Ieee.double.signWeight = 9223372036854775808 := by decide
  rw [ux_eq]
  unfold Ieee.Format.word
  rw [e4]
  cases neg
  · refine ⟨by simp; omega, by simp; omega, ?_⟩
    simp only [Bool.false_eq_true, if_false]
    rw [if_neg (by omega), Nat.mod_eq_of_lt (by omega)]
  · refine ⟨by simp; omega, by simp; omega, ?_⟩
    simp only [if_true]
    rw [if_pos (by omega), show (9223372036854775808 + r) % 9223372036854775808 = r by omega]
def MaxU : Nat := 9007199254740991 * 2 ^ 2045
theorem MaxU_eq {K : Nat} (h : K = 2045) : MaxU = 9007199254740991 * 2 ^ K := by subst h; rfl
theorem rg_fin {n : Nat} (h : n ≤ MaxU) : rg 0 n < 9218868437227405312 := by
  unfold rg
  by_cases h0 : n = 0
  · rw [if_pos h0]; omega
  · rw [if_neg h0, Nat.sub_zero]
    refine Nat.lt_of_le_of_lt (Nat.min_le_left ..) ?_
    have hl : 2 ^ n.log2 ≤ n := Nat.log2_self_le h0
    have hu : n < 2 ^ (n.log2 + 1) := Nat.lt_log2_self
    have h53 : (9007199254740992 : Nat) = 2 ^ 53 := by decide
    rcases Nat.lt_or_ge n.log2 2097 with h1 | h1
    · have hk : rne n (n.log2 - 52) ≤ 9007199254740992 := by
        refine rne_le n _ _ (Nat.le_of_lt (Nat.lt_of_lt_of_le hu ?_))
        rw [h53, ← Nat.pow_add]
        exact p2le (by omega)
      omega
    · obtain ⟨K, hK⟩ : ∃ K, K = 2045 := ⟨_, rfl⟩
      rw [MaxU_eq hK] at h
      have h2 : n.log2 < 53 + K := by
        refine p2lt (Nat.lt_of_le_of_lt hl (Nat.lt_of_le_of_lt h ?_))
        rw [Nat.pow_add, ← h53]
        exact Nat.mul_lt_mul_of_pos_right (by omega) (p2pos _)
      rw [show n.log2 - 52 = K by omega]
      have hk := rne_le n K 9007199254740991 h
      omega
structure Fin64 (b : Nat) : Prop where
  lt : b < 18446744073709551616
  fin : b % 9223372036854775808 < 9218868437227405312
theorem Fin64.fl {b : Nat} (_h : Fin64 b) : Fl 53 (ux b) := by
  have h1 : Fl 53 (vs 4503599627370496 (b % 9223372036854775808) : Int) := by
    unfold vs
    refine ⟨b % 9223372036854775808 / 4503599627370496 - 1, ⟨((b % 9223372036854775808 - (b % 9223372036854775808 / 4503599627370496 - 1) * 4503599627370496 : Nat) : Int), by rw [Int.natCast_mul, Int.mul_comm]⟩, ?_⟩
    rw [Int.natAbs_natCast, Nat.pow_add]
    refine Nat.mul_le_mul_right _ ?_
    rw [show 2 ^ 53 = 9007199254740992 by decide]
    omega
  rw [ux_eq]
  split
  · exact h1.neg
  · exact h1
structure Sm64 (X : Int) (r : Nat) : Prop where
  fin : Fin64 r
  size : r % 9223372036854775808 = rg 0 X.natAbs
  sign : X ≠ 0 → (9223372036854775808 ≤ r ↔ X < 0)
  rn : Rn 53 X (ux r)
theorem sm_word {X : Int} {neg : Bool} (h : X.natAbs ≤ MaxU) (hn : X ≠ 0 → neg = decide (X < 0)) : Sm64 X (Ieee.double.word neg (rg 0 X.natAbs)) := by
  have h1 := rg_fin h
  obtain ⟨a, b, c⟩ := word_facts neg h1
  refine ⟨⟨a, by rw [b]; exact h1⟩, b, fun h0 => ?_, ?_⟩
  · have e4 : Ieee.double.signWeight = 9223372036854775808 := by decide
    rw [hn h0]
    unfold Ieee.Format.word
    rw [e4]
    by_cases h2 : X < 0
    · simp [h2]
    · simp [h2]; omega
  · rw [c]
    have h2 := rg_rn X.natAbs h1
    by_cases h0 : X = 0
    · subst h0
      have : rg 0 (Int.natAbs 0) = 0 := rfl
      rw [this]
      have h3 : vs 4503599627370496 0 = 0 := by simp [vs]
      rw [h3]
      cases neg
      · exact ⟨Fl.zero _, fun z _ => by simp⟩
      · exact ⟨Fl.zero _, fun z _ => by simp⟩
    · rw [hn h0]
      by_cases h3 : X < 0
      · rw [decide_eq_true h3, if_pos rfl]
        have := h2.neg
        rw [show -((X.natAbs : Nat) : Int) = X by omega] at this
        exact this
      · rw [decide_eq_false h3]
        rw [show ((X.natAbs : Nat) : Int) = X by omega] at h2
        simpa using h2
theorem fl_add_fin {a b : Nat} (ha : Fin64 a) (hb : Fin64 b) (h : (ux a + ux b).natAbs ≤ MaxU) : ∃ r, floatBits .add .f64 a b = some r ∧ Sm64 (ux a + ux b) r := by
  obtain ⟨m, q, h1, h2⟩ := read_fin ha.lt ha.fin
  obtain ⟨n, t, h3, h4⟩ := read_fin hb.lt hb.fin
  have hX : ux a + ux b = Ieee.signed (decide (9223372036854775808 ≤ a)) m q + Ieee.signed (decide (9223372036854775808 ≤ b)) n t := by rw [ux_of h2, ux_of h4]
  refine ⟨_, ?_, sm_word h (neg := if ux a + ux b = 0 then decide (9223372036854775808 ≤ a) && decide (9223372036854775808 ≤ b) else decide (ux a + ux b < 0)) fun h0 => if_neg h0⟩
  show ((Ieee.double.read a).sum (Ieee.double.read b)).map Ieee.double.write = _
  rw [h1, h3]
  exact sum_fin _ _ _ _ _ _ _ hX
theorem fl_sub_fin {a b : Nat} (ha : Fin64 a) (hb : Fin64 b) (h : (ux a - ux b).natAbs ≤ MaxU) : ∃ r, floatBits .sub .f64 a b = some r ∧ Sm64 (ux a - ux b) r := by
  obtain ⟨m, q, h1, h2⟩ := read_fin ha.lt ha.fin
  obtain ⟨n, t, h3, h4⟩ := read_fin hb.lt hb.fin
  have hX : ux a - ux b = Ieee.signed (decide (9223372036854775808 ≤ a)) m q + Ieee.signed (!decide (9223372036854775808 ≤ b)) n t := by
    rw [ux_of h2, ux_of h4, signed_eq _ n, signed_eq _ n]
    cases decide (9223372036854775808 ≤ b) <;> simp <;> omega
  refine ⟨_, ?_, sm_word h (neg := if ux a - ux b = 0 then decide (9223372036854775808 ≤ a) && !decide (9223372036854775808 ≤ b) else decide (ux a - ux b < 0)) fun h0 => if_neg h0⟩
  show ((Ieee.double.read a).sum (Ieee.double.read b).opposite).map Ieee.double.write = _
  rw [h1, h3]
  exact sum_fin _ _ _ _ _ _ _ hX
def NanP (r : Nat) : Prop := 9218868437227405312 < r % 9223372036854775808
structure FlR (op : BinOp) (x y r : Nat) : Prop where
  lt : r < 18446744073709551616
  some : ∀ v, floatBits op .f64 x y = some v → r = v
  none : floatBits op .f64 x y = none → NanP r
def TSR (a b s r : Nat) : Prop := ∃ ob oa da db, FlR .add a b s ∧ FlR .sub s a ob ∧ FlR .sub s ob oa ∧ FlR .sub a oa da ∧ FlR .sub b ob db ∧ FlR .add da db r
def FSR (a b s r : Nat) : Prop := ∃ t, FlR .add a b s ∧ FlR .sub s a t ∧ FlR .sub b t r
def SPR (a h l : Nat) : Prop := ∃ c d, FlR .mul 4728779608772575232 a c ∧ FlR .sub c a d ∧ FlR .sub c d h ∧ FlR .sub a h l
def TPR (a b p e : Nat) : Prop := ∃ ah al bh bl x1 e1 x2 e2 x3 e3 x4, FlR .mul a b p ∧ SPR a ah al ∧ SPR b bh bl ∧ FlR .mul ah bh x1 ∧ FlR .sub x1 p e1 ∧ FlR .mul ah bl x2 ∧ FlR .add e1 x2 e2 ∧ FlR .mul al bh x3 ∧ FlR .add e2 x3 e3 ∧ FlR .mul al bl x4 ∧ FlR .add e3 x4 e
theorem FlR.add {x y r : Nat} (h : FlR .add x y r) (hx : Fin64 x) (hy : Fin64 y) (hm : (ux x + ux y).natAbs ≤ MaxU) : Sm64 (ux x + ux y) r := by
  obtain ⟨v, h1, h2⟩ := fl_add_fin hx hy hm
  rw [h.some v h1]; exact h2
theorem FlR.sub {x y r : Nat} (h : FlR .sub x y r) (hx : Fin64 x) (hy : Fin64 y) (hm : (ux x - ux y).natAbs ≤ MaxU) : Sm64 (ux x - ux y) r := by
  obtain ⟨v, h1, h2⟩ := fl_sub_fin hx hy hm
  rw [h.some v h1]; exact h2
theorem ux_abs (b : Nat) : (ux b).natAbs = vs 4503599627370496 (b % 9223372036854775808) := by
  rw [ux_eq]; split <;> omega
theorem vs_le4 {s t : Nat} (h : s ≤ t) : vs 4503599627370496 s ≤ vs 4503599627370496 t := by
  rcases Nat.lt_or_eq_of_le h with h1 | h1
  · exact Nat.le_of_lt (vs_mono (by omega) h1)
  · rw [h1]; exact Nat.le_refl _
theorem ux_pow {b K : Nat} (h : b % 9223372036854775808 ≤ (K + 1) * 4503599627370496) : (ux b).natAbs ≤ 2 ^ (52 + K) := by
  rw [ux_abs]
  refine Nat.le_trans (vs_le4 h) (Nat.le_of_eq ?_)
  have := vs_at K 4503599627370496 (.inr (Nat.le_refl _)) (by omega)
  rw [show (K + 1) * 4503599627370496 = K * 4503599627370496 + 4503599627370496 by omega, this, Nat.pow_add, show (2 : Nat) ^ 52 = 4503599627370496 by decide]
theorem Rn.bound {p : Nat} {x s : Int} {K : Nat} (h : Rn p x s) (hx : x.natAbs ≤ 2 ^ K) : s.natAbs ≤ 2 ^ K := by
  have h1 := h.hi (Fl.pow p K) (by omega)
  have h2 := h.neg.hi (Fl.pow p K) (by omega)
  omega
theorem Rn.near1 {x s : Int} {M : Nat} (h : Rn 53 x s) (hs : s.natAbs ≤ 4 * M) : (x - s).natAbs ≤ M := by
  have h1 := h.little (by omega)
  rw [show (2 : Nat) ^ 53 = 9007199254740992 by decide] at h1
  omega
theorem max_big {K M : Nat} (hK : K = 2044) (h : M = 2 ^ (52 + K)) : 3 * M ≤ MaxU ∧ 2 ^ (53 + K) = 2 * M := by
  have h1 : 2 ^ (52 + K) = 2251799813685248 * 2 ^ (K + 1) := by
    rw [show (2251799813685248 : Nat) = 2 ^ 51 by decide, ← Nat.pow_add]
    congr 1
    omega
  have h2 : 2 ^ (53 + K) = 2 * 2 ^ (52 + K) := by rw [show 53 + K = 52 + K + 1 by omega, p2succ]
  refine ⟨?_, by rw [h2, h]⟩
  rw [MaxU_eq (show K + 1 = 2045 by omega), h, h1]
  generalize 2 ^ (K + 1) = z
  omega
theorem pow1022 {a K : Nat} (hK : K = 2044) (h : a % 9223372036854775808 ≤ 9209861237972664320) : (ux a).natAbs ≤ 2 ^ (52 + K) := ux_pow (by omega)
theorem TSR.ok {a b s r : Nat} (h : TSR a b s r) (ha : a < 18446744073709551616) (hb : b < 18446744073709551616) (ka : a % 9223372036854775808 ≤ 9209861237972664320) (kb : b % 9223372036854775808 ≤ 9209861237972664320) :
    Sm64 (ux a + ux b) s ∧ Fin64 r ∧ ux s + ux r = ux a + ux b := by
  obtain ⟨ob, oa, da, db, F1, F2, F3, F4, F5, F6⟩ := h
  have fa : Fin64 a := ⟨ha, by omega⟩
  have fb : Fin64 b := ⟨hb, by omega⟩
  obtain ⟨K, hK⟩ : ∃ K, K = 2044 := ⟨_, rfl⟩
  have ma := pow1022 hK ka
  have mb := pow1022 hK kb
  obtain ⟨M, hM⟩ : ∃ M, M = 2 ^ (52 + K) := ⟨_, rfl⟩
  obtain ⟨m3, m2⟩ := max_big hK hM
  rw [← hM] at ma mb
  have S1 := F1.add fa fb (by omega)
  have bs := S1.rn.bound (K := 53 + K) (by rw [m2]; omega)
  rw [m2] at bs
  have e1 := S1.rn.near1 (M := M) (by omega)
  have S2 := F2.sub S1.fin fa (by omega)
  have bb := S2.rn.bound (K := 53 + K) (by rw [m2]; omega)
  rw [m2] at bb
  have e2 := S2.rn.near1 (M := M) (by omega)
  have S3 := F3.sub S1.fin S2.fin (by omega)
  have ba := S3.rn.bound (K := 53 + K) (by rw [m2]; omega)
  rw [m2] at ba
  have S4 := F4.sub fa S3.fin (by omega)
  have S5 := F5.sub fb S2.fin (by omega)
  have hd := two_sum_a (by omega) fa.fl fb.fl S1.rn S2.rn S3.rn S4.rn S5.rn
  have S6 := F6.add S4.fin S5.fin (by omega)
  exact ⟨S1, S6.fin, two_sum (by omega) fa.fl fb.fl S1.rn S2.rn S3.rn S4.rn S5.rn S6.rn⟩
theorem FSR.ok {a b s r : Nat} (h : FSR a b s r) (ha : a < 18446744073709551616) (hb : b < 18446744073709551616) (ka : a % 9223372036854775808 ≤ 9209861237972664320) (kb : b % 9223372036854775808 ≤ 9209861237972664320) (hab : a % 9223372036854775808 = 0 ∨ b % 9223372036854775808 ≤ a % 9223372036854775808) :
    Sm64 (ux a + ux b) s ∧ Fin64 r ∧ ux s + ux r = ux a + ux b := by
  obtain ⟨t, F1, F2, F3⟩ := h
  have fa : Fin64 a := ⟨ha, by omega⟩
  have fb : Fin64 b := ⟨hb, by omega⟩
  obtain ⟨K, hK⟩ : ∃ K, K = 2044 := ⟨_, rfl⟩
  have ma := pow1022 hK ka
  have mb := pow1022 hK kb
  have hab : ux a = 0 ∨ (ux b).natAbs ≤ (ux a).natAbs := by
    rcases hab with h | h
    · refine .inl ?_
      have := ux_abs a
      rw [h, vs_zero] at this
      omega
    · refine .inr ?_
      rw [ux_abs, ux_abs]; exact vs_le4 h
  obtain ⟨M, hM⟩ : ∃ M, M = 2 ^ (52 + K) := ⟨_, rfl⟩
  obtain ⟨m3, m2⟩ := max_big hK hM
  rw [← hM] at ma mb
  have S1 := F1.add fa fb (by omega)
  have bs := S1.rn.bound (K := 53 + K) (by rw [m2]; omega)
  rw [m2] at bs
  have e1 := S1.rn.near1 (M := M) (by omega)
  have S2 := F2.sub S1.fin fa (by omega)
  have bb := S2.rn.bound (K := 53 + K) (by rw [m2]; omega)
  rw [m2] at bb
  have S3 := F3.sub fb S2.fin (by omega)
  exact ⟨S1, S3.fin, fast_sum (by omega) fa.fl fb.fl hab S1.rn S2.rn S3.rn⟩
theorem Rn.self {p : Nat} {x : Int} (h : Fl p x) : Rn p x x := ⟨h, fun z _ => by rw [Int.sub_self]; exact Nat.zero_le _⟩
theorem mul_dvd2 {L t : Nat} {s : Int} (h : ((2 ^ L : Nat) : Int) ∣ s) : ((2 ^ (L + t) : Nat) : Int) ∣ s * ((2 ^ t : Nat) : Int) := by
  rw [Nat.pow_add, Int.natCast_mul]; exact Int.mul_dvd_mul h (Int.dvd_refl _)
theorem abs_mul2 (x : Int) (t : Nat) : (x * ((2 ^ t : Nat) : Int)).natAbs = x.natAbs * 2 ^ t := by rw [Int.natAbs_mul, Int.natAbs_natCast]
theorem Fl.scale {p : Nat} {x : Int} (h : Fl p x) (t : Nat) : Fl p (x * ((2 ^ t : Nat) : Int)) := by
  obtain ⟨q, h1, h2⟩ := h
  exact ⟨q + t, mul_dvd2 h1, by rw [abs_mul2, ← Nat.add_assoc, Nat.pow_add]; exact Nat.mul_le_mul_right _ h2⟩
theorem Rn.scale {p : Nat} {x s : Int} (hp : 1 ≤ p) (h : Rn p x s) (t : Nat) : Rn p (x * ((2 ^ t : Nat) : Int)) (s * ((2 ^ t : Nat) : Int)) := by
  obtain ⟨m, m1, m2⟩ := place hp x
  have he := h.err (m := m) (Nat.le_of_lt m1)
  by_cases hm0 : m = 0
  · subst hm0
    have e1 : s = x := by simp at he; omega
    rw [e1]
    rw [e1] at h
    exact Rn.self (h.fl.scale t)
  have m2 : 2 ^ (p - 1 + m) ≤ x.natAbs := by rcases m2 with h | h; exact absurd h hm0; exact h
  have hs := (h.dvd hp m2).1
  have hb : s.natAbs ≤ 2 ^ (p + m) := by
    have h1 := h.hi (Fl.pow p (p + m)) (by omega)
    have h2 := h.neg.hi (Fl.pow p (p + m)) (by omega)
    omega
  refine rn_mk (L := m + t) hp (mul_dvd2 hs) ?_ ?_ (.inr ?_)
  · rw [abs_mul2, ← Nat.add_assoc, Nat.pow_add]; exact Nat.mul_le_mul_right _ hb
  · rw [← Int.sub_mul, abs_mul2, ← Nat.mul_assoc, Nat.pow_add]; exact Nat.mul_le_mul_right _ he
  · rw [abs_mul2, ← Nat.add_assoc, Nat.pow_add]; exact Nat.mul_le_mul_right _ m2
theorem pw (k e : Nat) : 2 ^ (k + e) = 2 ^ k * 2 ^ e := Nat.pow_add ..
theorem veltkamp_p {a c d h l : Int} {e : Nat} (h0 : 0 < a) (h1 : 2 ^ (52 + e) ≤ a.natAbs) (h2 : a.natAbs < 2 ^ (53 + e)) (hf : Fl 53 a) (hc : Rn 53 (134217729 * a) c) (hd : Rn 53 (c - a) d) (hh : Rn 53 (c - d) h) (hl : Rn 53 (a - h) l) :
    ((2 ^ (27 + e) : Nat) : Int) ∣ h ∧ ((2 ^ e : Nat) : Int) ∣ a ∧ (a - h).natAbs ≤ 2 ^ (26 + e) ∧ h.natAbs ≤ 2 ^ (53 + e) ∧ l = a - h ∧ h = c - d ∧ 67108864 * (a - h).natAbs < a.natAbs := by
  have ha : ((2 ^ e : Nat) : Int) ∣ a := hf.dvd (by omega) h1
  have hp := p2pos e
  -- the powers, by the unit of a
  have q26 : 2 ^ (26 + e) = 67108864 * 2 ^ e := by rw [pw]
  have q27 : 2 ^ (27 + e) = 134217728 * 2 ^ e := by rw [pw]
  have q28 : 2 ^ (28 + e) = 268435456 * 2 ^ e := by rw [pw]
  have q52 : 2 ^ (52 + e) = 4503599627370496 * 2 ^ e := by rw [pw]
  have q53 : 2 ^ (53 + e) = 9007199254740992 * 2 ^ e := by rw [pw]
  have q79 : 2 ^ (79 + e) = 604462909807314587353088 * 2 ^ e := by rw [pw]
  have q80 : 2 ^ (80 + e) = 1208925819614629174706176 * 2 ^ e := by rw [pw]
  have q81 : 2 ^ (81 + e) = 2417851639229258349412352 * 2 ^ e := by rw [pw]
  have hup : a.natAbs + 2 ^ e ≤ 2 ^ (53 + e) := le_of_dvd2 (dvd_abs ha) (Nat.pow_dvd_pow 2 (by omega)) h2
  have hlo : a.natAbs = 2 ^ (52 + e) ∨ 2 ^ (52 + e) + 2 ^ e ≤ a.natAbs := by
    rcases Nat.lt_or_ge (2 ^ (52 + e)) a.natAbs with h | h
    · exact .inr (le_of_dvd2 (Nat.pow_dvd_pow 2 (by omega)) (dvd_abs ha) h)
    · exact .inl (by omega)
  have hc1 := hc.err (m := 28 + e) (by rw [show 53 + (28 + e) = 81 + e by omega]; omega)
  have hc2 : (134217729 * a).natAbs < 2 ^ (80 + e) → 2 * (c - 134217729 * a).natAbs ≤ 2 ^ (27 + e) := fun h => hc.err (m := 27 + e) (by rw [show 53 + (27 + e) = 80 + e by omega]; omega)
  have hc3 := (hc.dvd (by omega) (m := 27 + e) (by rw [show 53 - 1 + (27 + e) = 79 + e by omega]; omega)).1
  rcases hlo with hA | hB
  · -- a power of two
    have ea : a = ((2 ^ (52 + e) : Nat) : Int) := by omega
    have e1 : c = 134217729 * a := by
      refine hc.ex ⟨52 + e, ⟨134217729, by rw [← ea, Int.mul_comm]⟩, ?_⟩
      rw [Int.natAbs_mul, show (134217729 : Int).natAbs = 134217729 from rfl, pw 53 (52 + e), ← hA]
      exact Nat.mul_le_mul_right _ (by decide)
    have e2 : d = c - a := by
      refine hd.ex ?_
      rw [show c - a = ((2 ^ (79 + e) : Nat) : Int) by omega]
      exact Fl.pow 53 _
    have e3 : h = c - d := by
      refine hh.ex ?_
      rw [show c - d = a by omega]; exact hf
    have e4 : h = a := by omega
    have e5 : l = a - h := by
      refine hl.ex ?_
      rw [e4, Int.sub_self]; exact Fl.zero 53
    refine ⟨?_, ha, by rw [e4, Int.sub_self]; exact Nat.zero_le _, by rw [e4]; omega, e5, e3, by rw [e4, Int.sub_self]; simp; omega⟩
    rw [e4, ea]; exact p2dvd (by omega)
  · have hca : 2 ^ (79 + e) ≤ (c - a).natAbs ∧ (c - a).natAbs ≤ 2 ^ (80 + e) ∧ 0 < c - a := by
      by_cases h3 : (134217729 * a).natAbs < 2 ^ (80 + e)
      · have := hc2 h3
        omega
      · omega
    have hd1 := hd.err (m := 27 + e) (by rw [show 53 + (27 + e) = 80 + e by omega]; omega)
    have hd2 := (hd.dvd (by omega) (m := 27 + e) (by rw [show 53 - 1 + (27 + e) = 79 + e by omega]; omega)).1
    have hcd : ((2 ^ (27 + e) : Nat) : Int) ∣ c - d := Int.dvd_sub hc3 hd2
    have hb : (c - d).natAbs ≤ 2 ^ (53 + e) := Nat.le_of_not_lt fun h3 => by
      have := le_of_dvd2 (Nat.pow_dvd_pow 2 (show 27 + e ≤ 53 + e by omega)) (dvd_abs hcd) h3
      omega
    have e3 : h = c - d := hh.ex ⟨27 + e, hcd, by rw [show 53 + (27 + e) = 80 + e by omega]; omega⟩
    have hdv : ((2 ^ e : Nat) : Int) ∣ a - h := by
      rw [e3]; exact Int.dvd_sub ha (Int.dvd_trans (p2dvd (by omega)) hcd)
    have e5 : l = a - h := hl.ex ⟨e, hdv, by omega⟩
    exact ⟨by rw [e3]; exact hcd, ha, by omega, by omega, e5, e3, by omega⟩
theorem veltkamp {a c d h l : Int} {e : Nat} (h1 : 2 ^ (52 + e) ≤ a.natAbs) (h2 : a.natAbs < 2 ^ (53 + e)) (hf : Fl 53 a) (hc : Rn 53 (134217729 * a) c) (hd : Rn 53 (c - a) d) (hh : Rn 53 (c - d) h) (hl : Rn 53 (a - h) l) :
    ((2 ^ (27 + e) : Nat) : Int) ∣ h ∧ ((2 ^ e : Nat) : Int) ∣ a ∧ (a - h).natAbs ≤ 2 ^ (26 + e) ∧ h.natAbs ≤ 2 ^ (53 + e) ∧ l = a - h ∧ h = c - d ∧ 67108864 * (a - h).natAbs < a.natAbs := by
  rcases Int.lt_trichotomy a 0 with h0 | h0 | h0
  · have := veltkamp_p (a := -a) (c := -c) (d := -d) (h := -h) (l := -l) (e := e) (by omega) (by omega) (by omega) hf.neg
      (by rw [Int.mul_neg]; exact hc.neg) (by rw [show -c - -a = -(c - a) by omega]; exact hd.neg) (by rw [show -c - -d = -(c - d) by omega]; exact hh.neg) (by rw [show -a - -h = -(a - h) by omega]; exact hl.neg)
    obtain ⟨k1, k2, k3, k4, k5, k6, k7⟩ := this
    exact ⟨Int.dvd_neg.1 k1, Int.dvd_neg.1 k2, by omega, by omega, by omega, by omega, by omega⟩
  · subst h0
    have := p2pos (52 + e)
    rw [Int.natAbs_zero] at h1
    omega
  · exact veltkamp_p h0 h1 h2 hf hc hd hh hl
theorem dekker {a b ah al bh bl p e1 e2 e3 e4 : Int} {i j : Nat} (a1 : 2 ^ (52 + i) ≤ a.natAbs) (a2 : a.natAbs < 2 ^ (53 + i)) (b1 : 2 ^ (52 + j) ≤ b.natAbs) (b2 : b.natAbs < 2 ^ (53 + j))
    (ea : al = a - ah) (eb : bl = b - bh) (da : ((2 ^ i : Nat) : Int) ∣ a) (db : ((2 ^ j : Nat) : Int) ∣ b) (dah : ((2 ^ (27 + i) : Nat) : Int) ∣ ah) (dbh : ((2 ^ (27 + j) : Nat) : Int) ∣ bh)
    (lal : al.natAbs ≤ 2 ^ (26 + i)) (lbl : bl.natAbs ≤ 2 ^ (26 + j)) (lah : ah.natAbs ≤ 2 ^ (53 + i)) (lbh : bh.natAbs ≤ 2 ^ (53 + j))
    (hp : Rn 53 (a * b) p) (h1 : Rn 53 (ah * bh - p) e1) (h2 : Rn 53 (e1 + ah * bl) e2) (h3 : Rn 53 (e2 + al * bh) e3) (h4 : Rn 53 (e3 + al * bl) e4) :
    p + e4 = a * b ∧ e1 = ah * bh - p ∧ e2 = e1 + ah * bl ∧ e3 = e2 + al * bh ∧ Fl 53 (ah * bh) ∧ Fl 53 (ah * bl) ∧ Fl 53 (al * bh) ∧ Fl 53 (al * bl) := by
  have dvd_mul : ∀ {x y : Int} {m n : Nat}, ((2 ^ m : Nat) : Int) ∣ x → ((2 ^ n : Nat) : Int) ∣ y → ((2 ^ (m + n) : Nat) : Int) ∣ x * y := fun hx hy => by
    rw [Nat.pow_add, Int.natCast_mul]; exact Int.mul_dvd_mul hx hy
  have le_mul : ∀ {x y : Int} {m n : Nat}, x.natAbs ≤ 2 ^ m → y.natAbs ≤ 2 ^ n → (x * y).natAbs ≤ 2 ^ (m + n) := fun hx hy => by
    rw [Int.natAbs_mul, Nat.pow_add]; exact Nat.mul_le_mul hx hy
  have dal : ((2 ^ i : Nat) : Int) ∣ al := by rw [ea]; exact Int.dvd_sub da (Int.dvd_trans (p2dvd (by omega)) dah)
  have dbl : ((2 ^ j : Nat) : Int) ∣ bl := by rw [eb]; exact Int.dvd_sub db (Int.dvd_trans (p2dvd (by omega)) dbh)
  obtain ⟨E, hE⟩ : ∃ E, E = i + j := ⟨_, rfl⟩
  have x1d := dvd_mul dah dbh
  have x2d := dvd_mul dah dbl
  have x3d := dvd_mul dal dbh
  have x4d := dvd_mul dal dbl
  have x1l := le_mul lah lbh
  have x2l := le_mul lah lbl
  have x3l := le_mul lal lbh
  have x4l := le_mul lal lbl
  have abl := le_mul (Nat.le_of_lt a2) (Nat.le_of_lt b2)
  have abg : 2 ^ (104 + E) ≤ (a * b).natAbs := by
    rw [Int.natAbs_mul, show 104 + E = 52 + i + (52 + j) by omega, Nat.pow_add]; exact Nat.mul_le_mul a1 b1
  rw [show 27 + i + (27 + j) = 54 + E by omega] at x1d
  rw [show 27 + i + j = 27 + E by omega] at x2d
  rw [show i + (27 + j) = 27 + E by omega] at x3d
  rw [← hE] at x4d
  rw [show 53 + i + (53 + j) = 106 + E by omega] at x1l abl
  rw [show 53 + i + (26 + j) = 79 + E by omega] at x2l
  rw [show 26 + i + (53 + j) = 79 + E by omega] at x3l
  rw [show 26 + i + (26 + j) = 52 + E by omega] at x4l
  have hsum : a * b = ah * bh + ah * bl + al * bh + al * bl := by
    rw [show a = ah + al by omega, show b = bh + bl by omega, Int.add_mul, Int.mul_add, Int.mul_add]; omega
  have pe := hp.err (m := 53 + E) (by rw [show 53 + (53 + E) = 106 + E by omega]; exact abl)
  have pd := (hp.dvd (by omega) (m := 52 + E) (by rw [show 53 - 1 + (52 + E) = 104 + E by omega]; exact abg)).1
  have hq := p2pos E
  have q27 : 2 ^ (27 + E) = 134217728 * 2 ^ E := by rw [pw]
  have q52 : 2 ^ (52 + E) = 4503599627370496 * 2 ^ E := by rw [pw]
  have q53 : 2 ^ (53 + E) = 9007199254740992 * 2 ^ E := by rw [pw]
  have q79 : 2 ^ (79 + E) = 604462909807314587353088 * 2 ^ E := by rw [pw]
  have q80 : 2 ^ (80 + E) = 1208925819614629174706176 * 2 ^ E := by rw [pw]
  have q105 : 2 ^ (105 + E) = 40564819207303340847894502572032 * 2 ^ E := by rw [pw]
  have f1 : Fl 53 (ah * bh) := ⟨54 + E, x1d, by rw [show 53 + (54 + E) = 107 + E by omega]; exact Nat.le_trans x1l (p2le (by omega))⟩
  have f2 : Fl 53 (ah * bl) := ⟨27 + E, x2d, by rw [show 53 + (27 + E) = 80 + E by omega]; omega⟩
  have f3 : Fl 53 (al * bh) := ⟨27 + E, x3d, by rw [show 53 + (27 + E) = 80 + E by omega]; omega⟩
  have f4 : Fl 53 (al * bl) := ⟨E, x4d, by omega⟩
  generalize ah * bh = X1 at *
  generalize ah * bl = X2 at *
  generalize al * bh = X3 at *
  generalize al * bl = X4 at *
  generalize a * b = AB at *
  have g1 : e1 = X1 - p := h1.ex ⟨52 + E, Int.dvd_sub (Int.dvd_trans (p2dvd (by omega)) x1d) pd, by rw [show 53 + (52 + E) = 105 + E by omega]; omega⟩
  have g2 : e2 = e1 + X2 := h2.ex ⟨27 + E, by rw [g1]; exact Int.dvd_add (Int.dvd_sub (Int.dvd_trans (p2dvd (by omega)) x1d) (Int.dvd_trans (p2dvd (by omega)) pd)) x2d, by rw [show 53 + (27 + E) = 80 + E by omega]; omega⟩
  have g3 : e3 = e2 + X3 := h3.ex ⟨27 + E, by rw [g2, g1]; exact Int.dvd_add (Int.dvd_add (Int.dvd_sub (Int.dvd_trans (p2dvd (by omega)) x1d) (Int.dvd_trans (p2dvd (by omega)) pd)) x2d) x3d, by rw [show 53 + (27 + E) = 80 + E by omega]; omega⟩
  have g4 : e4 = e3 + X4 := h4.ex ⟨E, by rw [g3, g2, g1]; exact Int.dvd_add (Int.dvd_add (Int.dvd_add (Int.dvd_sub (Int.dvd_trans (p2dvd (by omega)) x1d) (Int.dvd_trans (p2dvd (by omega)) pd)) (Int.dvd_trans (p2dvd (by omega)) x2d)) (Int.dvd_trans (p2dvd (by omega)) x3d)) x4d, by omega⟩
  exact ⟨by omega, g1, g2, g3, f1, f2, f3, f4⟩
theorem cut_all (neg : Bool) (n L : Nat) : Ieee.Toward.even.cut neg n L = rne n L := by
  rcases Nat.lt_or_ge (n.log2 + 2) L with h | h
  · have hu : n < 2 ^ (n.log2 + 1) := Nat.lt_log2_self
    have h1 : 2 ^ (n.log2 + 2) = 2 * 2 ^ (n.log2 + 1) := p2succ _
    have h2 : 2 ^ (n.log2 + 2) ≤ 2 ^ L := p2le (by omega)
    unfold Ieee.Toward.cut rne
    rw [Nat.min_eq_right (by omega), Nat.one_shiftLeft]
    dsimp only
    rw [Nat.div_eq_of_lt (show n < 2 ^ (n.log2 + 2) by omega), Nat.div_eq_of_lt (show n < 2 ^ L by omega), Nat.mod_eq_of_lt (show n < 2 ^ (n.log2 + 2) by omega), Nat.mod_eq_of_lt (show n < 2 ^ L by omega)]
    rw [decide_eq_false (show ¬ 2 ^ (n.log2 + 2) < 2 * n by omega), decide_eq_false (show ¬ 2 ^ L < 2 * n by omega), show (2 ^ (n.log2 + 2) == 2 * n) = false by simp; omega, show (2 ^ L == 2 * n) = false by simp; omega]
  · exact cut_eq neg n L h
def rgc (c n : Nat) : Nat := if n = 0 then 0 else min ((max (n.log2 - 52) c - c) * 4503599627370496 + rne n (max (n.log2 - 52) c)) 9218868437227405312
theorem nearest_rgc (neg : Bool) (mag c d : Nat) : Ieee.double.nearest neg mag (-1074 - (c : Int) + (d : Int)) = Ieee.double.word neg (rgc c (mag * 2 ^ d)) := by
  have e1 : Ieee.double.leastPlace = -1074 := by decide
  have e2 : Ieee.double.binade = 4503599627370496 := by decide
  have e3 : Ieee.double.infRung = 9218868437227405312 := by decide
  have e4 : Ieee.double.fractionBits = 52 := by decide
  have hd : 0 < 2 ^ d := p2pos d
  unfold Ieee.Format.nearest rgc
  by_cases h0 : mag = 0
  · subst h0; simp
  · have hz : mag * 2 ^ d ≠ 0 := Nat.mul_ne_zero h0 (by omega)
    rw [if_neg h0, if_neg hz, e1, e2, e3, e4]
    have hl := log2_mul mag d h0
    obtain ⟨l, hle⟩ : ∃ l, l = mag.log2 := ⟨_, rfl⟩
    rw [← hle] at hl ⊢
    rw [hl]
    obtain ⟨L, hL⟩ : ∃ L, L = max (l + d - 52) c := ⟨_, rfl⟩
    rw [← hL]
    have e5 : max (-1074 - (c : Int) + (d : Int) + (l : Int) - ((52 : Nat) : Int)) (-1074) = -1074 - (c : Int) + (L : Int) := by omega
    dsimp only
    rw [e5]
    have e6 : (-1074 - (c : Int) + (L : Int) - -1074).toNat = L - c := by omega
    rw [e6]
    have e7 : (-1074 - (c : Int) + (d : Int) - (-1074 - (c : Int) + (L : Int))).toNat = d - L := by omega
    have e8 : (-1074 - (c : Int) + (L : Int) - (-1074 - (c : Int) + (d : Int))).toNat = L - d := by omega
    rw [e7, e8, Nat.shiftLeft_eq, cut_all]
    have e9 : rne (mag * 2 ^ (d - L)) (L - d) = rne (mag * 2 ^ d) L := by
      rcases Nat.le_total L d with h1 | h1
      · rw [show L - d = 0 by omega, rne_zero]
        have h2 := rne_mul (mag * 2 ^ (d - L)) 0 L
        rw [Nat.zero_add, rne_zero, Nat.mul_assoc, ← Nat.pow_add, show d - L + L = d by omega] at h2
        exact h2.symm
      · rw [show d - L = 0 by omega, Nat.pow_zero, Nat.mul_one]
        have h2 := rne_mul mag (L - d) d
        rw [show L - d + d = L by omega] at h2
        exact h2.symm
    rw [e9]
theorem rgc_int (c n : Nat) : rgc c (n * 2 ^ c) = rg 0 n := by
  have hd : 0 < 2 ^ c := p2pos c
  unfold rgc rg
  by_cases h0 : n = 0
  · subst h0; simp
  · have hz : n * 2 ^ c ≠ 0 := Nat.mul_ne_zero h0 (by omega)
    rw [if_neg h0, if_neg hz, log2_mul n c h0, show max (n.log2 + c - 52) c = n.log2 - 52 + c by omega, rne_mul, Nat.add_sub_cancel, Nat.sub_zero]
theorem fmul_any {a b : Nat} (ha : Fin64 a) (hb : Fin64 b) : floatBits .mul .f64 a b = some (Ieee.double.word (decide (9223372036854775808 ≤ a) ^^ decide (9223372036854775808 ≤ b)) (rgc 1074 ((ux a).natAbs * (ux b).natAbs))) := by
  obtain ⟨m, q, h1, h2⟩ := read_fin ha.lt ha.fin
  obtain ⟨n, t, h3, h4⟩ := read_fin hb.lt hb.fin
  rw [ux_abs, ux_abs, ← h2, ← h4]
  show ((Ieee.double.read a).product (Ieee.double.read b)).map Ieee.double.write = _
  rw [h1, h3]
  show some (Ieee.double.nearest _ (m * n) (-1074 + (q : Int) + (-1074 + (t : Int)))) = _
  have := nearest_rgc (decide (9223372036854775808 ≤ a) ^^ decide (9223372036854775808 ≤ b)) (m * n) 1074 (q + t)
  rw [show (-1074 : Int) - ((1074 : Nat) : Int) + ((q + t : Nat) : Int) = -1074 + (q : Int) + (-1074 + (t : Int)) by omega] at this
  rw [this, show m * n * 2 ^ (q + t) = m * 2 ^ q * (n * 2 ^ t) by rw [Nat.pow_add, ← Nat.mul_assoc, ← Nat.mul_assoc, Nat.mul_assoc m n, Nat.mul_comm n, ← Nat.mul_assoc]]
theorem ux_neg {b : Nat} (h : ux b ≠ 0) : decide (9223372036854775808 ≤ b) = decide (ux b < 0) := by
  refine decide_eq_decide.2 ?_
  have := ux_eq b
  by_cases h1 : 9223372036854775808 ≤ b
  · rw [if_pos h1] at this; omega
  · rw [if_neg h1] at this; omega
theorem mul_sign {a b : Nat} (h : ux a * ux b ≠ 0) : (decide (9223372036854775808 ≤ a) ^^ decide (9223372036854775808 ≤ b)) = decide (ux a * ux b < 0) := by
  have ha : ux a ≠ 0 := fun k => h (by rw [k, Int.zero_mul])
  have hb : ux b ≠ 0 := fun k => h (by rw [k, Int.mul_zero])
  rw [ux_neg ha, ux_neg hb]
  generalize ux a = x at *
  generalize ux b = y at *
  rcases Int.lt_or_gt_of_ne ha with h1 | h1 <;> rcases Int.lt_or_gt_of_ne hb with h2 | h2
  · have := Int.mul_pos_of_neg_of_neg h1 h2
    simp [h1, h2]; omega
  · have := Int.mul_neg_of_neg_of_pos h1 h2
    simp [h1, Int.not_lt.2 (Int.le_of_lt h2), this]
  · have := Int.mul_neg_of_pos_of_neg h1 h2
    simp [h2, Int.not_lt.2 (Int.le_of_lt h1), this]
  · have := Int.mul_pos h1 h2
    simp [Int.not_lt.2 (Int.le_of_lt h1), Int.not_lt.2 (Int.le_of_lt h2)]; omega
theorem FlR.mul {x y r : Nat} (h : FlR .mul x y r) (hx : Fin64 x) (hy : Fin64 y) {X : Int} {c : Nat} (hc : c = 1074) (hX : ux x * ux y = X * ((2 ^ c : Nat) : Int)) (hm : X.natAbs ≤ MaxU) : Sm64 X r := by
  have h1 := fmul_any hx hy
  rw [← Int.natAbs_mul, hX, Int.natAbs_mul, Int.natAbs_natCast, ← hc, rgc_int] at h1
  rw [h.some _ h1]
  refine sm_word hm fun h0 => ?_
  have hp : (0 : Int) < ((2 ^ c : Nat) : Int) := Int.ofNat_lt.2 (p2pos c)
  have h2 : ux x * ux y ≠ 0 := by rw [hX]; exact Int.mul_ne_zero h0 (by omega)
  rw [mul_sign h2, hX]
  refine decide_eq_decide.2 ⟨fun h3 => ?_, fun h3 => Int.mul_neg_of_neg_of_pos h3 hp⟩
  refine Int.lt_of_not_ge fun h4 => ?_
  have := Int.mul_nonneg h4 (Int.le_of_lt hp)
  omega
structure Pm64 (V : Int) (r : Nat) : Prop where
  fin : Fin64 r
  size : r % 9223372036854775808 = rg 1074 V.natAbs
  sign : V ≠ 0 → (9223372036854775808 ≤ r ↔ V < 0)
  rn : ∀ c, c = 1074 → Rn 53 V (ux r * ((2 ^ c : Nat) : Int))
theorem FlR.big {x y r : Nat} (h : FlR .mul x y r) (hx : Fin64 x) (hy : Fin64 y) (h1 : 1126 ≤ (ux x * ux y).natAbs.log2) (h2 : (ux x * ux y).natAbs.log2 ≤ 3169) : Pm64 (ux x * ux y) r := by
  have hr := fmul_any hx hy
  rw [← Int.natAbs_mul] at hr
  have hV0 : ux x * ux y ≠ 0 := fun h0 => by rw [h0] at h1; simp at h1
  rw [mul_sign hV0] at hr
  have hr := h.some _ hr
  generalize ux x * ux y = V at *
  obtain ⟨N, hN⟩ : ∃ N, N = V.natAbs := ⟨_, rfl⟩
  have hN0 : N ≠ 0 := by omega
  rw [← hN] at h1 h2 hr
  have hl : 2 ^ N.log2 ≤ N := Nat.log2_self_le hN0
  have hu : N < 2 ^ (N.log2 + 1) := Nat.lt_log2_self
  obtain ⟨L, hL⟩ : ∃ L, L = N.log2 - 52 := ⟨_, rfl⟩
  have hk1 : rne N L ≤ 9007199254740992 := by
    refine rne_le N L _ (Nat.le_of_lt (Nat.lt_of_lt_of_le hu ?_))
    rw [show 9007199254740992 = 2 ^ 53 by decide, ← Nat.pow_add]
    exact p2le (by omega)
  have hk2 : 4503599627370496 ≤ rne N L := by
    refine le_rne N L _ (Nat.le_trans ?_ hl)
    rw [show 4503599627370496 = 2 ^ 52 by decide, ← Nat.pow_add]
    exact p2le (by omega)
  have hg : rgc 1074 N = (L - 1074) * 4503599627370496 + rne N L := by
    unfold rgc
    rw [if_neg hN0, ← hL, Nat.max_eq_left (by omega), Nat.min_eq_left (by omega)]
  have hg2 : rg 1074 N = rgc 1074 N := by
    rw [hg]; unfold rg
    rw [if_neg hN0, ← hL, Nat.min_eq_left (by omega)]
  have hlt : rgc 1074 N < 9218868437227405312 := by rw [hg]; omega
  obtain ⟨wa, wb, wc⟩ := word_facts (decide (V < 0)) hlt
  rw [← hr] at wa wb wc
  refine ⟨⟨wa, by rw [wb]; exact hlt⟩, by rw [wb, ← hN, hg2], fun _ => ?_, fun c hc => ?_⟩
  · have e4 : Ieee.double.signWeight = 9223372036854775808 := by decide
    rw [hr]
    unfold Ieee.Format.word
    rw [e4]
    by_cases h2 : V < 0
    · simp [h2]
    · simp [h2]; omega
  · have hvs : vs 4503599627370496 (rgc 1074 N) * 2 ^ c = rne N L * 2 ^ L := by
      rw [hg, vs_at _ _ (.inr hk2) hk1, Nat.mul_assoc, ← Nat.pow_add, show L - 1074 + c = L by omega]
    have hR : Rn 53 (N : Int) ((rne N L * 2 ^ L : Nat) : Int) := by
      refine rn_mk (L := L) (by omega) ⟨rne N L, by rw [Int.natCast_mul, Int.mul_comm]⟩ ?_ (rne_err N L) (.inr ?_)
      · rw [Int.natAbs_natCast, Nat.pow_add]
        exact Nat.mul_le_mul_right _ hk1
      · rw [Int.natAbs_natCast]
        exact Nat.le_trans (p2le (by omega)) hl
    rw [wc]
    by_cases h3 : V < 0
    · rw [decide_eq_true h3, if_pos rfl, Int.neg_mul, ← Int.natCast_mul, hvs]
      have := hR.neg
      rw [hN, show -((V.natAbs : Nat) : Int) = V by omega, ← hN] at this
      exact this
    · rw [decide_eq_false h3]
      simp only [Bool.false_eq_true, if_false]
      rw [← Int.natCast_mul, hvs]
      rw [show (N : Int) = V by omega] at hR
      exact hR
theorem ux_split {c : Nat} (hc : c = 1074) : ux 4728779608772575232 = 134217729 * ((2 ^ c : Nat) : Int) := by
  have h1 : 4728779608772575232 / 4503599627370496 - 1 = c - 25 := by rw [hc]
  have h2 : 4728779608772575232 - (c - 25) * 4503599627370496 = 134217729 * 33554432 := by rw [hc]
  have h3 : 2 ^ c = 33554432 * 2 ^ (c - 25) := by
    rw [show (33554432 : Nat) = 2 ^ 25 by decide, ← Nat.pow_add]
    congr 1
    omega
  rw [ux_eq, if_neg (by decide)]
  unfold vs
  rw [show 4728779608772575232 % 9223372036854775808 = 4728779608772575232 by decide, h1, h2, h3, Nat.mul_assoc, Int.natCast_mul]
  rfl
theorem fin_split : Fin64 4728779608772575232 := ⟨by decide, by decide⟩
structure Hlv (a h l : Nat) (i : Nat) : Prop where
  lo : 2 ^ (52 + i) ≤ (ux a * ((2 ^ 53 : Nat) : Int)).natAbs
  hi : (ux a * ((2 ^ 53 : Nat) : Int)).natAbs < 2 ^ (53 + i)
  dh : ((2 ^ (27 + i) : Nat) : Int) ∣ ux h * ((2 ^ 53 : Nat) : Int)
  da : ((2 ^ i : Nat) : Int) ∣ ux a * ((2 ^ 53 : Nat) : Int)
  ll : (ux l * ((2 ^ 53 : Nat) : Int)).natAbs ≤ 2 ^ (26 + i)
  lh : (ux h * ((2 ^ 53 : Nat) : Int)).natAbs ≤ 2 ^ (53 + i)
  eq : ux l = ux a - ux h
  sm : 67108864 * (ux l).natAbs < (ux a).natAbs
theorem SPR.ok {a h l : Nat} (k : SPR a h l) (ha : a < 18446744073709551616) (ka : a % 9223372036854775808 ≤ 9088264048033660928) :
    Fin64 h ∧ Fin64 l ∧ ((ux a = 0 ∧ ux h = 0 ∧ ux l = 0) ∨ ∃ i, Hlv a h l i) := by
  obtain ⟨c, d, F1, F2, F3, F4⟩ := k
  have fa : Fin64 a := ⟨ha, by omega⟩
  obtain ⟨K, hK⟩ : ∃ K, K = 2044 := ⟨_, rfl⟩
  obtain ⟨J, hJ⟩ : ∃ J, J = 2017 := ⟨_, rfl⟩
  have ma : (ux a).natAbs ≤ 2 ^ (52 + J) := ux_pow (by omega)
  obtain ⟨M, hM⟩ : ∃ M, M = 2 ^ (52 + K) := ⟨_, rfl⟩
  obtain ⟨m3, m2⟩ := max_big hK hM
  have hMJ : M = 134217728 * 2 ^ (52 + J) := by
    rw [hM, show (134217728 : Nat) = 2 ^ 27 by decide, ← Nat.pow_add]
    congr 1
    omega
  have m4 : 2 ^ (54 + K) = 4 * M := by rw [show 54 + K = 53 + K + 1 by omega, p2succ, m2]; omega
  obtain ⟨q, hq⟩ : ∃ q, q = 1074 := ⟨_, rfl⟩
  have S1 := F1.mul fin_split fa (X := 134217729 * ux a) hq (by rw [ux_split hq, Int.mul_assoc, Int.mul_comm _ (ux a), ← Int.mul_assoc]) (by omega)
  have bc := S1.rn.bound (K := 53 + K) (by rw [m2]; omega)
  rw [m2] at bc
  have S2 := F2.sub S1.fin fa (by omega)
  have bd := S2.rn.bound (K := 54 + K) (by rw [m4]; omega)
  rw [m4] at bd
  have e2 := S2.rn.near1 (M := M) (by omega)
  have S3 := F3.sub S1.fin S2.fin (by omega)
  have bh := S3.rn.bound (K := 53 + K) (by rw [m2]; omega)
  rw [m2] at bh
  have S4 := F4.sub fa S3.fin (by omega)
  refine ⟨S3.fin, S4.fin, ?_⟩
  by_cases h0 : ux a = 0
  · have z1 := S1.rn
    rw [h0, Int.mul_zero] at z1
    have z1 := z1.ex (Fl.zero 53)
    have z2 := S2.rn
    rw [z1, h0, Int.sub_zero] at z2
    have z2 := z2.ex (Fl.zero 53)
    have z3 := S3.rn
    rw [z1, z2, Int.sub_zero] at z3
    have z3 := z3.ex (Fl.zero 53)
    have z4 := S4.rn
    rw [h0, z3, Int.sub_zero] at z4
    exact .inl ⟨h0, z3, z4.ex (Fl.zero 53)⟩
  · refine .inr ?_
    have hA : 2 ^ 53 ≤ (ux a * ((2 ^ 53 : Nat) : Int)).natAbs := by
      rw [abs_mul2]
      have := Nat.mul_le_mul_right (2 ^ 53) (show 1 ≤ (ux a).natAbs by omega)
      omega
    obtain ⟨i, i1, i2⟩ := place (show 1 ≤ 53 by omega) (ux a * ((2 ^ 53 : Nat) : Int))
    have i2 : 2 ^ (52 + i) ≤ (ux a * ((2 ^ 53 : Nat) : Int)).natAbs := by
      rcases i2 with h | h
      · subst h; exact Nat.le_trans (p2le (by omega)) hA
      · exact h
    have r1 := S1.rn.scale (by omega) 53
    have r2 := S2.rn.scale (by omega) 53
    have r3 := S3.rn.scale (by omega) 53
    have r4 := S4.rn.scale (by omega) 53
    rw [Int.mul_assoc] at r1
    rw [Int.sub_mul] at r2 r3 r4
    obtain ⟨v1, v2, v3, v4, v5, v6, v7⟩ := veltkamp i2 i1 (fa.fl.scale 53) r1 r2 r3 r4
    have e5 : ux l = ux a - ux h := by
      rw [← Int.sub_mul] at v5
      exact Int.eq_of_mul_eq_mul_right (by decide) v5
    refine ⟨i, i2, i1, v1, v2, by rw [v5]; exact v3, v4, e5, ?_⟩
    rw [← Int.sub_mul, abs_mul2, abs_mul2, ← Nat.mul_assoc] at v7
    rw [e5]
    exact Nat.lt_of_mul_lt_mul_right v7
theorem Fl.unscale {p : Nat} {x : Int} {t : Nat} (h : Fl p (x * ((2 ^ t : Nat) : Int))) : Fl p x := by
  obtain ⟨q, h1, h2⟩ := h
  have ht := p2pos t
  rw [abs_mul2] at h2
  rcases Nat.lt_or_ge q t with h3 | h3
  · refine Fl.small (Nat.le_of_mul_le_mul_right (Nat.le_trans h2 ?_) ht)
    rw [← Nat.pow_add]; exact p2le (by omega)
  · obtain ⟨r, rfl⟩ : ∃ r, q = r + t := ⟨q - t, by omega⟩
    refine ⟨r, ?_, ?_⟩
    · rw [Nat.pow_add, Int.natCast_mul] at h1
      exact Int.dvd_of_mul_dvd_mul_right (by omega) h1
    · refine Nat.le_of_mul_le_mul_right (c := 2 ^ t) ?_ ht
      rw [← Nat.pow_add, Nat.add_assoc]; exact h2
theorem dvd_mul2 {x y : Int} {m n : Nat} (hx : ((2 ^ m : Nat) : Int) ∣ x) (hy : ((2 ^ n : Nat) : Int) ∣ y) : ((2 ^ (m + n) : Nat) : Int) ∣ x * y := by
  rw [Nat.pow_add, Int.natCast_mul]; exact Int.mul_dvd_mul hx hy
theorem le_mul2 {x y : Int} {m n : Nat} (hx : x.natAbs ≤ 2 ^ m) (hy : y.natAbs ≤ 2 ^ n) : (x * y).natAbs ≤ 2 ^ (m + n) := by
  rw [Int.natAbs_mul, Nat.pow_add]; exact Nat.mul_le_mul hx hy
theorem half_prod {u v : Int} {m n k l c t : Nat} (hc : c = 1074) (ht : t = 1180) (du : ((2 ^ m : Nat) : Int) ∣ u * ((2 ^ 53 : Nat) : Int)) (dv : ((2 ^ n : Nat) : Int) ∣ v * ((2 ^ 53 : Nat) : Int)) (lu : (u * ((2 ^ 53 : Nat) : Int)).natAbs ≤ 2 ^ k) (lv : (v * ((2 ^ 53 : Nat) : Int)).natAbs ≤ 2 ^ l) (h1 : 1180 ≤ m + n) (h2 : k + l ≤ 53 + (m + n)) :
    ∃ X : Int, u * v = X * ((2 ^ c : Nat) : Int) ∧ Fl 53 X ∧ X * ((2 ^ t : Nat) : Int) = u * ((2 ^ 53 : Nat) : Int) * (v * ((2 ^ 53 : Nat) : Int)) := by
  have hm : u * ((2 ^ 53 : Nat) : Int) * (v * ((2 ^ 53 : Nat) : Int)) = u * v * ((2 ^ 106 : Nat) : Int) := by
    rw [show ((2 ^ 106 : Nat) : Int) = ((2 ^ 53 : Nat) : Int) * ((2 ^ 53 : Nat) : Int) from rfl, Int.mul_assoc, Int.mul_assoc, ← Int.mul_assoc _ v, Int.mul_comm _ v, Int.mul_assoc]
  have hd := dvd_mul2 du dv
  have hl := le_mul2 lu lv
  have hf : Fl 53 (u * ((2 ^ 53 : Nat) : Int) * (v * ((2 ^ 53 : Nat) : Int))) := ⟨m + n, hd, Nat.le_trans hl (p2le h2)⟩
  rw [hm] at hd hf
  have hd2 : ((2 ^ t : Nat) : Int) ∣ u * v * ((2 ^ 106 : Nat) : Int) := Int.dvd_trans (p2dvd (by omega)) hd
  have e1 : ((2 ^ t : Nat) : Int) = ((2 ^ c : Nat) : Int) * ((2 ^ 106 : Nat) : Int) := by rw [← Int.natCast_mul, ← Nat.pow_add, show c + 106 = t by omega]
  rw [e1] at hd2
  obtain ⟨X, hX0⟩ := Int.dvd_of_mul_dvd_mul_right (by decide) hd2
  have hX : u * v = X * ((2 ^ c : Nat) : Int) := by rw [hX0, Int.mul_comm]
  refine ⟨X, hX, ?_, ?_⟩
  · rw [hX, Int.mul_assoc, ← e1] at hf
    exact hf.unscale
  · rw [hm, hX, Int.mul_assoc, ← e1]
theorem Rn.near2 {x s : Int} {M : Nat} (h : Rn 53 x s) (hs : s.natAbs ≤ 32 * M) : (x - s).natAbs ≤ M := by
  have h1 := h.little (by omega)
  rw [show (2 : Nat) ^ 53 = 9007199254740992 by decide] at h1
  omega
theorem p2x4 (k : Nat) : 2 ^ (k + 2) = 4 * 2 ^ k := by rw [p2succ, p2succ]; omega
theorem p2x8 (k : Nat) : 2 ^ (k + 3) = 8 * 2 ^ k := by rw [p2succ, p2succ, p2succ]; omega
theorem p2x16 (k : Nat) : 2 ^ (k + 4) = 16 * 2 ^ k := by rw [p2succ, p2succ, p2succ, p2succ]; omega
theorem dek_small {x y a b : Int} {k l i j : Nat} (hx : x.natAbs ≤ 2 ^ k) (hy : y.natAbs ≤ 2 ^ l) (ha : 2 ^ (52 + i) ≤ a.natAbs) (hb : 2 ^ (52 + j) ≤ b.natAbs) (h : k + l + 2 ≤ 104 + (i + j)) : 4 * (x * y).natAbs ≤ (a * b).natAbs := by
  have h1 := le_mul2 hx hy
  have h2 : 2 ^ (104 + (i + j)) ≤ (a * b).natAbs := by
    rw [Int.natAbs_mul, show 104 + (i + j) = 52 + i + (52 + j) by omega, Nat.pow_add]; exact Nat.mul_le_mul ha hb
  have h3 : 4 * 2 ^ (k + l) ≤ 2 ^ (104 + (i + j)) := by
    rw [← p2x4]; exact p2le h
  omega
theorem TPR.ok {a b p e : Nat} (h : TPR a b p e) (ha : a < 18446744073709551616) (hb : b < 18446744073709551616) (ka : a % 9223372036854775808 ≤ 9088264048033660928) (kb : b % 9223372036854775808 ≤ 9088264048033660928)
    (hV : ux a * ux b = 0 ∨ ((∀ K, K = 1188 → 2 ^ K ≤ (ux a * ux b).natAbs) ∧ ∀ K, K = 3169 → (ux a * ux b).natAbs ≤ 2 ^ K)) :
    Fin64 p ∧ Fin64 e ∧ (∀ c, c = 1074 → (ux p + ux e) * ((2 ^ c : Nat) : Int) = ux a * ux b) ∧ (ux a * ux b = 0 → ux p = 0 ∧ ux e = 0) ∧ (ux a * ux b ≠ 0 → Pm64 (ux a * ux b) p) := by
  obtain ⟨ah, al, bh, bl, x1, e1, x2, e2, x3, e3, x4, F1, S1, S2, F2, F3, F4, F5, F6, F7, F8, F9⟩ := h
  have fa : Fin64 a := ⟨ha, by omega⟩
  have fb : Fin64 b := ⟨hb, by omega⟩
  obtain ⟨f1, f2, g1⟩ := S1.ok ha ka
  obtain ⟨f3, f4, g2⟩ := S2.ok hb kb
  obtain ⟨c, hc⟩ : ∃ c, c = 1074 := ⟨_, rfl⟩
  by_cases hV0 : ux a * ux b = 0
  · -- a nought among them
    have hz : ∀ {x y r : Nat}, FlR .mul x y r → Fin64 x → Fin64 y → ux x * ux y = 0 → Fin64 r ∧ ux r = 0 := fun F hx hy h0 => by
      have S := F.mul hx hy (X := 0) hc (by rw [h0, Int.zero_mul]) (by simp)
      exact ⟨S.fin, S.rn.ex (Fl.zero 53)⟩
    have hs : ∀ {x y r : Nat}, FlR .add x y r → Fin64 x → Fin64 y → ux x = 0 → ux y = 0 → Fin64 r ∧ ux r = 0 := fun F hx hy h0 h1 => by
      have S := F.add hx hy (by rw [h0, h1]; simp)
      have R := S.rn
      rw [h0, h1, Int.add_zero] at R
      exact ⟨S.fin, R.ex (Fl.zero 53)⟩
    have hd : ∀ {x y r : Nat}, FlR .sub x y r → Fin64 x → Fin64 y → ux x = 0 → ux y = 0 → Fin64 r ∧ ux r = 0 := fun F hx hy h0 h1 => by
      have S := F.sub hx hy (by rw [h0, h1]; simp)
      have R := S.rn
      rw [h0, h1, Int.sub_zero] at R
      exact ⟨S.fin, R.ex (Fl.zero 53)⟩
    have hab : ux ah * ux bh = 0 ∧ ux ah * ux bl = 0 ∧ ux al * ux bh = 0 ∧ ux al * ux bl = 0 := by
      rcases Int.mul_eq_zero.1 hV0 with h0 | h0
      · rcases g1 with ⟨_, z1, z2⟩ | ⟨i, g⟩
        · rw [z1, z2]; simp
        · have := g.sm; rw [h0] at this; simp at this
      · rcases g2 with ⟨_, z1, z2⟩ | ⟨i, g⟩
        · rw [z1, z2]; simp
        · have := g.sm; rw [h0] at this; simp at this
    obtain ⟨y0, z0⟩ := hz F1 fa fb hV0
    obtain ⟨y1, z1⟩ := hz F2 f1 f3 hab.1
    obtain ⟨y2, z2⟩ := hd F3 y1 y0 z1 z0
    obtain ⟨y3, z3⟩ := hz F4 f1 f4 hab.2.1
    obtain ⟨y4, z4⟩ := hs F5 y2 y3 z2 z3
    obtain ⟨y5, z5⟩ := hz F6 f2 f3 hab.2.2.1
    obtain ⟨y6, z6⟩ := hs F7 y4 y5 z4 z5
    obtain ⟨y7, z7⟩ := hz F8 f2 f4 hab.2.2.2
    obtain ⟨y8, z8⟩ := hs F9 y6 y7 z6 z7
    exact ⟨y0, y8, fun c _ => by rw [z0, z8, hV0, Int.add_zero, Int.zero_mul], fun _ => ⟨z0, z8⟩, fun h => absurd hV0 h⟩
  · have hVb := hV.resolve_left hV0
    rcases g1 with ⟨z, _⟩ | ⟨i, ga⟩
    · exact absurd (by rw [z, Int.zero_mul]) hV0
    rcases g2 with ⟨z, _⟩ | ⟨j, gb⟩
    · exact absurd (by rw [z, Int.mul_zero]) hV0
    obtain ⟨k1, hk1⟩ : ∃ K, K = 1188 := ⟨_, rfl⟩
    obtain ⟨k2, hk2⟩ : ∃ K, K = 3169 := ⟨_, rfl⟩
    obtain ⟨t, ht⟩ : ∃ t, t = 1180 := ⟨_, rfl⟩
    have hV1 := hVb.1 k1 hk1
    have hV2 := hVb.2 k2 hk2
    have hm : ux a * ((2 ^ 53 : Nat) : Int) * (ux b * ((2 ^ 53 : Nat) : Int)) = ux a * ux b * ((2 ^ 106 : Nat) : Int) := by
      rw [show ((2 ^ 106 : Nat) : Int) = ((2 ^ 53 : Nat) : Int) * ((2 ^ 53 : Nat) : Int) from rfl, Int.mul_assoc, Int.mul_assoc, ← Int.mul_assoc _ (ux b), Int.mul_comm _ (ux b), Int.mul_assoc]
    have hij : 1188 ≤ i + j := by
      have h1 := le_mul2 (Nat.le_of_lt ga.hi) (Nat.le_of_lt gb.hi)
      rw [hm, abs_mul2] at h1
      have h2 := Nat.le_trans (Nat.mul_le_mul_right (2 ^ 106) hV1) h1
      rw [← Nat.pow_add] at h2
      have h3 : k1 + 106 < 53 + i + (53 + j) + 1 := p2lt (Nat.lt_of_le_of_lt h2 (by rw [p2succ]; have := p2pos (53 + i + (53 + j)); omega))
      omega
    have dal : ((2 ^ i : Nat) : Int) ∣ ux al * ((2 ^ 53 : Nat) : Int) := by rw [ga.eq, Int.sub_mul]; exact Int.dvd_sub ga.da (Int.dvd_trans (p2dvd (by omega)) ga.dh)
    have dbl : ((2 ^ j : Nat) : Int) ∣ ux bl * ((2 ^ 53 : Nat) : Int) := by rw [gb.eq, Int.sub_mul]; exact Int.dvd_sub gb.da (Int.dvd_trans (p2dvd (by omega)) gb.dh)
    obtain ⟨X1, p1, q1, s1⟩ := half_prod hc ht ga.dh gb.dh ga.lh gb.lh (by omega) (by omega)
    obtain ⟨X2, p2, q2, s2⟩ := half_prod hc ht ga.dh dbl ga.lh gb.ll (by omega) (by omega)
    obtain ⟨X3, p3, q3, s3⟩ := half_prod hc ht dal gb.dh ga.ll gb.lh (by omega) (by omega)
    obtain ⟨X4, p4, q4, s4⟩ := half_prod hc ht dal dbl ga.ll gb.ll (by omega) (by omega)
    have b2 := dek_small ga.lh gb.ll ga.lo gb.lo (by omega)
    have b3 := dek_small ga.ll gb.lh ga.lo gb.lo (by omega)
    have b4 := dek_small ga.ll gb.ll ga.lo gb.lo (by omega)
    have hsum : ux a * ux b = ux ah * ux bh + ux ah * ux bl + ux al * ux bh + ux al * ux bl := by
      have h1 := ga.eq
      have h2 := gb.eq
      rw [show ux a = ux ah + ux al by omega, show ux b = ux bh + ux bl by omega, Int.add_mul, Int.mul_add, Int.mul_add]; omega
    have hW : ux a * ux b = (X1 + X2 + X3 + X4) * ((2 ^ c : Nat) : Int) := by rw [hsum, p1, p2, p3, p4, Int.add_mul, Int.add_mul, Int.add_mul]
    have hWt : ux a * ((2 ^ 53 : Nat) : Int) * (ux b * ((2 ^ 53 : Nat) : Int)) = (X1 + X2 + X3 + X4) * ((2 ^ t : Nat) : Int) := by
      rw [hm, hW, Int.mul_assoc, ← Int.natCast_mul, ← Nat.pow_add, show c + 106 = t by omega]
    have hcp := p2pos c
    have htp := p2pos t
    rw [hWt, ← s2, abs_mul2, abs_mul2, ← Nat.mul_assoc] at b2
    rw [hWt, ← s3, abs_mul2, abs_mul2, ← Nat.mul_assoc] at b3
    rw [hWt, ← s4, abs_mul2, abs_mul2, ← Nat.mul_assoc] at b4
    have b2 := Nat.le_of_mul_le_mul_right b2 htp
    have b3 := Nat.le_of_mul_le_mul_right b3 htp
    have b4 := Nat.le_of_mul_le_mul_right b4 htp
    obtain ⟨K, hK⟩ : ∃ K, K = 2044 := ⟨_, rfl⟩
    obtain ⟨M, hM⟩ : ∃ M, M = 2 ^ (52 + K) := ⟨_, rfl⟩
    obtain ⟨m3, m2⟩ := max_big hK hM
    obtain ⟨M0, hM0⟩ : ∃ M0, M0 = 2 ^ (48 + K) := ⟨_, rfl⟩
    have hMM : M = 16 * M0 := by rw [hM, hM0, ← p2x16]; congr 1; omega
    have hWb : (X1 + X2 + X3 + X4).natAbs ≤ 8 * M0 := by
      rw [hW, abs_mul2] at hV2
      refine Nat.le_of_mul_le_mul_right (Nat.le_trans hV2 (Nat.le_of_eq ?_)) hcp
      rw [hM0, ← p2x8, ← Nat.pow_add]
      congr 1
      omega
    have hl1 : k1 ≤ (ux a * ux b).natAbs.log2 := (Nat.le_log2 (by omega)).2 hV1
    have hl2 : (ux a * ux b).natAbs.log2 ≤ k2 := by
      refine Nat.le_of_lt_succ ((Nat.log2_lt (by omega)).2 (Nat.lt_of_le_of_lt hV2 ?_))
      rw [p2succ]; have := p2pos k2; omega
    have P1 := F1.big fa fb (by omega) (by omega)
    have hp := P1.rn c hc
    have bp : (ux p).natAbs ≤ 8 * M0 := by
      have h1 := hp.bound hV2
      rw [abs_mul2] at h1
      refine Nat.le_of_mul_le_mul_right (Nat.le_trans h1 (Nat.le_of_eq ?_)) hcp
      rw [hM0, ← p2x8, ← Nat.pow_add]
      congr 1
      omega
    have T1 := F2.mul f1 f3 hc p1 (by omega)
    have T2 := F4.mul f1 f4 hc p2 (by omega)
    have T3 := F6.mul f2 f3 hc p3 (by omega)
    have T4 := F8.mul f2 f4 hc p4 (by omega)
    have y1 := T1.rn.ex q1
    have y2 := T2.rn.ex q2
    have y3 := T3.rn.ex q3
    have y4 := T4.rn.ex q4
    have U1 := F3.sub T1.fin P1.fin (by omega)
    have v1 := U1.rn.bound (K := 53 + K) (by rw [m2]; omega)
    rw [m2] at v1
    have n1 := U1.rn.near2 (M := M0) (by omega)
    have U2 := F5.add U1.fin T2.fin (by omega)
    have v2 := U2.rn.bound (K := 53 + K) (by rw [m2]; omega)
    rw [m2] at v2
    have n2 := U2.rn.near2 (M := M0) (by omega)
    have U3 := F7.add U2.fin T3.fin (by omega)
    have v3 := U3.rn.bound (K := 53 + K) (by rw [m2]; omega)
    rw [m2] at v3
    have n3 := U3.rn.near2 (M := M0) (by omega)
    have U4 := F9.add U3.fin T4.fin (by omega)
    -- in units that make normals
    have r0 := hp.scale (by omega) 106
    rw [Int.mul_assoc (ux p), ← Int.natCast_mul, ← Nat.pow_add, show c + 106 = t by omega, ← hm] at r0
    have r1 := U1.rn.scale (by omega) t
    rw [y1, Int.sub_mul, s1] at r1
    have r2 := U2.rn.scale (by omega) t
    rw [y2, Int.add_mul, s2] at r2
    have r3 := U3.rn.scale (by omega) t
    rw [y3, Int.add_mul, s3] at r3
    have r4 := U4.rn.scale (by omega) t
    rw [y4, Int.add_mul, s4] at r4
    have D := dekker ga.lo ga.hi gb.lo gb.hi (by rw [ga.eq, Int.sub_mul]) (by rw [gb.eq, Int.sub_mul]) ga.da gb.da ga.dh gb.dh ga.ll gb.ll ga.lh gb.lh r0 r1 r2 r3 r4
    have hD := D.1
    rw [← Int.add_mul, hWt] at hD
    have hD := Int.eq_of_mul_eq_mul_right (by omega) hD
    exact ⟨P1.fin, U4.fin, fun c' hc' => by rw [hD, hW, hc', hc], fun h => absurd h hV0, fun _ => P1⟩
end Go.Proofs.YtmefpgebmchnkaaGreatDoor
namespace Go.Proofs.YtmefpgebmchnkaaGreatDoor
open Go.RowKit Go.Shelf
set_option maxRecDepth 100000
set_option maxHeartbeats 0
theorem Sm64.little {X : Int} {s e : Nat} (h : Sm64 X s) (he : ux s + ux e = X) : 9007199254740992 * (ux e).natAbs ≤ (ux s).natAbs := by
  have h1 := h.rn.little (by omega)
  rw [show X - ux s = ux e by omega, show (2 : Nat) ^ 53 = 9007199254740992 by decide] at h1
  exact h1
theorem rshrk {p : Option Addr} {n c : Nat} {xs : List Nat} {v : Nat} {w : World} (h : At32 w p n c xs) (hx : Nf B32 xs v) (hn : n ≤ 16384) (N : Nat) (e : Int) (he : e = (N : Int)) (hN2 : N ≤ 9223372036854775807) :
    Calls Tryz.prog 51 #[.slice p n c, .int .i64 e] w fun e w' => ∃ p' m' zs, e = .returned (.slice p' m' m') ∧ At32 w' p' m' m' zs ∧ Nf B32 zs (v / 2 ^ N) ∧ m' ≤ n ∧ Below w.heap.size w w' := by
  subst he; exact rshr_all h hx hn N hN2
theorem rn_shr {w : World} {p : Option Addr} {m a : Nat} (h : RN w p m a) (N : Nat) (e : Int) (he : e = (N : Int)) (hN : N ≤ 100000) : Calls Tryz.prog 51 #[.slice p m m, .int .i64 e] w fun e w' => RNs w w' e (a / 2 ^ N) := by
  obtain ⟨⟨zs, h1, h2⟩, h3⟩ := h
  refine (rshrk h1 h2 (by omega) N e he (by omega)).mono ?_
  rintro e w' ⟨p', m', z, rfl, g1, g2, g3, hb2⟩
  exact ⟨_, _, rfl, ⟨⟨z, g1, g2⟩, by omega⟩, hb2⟩
def atnN (k : Nat) : Nat → Nat → Nat → Nat → Nat → Nat × Nat × Nat
  | 0, n, _, p, m => (p, m, n)
  | f + 1, n, t, p, m => bif Nat.beq t 0 then (p, m, n) else bif Nat.beq (n % 2) 0 then atnN k f (n + 1) (t / k / k) (p + t / (2 * n + 1)) m else atnN k f (n + 1) (t / k / k) p (m + t / (2 * n + 1))
def atn0 (k q : Nat) : Nat × Nat × Nat := atnN k q 0 (2 ^ q / k) 0 0
def A18 : Nat := (atn0 18 1163).1 - (atn0 18 1163).2.1
theorem rnmk {w : World} {p : Option Addr} {m a : Nat} (h : RN w p m a) : Calls Tryz.prog 26 #[.bool false, .slice p m m] w fun e w' => ∃ p' m', e = .returned (.agg #[.bool false, .slice p' m' m']) ∧ RN w' p' m' a ∧ Below w.heap.size w w' := by
  obtain ⟨⟨zs, h1, h2⟩, h3⟩ := h
  refine (rmk_any false h1 h2 (by omega)).mono ?_
  rintro e w' ⟨v, rfl, ⟨s, g, m', rfl, _, hz, hl⟩, hb⟩
  obtain ⟨ys, g1, g2⟩ := hz.ex
  have hs := hz.sg
  rw [iv_f] at g2 hs
  rw [decide_eq_false (by omega)] at hs
  subst hs
  rw [Int.natAbs_natCast] at g2
  exact ⟨_, _, rfl, ⟨⟨ys, g1, g2⟩, by omega⟩, hb⟩
theorem DN.ne0 {w : World} {s : Bool} {p : Option Addr} {m c : Nat} {e z : Int} (h : DN w s p m c e z) (hz : z ≠ 0) : m ≠ 0 := by
  intro e0
  obtain ⟨xs, h1⟩ := h.zn.ex
  have h2 := h1.at_.len
  have h3 := h1.nf.val
  rw [e0] at h2
  rw [List.eq_nil_of_length_eq_zero h2] at h3
  have : z.natAbs = 0 := h3.symm
  omega
theorem rfromE {p : Option Addr} {m c : Nat} {w : World} {z e : Int} {s : Bool} (h : DN w s p m c e z) :
    Calls Tryz.prog 43 #[ZV s p m c] w fun e w' => ∃ s' p' m', e = .returned (.agg #[.bool s', .slice p' m' m']) ∧ ZR w' s' p' m' z ∧ m' ≤ 16384 ∧ Below w.heap.size w w' := by
  obtain ⟨xs, hX⟩ := h.zn.ex
  have hv : iv s (valB B64 xs) = z := by rw [hX.nf.val]; exact h.zn.iv
  have hl := hX.le
  refine (rfrom5 s hX.at_ (by omega)).mono ?_
  rintro e w1 ⟨s1, p1, m1, rfl, h1, h2, h3⟩
  rw [hv] at h1
  exact ⟨s1, p1, m1, rfl, h1, by omega, h3⟩
theorem mx7 {a b : Nat} (h : a ≤ 40000) (k : b ≤ 40000) : max a b + 1 ≤ 50000 := by omega
theorem docformT {p : Option Addr} {m c : Nat} {w : World} {z e : Int} {s : Bool} (h : DN w s p m c e z) :
    Calls Tryz.prog 21 #[DV s p m c e] w fun en w' => en = .returned (.bool true) ∧ Below w.heap.size w w' := by
  obtain ⟨xs, hX⟩ := h.zn.ex
  have hf := dn_formD h hX
  refine (docformd s hX.at_).mono ?_
  rintro en w' ⟨rfl, hb⟩
  exact ⟨by rw [hf], hb⟩
theorem arc_5 : arc0 5 75 = (7457393405618927590805, 34) := by decide +kernel
theorem RN.zr {w : World} {p : Option Addr} {m a : Nat} (h : RN w p m a) : ZR w false p m (a : Int) := by
  obtain ⟨⟨zs, h1, h2⟩, h3⟩ := h
  exact ⟨⟨zs, h1, by rw [Int.natAbs_natCast]; exact h2⟩, (decide_eq_false (by omega)).symm⟩
theorem floorArc5 {w : World} : Calls Tryz.prog 27 #[.int .i64 5, .int .i64 11] w fun en w' => ∃ p m, en = .returned (.slice p m m) ∧ RN w' p m 404 ∧ Below w.heap.size w w' := by
  go_enter Tryz.func27, Tryz.ntmps27
  go_wp2_with fail
  have hbw : Below w.heap.size w w := Below.refl _ _
  refine wp_loop_rounds 1 ?_
  rw [rounds_succ]
  go_wp2_with fail
  refine (arc_ok 5 75 (by decide) (by decide) (by decide)).mono ?_
  rintro e v1 ⟨p1, m1, q1, l1, rfl, hR1, hR2, hR3, hb1⟩
  rw [arc_5] at hR1 hR2
  clear hR3
  have R1 : Hid (RN v1 p1 m1 7457393405618927590805) := hR1
  have R2 : Hid (RN v1 q1 l1 7457393405618927590839) := hR2
  clear hR1 hR2
  replace hbw := Below.on hbw hb1
  clear hb1
  go_wp2_with fail
  refine (rn_shr R1.out 64 64 rfl (by decide)).mono ?_
  rintro e v2 ⟨p2, m2, rfl, hR, hb2⟩
  have S2 : Hid (RN v2 p2 m2 404) := hR
  clear hR
  replace R1 : Hid (RN v2 p1 m1 7457393405618927590805) := R1.out.below hb2
  replace R2 : Hid (RN v2 q1 l1 7457393405618927590839) := R2.out.below hb2
  replace hbw := Below.on hbw hb2
  clear hb2
  go_wp2_with fail
  refine (rn_shr R2.out 64 64 rfl (by decide)).mono ?_
  rintro e v3 ⟨p3, m3, rfl, hR, hb3⟩
  have S3 : Hid (RN v3 p3 m3 404) := hR
  clear hR
  replace R1 : Hid (RN v3 p1 m1 7457393405618927590805) := R1.out.below hb3
  replace R2 : Hid (RN v3 q1 l1 7457393405618927590839) := R2.out.below hb3
  replace S2 : Hid (RN v3 p2 m2 404) := S2.out.below hb3
  replace hbw := Below.on hbw hb3
  clear hb3
  go_wp2_with fail
  refine (rn_cmp S2.out S3.out).mono ?_
  rintro e v4 ⟨rfl, hb4⟩
  rw [cmpN_eq (rfl : 404 = 404)]
  replace R1 : Hid (RN v4 p1 m1 7457393405618927590805) := R1.out.below hb4
  replace R2 : Hid (RN v4 q1 l1 7457393405618927590839) := R2.out.below hb4
  replace S2 : Hid (RN v4 p2 m2 404) := S2.out.below hb4
  replace S3 : Hid (RN v4 p3 m3 404) := S3.out.below hb4
  replace hbw := Below.on hbw hb4
  clear hb4
  go_wp2_with fail
  go_ret
  exact ⟨_, _, rfl, S2.out, hbw⟩
theorem mult_lo {s : Bool} {p : Option Addr} {m c : Nat} {w : World} (h : DN w s p m c (-9) 101) :
    Calls Tryz.prog 22 #[DV s p m c (-9), .int .i64 11] w fun en w' => ∃ s' p' m', en = .returned (.tuple #[.agg #[.bool s', .slice p' m' m'], .bool true]) ∧ ZR w' s' p' m' 404 ∧ m' ≤ 40000 ∧ Below w.heap.size w w' := by
  have hm : m ≠ 0 := DN.ne0 h (by decide)
  have H : Hid (DN w s p m c (-9) 101) := h
  have hm2 : ¬ (m : Int) = 0 := by omega
  clear h hm
  go_enter Tryz.func22, Tryz.ntmps22
  go_wp2_with fail
  obtain ⟨W0, hW0⟩ : ∃ W0, W0 = ((w.alloc (.cells #[.bool s, .slice p m c, .int .i64 (-9)] 32)).alloc (.cells #[.bool false, .slice none 0 0] 51)) := ⟨_, rfl⟩
  have Xa : Hid (B3q W0 (w.heap.size) (.bool s) (.slice p m c) (.int .i64 (-9))) := by rw [hW0]; exact ⟨by go_simp, by go_simp, by go_simp, by go_simp, by go_simp, by go_simp⟩
  have Xr : Hid (Box W0 (w.heap.size + 1) (.bool false) (.slice none 0 0)) := by rw [hW0]; exact ⟨by go_simp, by go_simp, by go_simp, by go_simp⟩
  have hb0 : Below w.heap.size w W0 := by rw [hW0]; exact below2 w _ _
  rw [← hW0]
  clear hW0
  have hbw : Below w.heap.size w w := Below.refl _ _
  obtain ⟨gr, hgr⟩ : ∃ g, g = w.heap.size + 1 := ⟨_, rfl⟩
  have HGr : Hid (w.heap.size ≤ gr) := by rw [hgr]; show _ ≤ _; omega
  rw [← hgr] at Xr
  try rw [← hgr]
  obtain ⟨ga, hga⟩ : ∃ g, g = w.heap.size := ⟨_, rfl⟩
  have HGa : Hid (w.heap.size ≤ ga) := by rw [hga]; show _ ≤ _; omega
  rw [← hga] at Xa
  try rw [← hga]
  have HGD : Hid (ga ≠ gr ∧ gr ≠ ga) := by rw [hga, hgr]; exact ⟨by omega, by omega⟩
  clear hga hgr
  replace H : Hid _ := H.out.below hb0
  replace hbw := Below.on hbw hb0
  clear hb0
  obtain ⟨hgd0, hgd1⟩ := HGD.out
  obtain ⟨V1, hV1⟩ : ∃ W1, W1 = W0.drew := ⟨_, rfl⟩
  have hbd : Below W0.heap.size W0 V1 := by rw [hV1]; exact bDrew1 (Below.refl _ _)
  replace Xa : Hid _ := Xa.out.below hbd
  replace Xr : Hid _ := Xr.out.below hbd
  replace H : Hid _ := H.out.below hbd
  replace hbw := Below.on hbw hbd
  clear hbd
  have HJ : Hid ((fun W' : World => W'.cell? ⟨ga, 0, none⟩ = some (.bool s) ∧ W'.cell? ⟨ga, 1, none⟩ = some (.slice p m c) ∧ W'.cell? ⟨ga, 2, none⟩ = some (.int .i64 (-9))) V1) := ⟨Xa.out.c0, Xa.out.c1, Xa.out.c2⟩
  refine wp_region_J (fun W' => W'.cell? ⟨ga, 0, none⟩ = some (.bool s) ∧ W'.cell? ⟨ga, 1, none⟩ = some (.slice p m c) ∧ W'.cell? ⟨ga, 2, none⟩ = some (.int .i64 (-9))) (by kernel_rfl) ?_
  rw [← hV1]
  clear hV1
  refine wpJ_tq 0 rfl HJ.out ?_
  refine wpJ_tq 1 rfl HJ.out ?_
  refine wpJ_tq 3 rfl HJ.out ?_
  refine wpJ_tq 4 rfl HJ.out ?_
  refine wpJ_tq 5 rfl HJ.out ?_
  go_simp
  refine wpJ_tq 6 rfl HJ.out ?_
  refine wpJ_on 2 rfl fun KJ hK => ?_
  go_simp
  refine (rfromE H.out).mono ?_
  rintro e2 v2 ⟨s2, p2, m2, rfl, hz2, hl2, hb2⟩
  replace Xa : Hid _ := Xa.out.below hb2
  replace Xr : Hid _ := Xr.out.below hb2
  replace H : Hid _ := H.out.below hb2
  replace hbw := Below.on hbw hb2
  clear hb2
  have Z2 : Hid (ZR v2 s2 p2 m2 101) := hz2
  have HL2 : Hid (m2 ≤ 16384) := hl2
  clear hz2 hl2
  refine hK _ _ ⟨Xa.out.c0, Xa.out.c1, Xa.out.c2⟩ ?_
  clear hK
  refine wpJ_on 7 rfl fun KJ hK => ?_
  go_simp
  have HRL : Hid (gr < v2.heap.size) := Xr.out.lt
  refine (rshl04 s2 Z2.out HL2.out 2 (.inl (by decide))).mono ?_
  rintro e3 v3 ⟨v, rfl, ⟨s3, g3, m3, rfl, hg3, hz3, hl3⟩, hb3⟩
  have HN3 : Hid (v2.heap.size ≤ g3) := hg3
  replace Xa : Hid _ := Xa.out.below hb3
  replace Xr : Hid _ := Xr.out.below hb3
  replace H : Hid _ := H.out.below hb3
  replace Z2 : Hid _ := Z2.out.below hb3
  replace hbw := Below.on hbw hb3
  clear hb3
  have Z3 : Hid (ZR v3 s3 (some ⟨g3, 0, none⟩) m3 404) := hz3.cast (by decide)
  have HL3 : Hid (m3 ≤ 40000) := hl3
  clear hz3 hl3 hg3
  refine hK _ _ ⟨Xa.out.c0, Xa.out.c1, Xa.out.c2⟩ ?_
  clear hK
  obtain ⟨cr0, cr1, fr0, fr1⟩ := Xr.out
  have hner := Xr.out.lt
  obtain ⟨ca0, ca1, ca2, fa0, fa1, fa2⟩ := Xa.out
  have hnea : ga < v3.heap.size := World.block_lt_of_cell? v3 _ ca0
  obtain ⟨hgd0, hgd1⟩ := HGD.out
  refine wpJ_on 8 rfl fun KJ hK => ?_
  go_simp
  have HJ2 : Hid ((fun W' : World => W'.cell? ⟨ga, 0, none⟩ = some (.bool s) ∧ W'.cell? ⟨ga, 1, none⟩ = some (.slice p m c) ∧ W'.cell? ⟨ga, 2, none⟩ = some (.int .i64 (-9))) ((v3.setCell ⟨gr, 0, none⟩ (.bool s3)).setCell ⟨gr, 1, none⟩ (.slice (some ⟨g3, 0, none⟩) m3 m3))) := ⟨by go_simp, by go_simp, by go_simp⟩
  refine hK _ _ HJ2.out ?_
  clear hK HJ
  have HJ := HJ2
  clear HJ2
  refine wpJ_tq 9 rfl HJ.out ?_
  refine wpJ_done (by kernel_rfl) ?_ _
  clear HJ
  go_wp2_with fail
  have hne3 : g3 ≠ gr := by have h1 := HRL.out; have h2 := HN3.out; omega
  refine bodyPost_ret (v := .tuple #[.agg #[.bool s3, .slice (some ⟨g3, 0, none⟩) m3 m3], .bool true]) (by rw [results_cell_tmp rfl]; go_simp) rfl ⟨s3, _, m3, rfl, (Z3.out.set _ _ _ hne3).set _ _ _ hne3, HL3.out, ?_⟩
  exact bSet (bSet (hbw) _ _ _ HGr.out) _ _ _ HGr.out
theorem mult_hi {s : Bool} {p : Option Addr} {m c : Nat} {w : World} (h : DN w s p m c (-11) 405) :
    Calls Tryz.prog 22 #[DV s p m c (-11), .int .i64 11] w fun en w' => ∃ s' p' m', en = .returned (.tuple #[.agg #[.bool s', .slice p' m' m'], .bool true]) ∧ ZR w' s' p' m' 405 ∧ m' ≤ 40000 ∧ Below w.heap.size w w' := by
  have hm : m ≠ 0 := DN.ne0 h (by decide)
  have H : Hid (DN w s p m c (-11) 405) := h
  have hm2 : ¬ (m : Int) = 0 := by omega
  clear h hm
  go_enter Tryz.func22, Tryz.ntmps22
  go_wp2_with fail
  obtain ⟨W0, hW0⟩ : ∃ W0, W0 = ((w.alloc (.cells #[.bool s, .slice p m c, .int .i64 (-11)] 32)).alloc (.cells #[.bool false, .slice none 0 0] 51)) := ⟨_, rfl⟩
  have Xa : Hid (B3q W0 (w.heap.size) (.bool s) (.slice p m c) (.int .i64 (-11))) := by rw [hW0]; exact ⟨by go_simp, by go_simp, by go_simp, by go_simp, by go_simp, by go_simp⟩
  have Xr : Hid (Box W0 (w.heap.size + 1) (.bool false) (.slice none 0 0)) := by rw [hW0]; exact ⟨by go_simp, by go_simp, by go_simp, by go_simp⟩
  have hb0 : Below w.heap.size w W0 := by rw [hW0]; exact below2 w _ _
  rw [← hW0]
  clear hW0
  have hbw : Below w.heap.size w w := Below.refl _ _
  obtain ⟨gr, hgr⟩ : ∃ g, g = w.heap.size + 1 := ⟨_, rfl⟩
  have HGr : Hid (w.heap.size ≤ gr) := by rw [hgr]; show _ ≤ _; omega
  rw [← hgr] at Xr
  try rw [← hgr]
  obtain ⟨ga, hga⟩ : ∃ g, g = w.heap.size := ⟨_, rfl⟩
  have HGa : Hid (w.heap.size ≤ ga) := by rw [hga]; show _ ≤ _; omega
  rw [← hga] at Xa
  try rw [← hga]
  have HGD : Hid (ga ≠ gr ∧ gr ≠ ga) := by rw [hga, hgr]; exact ⟨by omega, by omega⟩
  clear hga hgr
  replace H : Hid _ := H.out.below hb0
  replace hbw := Below.on hbw hb0
  clear hb0
  obtain ⟨hgd0, hgd1⟩ := HGD.out
  obtain ⟨V1, hV1⟩ : ∃ W1, W1 = W0.drew := ⟨_, rfl⟩
  have hbd : Below W0.heap.size W0 V1 := by rw [hV1]; exact bDrew1 (Below.refl _ _)
  replace Xa : Hid _ := Xa.out.below hbd
  replace Xr : Hid _ := Xr.out.below hbd
  replace H : Hid _ := H.out.below hbd
  replace hbw := Below.on hbw hbd
  clear hbd
  have HJ : Hid ((fun W' : World => W'.cell? ⟨ga, 0, none⟩ = some (.bool s) ∧ W'.cell? ⟨ga, 1, none⟩ = some (.slice p m c) ∧ W'.cell? ⟨ga, 2, none⟩ = some (.int .i64 (-11))) V1) := ⟨Xa.out.c0, Xa.out.c1, Xa.out.c2⟩
  refine wp_region_J (fun W' => W'.cell? ⟨ga, 0, none⟩ = some (.bool s) ∧ W'.cell? ⟨ga, 1, none⟩ = some (.slice p m c) ∧ W'.cell? ⟨ga, 2, none⟩ = some (.int .i64 (-11))) (by kernel_rfl) ?_
  rw [← hV1]
  clear hV1
  refine wpJ_tq 0 rfl HJ.out ?_
  refine wpJ_tq 1 rfl HJ.out ?_
  refine wpJ_tq 3 rfl HJ.out ?_
  refine wpJ_tq 4 rfl HJ.out ?_
  refine wpJ_tq 5 rfl HJ.out ?_
  go_simp
  refine wpJ_tq 6 rfl HJ.out ?_
  refine wpJ_on 2 rfl fun KJ hK => ?_
  go_simp
  refine (rfromE H.out).mono ?_
  rintro e2 v2 ⟨s2, p2, m2, rfl, hz2, hl2, hb2⟩
  replace Xa : Hid _ := Xa.out.below hb2
  replace Xr : Hid _ := Xr.out.below hb2
  replace H : Hid _ := H.out.below hb2
  replace hbw := Below.on hbw hb2
  clear hb2
  have Z2 : Hid (ZR v2 s2 p2 m2 405) := hz2
  have HL2 : Hid (m2 ≤ 16384) := hl2
  clear hz2 hl2
  refine hK _ _ ⟨Xa.out.c0, Xa.out.c1, Xa.out.c2⟩ ?_
  clear hK
  refine wpJ_on 7 rfl fun KJ hK => ?_
  go_simp
  have HRL : Hid (gr < v2.heap.size) := Xr.out.lt
  refine (rshl04 s2 Z2.out HL2.out 0 (.inl (by decide))).mono ?_
  rintro e3 v3 ⟨v, rfl, ⟨s3, g3, m3, rfl, hg3, hz3, hl3⟩, hb3⟩
  have HN3 : Hid (v2.heap.size ≤ g3) := hg3
  replace Xa : Hid _ := Xa.out.below hb3
  replace Xr : Hid _ := Xr.out.below hb3
  replace H : Hid _ := H.out.below hb3
  replace Z2 : Hid _ := Z2.out.below hb3
  replace hbw := Below.on hbw hb3
  clear hb3
  have Z3 : Hid (ZR v3 s3 (some ⟨g3, 0, none⟩) m3 405) := hz3.cast (by decide)
  have HL3 : Hid (m3 ≤ 40000) := hl3
  clear hz3 hl3 hg3
  refine hK _ _ ⟨Xa.out.c0, Xa.out.c1, Xa.out.c2⟩ ?_
  clear hK
  obtain ⟨cr0, cr1, fr0, fr1⟩ := Xr.out
  have hner := Xr.out.lt
  obtain ⟨ca0, ca1, ca2, fa0, fa1, fa2⟩ := Xa.out
  have hnea : ga < v3.heap.size := World.block_lt_of_cell? v3 _ ca0
  obtain ⟨hgd0, hgd1⟩ := HGD.out
  refine wpJ_on 8 rfl fun KJ hK => ?_
  go_simp
  have HJ2 : Hid ((fun W' : World => W'.cell? ⟨ga, 0, none⟩ = some (.bool s) ∧ W'.cell? ⟨ga, 1, none⟩ = some (.slice p m c) ∧ W'.cell? ⟨ga, 2, none⟩ = some (.int .i64 (-11))) ((v3.setCell ⟨gr, 0, none⟩ (.bool s3)).setCell ⟨gr, 1, none⟩ (.slice (some ⟨g3, 0, none⟩) m3 m3))) := ⟨by go_simp, by go_simp, by go_simp⟩
  refine hK _ _ HJ2.out ?_
  clear hK HJ
  have HJ := HJ2
  clear HJ2
  refine wpJ_tq 9 rfl HJ.out ?_
  refine wpJ_done (by kernel_rfl) ?_ _
  clear HJ
  go_wp2_with fail
  have hne3 : g3 ≠ gr := by have h1 := HRL.out; have h2 := HN3.out; omega
  refine bodyPost_ret (v := .tuple #[.agg #[.bool s3, .slice (some ⟨g3, 0, none⟩) m3 m3], .bool true]) (by rw [results_cell_tmp rfl]; go_simp) rfl ⟨s3, _, m3, rfl, (Z3.out.set _ _ _ hne3).set _ _ _ hne3, HL3.out, ?_⟩
  exact bSet (bSet (hbw) _ _ _ HGr.out) _ _ _ HGr.out
theorem right_5 {s1 s2 : Bool} {p1 p2 : Option Addr} {m1 m2 c1 c2 : Nat} {w : World} (h : DN w s1 p1 m1 c1 (-9) 101) (k : DN w s2 p2 m2 c2 (-11) 405) :
    Calls Tryz.prog 11 #[.int .i64 5, .int .i64 3, .agg #[.bool s1, .slice p1 m1 c1, .int .i64 (-9), .bool s2, .slice p2 m2 c2, .int .i64 (-11)], .int .i64 0] w fun en w' => en = .returned (.bool true) ∧ Below w.heap.size w w' := by
  have H : Hid (DN w s1 p1 m1 c1 (-9) 101) := h
  have K : Hid (DN w s2 p2 m2 c2 (-11) 405) := k
  clear h k
  go_enter Tryz.func11, Tryz.ntmps11
  go_wp2_with fail
  obtain ⟨W0, hW0⟩ : ∃ W0, W0 = (w.alloc (.cells #[.bool s1, .slice p1 m1 c1, .int .i64 (-9), .bool s2, .slice p2 m2 c2, .int .i64 (-11)] 34)) := ⟨_, rfl⟩
  have Xs : Hid (B6q W0 (w.heap.size) (.bool s1) (.slice p1 m1 c1) (.int .i64 (-9)) (.bool s2) (.slice p2 m2 c2) (.int .i64 (-11))) := by rw [hW0]; exact ⟨by go_simp, by go_simp, by go_simp, by go_simp, by go_simp, by go_simp, by go_simp, by go_simp, by go_simp, by go_simp, by go_simp, by go_simp⟩
  have hb0 : Below w.heap.size w W0 := by rw [hW0]; exact below1 w _
  rw [← hW0]
  clear hW0
  have hbw : Below w.heap.size w w := Below.refl _ _
  obtain ⟨gs, hgs⟩ : ∃ g, g = w.heap.size := ⟨_, rfl⟩
  have HGs : Hid (w.heap.size ≤ gs) := by rw [hgs]; show _ ≤ _; omega
  rw [← hgs] at Xs
  try rw [← hgs]
  clear hgs
  replace hbw := Below.on hbw hb0
  clear hb0
  refine (docformT (H.out.below hbw)).mono ?_
  rintro e v1 ⟨rfl, hb1⟩
  replace Xs : Hid _ := Xs.out.below hb1
  replace hbw := Below.on hbw hb1
  clear hb1
  obtain ⟨cs0, cs1, cs2, cs3, cs4, cs5, fs0, fs1, fs2, fs3, fs4, fs5⟩ := Xs.out
  have hnes : gs < v1.heap.size := World.block_lt_of_cell? v1 _ cs0
  go_wp2_with fail
  clear cs0 cs1 cs2 cs3 cs4 cs5 fs0 fs1 fs2 fs3 fs4 fs5 hnes
  refine (docformT (K.out.below hbw)).mono ?_
  rintro e v2 ⟨rfl, hb2⟩
  replace Xs : Hid _ := Xs.out.below hb2
  replace hbw := Below.on hbw hb2
  clear hb2
  obtain ⟨cs0, cs1, cs2, cs3, cs4, cs5, fs0, fs1, fs2, fs3, fs4, fs5⟩ := Xs.out
  have hnes : gs < v2.heap.size := World.block_lt_of_cell? v2 _ cs0
  go_wp2_with fail
  clear cs0 cs1 cs2 cs3 cs4 cs5 fs0 fs1 fs2 fs3 fs4 fs5 hnes
  refine (mult_lo (H.out.below hbw)).mono ?_
  rintro e v3 ⟨s3, p3, m3, rfl, hz3, hl3, hb3⟩
  replace Xs : Hid _ := Xs.out.below hb3
  replace hbw := Below.on hbw hb3
  clear hb3
  have Z3 : Hid (ZR v3 s3 p3 m3 404) := hz3
  have HL3 : Hid (m3 ≤ 50000) := by show _ ≤ _; omega
  have HM3 : Hid (m3 ≤ 40000) := hl3
  clear hz3 hl3
  obtain ⟨cs0, cs1, cs2, cs3, cs4, cs5, fs0, fs1, fs2, fs3, fs4, fs5⟩ := Xs.out
  have hnes : gs < v3.heap.size := World.block_lt_of_cell? v3 _ cs0
  go_wp2_with fail
  clear cs0 cs1 cs2 cs3 cs4 cs5 fs0 fs1 fs2 fs3 fs4 fs5 hnes
  have Xl0 : Hid (Box (v3.alloc (.cells #[.bool s3, .slice p3 m3 m3] 51)) v3.heap.size (.bool s3) (.slice p3 m3 m3)) := Box.new v3 _ _ _
  have hbn : Below v3.heap.size v3 (v3.alloc (.cells #[.bool s3, .slice p3 m3 m3] 51)) := below1 v3 _
  generalize v3.alloc (.cells #[.bool s3, .slice p3 m3 m3] 51) = Wl at *
  have HGl : Hid (w.heap.size ≤ v3.heap.size) := hbw.size
  replace Xs : Hid _ := Xs.out.below hbn
  replace Z3 : Hid _ := Z3.out.below hbn
  replace hbw := Below.on hbw hbn
  clear hbn
  generalize v3.heap.size = gl at *
  have Xl := Xl0
  clear Xl0
  refine (mult_hi (K.out.below hbw)).mono ?_
  rintro e v4 ⟨s4, p4, m4, rfl, hz4, hl4, hb4⟩
  replace Xs : Hid _ := Xs.out.below hb4
  replace Xl : Hid _ := Xl.out.below hb4
  replace Z3 : Hid _ := Z3.out.below hb4
  replace hbw := Below.on hbw hb4
  clear hb4
  have Z4 : Hid (ZR v4 s4 p4 m4 405) := hz4
  have HL4 : Hid (m4 ≤ 50000) := by show _ ≤ _; omega
  have HM4 : Hid (m4 ≤ 40000) := hl4
  clear hz4 hl4
  obtain ⟨cl0, cl1, fl0, fl1⟩ := Xl.out
  have hnel := Xl.out.lt
  go_wp2_with fail
  clear cl0 cl1 fl0 fl1 hnel
  have Xh0 : Hid (Box (v4.alloc (.cells #[.bool s4, .slice p4 m4 m4] 51)) v4.heap.size (.bool s4) (.slice p4 m4 m4)) := Box.new v4 _ _ _
  have hbn : Below v4.heap.size v4 (v4.alloc (.cells #[.bool s4, .slice p4 m4 m4] 51)) := below1 v4 _
  generalize v4.alloc (.cells #[.bool s4, .slice p4 m4 m4] 51) = Wh at *
  have HGh : Hid (w.heap.size ≤ v4.heap.size) := hbw.size
  replace Xs : Hid _ := Xs.out.below hbn
  replace Xl : Hid _ := Xl.out.below hbn
  replace Z3 : Hid _ := Z3.out.below hbn
  replace Z4 : Hid _ := Z4.out.below hbn
  replace hbw := Below.on hbw hbn
  clear hbn
  generalize v4.heap.size = gh at *
  have Xh := Xh0
  clear Xh0
  refine (rsub04 s4 s3 Z4.out Z3.out HL4.out HL3.out).mono ?_
  rintro e v5 ⟨v, rfl, ⟨s5, g5, m5, rfl, _, hz5, hl5⟩, hb5⟩
  replace Xs : Hid _ := Xs.out.below hb5
  replace Xl : Hid _ := Xl.out.below hb5
  replace Xh : Hid _ := Xh.out.below hb5
  replace Z3 : Hid _ := Z3.out.below hb5
  replace Z4 : Hid _ := Z4.out.below hb5
  replace hbw := Below.on hbw hb5
  clear hb5
  have Z5 : Hid (ZR v5 s5 (some ⟨g5, 0, none⟩) m5 1) := hz5.cast (by decide)
  have HL5 : Hid (m5 ≤ 50000) := Nat.le_trans hl5 (mx7 HM4.out HM3.out)
  clear hz5 hl5
  go_wp2_with fail
  refine (rof04 256 _ (by decide) (by decide)).mono ?_
  rintro e v6 ⟨s6, g6, m6, rfl, hz6, hl6, hb6⟩
  replace Xs : Hid _ := Xs.out.below hb6
  replace Xl : Hid _ := Xl.out.below hb6
  replace Xh : Hid _ := Xh.out.below hb6
  replace Z3 : Hid _ := Z3.out.below hb6
  replace Z4 : Hid _ := Z4.out.below hb6
  replace Z5 : Hid _ := Z5.out.below hb6
  replace hbw := Below.on hbw hb6
  clear hb6
  have Z6 : Hid (ZR v6 s6 (some ⟨g6, 0, none⟩) m6 256) := hz6
  have HL6 : Hid (m6 ≤ 50000) := by show _ ≤ _; omega
  clear hz6 hl6
  go_wp2_with fail
  refine (rcmp04 s5 s6 Z5.out Z6.out HL5.out HL6.out).mono ?_
  rintro e v7 ⟨rfl, hb7⟩
  rw [show cmpI 1 256 = -1 from by decide]
  replace Xs : Hid _ := Xs.out.below hb7
  replace Xl : Hid _ := Xl.out.below hb7
  replace Xh : Hid _ := Xh.out.below hb7
  replace Z3 : Hid _ := Z3.out.below hb7
  replace Z4 : Hid _ := Z4.out.below hb7
  replace Z5 : Hid _ := Z5.out.below hb7
  replace Z6 : Hid _ := Z6.out.below hb7
  replace hbw := Below.on hbw hb7
  clear hb7
  go_wp2_with fail
  refine (floorArc5).mono ?_
  rintro e v8 ⟨p8, m8, rfl, hR, hb8⟩
  have R8 : Hid (RN v8 p8 m8 404) := hR
  clear hR
  replace Xs : Hid _ := Xs.out.below hb8
  replace Xl : Hid _ := Xl.out.below hb8
  replace Xh : Hid _ := Xh.out.below hb8
  replace Z3 : Hid _ := Z3.out.below hb8
  replace Z4 : Hid _ := Z4.out.below hb8
  replace Z5 : Hid _ := Z5.out.below hb8
  replace Z6 : Hid _ := Z6.out.below hb8
  replace hbw := Below.on hbw hb8
  clear hb8
  go_wp2_with fail
  refine (rnmk R8.out).mono ?_
  rintro e v9 ⟨p9, m9, rfl, hR, hb9⟩
  have HL9 : Hid (m9 ≤ 50000) := by have := hR.len; show _ ≤ _; omega
  have Z9 : Hid (ZR v9 false p9 m9 404) := hR.zr
  clear hR
  replace Xs : Hid _ := Xs.out.below hb9
  replace Xl : Hid _ := Xl.out.below hb9
  replace Xh : Hid _ := Xh.out.below hb9
  replace Z3 : Hid _ := Z3.out.below hb9
  replace Z4 : Hid _ := Z4.out.below hb9
  replace Z5 : Hid _ := Z5.out.below hb9
  replace Z6 : Hid _ := Z6.out.below hb9
  replace R8 : Hid (RN v9 p8 m8 404) := R8.out.below hb9
  replace hbw := Below.on hbw hb9
  clear hb9
  obtain ⟨cl0, cl1, fl0, fl1⟩ := Xl.out
  have hnel := Xl.out.lt
  go_wp2_with fail
  clear cl0 cl1 fl0 fl1 hnel
  have Xf0 : Hid (Box (v9.alloc (.cells #[.bool false, .slice p9 m9 m9] 51)) v9.heap.size (.bool false) (.slice p9 m9 m9)) := Box.new v9 _ _ _
  have hbn : Below v9.heap.size v9 (v9.alloc (.cells #[.bool false, .slice p9 m9 m9] 51)) := below1 v9 _
  generalize v9.alloc (.cells #[.bool false, .slice p9 m9 m9] 51) = Wf at *
  have HGf : Hid (w.heap.size ≤ v9.heap.size) := hbw.size
  replace Xs : Hid _ := Xs.out.below hbn
  replace Xl : Hid _ := Xl.out.below hbn
  replace Xh : Hid _ := Xh.out.below hbn
  replace Z3 : Hid _ := Z3.out.below hbn
  replace Z4 : Hid _ := Z4.out.below hbn
  replace Z5 : Hid _ := Z5.out.below hbn
  replace Z6 : Hid _ := Z6.out.below hbn
  replace R8 : Hid (RN Wf p8 m8 404) := R8.out.below hbn
  replace Z9 : Hid _ := Z9.out.below hbn
  replace hbw := Below.on hbw hbn
  clear hbn
  generalize v9.heap.size = gf at *
  have Xf := Xf0
  clear Xf0
  refine (rcmp04 s3 false Z3.out Z9.out HL3.out HL9.out).mono ?_
  rintro e v10 ⟨rfl, hb10⟩
  rw [show cmpI 404 404 = 0 from by decide]
  replace Xs : Hid _ := Xs.out.below hb10
  replace Xl : Hid _ := Xl.out.below hb10
  replace Xh : Hid _ := Xh.out.below hb10
  replace Xf : Hid _ := Xf.out.below hb10
  replace Z3 : Hid _ := Z3.out.below hb10
  replace Z4 : Hid _ := Z4.out.below hb10
  replace Z5 : Hid _ := Z5.out.below hb10
  replace Z6 : Hid _ := Z6.out.below hb10
  replace R8 : Hid (RN v10 p8 m8 404) := R8.out.below hb10
  replace Z9 : Hid _ := Z9.out.below hb10
  replace hbw := Below.on hbw hb10
  clear hb10
  obtain ⟨ch0, ch1, fh0, fh1⟩ := Xh.out
  have hneh := Xh.out.lt
  obtain ⟨cf0, cf1, ff0, ff1⟩ := Xf.out
  have hnef := Xf.out.lt
  go_wp2_with fail
  clear ch0 ch1 fh0 fh1 hneh
  clear cf0 cf1 ff0 ff1 hnef
  refine (rcmp04 false s4 Z9.out Z4.out HL9.out HL4.out).mono ?_
  rintro e v11 ⟨rfl, hb11⟩
  rw [show cmpI 404 405 = -1 from by decide]
  replace Xs : Hid _ := Xs.out.below hb11
  replace Xl : Hid _ := Xl.out.below hb11
  replace Xh : Hid _ := Xh.out.below hb11
  replace Xf : Hid _ := Xf.out.below hb11
  replace Z3 : Hid _ := Z3.out.below hb11
  replace Z4 : Hid _ := Z4.out.below hb11
  replace Z5 : Hid _ := Z5.out.below hb11
  replace Z6 : Hid _ := Z6.out.below hb11
  replace R8 : Hid (RN v11 p8 m8 404) := R8.out.below hb11
  replace Z9 : Hid _ := Z9.out.below hb11
  replace hbw := Below.on hbw hb11
  clear hb11
  go_wp2_with fail
  go_ret
  exact ⟨rfl, hbw⟩
theorem dv_404 : dv 404 (-11) = dv 101 (-9) := by
  have h := dv_shift (z := 101) (e := -9) (f := -11) (by decide) (by decide)
  rw [show (101 : Int) * ((2 ^ ((-9 : Int) - (-11)).toNat : Nat) : Int) = 404 from by decide] at h
  exact h.symm
theorem GN.one {w : World} {p : Option Addr} {m a : Nat} (h : GN w p m a) (h0 : a ≠ 0) (h1 : a < B64) : m = 1 ∧ ∃ g o, p = some ⟨g, o, none⟩ ∧ w.cell? ⟨g, o, none⟩ = some (U a) := by
  obtain ⟨⟨zs, k1, k2⟩, k3⟩ := h
  have hs : Nf B64 [a] a := ⟨Dig.cons h1 (fun x hx => by cases hx), by intro x hx; simp at hx; subst hx; exact h0, by simp [valB]⟩
  obtain rfl := k2.inj B64_one hs
  have hl := k1.len
  have hm : m = 1 := by rw [← hl]; rfl
  subst hm
  obtain ⟨g, off, rfl, hc⟩ := k1.cells.resolve_left (by omega)
  have h5 := hc 0 (by omega)
  exact ⟨rfl, g, off, rfl, h5⟩
theorem GN.c1 {w : World} {g o : Nat} {m a : Nat} (h : GN w (some ⟨g, o, none⟩) m a) (h0 : a ≠ 0) (h1 : a < B64) : w.cell? ⟨g, o, none⟩ = some (U a) := by
  obtain ⟨_, g2, o2, h3, h4⟩ := h.one h0 h1
  injection h3 with h3
  injection h3 with h5 h6
  subst h5 h6
  exact h4
theorem awake12 {w : World} (hT : Tab w) :
    Calls Tryz.prog 4 #[] w fun en w' => en = .returned (.bool true) ∧ Below w.heap.size w w' := by
  have TB : Hid (Tab w) := hT
  clear hT
  go_enter Tryz.func4, Tryz.ntmps4
  go_wp2_with fail
  have hbw : Below w.heap.size w w := Below.refl _ _
  refine (floorPi_ok 3 25 (by decide) (by decide) kfl_3).mono ?_
  rintro e v1 ⟨p1, m1, rfl, hR, hb1⟩
  obtain ⟨rfl, g1, o1, rfl, _⟩ := hR.one (by decide) (by decide)
  have GN1 : Hid (GN v1 (some ⟨g1, o1, none⟩) 1 25) := hR
  clear hR
  replace TB : Hid (Tab v1) := TB.out.below hb1
  replace hbw := Below.on hbw hb1
  clear hb1
  go_wp2_with fail
  refine (floorInv_ok 3 5 (by decide) (by decide) kiv_3).mono ?_
  rintro e v2 ⟨p2, m2, rfl, hR, hb2⟩
  obtain ⟨rfl, g2, o2, rfl, _⟩ := hR.one (by decide) (by decide)
  have GN2 : Hid (GN v2 (some ⟨g2, o2, none⟩) 1 5) := hR
  clear hR
  replace TB : Hid (Tab v2) := TB.out.below hb2
  replace GN1 : Hid (GN v2 (some ⟨g1, o1, none⟩) 1 25) := GN1.out.below hb2
  replace hbw := Below.on hbw hb2
  clear hb2
  go_wp2_with fail
  refine (arctan_ok 5 3 404 405 (by decide) (by decide) (by decide) (by decide) (by rw [ark_5]; decide) (by rw [ark_5]; decide) (by rw [ark_5]; decide) TB.out).mono ?_
  rintro e v3 ⟨s1, p1, m1, e1, z1, s2, p2, m2, e2, z2, rfl, hR1, hR2, hd1, hd2, hb3⟩
  obtain ⟨rfl, rfl⟩ := dv_inj hR1.fm (.inr ⟨by decide, by decide, by decide⟩ : DFm 101 (-9)) (hd1.trans dv_404)
  obtain ⟨rfl, rfl⟩ := dv_inj hR2.fm (.inr ⟨by decide, by decide, by decide⟩ : DFm 405 (-11)) hd2
  clear hd1 hd2
  have D1 : Hid (DN v3 s1 p1 m1 m1 (-9) 101) := hR1.dn
  have D2 : Hid (DN v3 s2 p2 m2 m2 (-11) 405) := hR2.dn
  clear hR1 hR2
  replace TB : Hid (Tab v3) := TB.out.below hb3
  replace GN1 : Hid (GN v3 (some ⟨g1, o1, none⟩) 1 25) := GN1.out.below hb3
  replace GN2 : Hid (GN v3 (some ⟨g2, o2, none⟩) 1 5) := GN2.out.below hb3
  replace hbw := Below.on hbw hb3
  clear hb3
  have hc1 := GN1.out.c1 (by decide) (by decide)
  have hc2 := GN2.out.c1 (by decide) (by decide)
  have hl1 := World.block_lt_of_cell? v3 _ hc1
  have hl2 := World.block_lt_of_cell? v3 _ hc2
  go_wp2_with fail
  clear hc1 hc2 hl1 hl2
  clear GN1
  clear GN2
  have hbn := below1 v3 (.cells #[.bool s1, .slice p1 m1 m1, .int .i64 (-9), .bool s2, .slice p2 m2 m2, .int .i64 (-11)] 34)
  generalize v3.alloc (.cells #[.bool s1, .slice p1 m1 m1, .int .i64 (-9), .bool s2, .slice p2 m2 m2, .int .i64 (-11)] 34) = Ws at *
  replace TB : Hid (Tab Ws) := TB.out.below hbn
  replace D1 : Hid _ := D1.out.below hbn
  replace D2 : Hid _ := D2.out.below hbn
  replace hbw := Below.on hbw hbn
  clear hbn
  refine (right_5 D1.out D2.out).mono ?_
  rintro e v4 ⟨rfl, hb4⟩
  replace TB : Hid (Tab v4) := TB.out.below hb4
  replace D1 : Hid _ := D1.out.below hb4
  replace D2 : Hid _ := D2.out.below hb4
  replace hbw := Below.on hbw hb4
  clear hb4
  go_wp2_with fail
  go_ret
  exact ⟨rfl, hbw⟩
theorem nf_p254 : Nf B64 [147421033984662306, 2955010104097229940, 14179128828124470481, 14488038916154245684] 90942894222941581070058735694432465663348344332098107489693037779484723616546 := ⟨Dig.cons (by decide) (Dig.cons (by decide) (dig2 (by decide) (by decide))), by intro x hx; simp at hx; omega, by simp [valB, B64]⟩
theorem nf_i256 : Nf B64 [18325537948574664033, 15808362127397457985, 18169587780923219392, 11743562013128004905] 73715533492226901901836098385759174607297965327747686705228263945774433027425 := ⟨Dig.cons (by decide) (Dig.cons (by decide) (dig2 (by decide) (by decide))), by intro x hx; simp at hx; omega, by simp [valB, B64]⟩
theorem at4k {W : World} {g y0 y1 y2 y3 : Nat} (hc : B4q W g (U y3) (U y2) (U y1) (U y0)) (hd : Dig B64 [y3, y2, y1, y0]) : At W (some ⟨g, 0, none⟩) 4 4 [y3, y2, y1, y0] := by
  refine ⟨rfl, Nat.le_refl _, by unfold maxLen; omega, hd, .inr ⟨g, 0, rfl, fun j hj => ?_⟩⟩
  rcases (by omega : j = 0 ∨ j = 1 ∨ j = 2 ∨ j = 3) with rfl | rfl | rfl | rfl
  · exact hc.c0
  · exact hc.c1
  · exact hc.c2
  · exact hc.c3
theorem same_gn {w : World} {p q : Option Addr} {m n c a : Nat} {ys : List Nat} (h : GN w p m a) (k : At w q n c ys) (hn : Nf B64 ys a) : Calls Tryz.prog 7 #[.slice p m m, .slice q n c] w fun e w' => e = .returned (.bool true) ∧ Below w.heap.size w w' := by
  obtain ⟨⟨zs, h1, h2⟩, h3⟩ := h
  obtain rfl := h2.inj B64_one hn
  exact same_t h1 k
theorem known_w {w : World} (hT : Tab w) :
    Calls Tryz.prog 3 #[] w fun en w' => en = .returned (.bool true) ∧ Below w.heap.size w w' := by
  have TB : Hid (Tab w) := hT
  clear hT
  go_enter Tryz.func3, Tryz.ntmps3
  go_wp2_with fail
  have hbw : Below w.heap.size w w := Below.refl _ _
  refine (awake12 TB.out).mono ?_
  rintro e v1 ⟨rfl, hb1⟩
  replace TB : Hid (Tab v1) := TB.out.below hb1
  replace hbw := Below.on hbw hb1
  clear hb1
  go_wp2_with fail
  refine (floorPi_ok 254 90942894222941581070058735694432465663348344332098107489693037779484723616546 (by decide) (by decide) kfl_254).mono ?_
  rintro e v2 ⟨p2, m2, rfl, hR, hb2⟩
  have GN2 : Hid (GN v2 p2 m2 90942894222941581070058735694432465663348344332098107489693037779484723616546) := hR
  clear hR
  replace TB : Hid (Tab v2) := TB.out.below hb2
  replace hbw := Below.on hbw hb2
  clear hb2
  go_wp2_with fail
  refine (floorInv_ok 256 73715533492226901901836098385759174607297965327747686705228263945774433027425 (by decide) (by decide) kiv_256).mono ?_
  rintro e v3 ⟨p3, m3, rfl, hR, hb3⟩
  have GN3 : Hid (GN v3 p3 m3 73715533492226901901836098385759174607297965327747686705228263945774433027425) := hR
  clear hR
  replace TB : Hid (Tab v3) := TB.out.below hb3
  replace GN2 : Hid (GN v3 p2 m2 90942894222941581070058735694432465663348344332098107489693037779484723616546) := GN2.out.below hb3
  replace hbw := Below.on hbw hb3
  clear hb3
  go_wp2_with fail
  have Xc40 : Hid (B4q (v3.alloc (.cells #[.int .u64 147421033984662306, .int .u64 2955010104097229940, .int .u64 14179128828124470481, .int .u64 14488038916154245684] 28)) v3.heap.size (.int .u64 147421033984662306) (.int .u64 2955010104097229940) (.int .u64 14179128828124470481) (.int .u64 14488038916154245684)) := B4q.new v3 _ _ _ _ _
  have hbn : Below v3.heap.size v3 (v3.alloc (.cells #[.int .u64 147421033984662306, .int .u64 2955010104097229940, .int .u64 14179128828124470481, .int .u64 14488038916154245684] 28)) := below1 v3 _
  generalize v3.alloc (.cells #[.int .u64 147421033984662306, .int .u64 2955010104097229940, .int .u64 14179128828124470481, .int .u64 14488038916154245684] 28) = Wc4 at *
  have HGc4 : Hid (w.heap.size ≤ v3.heap.size) := hbw.size
  replace TB : Hid (Tab Wc4) := TB.out.below hbn
  replace GN2 : Hid (GN Wc4 p2 m2 90942894222941581070058735694432465663348344332098107489693037779484723616546) := GN2.out.below hbn
  replace GN3 : Hid (GN Wc4 p3 m3 73715533492226901901836098385759174607297965327747686705228263945774433027425) := GN3.out.below hbn
  replace hbw := Below.on hbw hbn
  clear hbn
  generalize v3.heap.size = gc4 at *
  have Xc4 := Xc40
  clear Xc40
  refine (same_gn GN2.out (at4k Xc4.out nf_p254.dig) nf_p254).mono ?_
  rintro e v4 ⟨rfl, hb4⟩
  replace Xc4 : Hid _ := Xc4.out.below hb4
  replace TB : Hid (Tab v4) := TB.out.below hb4
  replace GN2 : Hid (GN v4 p2 m2 90942894222941581070058735694432465663348344332098107489693037779484723616546) := GN2.out.below hb4
  replace GN3 : Hid (GN v4 p3 m3 73715533492226901901836098385759174607297965327747686705228263945774433027425) := GN3.out.below hb4
  replace hbw := Below.on hbw hb4
  clear hb4
  go_wp2_with fail
  clear Xc4
  clear GN2
  have Xc50 : Hid (B4q (v4.alloc (.cells #[.int .u64 18325537948574664033, .int .u64 15808362127397457985, .int .u64 18169587780923219392, .int .u64 11743562013128004905] 28)) v4.heap.size (.int .u64 18325537948574664033) (.int .u64 15808362127397457985) (.int .u64 18169587780923219392) (.int .u64 11743562013128004905)) := B4q.new v4 _ _ _ _ _
  have hbn : Below v4.heap.size v4 (v4.alloc (.cells #[.int .u64 18325537948574664033, .int .u64 15808362127397457985, .int .u64 18169587780923219392, .int .u64 11743562013128004905] 28)) := below1 v4 _
  generalize v4.alloc (.cells #[.int .u64 18325537948574664033, .int .u64 15808362127397457985, .int .u64 18169587780923219392, .int .u64 11743562013128004905] 28) = Wc5 at *
  have HGc5 : Hid (w.heap.size ≤ v4.heap.size) := hbw.size
  replace TB : Hid (Tab Wc5) := TB.out.below hbn
  replace GN3 : Hid (GN Wc5 p3 m3 73715533492226901901836098385759174607297965327747686705228263945774433027425) := GN3.out.below hbn
  replace hbw := Below.on hbw hbn
  clear hbn
  generalize v4.heap.size = gc5 at *
  have Xc5 := Xc50
  clear Xc50
  refine (same_gn GN3.out (at4k Xc5.out nf_i256.dig) nf_i256).mono ?_
  rintro e v5 ⟨rfl, hb5⟩
  replace Xc5 : Hid _ := Xc5.out.below hb5
  replace TB : Hid (Tab v5) := TB.out.below hb5
  replace GN3 : Hid (GN v5 p3 m3 73715533492226901901836098385759174607297965327747686705228263945774433027425) := GN3.out.below hb5
  replace hbw := Below.on hbw hb5
  clear hb5
  go_wp2_with fail
  clear Xc5
  clear GN3
  refine (floorPi_e 70001 (by decide) _).mono ?_
  rintro e v6 ⟨rfl, hb6⟩
  replace TB : Hid (Tab v6) := TB.out.below hb6
  replace hbw := Below.on hbw hb6
  clear hb6
  go_wp2_with fail
  refine (floorInv_e 0 (by decide) _).mono ?_
  rintro e v7 ⟨rfl, hb7⟩
  replace TB : Hid (Tab v7) := TB.out.below hb7
  replace hbw := Below.on hbw hb7
  clear hb7
  go_wp2_with fail
  refine (pi_e (-1) (by decide)).mono ?_
  rintro e v8 ⟨rfl, hb8⟩
  replace TB : Hid (Tab v8) := TB.out.below hb8
  replace hbw := Below.on hbw hb8
  clear hb8
  go_wp2_with fail
  have hbn := below1 v8 (.cells #[.bool false, .slice none 0 0, .int .i64 0, .bool false, .slice none 0 0, .int .i64 0] 34)
  generalize v8.alloc (.cells #[.bool false, .slice none 0 0, .int .i64 0, .bool false, .slice none 0 0, .int .i64 0] 34) = Wz8 at *
  replace TB : Hid (Tab Wz8) := TB.out.below hbn
  replace hbw := Below.on hbw hbn
  clear hbn
  refine (inv_e 70001 (by decide)).mono ?_
  rintro e v9 ⟨rfl, hb9⟩
  replace TB : Hid (Tab v9) := TB.out.below hb9
  replace hbw := Below.on hbw hb9
  clear hb9
  go_wp2_with fail
  have hbn := below1 v9 (.cells #[.bool false, .slice none 0 0, .int .i64 0, .bool false, .slice none 0 0, .int .i64 0] 34)
  generalize v9.alloc (.cells #[.bool false, .slice none 0 0, .int .i64 0, .bool false, .slice none 0 0, .int .i64 0] 34) = Wz9 at *
  replace TB : Hid (Tab Wz9) := TB.out.below hbn
  replace hbw := Below.on hbw hbn
  clear hbn
  refine (arctan_e1).mono ?_
  rintro e v10 ⟨rfl, hb10⟩
  replace TB : Hid (Tab v10) := TB.out.below hb10
  replace hbw := Below.on hbw hb10
  clear hb10
  go_wp2_with fail
  have hbn := below1 v10 (.cells #[.bool false, .slice none 0 0, .int .i64 0, .bool false, .slice none 0 0, .int .i64 0] 34)
  generalize v10.alloc (.cells #[.bool false, .slice none 0 0, .int .i64 0, .bool false, .slice none 0 0, .int .i64 0] 34) = Wz10 at *
  replace TB : Hid (Tab Wz10) := TB.out.below hbn
  replace hbw := Below.on hbw hbn
  clear hbn
  refine (arctan_e2).mono ?_
  rintro e v11 ⟨rfl, hb11⟩
  replace TB : Hid (Tab v11) := TB.out.below hb11
  replace hbw := Below.on hbw hb11
  clear hb11
  go_wp2_with fail
  have hbn := below1 v11 (.cells #[.bool false, .slice none 0 0, .int .i64 0, .bool false, .slice none 0 0, .int .i64 0] 34)
  generalize v11.alloc (.cells #[.bool false, .slice none 0 0, .int .i64 0, .bool false, .slice none 0 0, .int .i64 0] 34) = Wz11 at *
  replace TB : Hid (Tab Wz11) := TB.out.below hbn
  replace hbw := Below.on hbw hbn
  clear hbn
  refine (arctan_ok 4294967296 9 0 1 (by decide) (by decide) (by decide) (by decide) (by rw [ark_32]; decide) (by rw [ark_32]; decide) (by rw [ark_32]; decide) TB.out).mono ?_
  rintro e v12 ⟨s1, p1, m1, e1, z1, s2, p2, m2, e2, z2, rfl, _, _, _, _, hb12⟩
  replace TB : Hid (Tab v12) := TB.out.below hb12
  replace hbw := Below.on hbw hb12
  clear hb12
  go_wp2_with fail
  go_ret
  exact ⟨rfl, Below.on hbw (below1 _ _)⟩
end Go.Proofs.YtmefpgebmchnkaaGreatDoor
