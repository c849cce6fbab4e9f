import Derived.Test.YtoclnjbmhepcnaaJ7
import Derived.Laws.Bits64b
namespace Go.Proofs.Ytoclnjbmhepcnaa
open Go.RowKit
set_option maxRecDepth 20000
set_option maxHeartbeats 0
theorem cut_all (neg : Bool) (n L : Nat) : Ieee.Toward.even.cut neg n L = rne n L := by
  rcases Nat.lt_or_ge (n.log2 + 2) L with h | h
  · have hu : n < 2 ^ (n.log2 + 1) := Nat.lt_log2_self
    have h1 : 2 ^ (n.log2 + 2) = 2 * 2 ^ (n.log2 + 1) := p2succ _
    have h2 : 2 ^ (n.log2 + 2) ≤ 2 ^ L := p2le (by omega)
    unfold Ieee.Toward.cut rne
    rw [Nat.min_eq_right (by omega), Nat.one_shiftLeft]
    dsimp only
    rw [Nat.div_eq_of_lt (show n < 2 ^ (n.log2 + 2) by omega), Nat.div_eq_of_lt (show n < 2 ^ L by omega), Nat.mod_eq_of_lt (show n < 2 ^ (n.log2 + 2) by omega), Nat.mod_eq_of_lt (show n < 2 ^ L by omega)]
    rw [decide_eq_false (show ¬ 2 ^ (n.log2 + 2) < 2 * n by omega), decide_eq_false (show ¬ 2 ^ L < 2 * n by omega), show (2 ^ (n.log2 + 2) == 2 * n) = false by simp; omega, show (2 ^ L == 2 * n) = false by simp; omega]
  · exact cut_eq neg n L h
def rgc (c n : Nat) : Nat := if n = 0 then 0 else min ((max (n.log2 - 52) c - c) * 4503599627370496 + rne n (max (n.log2 - 52) c)) 9218868437227405312
theorem nearest_rgc (neg : Bool) (mag c d : Nat) : Ieee.double.nearest neg mag (-1074 - (c : Int) + (d : Int)) = Ieee.double.word neg (rgc c (mag * 2 ^ d)) := by
  have e1 : Ieee.double.leastPlace = -1074 := by decide
  have e2 : Ieee.double.binade = 4503599627370496 := by decide
  have e3 : Ieee.double.infRung = 9218868437227405312 := by decide
  have e4 : Ieee.double.fractionBits = 52 := by decide
  have hd : 0 < 2 ^ d := p2pos d
  unfold Ieee.Format.nearest rgc
  by_cases h0 : mag = 0
  · subst h0; simp
  · have hz : mag * 2 ^ d ≠ 0 := Nat.mul_ne_zero h0 (by omega)
    rw [if_neg h0, if_neg hz, e1, e2, e3, e4]
    have hl := log2_mul mag d h0
    obtain ⟨l, hle⟩ : ∃ l, l = mag.log2 := ⟨_, rfl⟩
    rw [← hle] at hl ⊢
    rw [hl]
    obtain ⟨L, hL⟩ : ∃ L, L = max (l + d - 52) c := ⟨_, rfl⟩
    rw [← hL]
    have e5 : max (-1074 - (c : Int) + (d : Int) + (l : Int) - ((52 : Nat) : Int)) (-1074) = -1074 - (c : Int) + (L : Int) := by omega
    dsimp only
    rw [e5]
    have e6 : (-1074 - (c : Int) + (L : Int) - -1074).toNat = L - c := by omega
    rw [e6]
    have e7 : (-1074 - (c : Int) + (d : Int) - (-1074 - (c : Int) + (L : Int))).toNat = d - L := by omega
    have e8 : (-1074 - (c : Int) + (L : Int) - (-1074 - (c : Int) + (d : Int))).toNat = L - d := by omega
    rw [e7, e8, Nat.shiftLeft_eq, cut_all]
    have e9 : rne (mag * 2 ^ (d - L)) (L - d) = rne (mag * 2 ^ d) L := by
      rcases Nat.le_total L d with h1 | h1
      · rw [show L - d = 0 by omega, rne_zero]
        have h2 := rne_mul (mag * 2 ^ (d - L)) 0 L
        rw [Nat.zero_add, rne_zero, Nat.mul_assoc, ← Nat.pow_add, show d - L + L = d by omega] at h2
        exact h2.symm
      · rw [show d - L = 0 by omega, Nat.pow_zero, Nat.mul_one]
        have h2 := rne_mul mag (L - d) d
        rw [show L - d + d = L by omega] at h2
        exact h2.symm
    rw [e9]
theorem rgc_int (c n : Nat) : rgc c (n * 2 ^ c) = rg 0 n := by
  have hd : 0 < 2 ^ c := p2pos c
  unfold rgc rg
  by_cases h0 : n = 0
  · subst h0; simp
  · have hz : n * 2 ^ c ≠ 0 := Nat.mul_ne_zero h0 (by omega)
    rw [if_neg h0, if_neg hz, log2_mul n c h0, show max (n.log2 + c - 52) c = n.log2 - 52 + c by omega, rne_mul, Nat.add_sub_cancel, Nat.sub_zero]
theorem fmul_any {a b : Nat} (ha : Fin64 a) (hb : Fin64 b) : floatBits .mul .f64 a b = some (Ieee.double.word (decide (9223372036854775808 ≤ a) ^^ decide (9223372036854775808 ≤ b)) (rgc 1074 ((ux a).natAbs * (ux b).natAbs))) := by
  obtain ⟨m, q, h1, h2⟩ := read_fin ha.lt ha.fin
  obtain ⟨n, t, h3, h4⟩ := read_fin hb.lt hb.fin
  rw [ux_abs, ux_abs, ← h2, ← h4]
  show ((Ieee.double.read a).product (Ieee.double.read b)).map Ieee.double.write = _
  rw [h1, h3]
  show some (Ieee.double.nearest _ (m * n) (-1074 + (q : Int) + (-1074 + (t : Int)))) = _
  have := nearest_rgc (decide (9223372036854775808 ≤ a) ^^ decide (9223372036854775808 ≤ b)) (m * n) 1074 (q + t)
  rw [show (-1074 : Int) - ((1074 : Nat) : Int) + ((q + t : Nat) : Int) = -1074 + (q : Int) + (-1074 + (t : Int)) by omega] at this
  rw [this, show m * n * 2 ^ (q + t) = m * 2 ^ q * (n * 2 ^ t) by rw [Nat.pow_add, ← Nat.mul_assoc, ← Nat.mul_assoc, Nat.mul_assoc m n, Nat.mul_comm n, ← Nat.mul_assoc]]
theorem ux_neg {b : Nat} (h : ux b ≠ 0) : decide (9223372036854775808 ≤ b) = decide (ux b < 0) := by
  refine decide_eq_decide.2 ?_
  have := ux_eq b
  by_cases h1 : 9223372036854775808 ≤ b
  · rw [if_pos h1] at this; omega
  · rw [if_neg h1] at this; omega
theorem mul_sign {a b : Nat} (h : ux a * ux b ≠ 0) : (decide (9223372036854775808 ≤ a) ^^ decide (9223372036854775808 ≤ b)) = decide (ux a * ux b < 0) := by
  have ha : ux a ≠ 0 := fun k => h (by rw [k, Int.zero_mul])
  have hb : ux b ≠ 0 := fun k => h (by rw [k, Int.mul_zero])
  rw [ux_neg ha, ux_neg hb]
  generalize ux a = x at *
  generalize ux b = y at *
  rcases Int.lt_or_gt_of_ne ha with h1 | h1 <;> rcases Int.lt_or_gt_of_ne hb with h2 | h2
  · have := Int.mul_pos_of_neg_of_neg h1 h2
    simp [h1, h2]; omega
  · have := Int.mul_neg_of_neg_of_pos h1 h2
    simp [h1, Int.not_lt.2 (Int.le_of_lt h2), this]
  · have := Int.mul_neg_of_pos_of_neg h1 h2
    simp [h2, Int.not_lt.2 (Int.le_of_lt h1), this]
  · have := Int.mul_pos h1 h2
    simp [Int.not_lt.2 (Int.le_of_lt h1), Int.not_lt.2 (Int.le_of_lt h2)]; omega
theorem FlR.mul {x y r : Nat} (h : FlR .mul x y r) (hx : Fin64 x) (hy : Fin64 y) {X : Int} {c : Nat} (hc : c = 1074) (hX : ux x * ux y = X * ((2 ^ c : Nat) : Int)) (hm : X.natAbs ≤ MaxU) : Sm64 X r := by
  have h1 := fmul_any hx hy
  rw [← Int.natAbs_mul, hX, Int.natAbs_mul, Int.natAbs_natCast, ← hc, rgc_int] at h1
  rw [h.some _ h1]
  refine sm_word hm fun h0 => ?_
  have hp : (0 : Int) < ((2 ^ c : Nat) : Int) := Int.ofNat_lt.2 (p2pos c)
  have h2 : ux x * ux y ≠ 0 := by rw [hX]; exact Int.mul_ne_zero h0 (by omega)
  rw [mul_sign h2, hX]
  refine decide_eq_decide.2 ⟨fun h3 => ?_, fun h3 => Int.mul_neg_of_neg_of_pos h3 hp⟩
  refine Int.lt_of_not_ge fun h4 => ?_
  have := Int.mul_nonneg h4 (Int.le_of_lt hp)
  omega
theorem rv_rn {X : Int} (h : X.natAbs ≤ MaxU) : Rn 53 X (rv X) := (sm_word2 (neg := decide (X < 0)) (rg_fin h) fun _ => rfl).2.2
theorem rv_mono {X Y : Int} (hX : X.natAbs ≤ MaxU) (hY : Y.natAbs ≤ MaxU) (h : X ≤ Y) : rv X ≤ rv Y := by
  have a := rv_rn hX
  have b := rv_rn hY
  refine Int.not_lt.1 fun hlt => ?_
  have h1 := a.2 _ b.1
  have h2 := b.2 _ a.1
  have h3 : X = Y := by omega
  rw [h3] at hlt
  omega
theorem rv_fl {X : Int} (h : X.natAbs ≤ MaxU) (f : Fl 53 X) : rv X = X := (rv_rn h).ex f
theorem sm_rv {X : Int} {r : Nat} (h : Sm64 X r) : ux r = rv X := by
  have h1 := h.size
  have h2 := h.sign
  rw [ux_eq, h1]
  unfold rv
  by_cases h0 : X = 0
  · subst h0
    have h3 : vs 4503599627370496 (rg 0 (Int.natAbs 0)) = 0 := by rw [show rg 0 (Int.natAbs 0) = 0 from rfl]; simp [vs]
    rw [h3]; simp
  · by_cases h3 : X < 0
    · rw [if_pos h3, if_pos ((h2 h0).2 h3)]
    · rw [if_neg h3, if_neg fun h4 => h3 ((h2 h0).1 h4)]
theorem max_k {K : Nat} (hK : K = 1974) : 8 * 2 ^ K ≤ MaxU := by
  rw [MaxU_eq (K := K + 71) (by omega), Nat.pow_add, show 2 ^ 71 = 2361183241434822606848 by decide]
  have := p2pos K
  omega
theorem fl_gap {z H : Int} {q : Nat} (hz : Fl 53 z) (hH : Fl 53 H) (h1 : 2 ^ (53 + q) ≤ H.natAbs) (hne : z ≠ H) : 2 ^ q ≤ (z - H).natAbs := by
  have d1 : ((2 ^ q : Nat) : Int) ∣ H := Int.dvd_trans (p2dvd (show q ≤ q + 1 by omega)) (hH.dvd (by decide) (m := q + 1) (by rw [show 53 - 1 + (q + 1) = 53 + q by omega]; exact h1))
  rcases Nat.lt_or_ge z.natAbs (2 ^ (52 + q)) with h2 | h2
  · have h3 : 2 ^ (53 + q) = 2 * 2 ^ (52 + q) := by rw [show 53 + q = 52 + q + 1 by omega]; exact p2succ _
    have h4 : 2 ^ q ≤ 2 ^ (52 + q) := p2le (by omega)
    omega
  · have d2 : ((2 ^ q : Nat) : Int) ∣ z := hz.dvd (by decide) (m := q) h2
    exact dvd_far d2 d1 hne
theorem sz_q {s : Nat} (h1 : 553942754166571008 ≤ s) : ∃ q h, 122 ≤ q ∧ q = s / 4503599627370496 - 1 ∧ 4503599627370496 ≤ h ∧ h < 9007199254740992 ∧ vs 4503599627370496 s = h * 2 ^ q := by
  refine ⟨s / 4503599627370496 - 1, s - (s / 4503599627370496 - 1) * 4503599627370496, by omega, rfl, by omega, by omega, rfl⟩
def mgX (k : Nat) (H : Int) : Nat := 3 * H.natAbs / 2 ^ (k + 1)
def mgR (k : Nat) (H : Int) : Int := rv (mgX k H : Int)
structure SzF (hi : Nat) : Prop where
  fin : Fin64 hi
  least : 553942754166571008 ≤ hi % 9223372036854775808
  most : hi % 9223372036854775808 ≤ 8660422083433463808
theorem mgX_exact {k hi : Nat} (hk : k ≤ 100) (h : SzF hi) : mgX k (ux hi) * 2 ^ (k + 1) = 3 * (ux hi).natAbs := by
  obtain ⟨q, g, h1, _, h2, h3, h4⟩ := sz_q h.least
  unfold mgX
  rw [ux_abs, h4]
  refine Nat.div_mul_cancel ⟨3 * g * 2 ^ (q - (k + 1)), ?_⟩
  rw [Nat.mul_comm (2 ^ (k + 1)), Nat.mul_assoc (3 * g), ← Nat.pow_add, show q - (k + 1) + (k + 1) = q by omega, Nat.mul_assoc]
theorem SzF.le {hi K : Nat} (hK : K = 1974) (h : SzF hi) : (ux hi).natAbs ≤ 2 ^ K := by
  have := ux_pow (b := hi) (K := K - 52) (by have := h.most; omega)
  rw [show 52 + (K - 52) = K by omega] at this
  exact this
theorem mg_facts {k hi K : Nat} (hK : K = 1974) (hk1 : 56 ≤ k) (hk : k ≤ 100) (h : SzF hi) : 0 ≤ mgR k (ux hi) ∧ (mgR k (ux hi)).natAbs ≤ 2 ^ K ∧ mgX k (ux hi) ≤ 2 ^ K ∧ Rn 53 (mgX k (ux hi)) (mgR k (ux hi)) := by
  have h1 := mgX_exact hk h
  have h2 := h.le hK
  have h3 : mgX k (ux hi) ≤ 2 ^ K := by
    have : 2 ^ 57 ≤ 2 ^ (k + 1) := p2le (by omega)
    have h4 : mgX k (ux hi) * 2 ^ 57 ≤ 3 * (ux hi).natAbs := by rw [← h1]; exact Nat.mul_le_mul_left _ this
    rw [show 2 ^ 57 = 144115188075855872 by decide] at h4
    omega
  have h5 := max_k hK
  have h6 : Rn 53 (mgX k (ux hi)) (mgR k (ux hi)) := rv_rn (by omega)
  refine ⟨h6.lo (Fl.zero _) (by omega), h6.bound (by omega), h3, h6⟩
theorem dd_little {h l : Nat} (d : DdF h l) : 9007199254740992 * (ux l).natAbs ≤ (ux h).natAbs := by
  have := d.rn.little (by decide)
  rw [show ux h + ux l - ux h = ux l by omega] at this
  exact this
theorem lo_le {h l K : Nat} (hK : K = 1974) (d : DdF h l) (hs : SzF h) : (ux l).natAbs ≤ 2 ^ K := by
  have := dd_little d
  have := hs.le hK
  omega
structure AccP (hi lo k : Nat) : Prop where
  k1 : 56 ≤ k
  k2 : k ≤ 100
  sz : SzF hi
  dd : DdF hi lo
  dn : rv (ux hi + rv (ux lo - mgR k (ux hi))) = ux hi
  up : rv (ux hi + rv (ux lo + mgR k (ux hi))) = ux hi
theorem acc_bd {hi lo k K : Nat} (hK : K = 1974) (hk1 : 56 ≤ k) (hk : k ≤ 100) (hs : SzF hi) (d : DdF hi lo) {t : Int} (ht : t.natAbs ≤ (mgR k (ux hi)).natAbs) :
    (ux lo + t).natAbs ≤ 2 * 2 ^ K ∧ (rv (ux lo + t)).natAbs ≤ 2 * 2 ^ K ∧ (ux hi + rv (ux lo + t)).natAbs ≤ MaxU ∧ (ux lo + t).natAbs ≤ MaxU := by
  obtain ⟨m1, m2, m3, m4⟩ := mg_facts hK hk1 hk hs
  have h1 := lo_le hK d hs
  have h2 := hs.le hK
  have h3 := max_k hK
  have h4 : (ux lo + t).natAbs ≤ 2 ^ (K + 1) := by rw [p2succ]; omega
  have h5 := (rv_rn (X := ux lo + t) (by rw [p2succ] at h4; omega)).bound h4
  rw [p2succ] at h4 h5
  exact ⟨h4, h5, by omega, by omega⟩
theorem rr_mono {H x y : Int} (hx : x.natAbs ≤ MaxU) (hy : y.natAbs ≤ MaxU) (ix : (H + rv x).natAbs ≤ MaxU) (iy : (H + rv y).natAbs ≤ MaxU) (h : x ≤ y) : rv (H + rv x) ≤ rv (H + rv y) :=
  rv_mono ix iy (Int.add_le_add_left (rv_mono hx hy h) H)
theorem mg_mono {hi k j : Nat} (k1 : 56 ≤ k) (hj : k ≤ j) (hj2 : j ≤ 100) (sz : SzF hi) : mgR j (ux hi) ≤ mgR k (ux hi) ∧ 0 ≤ mgR j (ux hi) := by
  obtain ⟨K, hK⟩ : ∃ K, K = 1974 := ⟨_, rfl⟩
  have m3 := (mg_facts hK k1 (show k ≤ 100 by omega) sz).2.2.1
  have n1 := (mg_facts hK (show 56 ≤ j by omega) hj2 sz).1
  have n3 := (mg_facts hK (show 56 ≤ j by omega) hj2 sz).2.2.1
  have hmx := max_k hK
  refine ⟨rv_mono (by omega) (by omega) (Int.ofNat_le.2 ?_), n1⟩
  unfold mgX
  exact Nat.div_le_div_left (p2le (by omega)) (p2pos _)
theorem AccP.narrow {hi lo k j : Nat} (h : AccP hi lo k) (hj : k ≤ j) (hj2 : j ≤ 100) : AccP hi lo j := by
  obtain ⟨k1, k2, sz, d, dn, up⟩ := h
  obtain ⟨hle, h0⟩ := mg_mono k1 hj hj2 sz
  have t1 : (-mgR k (ux hi)).natAbs ≤ (mgR k (ux hi)).natAbs := by rw [Int.natAbs_neg]; exact Nat.le_refl _
  have t2 : (mgR j (ux hi)).natAbs ≤ (mgR k (ux hi)).natAbs := by omega
  have t3 : (-mgR j (ux hi)).natAbs ≤ (mgR k (ux hi)).natAbs := by rw [Int.natAbs_neg]; exact t2
  obtain ⟨_, _, a3, a4⟩ := acc_bd rfl k1 k2 sz d t1
  obtain ⟨_, _, b3, b4⟩ := acc_bd rfl k1 k2 sz d (Nat.le_refl (mgR k (ux hi)).natAbs)
  obtain ⟨_, _, c3, c4⟩ := acc_bd rfl k1 k2 sz d t3
  obtain ⟨_, _, e3, e4⟩ := acc_bd rfl k1 k2 sz d t2
  rw [Int.sub_eq_add_neg] at dn
  have f1 := rr_mono a4 c4 a3 c3 (Int.add_le_add_left (Int.neg_le_neg hle) _)
  have f2 := rr_mono c4 e4 c3 e3 (Int.add_le_add_left (Int.le_trans (Int.neg_nonpos_of_nonneg h0) h0) _)
  have f3 := rr_mono e4 b4 e3 b3 (Int.add_le_add_left hle _)
  rw [dn] at f1
  rw [up] at f3
  exact ⟨Nat.le_trans k1 hj, hj2, sz, d, by rw [Int.sub_eq_add_neg]; exact Int.le_antisymm (Int.le_trans f2 f3) f1, Int.le_antisymm f3 (Int.le_trans f1 f2)⟩
theorem AccP.flip {hi lo k : Nat} (h : AccP hi lo k) : AccP (flipS hi) (flipS lo) k := by
  obtain ⟨k1, k2, sz, d, dn, up⟩ := h
  obtain ⟨f1, f2, f3⟩ := flip_ux sz.fin.lt
  obtain ⟨g1, g2, g3⟩ := flip_ux d.lo.lt
  have hm : mgR k (-ux hi) = mgR k (ux hi) := by unfold mgR mgX; rw [Int.natAbs_neg]
  refine ⟨k1, k2, ⟨sz.fin.flipS, by rw [f3]; exact sz.least, by rw [f3]; exact sz.most⟩, d.neg, ?_, ?_⟩
  · rw [f1, g1, hm, show -ux lo - mgR k (ux hi) = -(ux lo + mgR k (ux hi)) by omega, rv_neg, show -ux hi + -rv (ux lo + mgR k (ux hi)) = -(ux hi + rv (ux lo + mgR k (ux hi))) by omega, rv_neg, up]
  · rw [f1, g1, hm, show -ux lo + mgR k (ux hi) = -(ux lo - mgR k (ux hi)) by omega, rv_neg, show -ux hi + -rv (ux lo - mgR k (ux hi)) = -(ux hi + rv (ux lo - mgR k (ux hi))) by omega, rv_neg, dn]
theorem rv_near {hi : Nat} (h : SzF hi) {t : Int} (ht : 36028797018963968 * t.natAbs < (ux hi).natAbs) : rv (ux hi + t) = ux hi := by
  obtain ⟨K, hK⟩ : ∃ K, K = 1974 := ⟨_, rfl⟩
  have h2 := h.le hK
  have h3 := max_k hK
  have hr := rv_rn (X := ux hi + t) (by omega)
  by_cases hne : rv (ux hi + t) = ux hi
  · exact hne
  · obtain ⟨q, g, q1, _, g1, g2, g3⟩ := sz_q h.least
    have ha := ux_abs hi
    rw [g3] at ha
    have h4 := hr.2 _ h.fin.fl
    have hp : 2 ^ q = 2 * 2 ^ (q - 1) := by rw [← p2succ]; congr 1; omega
    have h5 := fl_gap (q := q - 1) hr.1 h.fin.fl (by
      rw [ha, Nat.pow_add, hp, show 2 ^ 53 = 2 * 4503599627370496 by decide, Nat.mul_comm 2 4503599627370496, Nat.mul_assoc]
      exact Nat.mul_le_mul_right _ g1) hne
    have h6 : (ux hi).natAbs < 9007199254740992 * 2 ^ q := by rw [ha]; exact Nat.mul_lt_mul_of_pos_right g2 (p2pos q)
    omega
theorem acc_float {hi lo k : Nat} (hk1 : 56 ≤ k) (hk : k ≤ 100) (h : SzF hi) (hl : Fin64 lo) (h0 : ux lo = 0) : AccP hi lo k := by
  obtain ⟨K, hK⟩ : ∃ K, K = 1974 := ⟨_, rfl⟩
  have h2 := h.le hK
  have hmx := max_k hK
  obtain ⟨m1, m2, m3, m4⟩ := mg_facts hK hk1 hk h
  have hx := mgX_exact hk h
  have h4 : mgX k (ux hi) * 144115188075855872 ≤ 3 * (ux hi).natAbs := by
    rw [← hx, show 144115188075855872 = 2 ^ 57 by decide]
    exact Nat.mul_le_mul_left _ (p2le (by omega))
  have h5 := m4.little (by decide)
  rw [show 2 ^ 53 = 9007199254740992 by decide] at h5
  have hf := m4.1
  have hpos : 0 < (ux hi).natAbs := by
    obtain ⟨q, g, q1, _, g1, g2, g3⟩ := sz_q h.least
    rw [ux_abs, g3]
    exact Nat.mul_pos (by omega) (p2pos q)
  have hm : 36028797018963968 * (mgR k (ux hi)).natAbs < (ux hi).natAbs := by
    clear h2 hmx m2 m3 m4 hx hf h0
    omega
  have e1 : rv (ux hi + 0) = ux hi := rv_near h (by simpa using hpos)
  have e2 : rv (ux hi + mgR k (ux hi)) = ux hi := rv_near h hm
  have e3 : rv (ux hi + -mgR k (ux hi)) = ux hi := rv_near h (by rw [Int.natAbs_neg]; exact hm)
  have e4 : (ux hi).natAbs ≤ MaxU := by omega
  have e5 : (mgR k (ux hi)).natAbs ≤ MaxU := by omega
  refine ⟨hk1, hk, h, ⟨h.fin, hl, ?_, ?_⟩, ?_, ?_⟩
  · rw [h0, Int.add_zero]; exact rg_fin e4
  · rw [h0]; exact e1
  · rw [h0, Int.zero_sub, rv_fl (by rw [Int.natAbs_neg]; exact e5) hf.neg]; exact e3
  · rw [h0, Int.zero_add, rv_fl e5 hf]; exact e2
def LD (k : Nat) : Nat := 4609434218613702656 - k * 4503599627370496
theorem ld_mul : ∀ j, j < 45 → floatBits .mul .f64 4607182418800017408 (LD (56 + j)) = some (LD (56 + j)) := by decide +kernel
theorem ld_or : ∀ j, j < 45 → bits BinOp.or IntKind.u64 2251799813685248 (((967 - j) * 4503599627370496 : Nat) : Int) = ((LD (56 + j) : Nat) : Int) := by decide +kernel
theorem isinf_h (w : World) : Calls Try.prog 61 #[Fv 4609434218613702656, .int .i64 0] w fun en w' => en = .returned (.bool false) ∧ w' = w := isinf 4609434218613702656 (by decide) w
theorem isnan_h (w : World) : Calls Try.prog 62 #[Fv 4609434218613702656] w fun en w' => en = .returned (.bool false) ∧ w' = w := isnan 4609434218613702656 (by decide) w
theorem norm_h (w : World) : Calls Try.prog 63 #[Fv 4609434218613702656] w fun en w' => en = .returned (.tuple #[Fv 4609434218613702656, .int .i64 0]) ∧ w' = w := by
  have or6 : FloatKind.f64.format.order 4609434218613702656 4503599627370496 = some Ordering.gt := by decide +kernel
  go_enter Try.func63, Try.ntmps63
  go_wp2_with fail
  refine (mabs 4609434218613702656 (by decide) _).mono ?_
  rintro e v9 ⟨rfl, hw⟩
  obtain rfl := hw.symm
  clear hw
  go_wp2_with fail
  go_ret2
  exact ⟨by kernel_rfl, rfl⟩
theorem ldexp_h (j P : Nat) (e : Int) (hj : j < 45) (he : e = -56 - (j : Int)) (hP : P = 967 - j) (w : World) : Calls Try.prog 52 #[Fv 4609434218613702656, .int .i64 e] w fun en w' => en = .returned (Fv (LD (56 + j))) ∧ w' = w := by
  have or7 : FloatKind.f64.format.order 4609434218613702656 0 = some Ordering.gt := by decide +kernel
  have bo8 : ∀ w, (callFunc 33 #[Fv 4609434218613702656]).run Try.prog w = .ok (.value (.int .u64 4609434218613702656)) w := fun w => bitsOf 4609434218613702656 w
  have fl10 : ∀ w, (binOp .mul 37 (Fv 4607182418800017408) (Fv (LD (56 + j)))).run Try.prog w = .ok (Fv (LD (56 + j))) w := fun w => run_float_arith w .mul 37 .f64 4607182418800017408 (LD (56 + j)) (LD (56 + j)) (ld_mul j hj)
  have br20 := ld_or j hj
  rw [← hP] at br20
  have wr14 : IntKind.u64.wrap ((P : Int) * 4503599627370496) = ((P * 4503599627370496 : Nat) : Int) := by rw [IntKind.wrap_u64]; omega
  generalize ((P * 4503599627370496 : Nat) : Int) = PP at br20 wr14
  have fb9 : ∀ w, (callFunc 15 #[.int .u64 ((LD (56 + j) : Nat) : Int)]).run Try.prog w = .ok (.value (Fv (LD (56 + j)))) w := fun w => frombits (LD (56 + j)) w
  generalize LD (56 + j) = Q at *
  have wr11 : IntKind.i64.wrap e = e := by simp [IntKind.wrap, IntKind.signed, IntKind.bits]; omega
  have wr12 : IntKind.i64.wrap (e + 1023) = (P : Int) := by simp [IntKind.wrap, IntKind.signed, IntKind.bits]; omega
  have wr13 : IntKind.u64.wrap (P : Int) = (P : Int) := by rw [IntKind.wrap_u64]; omega
  have br17 : bits BinOp.and IntKind.i64 (1023) (2047) = 1023 := by kernel_rfl
  have br18 : bits BinOp.andNot IntKind.u64 (4609434218613702656) (9218868437227405312) = 2251799813685248 := by kernel_rfl
  have b1 : ¬ e < -1075 := by omega
  have b2 : ¬ 1023 < e := by omega
  have b3 : ¬ e < -1022 := by omega
  clear he hP hj
  go_enter Try.func52, Try.ntmps52
  go_wp2_with fail
  refine (isinf_h _).mono ?_
  rintro e9 v9 ⟨rfl, hw⟩
  obtain rfl := hw.symm
  clear hw
  go_wp2_with fail
  refine (isnan_h _).mono ?_
  rintro e9 v9 ⟨rfl, hw⟩
  obtain rfl := hw.symm
  clear hw
  go_wp2_with fail
  refine (norm_h _).mono ?_
  rintro e9 v9 ⟨rfl, hw⟩
  obtain rfl := hw.symm
  clear hw
  go_wp2_with fail
  go_ret
  exact ⟨by kernel_rfl, rfl⟩
theorem Ldexp_h (j : Nat) (e : Int) (hj : j < 45) (he : e = -56 - (j : Int)) (w : World) : Calls Try.prog 30 #[Fv 4609434218613702656, .int .i64 e] w fun en w' => en = .returned (Fv (LD (56 + j))) ∧ w' = w := by
  have HL := ldexp_h j (967 - j) e hj he rfl
  clear hj he
  go_enter Try.func30, Try.ntmps30
  go_wp2_with fail
  refine (HL _).mono ?_
  rintro e9 v9 ⟨rfl, hw⟩
  obtain rfl := hw.symm
  clear hw
  go_wp2_with fail
  go_ret
  exact ⟨by kernel_rfl, rfl⟩
theorem flr_of {op : BinOp} {x y r : Nat} (h : floatBits op .f64 x y = some r) : FlR op x y r := by
  refine ⟨?_, fun v hv => ?_, fun hv => ?_⟩
  · have := floatBits_wf h
    simp [Lit.wf] at this
    exact this
  · rw [h] at hv; exact Option.some.inj hv
  · rw [h] at hv; cases hv
theorem keeps_ok (x a : Nat) (hx : Fin64 x) (ha : Fin64 a) (w : World) : Calls Try.prog 32 #[Fv x, Fv a] w fun en w' => en = .returned (.bool (ddB x a)) ∧ w' = w := by
  obtain ⟨r, h1, _⟩ := fl_add_any hx ha
  have hfm := form_iff hx ha.lt (flr_of h1)
  obtain ⟨o, ho⟩ : ∃ o, FloatKind.f64.format.order r x = o := ⟨_, rfl⟩
  have hb : ddB x a = (o == some .eq) := by
    rw [Bool.eq_iff_iff, ddB_iff, ← hfm, beq_iff_eq, ← ho]; rfl
  rw [hb]
  have fl1 : ∀ w, (binOp .add 37 (Fv x) (Fv a)).run Try.prog w = .ok (Fv r) w := fun w => run_float_arith w .add 37 .f64 x a r h1
  clear hb hfm h1 hx ha
  go_enter Try.func32, Try.ntmps32
  rcases o with _ | _ | _ | _
  all_goals
    go_wp2_with fail
    go_ret
    exact ⟨by kernel_rfl, rfl⟩
def fit25 (hi lo : Nat) (e : Int) : Bool := decide (-100 ≤ e) && decide (e ≤ -56) && decide (553942754166571008 ≤ hi % 9223372036854775808) && decide (hi % 9223372036854775808 ≤ 8660422083433463808) && ddB hi lo
theorem ord_pos {s t : Nat} (hs : s < 9218868437227405312) (ht : t < 9218868437227405312) : FloatKind.f64.format.order s t = some (if s < t then .lt else if s = t then .eq else .gt) := by
  have e : FloatKind.f64.format.order s t = Ieee.double.order s t := rfl
  rw [e, order_fin ⟨by omega, by omega⟩ ⟨by omega, by omega⟩, ux_pos (by omega), ux_pos (by omega), ordI]
  rcases Nat.lt_trichotomy s t with h | h | h
  · have := vs_mono (H := 4503599627370496) (by decide) h
    rw [if_pos (by omega), if_pos h]
  · subst h
    rw [if_neg (by omega), if_pos rfl, if_neg (by omega), if_pos rfl]
  · have := vs_mono (H := 4503599627370496) (by decide) h
    rw [if_neg (by omega), if_neg (by omega), if_neg (by omega), if_neg (by omega)]
theorem ord_fit (s : Nat) (hs : s < 9223372036854775808) : ∃ o1 o2, FloatKind.f64.format.order s 553942754166571008 = o1 ∧ FloatKind.f64.format.order s 8660422083433463808 = o2 ∧
    (((o1 = some .gt ∨ o1 = some .eq) ∧ (o2 = some .lt ∨ o2 = some .eq) ∧ 553942754166571008 ≤ s ∧ s ≤ 8660422083433463808) ∨
     ((o1 = some .gt ∨ o1 = some .eq) ∧ (o2 = some .gt) ∧ ¬ s ≤ 8660422083433463808) ∨
     ((o1 = some .lt) ∧ ¬ 553942754166571008 ≤ s) ∨ (o1 = none ∧ ¬ s ≤ 8660422083433463808)) := by
  rcases Nat.lt_trichotomy s 9218868437227405312 with h | h | h
  · refine ⟨_, _, ord_pos h (by decide), ord_pos h (by decide), ?_⟩
    rcases Nat.lt_trichotomy s 553942754166571008 with h1 | h1 | h1
    · exact .inr (.inr (.inl ⟨by rw [if_pos h1], by omega⟩))
    · subst h1; exact .inl ⟨.inr (by decide), .inl (by decide), by decide, by decide⟩
    · rcases Nat.lt_trichotomy s 8660422083433463808 with h2 | h2 | h2
      · exact .inl ⟨.inl (by rw [if_neg (by omega), if_neg (by omega)]), .inl (by rw [if_pos h2]), by omega, by omega⟩
      · subst h2; exact .inl ⟨.inl (by decide), .inr (by decide), by decide, by decide⟩
      · exact .inr (.inl ⟨.inl (by rw [if_neg (by omega), if_neg (by omega)]), by rw [if_neg (by omega), if_neg (by omega)], by omega⟩)
  · subst h
    exact ⟨some .gt, some .gt, by decide +kernel, by decide +kernel, .inr (.inl ⟨.inl rfl, rfl, by decide⟩)⟩
  · refine ⟨none, none, order_nan (.inl ?_), order_nan (.inl ?_), .inr (.inr (.inr ⟨rfl, by omega⟩))⟩
    · unfold NanP; omega
    · unfold NanP; omega
theorem fit_ok (hi lo : Nat) (hh : hi < 18446744073709551616) (hl : lo < 18446744073709551616) (e : Int) (w : World) : Calls Try.prog 29 #[.agg #[Fv hi, Fv lo], .int .i64 e] w fun en w' => en = .returned (.bool (fit25 hi lo e)) ∧ Below w.heap.size w w' := by
  have hSF : ∀ (w : World) (a : Addr) (b : Nat), (store a (Fv b)).run Try.prog w = stored Try.prog w a (Fv b) .plain := fun w a b => run_store _ w a (Fv b) _ rfl
  have HA := mabs hi hh
  have HF := ddform hi lo hh hl
  unfold fit25
  have hs : hi % 9223372036854775808 < 9223372036854775808 := by omega
  generalize hi % 9223372036854775808 = s at HA hs ⊢
  obtain ⟨o1, o2, ho1, ho2, hc⟩ := ord_fit s hs
  generalize ddB hi lo = D at HF ⊢
  clear hh hl hs
  by_cases c1 : -100 ≤ e
  · rw [decide_eq_true c1, Bool.true_and]
    by_cases c2 : e ≤ -56
    · rw [decide_eq_true c2, Bool.true_and]
      rcases hc with ⟨h1 | h1, h2 | h2, h3, h4⟩ | ⟨h1 | h1, h2, h4⟩ | ⟨h1, h3⟩ | ⟨h1, h4⟩
      iterate 4
        rw [decide_eq_true h3, decide_eq_true h4, Bool.true_and, Bool.true_and]
        subst h1 h2
        clear h3 h4
        go_enter Try.func29, Try.ntmps29
        go_wp2_with fail
        refine (HA _).mono ?_
        rintro e9 v9 ⟨rfl, hw⟩
        obtain rfl := hw.symm
        clear hw
        go_wp2_with fail
        refine (HF _).mono ?_
        rintro e9 v9 ⟨rfl, hw⟩
        go_wp2_with fail
        go_ret
        exact ⟨rfl, (bwAlloc w _).trans (hw.mono (bwAlloc w _).size)⟩
      iterate 2
        rw [decide_eq_false h4, Bool.and_false, Bool.false_and]
        subst h1 h2
        clear h4
        go_enter Try.func29, Try.ntmps29
        go_wp2_with fail
        refine (HA _).mono ?_
        rintro e9 v9 ⟨rfl, hw⟩
        obtain rfl := hw.symm
        clear hw
        go_wp2_with fail
        go_ret
        exact ⟨rfl, bwAlloc w _⟩
      · rw [decide_eq_false h3, Bool.false_and, Bool.false_and]
        subst h1
        clear h3
        go_enter Try.func29, Try.ntmps29
        go_wp2_with fail
        refine (HA _).mono ?_
        rintro e9 v9 ⟨rfl, hw⟩
        obtain rfl := hw.symm
        clear hw
        go_wp2_with fail
        go_ret
        exact ⟨rfl, bwAlloc w _⟩
      · rw [decide_eq_false h4, Bool.and_false, Bool.false_and]
        subst h1
        clear h4
        go_enter Try.func29, Try.ntmps29
        go_wp2_with fail
        refine (HA _).mono ?_
        rintro e9 v9 ⟨rfl, hw⟩
        obtain rfl := hw.symm
        clear hw
        go_wp2_with fail
        go_ret
        exact ⟨rfl, bwAlloc w _⟩
    · rw [decide_eq_false c2, Bool.false_and, Bool.false_and, Bool.false_and]
      clear hc
      go_enter Try.func29, Try.ntmps29
      go_wp2_with fail
      refine (HA _).mono ?_
      rintro e9 v9 ⟨rfl, hw⟩
      obtain rfl := hw.symm
      clear hw
      go_wp2_with fail
      go_ret
      exact ⟨rfl, bwAlloc w _⟩
  · rw [decide_eq_false c1, Bool.false_and, Bool.false_and, Bool.false_and, Bool.false_and]
    clear hc
    go_enter Try.func29, Try.ntmps29
    go_wp2_with fail
    refine (HA _).mono ?_
    rintro e9 v9 ⟨rfl, hw⟩
    obtain rfl := hw.symm
    clear hw
    go_wp2_with fail
    go_ret
    exact ⟨rfl, bwAlloc w _⟩
theorem ld_lt {k : Nat} (_h1 : 56 ≤ k) (_h2 : k ≤ 100) : LD k < 9218868437227405312 := by unfold LD; omega
theorem mg_run {hi k : Nat} (k1 : 56 ≤ k) (k2 : k ≤ 100) (sz : SzF hi) : ∃ M, floatBits .mul .f64 (LD k) (hi % 9223372036854775808) = some M ∧ Fin64 M ∧ ux M = mgR k (ux hi) := by
  have hL := ld_lt k1 k2
  have f1 : Fin64 (LD k) := ⟨by omega, by omega⟩
  have f2 : Fin64 (hi % 9223372036854775808) := ⟨by omega, by have := sz.most; omega⟩
  have h1 := fmul_any f1 f2
  obtain ⟨c, hc⟩ : ∃ c, c = 1074 := ⟨_, rfl⟩
  have hx := mgX_exact k2 sz
  have u1 : ux (LD k) = ((3 * 2 ^ (c - 1 - k) : Nat) : Int) := by
    rw [ux_pos (by omega)]
    have : LD k = (c - 52 - k) * 4503599627370496 + 6755399441055744 := by unfold LD; omega
    rw [this, vs_at _ _ (.inr (by decide)) (by decide), show 6755399441055744 = 3 * 2 ^ 51 by decide, Nat.mul_assoc, ← Nat.pow_add, show 51 + (c - 52 - k) = c - 1 - k by omega]
  have u2 : ux (hi % 9223372036854775808) = ((ux hi).natAbs : Int) := by
    rw [ux_pos (by omega), ux_abs]
  have hX : ux (LD k) * ux (hi % 9223372036854775808) = (mgX k (ux hi) : Int) * ((2 ^ c : Nat) : Int) := by
    rw [u1, u2, ← Int.natCast_mul, ← Int.natCast_mul]
    congr 1
    rw [Nat.mul_right_comm, ← hx, Nat.mul_assoc, ← Nat.pow_add]
    congr 2
    omega
  obtain ⟨K, hK⟩ : ∃ K, K = 1974 := ⟨_, rfl⟩
  have m3 := (mg_facts hK k1 k2 sz).2.2.1
  have hmx := max_k hK
  have hs := (flr_of h1).mul f1 f2 hc hX (by omega)
  exact ⟨_, h1, hs.fin, sm_rv hs⟩
def accB (hi lo : Nat) (e : Int) : Bool := fit25 hi lo e && (decide (rv (ux hi + rv (ux lo - mgR (-e).toNat (ux hi))) = ux hi) && decide (rv (ux hi + rv (ux lo + mgR (-e).toNat (ux hi))) = ux hi))
theorem fit25_iff {hi lo : Nat} {e : Int} : fit25 hi lo e = true ↔ ∃ k : Nat, e = -(k : Int) ∧ 56 ≤ k ∧ k ≤ 100 ∧ SzF hi ∧ DdF hi lo := by
  unfold fit25
  simp only [Bool.and_eq_true, decide_eq_true_iff, ddB_iff]
  constructor
  · rintro ⟨⟨⟨⟨h1, h2⟩, h3⟩, h4⟩, h5⟩
    exact ⟨(-e).toNat, by omega, by omega, by omega, ⟨h5.hi, h3, h4⟩, h5⟩
  · rintro ⟨k, rfl, h1, h2, h3, h4⟩
    exact ⟨⟨⟨⟨by omega, by omega⟩, h3.least⟩, h3.most⟩, h4⟩
theorem accB_iff {hi lo : Nat} {e : Int} : accB hi lo e = true ↔ ∃ k : Nat, e = -(k : Int) ∧ AccP hi lo k := by
  unfold accB
  rw [Bool.and_eq_true, Bool.and_eq_true, decide_eq_true_iff, decide_eq_true_iff, fit25_iff]
  constructor
  · rintro ⟨⟨k, rfl, h1, h2, h3, h4⟩, h5, h6⟩
    rw [show (-(-(k : Int))).toNat = k by omega] at h5 h6
    exact ⟨k, rfl, h1, h2, h3, h4, h5, h6⟩
  · rintro ⟨k, rfl, h⟩
    rw [show (-(-(k : Int))).toNat = k by omega]
    exact ⟨⟨k, rfl, h.k1, h.k2, h.sz, h.dd⟩, h.dn, h.up⟩
theorem acc_keep {hi lo k a : Nat} (k1 : 56 ≤ k) (k2 : k ≤ 100) (sz : SzF hi) (d : DdF hi lo) {t : Int} (ht : t.natAbs ≤ (mgR k (ux hi)).natAbs) (hs : Sm64 (ux lo + t) a) : ddB hi a = decide (rv (ux hi + rv (ux lo + t)) = ux hi) := by
  have h1 := sm_rv hs
  obtain ⟨_, _, c3, _⟩ := acc_bd rfl k1 k2 sz d ht
  rw [Bool.eq_iff_iff, ddB_iff, decide_eq_true_iff, ← h1]
  rw [← h1] at c3
  exact ⟨fun d => d.eq, fun h => ⟨sz.fin, hs.fin, rg_fin c3, h⟩⟩
end Go.Proofs.Ytoclnjbmhepcnaa
namespace Go.Proofs.Ytoclnjbmhepcnaa
open Go.RowKit Go.Shelf
set_option maxRecDepth 20000
set_option maxHeartbeats 0
theorem accept_n (hi lo : Nat) (hh : hi < 18446744073709551616) (hl : lo < 18446744073709551616) (e : Int) (w : World) (hf : fit25 hi lo e = false) :
    Calls Try.prog 14 #[.agg #[Fv hi, Fv lo], .int .i64 e] w fun en w' => en = .returned (.tuple #[.int .u64 0, .bool false]) ∧ Below w.heap.size w w' := by
  have hSF : ∀ (w : World) (a : Addr) (b : Nat), (store a (Fv b)).run Try.prog w = stored Try.prog w a (Fv b) .plain := fun w a b => run_store _ w a (Fv b) _ rfl
  have HF := fit_ok hi lo hh hl e
  rw [hf] at HF
  clear hf hh hl
  go_enter Try.func14, Try.ntmps14
  go_wp2_with fail
  obtain ⟨W0, hW0⟩ : ∃ W0, W0 = (w.alloc (.cells #[Fv hi, Fv lo] 40)) := ⟨_, rfl⟩
  have Xv : Hid (Box W0 (w.heap.size) (Fv hi) (Fv lo)) := by rw [hW0]; exact ⟨by go_simp, by go_simp, by go_simp, by go_simp⟩
  have hb0 : Below w.heap.size w W0 := by rw [hW0]; exact below1 w _
  rw [← hW0]
  clear hW0
  have hbw : Below w.heap.size w w := Below.refl _ _
  obtain ⟨gv, hgv⟩ : ∃ g, g = w.heap.size := ⟨_, rfl⟩
  have HGv : Hid (w.heap.size ≤ gv) := by rw [hgv]; show _ ≤ _; omega
  rw [← hgv] at Xv
  try rw [← hgv]
  clear hgv
  replace hbw := Below.on hbw hb0
  clear hb0
  refine (HF _).mono ?_
  rintro e v1 ⟨rfl, hb1⟩
  replace Xv : Hid _ := Xv.out.below hb1
  replace hbw := Below.on hbw hb1
  clear hb1
  obtain ⟨cv0, cv1, fv0, fv1⟩ := Xv.out
  have hnev := Xv.out.lt
  go_wp2_with fail
  clear cv0 cv1 fv0 fv1 hnev
  go_ret2
  exact ⟨rfl, hbw⟩
theorem accept_d (hi lo k M a : Nat) (e : Int) (w : World) (HF : ∀ w, Calls Try.prog 29 #[.agg #[Fv hi, Fv lo], .int .i64 e] w fun en w' => en = .returned (.bool true) ∧ Below w.heap.size w w') (HL : ∀ w, Calls Try.prog 30 #[Fv 4609434218613702656, .int .i64 e] w fun en w' => en = .returned (Fv k) ∧ w' = w) (hs : Nat) (HB : ∀ w, Calls Try.prog 31 #[Fv hi] w fun en w' => en = .returned (Fv hs) ∧ w' = w) (H1 : ∀ w, Calls Try.prog 32 #[Fv hi, Fv a] w fun en w' => en = .returned (.bool false) ∧ w' = w) (f1 : ∀ w, (binOp .mul 37 (Fv k) (Fv hs)).run Try.prog w = .ok (Fv M) w) (f2 : ∀ w, (binOp .sub 37 (Fv lo) (Fv M)).run Try.prog w = .ok (Fv a) w) :
    Calls Try.prog 14 #[.agg #[Fv hi, Fv lo], .int .i64 e] w fun en w' => en = .returned (.tuple #[.int .u64 0, .bool false]) ∧ Below w.heap.size w w' := by
  have hSF : ∀ (w : World) (a : Addr) (b : Nat), (store a (Fv b)).run Try.prog w = stored Try.prog w a (Fv b) .plain := fun w a b => run_store _ w a (Fv b) _ rfl
  have bo8 : ∀ w, (callFunc 33 #[Fv hi]).run Try.prog w = .ok (.value (.int .u64 (hi : Int))) w := fun w => bitsOf hi w
  go_enter Try.func14, Try.ntmps14
  go_wp2_with fail
  obtain ⟨W0, hW0⟩ : ∃ W0, W0 = (w.alloc (.cells #[Fv hi, Fv lo] 40)) := ⟨_, rfl⟩
  have Xv : Hid (Box W0 (w.heap.size) (Fv hi) (Fv lo)) := by rw [hW0]; exact ⟨by go_simp, by go_simp, by go_simp, by go_simp⟩
  have hb0 : Below w.heap.size w W0 := by rw [hW0]; exact below1 w _
  rw [← hW0]
  clear hW0
  have hbw : Below w.heap.size w w := Below.refl _ _
  obtain ⟨gv, hgv⟩ : ∃ g, g = w.heap.size := ⟨_, rfl⟩
  have HGv : Hid (w.heap.size ≤ gv) := by rw [hgv]; show _ ≤ _; omega
  rw [← hgv] at Xv
  try rw [← hgv]
  clear hgv
  replace hbw := Below.on hbw hb0
  clear hb0
  refine (HF _).mono ?_
  rintro e v1 ⟨rfl, hb1⟩
  replace Xv : Hid _ := Xv.out.below hb1
  replace hbw := Below.on hbw hb1
  clear hb1
  obtain ⟨cv0, cv1, fv0, fv1⟩ := Xv.out
  have hnev := Xv.out.lt
  go_wp2_with fail
  clear cv0 cv1 fv0 fv1 hnev
  obtain ⟨W2, hW2⟩ : ∃ W1, W1 = v1.drew := ⟨_, rfl⟩
  have hbd : Below v1.heap.size v1 W2 := by rw [hW2]; exact bDrew1 (Below.refl _ _)
  replace Xv : Hid _ := Xv.out.below hbd
  replace hbw := Below.on hbw hbd
  clear hbd
  have HJ : Hid ((fun W' : World => W'.cell? ⟨gv, 0, none⟩ = some (Fv hi)) W2) := Xv.out.c0
  refine wp_region_J (fun W' => W'.cell? ⟨gv, 0, none⟩ = some (Fv hi)) (by kernel_rfl) ?_
  rw [← hW2]
  clear hW2
  refine wpJ_tk 0 (v := ?v1x0) rfl ?hy1x0 HJ.out ?_
  case hy1x0 => (intro W' hJ; have j0 := hJ; go_simp; first | done | with_reducible rfl)
  refine wpJ_tk 2 (v := ?v2x2) rfl ?hy2x2 HJ.out ?_
  case hy2x2 => (intro W' hJ; have j0 := hJ; go_simp; first | done | with_reducible rfl)
  refine wpJ_tk 3 (v := ?v3x3) rfl ?hy3x3 HJ.out ?_
  case hy3x3 => (intro W' hJ; have j0 := hJ; go_simp; first | done | with_reducible rfl)
  refine wpJ_on 1 rfl fun KJ hK => ?_
  go_simp
  refine (HL _).mono ?_
  rintro e9 v7 ⟨rfl, hw⟩
  obtain rfl := hw.symm
  clear hw
  refine hK _ _ Xv.out.c0 ?_
  clear hK
  refine wpJ_on 4 rfl fun KJ hK => ?_
  go_simp
  refine (HB _).mono ?_
  rintro e9 v7 ⟨rfl, hw⟩
  obtain rfl := hw.symm
  clear hw
  clear HJ
  have HJ : Hid ((fun W' : World => W'.cell? ⟨gv, 0, none⟩ = some (Fv hi)) W2) := Xv.out.c0
  refine hK _ _ HJ.out ?_
  clear hK
  refine wpJ_tk 5 (v := ?v4x5) rfl ?hy4x5 HJ.out ?_
  case hy4x5 => (intro W' hJ; have j0 := hJ; go_simp; first | done | with_reducible rfl)
  refine wpJ_tk 6 (v := ?v5x6) rfl ?hy5x6 HJ.out ?_
  case hy5x6 => (intro W' hJ; have j0 := hJ; go_simp; first | done | with_reducible rfl)
  refine wpJ_done (by kernel_rfl) ?_ _
  clear HJ
  obtain ⟨cv0, cv1, fv0, fv1⟩ := Xv.out
  have hnev := Xv.out.lt
  go_wp2_with fail
  clear cv0 cv1 fv0 fv1 hnev
  refine (H1 _).mono ?_
  rintro e9 v7 ⟨rfl, hw⟩
  obtain rfl := hw.symm
  clear hw
  obtain ⟨cv0, cv1, fv0, fv1⟩ := Xv.out
  have hnev := Xv.out.lt
  go_wp2_with fail
  clear cv0 cv1 fv0 fv1 hnev
  go_ret2
  exact ⟨rfl, hbw⟩
theorem accept_u (hi lo k M a b : Nat) (e : Int) (w : World) (HF : ∀ w, Calls Try.prog 29 #[.agg #[Fv hi, Fv lo], .int .i64 e] w fun en w' => en = .returned (.bool true) ∧ Below w.heap.size w w') (HL : ∀ w, Calls Try.prog 30 #[Fv 4609434218613702656, .int .i64 e] w fun en w' => en = .returned (Fv k) ∧ w' = w) (hs : Nat) (HB : ∀ w, Calls Try.prog 31 #[Fv hi] w fun en w' => en = .returned (Fv hs) ∧ w' = w) (H1 : ∀ w, Calls Try.prog 32 #[Fv hi, Fv a] w fun en w' => en = .returned (.bool true) ∧ w' = w) (H2 : ∀ w, Calls Try.prog 32 #[Fv hi, Fv b] w fun en w' => en = .returned (.bool false) ∧ w' = w) (f1 : ∀ w, (binOp .mul 37 (Fv k) (Fv hs)).run Try.prog w = .ok (Fv M) w) (f2 : ∀ w, (binOp .sub 37 (Fv lo) (Fv M)).run Try.prog w = .ok (Fv a) w) (f3 : ∀ w, (binOp .add 37 (Fv lo) (Fv M)).run Try.prog w = .ok (Fv b) w) :
    Calls Try.prog 14 #[.agg #[Fv hi, Fv lo], .int .i64 e] w fun en w' => en = .returned (.tuple #[.int .u64 0, .bool false]) ∧ Below w.heap.size w w' := by
  have hSF : ∀ (w : World) (a : Addr) (b : Nat), (store a (Fv b)).run Try.prog w = stored Try.prog w a (Fv b) .plain := fun w a b => run_store _ w a (Fv b) _ rfl
  have bo8 : ∀ w, (callFunc 33 #[Fv hi]).run Try.prog w = .ok (.value (.int .u64 (hi : Int))) w := fun w => bitsOf hi w
  go_enter Try.func14, Try.ntmps14
  go_wp2_with fail
  obtain ⟨W0, hW0⟩ : ∃ W0, W0 = (w.alloc (.cells #[Fv hi, Fv lo] 40)) := ⟨_, rfl⟩
  have Xv : Hid (Box W0 (w.heap.size) (Fv hi) (Fv lo)) := by rw [hW0]; exact ⟨by go_simp, by go_simp, by go_simp, by go_simp⟩
  have hb0 : Below w.heap.size w W0 := by rw [hW0]; exact below1 w _
  rw [← hW0]
  clear hW0
  have hbw : Below w.heap.size w w := Below.refl _ _
  obtain ⟨gv, hgv⟩ : ∃ g, g = w.heap.size := ⟨_, rfl⟩
  have HGv : Hid (w.heap.size ≤ gv) := by rw [hgv]; show _ ≤ _; omega
  rw [← hgv] at Xv
  try rw [← hgv]
  clear hgv
  replace hbw := Below.on hbw hb0
  clear hb0
  refine (HF _).mono ?_
  rintro e v1 ⟨rfl, hb1⟩
  replace Xv : Hid _ := Xv.out.below hb1
  replace hbw := Below.on hbw hb1
  clear hb1
  obtain ⟨cv0, cv1, fv0, fv1⟩ := Xv.out
  have hnev := Xv.out.lt
  go_wp2_with fail
  clear cv0 cv1 fv0 fv1 hnev
  obtain ⟨W2, hW2⟩ : ∃ W1, W1 = v1.drew := ⟨_, rfl⟩
  have hbd : Below v1.heap.size v1 W2 := by rw [hW2]; exact bDrew1 (Below.refl _ _)
  replace Xv : Hid _ := Xv.out.below hbd
  replace hbw := Below.on hbw hbd
  clear hbd
  have HJ : Hid ((fun W' : World => W'.cell? ⟨gv, 0, none⟩ = some (Fv hi)) W2) := Xv.out.c0
  refine wp_region_J (fun W' => W'.cell? ⟨gv, 0, none⟩ = some (Fv hi)) (by kernel_rfl) ?_
  rw [← hW2]
  clear hW2
  refine wpJ_tk 0 (v := ?v6x0) rfl ?hy6x0 HJ.out ?_
  case hy6x0 => (intro W' hJ; have j0 := hJ; go_simp; first | done | with_reducible rfl)
  refine wpJ_tk 2 (v := ?v7x2) rfl ?hy7x2 HJ.out ?_
  case hy7x2 => (intro W' hJ; have j0 := hJ; go_simp; first | done | with_reducible rfl)
  refine wpJ_tk 3 (v := ?v8x3) rfl ?hy8x3 HJ.out ?_
  case hy8x3 => (intro W' hJ; have j0 := hJ; go_simp; first | done | with_reducible rfl)
  refine wpJ_on 1 rfl fun KJ hK => ?_
  go_simp
  refine (HL _).mono ?_
  rintro e9 v7 ⟨rfl, hw⟩
  obtain rfl := hw.symm
  clear hw
  refine hK _ _ Xv.out.c0 ?_
  clear hK
  refine wpJ_on 4 rfl fun KJ hK => ?_
  go_simp
  refine (HB _).mono ?_
  rintro e9 v7 ⟨rfl, hw⟩
  obtain rfl := hw.symm
  clear hw
  clear HJ
  have HJ : Hid ((fun W' : World => W'.cell? ⟨gv, 0, none⟩ = some (Fv hi)) W2) := Xv.out.c0
  refine hK _ _ HJ.out ?_
  clear hK
  refine wpJ_tk 5 (v := ?v9x5) rfl ?hy9x5 HJ.out ?_
  case hy9x5 => (intro W' hJ; have j0 := hJ; go_simp; first | done | with_reducible rfl)
  refine wpJ_tk 6 (v := ?v10x6) rfl ?hy10x6 HJ.out ?_
  case hy10x6 => (intro W' hJ; have j0 := hJ; go_simp; first | done | with_reducible rfl)
  refine wpJ_done (by kernel_rfl) ?_ _
  clear HJ
  obtain ⟨cv0, cv1, fv0, fv1⟩ := Xv.out
  have hnev := Xv.out.lt
  go_wp2_with fail
  clear cv0 cv1 fv0 fv1 hnev
  refine (H1 _).mono ?_
  rintro e9 v7 ⟨rfl, hw⟩
  obtain rfl := hw.symm
  clear hw
  obtain ⟨cv0, cv1, fv0, fv1⟩ := Xv.out
  have hnev := Xv.out.lt
  go_wp2_with fail
  clear cv0 cv1 fv0 fv1 hnev
  refine (H2 _).mono ?_
  rintro e9 v7 ⟨rfl, hw⟩
  obtain rfl := hw.symm
  clear hw
  obtain ⟨cv0, cv1, fv0, fv1⟩ := Xv.out
  have hnev := Xv.out.lt
  go_wp2_with fail
  clear cv0 cv1 fv0 fv1 hnev
  go_ret2
  exact ⟨rfl, hbw⟩
theorem accept_y (hi lo k M a b : Nat) (e : Int) (w : World) (HF : ∀ w, Calls Try.prog 29 #[.agg #[Fv hi, Fv lo], .int .i64 e] w fun en w' => en = .returned (.bool true) ∧ Below w.heap.size w w') (HL : ∀ w, Calls Try.prog 30 #[Fv 4609434218613702656, .int .i64 e] w fun en w' => en = .returned (Fv k) ∧ w' = w) (hs : Nat) (HB : ∀ w, Calls Try.prog 31 #[Fv hi] w fun en w' => en = .returned (Fv hs) ∧ w' = w) (H1 : ∀ w, Calls Try.prog 32 #[Fv hi, Fv a] w fun en w' => en = .returned (.bool true) ∧ w' = w) (H2 : ∀ w, Calls Try.prog 32 #[Fv hi, Fv b] w fun en w' => en = .returned (.bool true) ∧ w' = w) (f1 : ∀ w, (binOp .mul 37 (Fv k) (Fv hs)).run Try.prog w = .ok (Fv M) w) (f2 : ∀ w, (binOp .sub 37 (Fv lo) (Fv M)).run Try.prog w = .ok (Fv a) w) (f3 : ∀ w, (binOp .add 37 (Fv lo) (Fv M)).run Try.prog w = .ok (Fv b) w) :
    Calls Try.prog 14 #[.agg #[Fv hi, Fv lo], .int .i64 e] w fun en w' => en = .returned (.tuple #[.int .u64 (hi : Int), .bool true]) ∧ Below w.heap.size w w' := by
  have hSF : ∀ (w : World) (a : Addr) (b : Nat), (store a (Fv b)).run Try.prog w = stored Try.prog w a (Fv b) .plain := fun w a b => run_store _ w a (Fv b) _ rfl
  have bo8 : ∀ w, (callFunc 33 #[Fv hi]).run Try.prog w = .ok (.value (.int .u64 (hi : Int))) w := fun w => bitsOf hi w
  go_enter Try.func14, Try.ntmps14
  go_wp2_with fail
  obtain ⟨W0, hW0⟩ : ∃ W0, W0 = (w.alloc (.cells #[Fv hi, Fv lo] 40)) := ⟨_, rfl⟩
  have Xv : Hid (Box W0 (w.heap.size) (Fv hi) (Fv lo)) := by rw [hW0]; exact ⟨by go_simp, by go_simp, by go_simp, by go_simp⟩
  have hb0 : Below w.heap.size w W0 := by rw [hW0]; exact below1 w _
  rw [← hW0]
  clear hW0
  have hbw : Below w.heap.size w w := Below.refl _ _
  obtain ⟨gv, hgv⟩ : ∃ g, g = w.heap.size := ⟨_, rfl⟩
  have HGv : Hid (w.heap.size ≤ gv) := by rw [hgv]; show _ ≤ _; omega
  rw [← hgv] at Xv
  try rw [← hgv]
  clear hgv
  replace hbw := Below.on hbw hb0
  clear hb0
  refine (HF _).mono ?_
  rintro e v1 ⟨rfl, hb1⟩
  replace Xv : Hid _ := Xv.out.below hb1
  replace hbw := Below.on hbw hb1
  clear hb1
  obtain ⟨cv0, cv1, fv0, fv1⟩ := Xv.out
  have hnev := Xv.out.lt
  go_wp2_with fail
  clear cv0 cv1 fv0 fv1 hnev
  obtain ⟨W2, hW2⟩ : ∃ W1, W1 = v1.drew := ⟨_, rfl⟩
  have hbd : Below v1.heap.size v1 W2 := by rw [hW2]; exact bDrew1 (Below.refl _ _)
  replace Xv : Hid _ := Xv.out.below hbd
  replace hbw := Below.on hbw hbd
  clear hbd
  have HJ : Hid ((fun W' : World => W'.cell? ⟨gv, 0, none⟩ = some (Fv hi)) W2) := Xv.out.c0
  refine wp_region_J (fun W' => W'.cell? ⟨gv, 0, none⟩ = some (Fv hi)) (by kernel_rfl) ?_
  rw [← hW2]
  clear hW2
  refine wpJ_tk 0 (v := ?v11x0) rfl ?hy11x0 HJ.out ?_
  case hy11x0 => (intro W' hJ; have j0 := hJ; go_simp; first | done | with_reducible rfl)
  refine wpJ_tk 2 (v := ?v12x2) rfl ?hy12x2 HJ.out ?_
  case hy12x2 => (intro W' hJ; have j0 := hJ; go_simp; first | done | with_reducible rfl)
  refine wpJ_tk 3 (v := ?v13x3) rfl ?hy13x3 HJ.out ?_
  case hy13x3 => (intro W' hJ; have j0 := hJ; go_simp; first | done | with_reducible rfl)
  refine wpJ_on 1 rfl fun KJ hK => ?_
  go_simp
  refine (HL _).mono ?_
  rintro e9 v7 ⟨rfl, hw⟩
  obtain rfl := hw.symm
  clear hw
  refine hK _ _ Xv.out.c0 ?_
  clear hK
  refine wpJ_on 4 rfl fun KJ hK => ?_
  go_simp
  refine (HB _).mono ?_
  rintro e9 v7 ⟨rfl, hw⟩
  obtain rfl := hw.symm
  clear hw
  clear HJ
  have HJ : Hid ((fun W' : World => W'.cell? ⟨gv, 0, none⟩ = some (Fv hi)) W2) := Xv.out.c0
  refine hK _ _ HJ.out ?_
  clear hK
  refine wpJ_tk 5 (v := ?v14x5) rfl ?hy14x5 HJ.out ?_
  case hy14x5 => (intro W' hJ; have j0 := hJ; go_simp; first | done | with_reducible rfl)
  refine wpJ_tk 6 (v := ?v15x6) rfl ?hy15x6 HJ.out ?_
  case hy15x6 => (intro W' hJ; have j0 := hJ; go_simp; first | done | with_reducible rfl)
  refine wpJ_done (by kernel_rfl) ?_ _
  clear HJ
  obtain ⟨cv0, cv1, fv0, fv1⟩ := Xv.out
  have hnev := Xv.out.lt
  go_wp2_with fail
  clear cv0 cv1 fv0 fv1 hnev
  refine (H1 _).mono ?_
  rintro e9 v7 ⟨rfl, hw⟩
  obtain rfl := hw.symm
  clear hw
  obtain ⟨cv0, cv1, fv0, fv1⟩ := Xv.out
  have hnev := Xv.out.lt
  go_wp2_with fail
  clear cv0 cv1 fv0 fv1 hnev
  refine (H2 _).mono ?_
  rintro e9 v7 ⟨rfl, hw⟩
  obtain rfl := hw.symm
  clear hw
  obtain ⟨cv0, cv1, fv0, fv1⟩ := Xv.out
  have hnev := Xv.out.lt
  go_wp2_with fail
  clear cv0 cv1 fv0 fv1 hnev
  go_ret2
  exact ⟨rfl, hbw⟩
end Go.Proofs.Ytoclnjbmhepcnaa
namespace Go.Proofs.Ytoclnjbmhepcnaa
open Go.RowKit
set_option maxRecDepth 20000
set_option maxHeartbeats 0
def xsS (S a : Nat) : Nat := if S ≤ a then a - S else a + S
theorem xor_nat (a k : Nat) (ha : a < 2 ^ (k + 1)) : a ^^^ 2 ^ k = xsS (2 ^ k) a := by
  unfold xsS
  have hp := Nat.two_pow_pos k
  have h1 : 2 ^ (k + 1) = 2 * 2 ^ k := by rw [Nat.pow_succ]; omega
  by_cases h : 2 ^ k ≤ a
  · rw [if_pos h]
    obtain ⟨c, rfl⟩ : ∃ c, a = 2 ^ k + c := ⟨a - 2 ^ k, by omega⟩
    have hc : c < 2 ^ k := by omega
    have h2 := Nat.two_pow_add_eq_or_of_lt (i := k) (b := c) hc 1
    rw [Nat.mul_one] at h2
    rw [show 2 ^ k + c - 2 ^ k = c from by omega, h2]
    refine Nat.eq_of_testBit_eq fun i => ?_
    rw [Nat.testBit_xor, Nat.testBit_or, Nat.testBit_two_pow]
    by_cases hi : k = i
    · subst hi
      rw [Nat.testBit_lt_two_pow hc]
      simp
    · simp [hi]
  · rw [if_neg h]
    have hc : a < 2 ^ k := by omega
    have h2 := Nat.two_pow_add_eq_or_of_lt (i := k) (b := a) hc 1
    rw [Nat.mul_one] at h2
    rw [show a + 2 ^ k = 2 ^ k + a from by omega, h2]
    refine Nat.eq_of_testBit_eq fun i => ?_
    rw [Nat.testBit_xor, Nat.testBit_or, Nat.testBit_two_pow]
    by_cases hi : k = i
    · subst hi
      rw [Nat.testBit_lt_two_pow hc]
      simp
    · simp [hi]
theorem sign_xor (b S k : Nat) (hS : S = 2 ^ k) (hk : k < 64) (hb : b < 2 * S) : bits BinOp.xor IntKind.u64 (b : Int) (S : Int) = ((xsS S b : Nat) : Int) := by
  have h1 : S ≤ 9223372036854775808 := by rw [hS]; exact Nat.le_trans (Nat.pow_le_pow_right (by decide) (by omega : k ≤ 63)) (by decide)
  have hb2 : b < 2 ^ (k + 1) := by rw [Nat.pow_succ, ← hS]; omega
  show IntKind.u64.wrap ((BitVec.ofInt 64 (b : Int) ^^^ BitVec.ofInt 64 (S : Int)).toNat : Int) = _
  rw [BitVec.ofInt_natCast, BitVec.ofInt_natCast, BitVec.toNat_xor, BitVec.toNat_ofNat, BitVec.toNat_ofNat, Nat.mod_eq_of_lt (by omega), Nat.mod_eq_of_lt (by omega), hS, xor_nat b k hb2, ← hS, IntKind.wrap_u64]
  unfold xsS
  split <;> omega
theorem xs_flip (b : Nat) : xsS 9223372036854775808 b = flipS b := rfl
theorem xor63 (b : Nat) (hb : b < 18446744073709551616) : bits BinOp.xor IntKind.u64 (b : Int) 9223372036854775808 = ((flipS b : Nat) : Int) := by
  have := sign_xor b 9223372036854775808 63 (by decide) (by decide) (by omega)
  rw [xs_flip] at this
  exact this
end Go.Proofs.Ytoclnjbmhepcnaa
namespace Go.Proofs.Ytoclnjbmhepcnaa
open Go.RowKit Go.Shelf
set_option maxRecDepth 20000
set_option maxHeartbeats 0
theorem accept_ok (hi lo : Nat) (hh : hi < 18446744073709551616) (hl : lo < 18446744073709551616) (e : Int) (w : World) : Calls Try.prog 14 #[.agg #[Fv hi, Fv lo], .int .i64 e] w fun en w' => en = .returned (.tuple #[.int .u64 ((if accB hi lo e then hi else 0 : Nat) : Int), .bool (accB hi lo e)]) ∧ Below w.heap.size w w' := by
  cases hf : fit25 hi lo e with
  | false =>
    have hA : accB hi lo e = false := by unfold accB; rw [hf, Bool.false_and]
    rw [hA]
    exact accept_n hi lo hh hl e w hf
  | true =>
    have HF := fit_ok hi lo hh hl e
    rw [hf] at HF
    obtain ⟨k, he, k1, k2, sz, d⟩ := fit25_iff.1 hf
    obtain ⟨M, hM, FM, uM⟩ := mg_run k1 k2 sz
    have t1 : (-mgR k (ux hi)).natAbs ≤ (mgR k (ux hi)).natAbs := by rw [Int.natAbs_neg]; exact Nat.le_refl _
    have a4 := (acc_bd rfl k1 k2 sz d t1).2.2.2
    have b4 := (acc_bd rfl k1 k2 sz d (Nat.le_refl (mgR k (ux hi)).natAbs)).2.2.2
    obtain ⟨a, ha, sa⟩ := fl_sub_fin d.lo FM (by rw [uM, Int.sub_eq_add_neg]; exact a4)
    obtain ⟨b, hb, sb⟩ := fl_add_fin d.lo FM (by rw [uM]; exact b4)
    rw [uM] at sa sb
    rw [Int.sub_eq_add_neg] at sa
    have ka := acc_keep k1 k2 sz d t1 sa
    have kb := acc_keep k1 k2 sz d (Nat.le_refl _) sb
    have hA : accB hi lo e = (ddB hi a && ddB hi b) := by
      unfold accB
      rw [hf, Bool.true_and, ka, kb, ← Int.sub_eq_add_neg, he, show (-(-(k : Int))).toNat = k by omega]
    rw [hA]
    have H1 := keeps_ok hi a sz.fin sa.fin
    have H2 := keeps_ok hi b sz.fin sb.fin
    have HL := Ldexp_h (k - 56) e (by omega) (by omega)
    rw [show 56 + (k - 56) = k by omega] at HL
    have HB := mabs hi hh
    have f1 : ∀ w, (binOp .mul 37 (Fv (LD k)) (Fv (hi % 9223372036854775808))).run Try.prog w = .ok (Fv M) w := fun w => run_float_arith w .mul 37 .f64 _ _ _ hM
    have f2 : ∀ w, (binOp .sub 37 (Fv lo) (Fv M)).run Try.prog w = .ok (Fv a) w := fun w => run_float_arith w .sub 37 .f64 _ _ _ ha
    have f3 : ∀ w, (binOp .add 37 (Fv lo) (Fv M)).run Try.prog w = .ok (Fv b) w := fun w => run_float_arith w .add 37 .f64 _ _ _ hb
    generalize ddB hi a = A at *
    generalize ddB hi b = B at *
    cases A
    · exact accept_d hi lo _ M a e w HF HL _ HB H1 f1 f2
    · cases B
      · exact accept_u hi lo _ M a b e w HF HL _ HB H1 H2 f1 f2 f3
      · exact accept_y hi lo _ M a b e w HF HL _ HB H1 H2 f1 f2 f3
def accN (hi lo : Nat) (e : Int) : Nat := if accB hi lo e then hi else 0
theorem ask_ok (hi lo : Nat) (hh : hi < 18446744073709551616) (hl : lo < 18446744073709551616) (e : Int) (w : World) : Calls Try.prog 10 #[U hi, U lo, .int .i64 e] w fun en w' => en = .returned (.tuple #[.int .u64 (accN hi lo e : Int), .bool (accB hi lo e)]) ∧ Below w.heap.size w w' := by
  have HA : ∀ w, Calls Try.prog 14 #[.agg #[Fv hi, Fv lo], .int .i64 e] w fun en w' => en = .returned (.tuple #[.int .u64 (accN hi lo e : Int), .bool (accB hi lo e)]) ∧ Below w.heap.size w w' := accept_ok hi lo hh hl e
  have h1 := fun w => frombits hi w
  have h2 := fun w => frombits lo w
  generalize accN hi lo e = R at *
  generalize accB hi lo e = B at *
  clear hh hl
  go_enter Try.func10, Try.ntmps10
  go_wp2_with fail
  refine (HA _).mono ?_
  rintro e9 v9 ⟨rfl, hw⟩
  go_wp2_with fail
  go_ret2
  exact ⟨rfl, hw⟩
theorem aw1 : accB 4607182418800017408 0 (-60) = true := by decide +kernel
theorem aw2 : accB 4607182418800017408 4368491638549381120 (-60) = false := by decide +kernel
theorem aw3 : accB 4607182418800017408 4354980839667269632 (-56) = true := by decide +kernel
theorem awake25 (w : World) : Calls Try.prog 9 #[] w fun en w' => en = .returned (.bool true) ∧ Below w.heap.size w w' := by
  have H1 := ask_ok 4607182418800017408 0 (by decide) (by decide) (-60)
  have H2 := ask_ok 4607182418800017408 4368491638549381120 (by decide) (by decide) (-60)
  have H3 := ask_ok 4607182418800017408 4354980839667269632 (by decide) (by decide) (-56)
  unfold accN at H1 H2 H3
  rw [aw1, if_pos rfl] at H1
  rw [aw2, if_neg (by decide)] at H2
  rw [aw3, if_pos rfl] at H3
  go_enter Try.func9, Try.ntmps9
  go_wp2_with fail
  refine (H1 _).mono ?_
  rintro e9 v1 ⟨rfl, hb1⟩
  go_wp2_with fail
  refine (H2 _).mono ?_
  rintro e9 v2 ⟨rfl, hb2⟩
  go_wp2_with fail
  refine (H3 _).mono ?_
  rintro e9 v3 ⟨rfl, hb3⟩
  go_wp2_with fail
  go_ret
  exact ⟨rfl, Below.on (Below.on hb1 hb2) hb3⟩
theorem ux_zero : ux 0 = 0 := by
  rw [ux_eq, if_neg (by decide)]
  simp [vs]
theorem acc_range {hi lo : Nat} {e : Int} (h : accB hi lo e = true) : -100 ≤ e ∧ e ≤ -56 := by
  obtain ⟨k, rfl, hk⟩ := accB_iff.1 h
  have := hk.k1
  have := hk.k2
  omega
theorem acc_less {hi lo : Nat} {e f : Int} (h : accB hi lo e = true) (h1 : f ≤ e) (h2 : -100 ≤ f) : accB hi lo f = true := by
  obtain ⟨k, rfl, hk⟩ := accB_iff.1 h
  exact accB_iff.2 ⟨(-f).toNat, by omega, hk.narrow (by omega) (by omega)⟩
theorem acc_mirror {hi lo : Nat} {e : Int} (h : accB hi lo e = true) : accB (flipS hi) (flipS lo) e = true := by
  obtain ⟨k, rfl, hk⟩ := accB_iff.1 h
  exact accB_iff.2 ⟨k, rfl, hk.flip⟩
theorem wr_sub {e l f : Int} (h1 : -100 ≤ e) (h2 : e ≤ -56) (h3 : 2 ≤ l) (h4 : l ≤ 100) (hf : f = e - l) : IntKind.i64.wrap (e - l) = f ∧ wrap64 (e - l) = f := by
  constructor
  · simp [IntKind.wrap, IntKind.signed, IntKind.bits]; omega
  · simp only [wrap64]; omega
theorem acceptNarrows_w (hi lo : Nat) (hh : hi < 18446744073709551616) (hl : lo < 18446744073709551616) (e less : Int) (w : World) : Calls Try.prog 3 #[U hi, U lo, .int .i64 e, .int .i64 less] w fun en w' => en = .returned (.bool true) ∧ Below w.heap.size w w' := by
  have H1 := ask_ok hi lo hh hl e
  cases hA : accB hi lo e with
  | false =>
    rw [hA] at H1
    generalize accN hi lo e = R at *
    clear hA hh hl
    go_enter Try.func3, Try.ntmps3
    go_wp2_with fail
    refine (awake25 _).mono ?_
    rintro e9 v1 ⟨rfl, hb1⟩
    go_wp2_with fail
    refine (H1 _).mono ?_
    rintro e9 v2 ⟨rfl, hb2⟩
    go_wp2_with fail
    go_ret
    exact ⟨rfl, Below.on hb1 hb2⟩
  | true =>
    have hR : accN hi lo e = hi := by unfold accN; rw [hA, if_pos rfl]
    rw [hA, hR] at H1
    obtain ⟨r1, r2⟩ := acc_range hA
    by_cases c1 : less < 2
    · clear hA hh hl hR r1 r2
      go_enter Try.func3, Try.ntmps3
      go_wp2_with fail
      refine (awake25 _).mono ?_
      rintro e9 v1 ⟨rfl, hb1⟩
      go_wp2_with fail
      refine (H1 _).mono ?_
      rintro e9 v2 ⟨rfl, hb2⟩
      go_wp2_with fail
      go_ret
      exact ⟨rfl, Below.on hb1 hb2⟩
    · by_cases c2 : 100 < less
      · clear hA hh hl hR r1 r2
        go_enter Try.func3, Try.ntmps3
        go_wp2_with fail
        refine (awake25 _).mono ?_
        rintro e9 v1 ⟨rfl, hb1⟩
        go_wp2_with fail
        refine (H1 _).mono ?_
        rintro e9 v2 ⟨rfl, hb2⟩
        go_wp2_with fail
        go_ret
        exact ⟨rfl, Below.on hb1 hb2⟩
      · obtain ⟨f, hf⟩ : ∃ f, f = e - less := ⟨_, rfl⟩
        obtain ⟨w1, w2⟩ := wr_sub r1 r2 (show 2 ≤ less by omega) (show less ≤ 100 by omega) hf
        by_cases c3 : f < -100
        · clear hA hh hl hR r1 r2 hf
          go_enter Try.func3, Try.ntmps3
          go_wp2_with fail
          refine (awake25 _).mono ?_
          rintro e9 v1 ⟨rfl, hb1⟩
          go_wp2_with fail
          refine (H1 _).mono ?_
          rintro e9 v2 ⟨rfl, hb2⟩
          go_wp2_with fail
          go_ret
          exact ⟨rfl, Below.on hb1 hb2⟩
        · have H2 := ask_ok hi lo hh hl f
          have hB := acc_less (f := f) hA (by omega) (by omega)
          have hS : accN hi lo f = hi := by unfold accN; rw [hB, if_pos rfl]
          rw [hB, hS] at H2
          clear hA hh hl hR r1 r2 hf hB hS
          go_enter Try.func3, Try.ntmps3
          go_wp2_with fail
          refine (awake25 _).mono ?_
          rintro e9 v1 ⟨rfl, hb1⟩
          go_wp2_with fail
          refine (H1 _).mono ?_
          rintro e9 v2 ⟨rfl, hb2⟩
          go_wp2_with fail
          refine (H2 _).mono ?_
          rintro e9 v3 ⟨rfl, hb3⟩
          go_wp2_with fail
          go_ret
          exact ⟨by simp, Below.on (Below.on hb1 hb2) hb3⟩
theorem acceptMirrors_w (hi lo : Nat) (hh : hi < 18446744073709551616) (hl : lo < 18446744073709551616) (e : Int) (w : World) : Calls Try.prog 5 #[U hi, U lo, .int .i64 e] w fun en w' => en = .returned (.bool true) ∧ Below w.heap.size w w' := by
  have H1 := ask_ok hi lo hh hl e
  cases hA : accB hi lo e with
  | false =>
    rw [hA] at H1
    generalize accN hi lo e = R at *
    clear hA hh hl
    go_enter Try.func5, Try.ntmps5
    go_wp2_with fail
    refine (awake25 _).mono ?_
    rintro e9 v1 ⟨rfl, hb1⟩
    go_wp2_with fail
    refine (H1 _).mono ?_
    rintro e9 v2 ⟨rfl, hb2⟩
    go_wp2_with fail
    go_ret
    exact ⟨rfl, Below.on hb1 hb2⟩
  | true =>
    have hR : accN hi lo e = hi := by unfold accN; rw [hA, if_pos rfl]
    rw [hA, hR] at H1
    obtain ⟨r1, r2⟩ := acc_range hA
    obtain ⟨f, hf⟩ : ∃ f, f = e - 2 := ⟨_, rfl⟩
    obtain ⟨w1, w2⟩ := wr_sub r1 r2 (show (2 : Int) ≤ 2 by omega) (by omega) hf
    by_cases c3 : f < -100
    · clear hA hh hl hR r1 r2 hf
      go_enter Try.func5, Try.ntmps5
      go_wp2_with fail
      refine (awake25 _).mono ?_
      rintro e9 v1 ⟨rfl, hb1⟩
      go_wp2_with fail
      refine (H1 _).mono ?_
      rintro e9 v2 ⟨rfl, hb2⟩
      go_wp2_with fail
      go_ret
      exact ⟨rfl, Below.on hb1 hb2⟩
    · have x1 := xor63 hi hh
      have x2 := xor63 lo hl
      have H2 := ask_ok (flipS hi) (flipS lo) (flip_ux hh).2.1 (flip_ux hl).2.1 f
      have hB := acc_mirror (acc_less (f := f) hA (by omega) (by omega))
      have hS : accN (flipS hi) (flipS lo) f = flipS hi := by unfold accN; rw [hB, if_pos rfl]
      rw [hB, hS] at H2
      clear hA hh hl hR r1 r2 hf hB hS
      generalize flipS hi = hj at *
      generalize flipS lo = lj at *
      go_enter Try.func5, Try.ntmps5
      go_wp2_with fail
      refine (awake25 _).mono ?_
      rintro e9 v1 ⟨rfl, hb1⟩
      go_wp2_with fail
      refine (H1 _).mono ?_
      rintro e9 v2 ⟨rfl, hb2⟩
      go_wp2_with fail
      refine (H2 _).mono ?_
      rintro e9 v3 ⟨rfl, hb3⟩
      go_wp2_with fail
      go_ret
      exact ⟨by simp, Below.on (Below.on hb1 hb2) hb3⟩
theorem acceptFloats_w (b : Nat) (hb : b < 18446744073709551616) (e : Int) (w : World) : Calls Try.prog 4 #[U b, .int .i64 e] w fun en w' => en = .returned (.bool true) ∧ Below w.heap.size w w' := by
  have H1 := ask_ok b 0 hb (by decide) e
  obtain ⟨s, hd⟩ : ∃ s : Int, (b : Int) % 9223372036854775808 = s := ⟨_, rfl⟩
  by_cases c1 : s < 553942754166571008
  · clear H1 hb
    go_enter Try.func4, Try.ntmps4
    go_wp2_with fail
    refine (awake25 _).mono ?_
    rintro e9 v1 ⟨rfl, hb1⟩
    go_wp2_with fail
    go_ret
    exact ⟨rfl, hb1⟩
  · by_cases c2 : 8660422083433463808 < s
    · clear H1 hb
      go_enter Try.func4, Try.ntmps4
      go_wp2_with fail
      refine (awake25 _).mono ?_
      rintro e9 v1 ⟨rfl, hb1⟩
      go_wp2_with fail
      go_ret
      exact ⟨rfl, hb1⟩
    · by_cases c3 : e < -100
      · clear H1 hb
        go_enter Try.func4, Try.ntmps4
        go_wp2_with fail
        refine (awake25 _).mono ?_
        rintro e9 v1 ⟨rfl, hb1⟩
        go_wp2_with fail
        go_ret
        exact ⟨rfl, hb1⟩
      · by_cases c4 : -56 < e
        · clear H1 hb
          go_enter Try.func4, Try.ntmps4
          go_wp2_with fail
          refine (awake25 _).mono ?_
          rintro e9 v1 ⟨rfl, hb1⟩
          go_wp2_with fail
          go_ret
          exact ⟨rfl, hb1⟩
        · have hB : accB b 0 e = true := accB_iff.2 ⟨(-e).toNat, by omega, acc_float (by omega) (by omega) ⟨⟨hb, by omega⟩, by omega, by omega⟩ ⟨by decide, by decide⟩ ux_zero⟩
          have hS : accN b 0 e = b := by unfold accN; rw [hB, if_pos rfl]
          rw [hB, hS] at H1
          clear hS hB hb
          go_enter Try.func4, Try.ntmps4
          go_wp2_with fail
          refine (awake25 _).mono ?_
          rintro e9 v1 ⟨rfl, hb1⟩
          go_wp2_with fail
          refine (H1 _).mono ?_
          rintro e9 v2 ⟨rfl, hb2⟩
          go_wp2_with fail
          go_ret
          exact ⟨by simp, Below.on hb1 hb2⟩
theorem acceptNarrows_walk (hi : Nat) (hh : hi < B64) (lo : Nat) (hl : lo < B64) (e : Int) (_ : -9223372036854775808 ≤ e) (_ : e ≤ 9223372036854775807) (less : Int) (_ : -9223372036854775808 ≤ less) (_ : less ≤ 9223372036854775807) {w : World} : Calls Try.prog 3 #[U hi, U lo, .int .i64 e, .int .i64 less] w fun en w' => en = .returned (.bool true) ∧ Below w.heap.size w w' := acceptNarrows_w hi lo (by rw [B64_eq] at hh; exact hh) (by rw [B64_eq] at hl; exact hl) e less w
theorem acceptMirrors_walk (hi : Nat) (hh : hi < B64) (lo : Nat) (hl : lo < B64) (e : Int) (_ : -9223372036854775808 ≤ e) (_ : e ≤ 9223372036854775807) {w : World} : Calls Try.prog 5 #[U hi, U lo, .int .i64 e] w fun en w' => en = .returned (.bool true) ∧ Below w.heap.size w w' := acceptMirrors_w hi lo (by rw [B64_eq] at hh; exact hh) (by rw [B64_eq] at hl; exact hl) e w
theorem acceptFloats_walk (b : Nat) (hb : b < B64) (e : Int) (_ : -9223372036854775808 ≤ e) (_ : e ≤ 9223372036854775807) {w : World} : Calls Try.prog 4 #[U b, .int .i64 e] w fun en w' => en = .returned (.bool true) ∧ Below w.heap.size w w' := acceptFloats_w b (by rw [B64_eq] at hb; exact hb) e w
end Go.Proofs.Ytoclnjbmhepcnaa
