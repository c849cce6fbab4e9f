import Derived.Test.YthjofcakkaolbaaJ7
import Derived.Test.YthjofcakkaolbaaJ8
namespace Go.Proofs.Ythjofcakkaolbaa
open Go.RowKit
set_option maxRecDepth 100000
set_option maxHeartbeats 0
theorem Rn.self {p : Nat} {x : Int} (h : Fl p x) : Rn p x x := ⟨h, fun z _ => by rw [Int.sub_self]; exact Nat.zero_le _⟩
theorem mul_dvd2 {L t : Nat} {s : Int} (h : ((2 ^ L : Nat) : Int) ∣ s) : ((2 ^ (L + t) : Nat) : Int) ∣ s * ((2 ^ t : Nat) : Int) := by
  rw [Nat.pow_add, Int.natCast_mul]; exact Int.mul_dvd_mul h (Int.dvd_refl _)
theorem abs_mul2 (x : Int) (t : Nat) : (x * ((2 ^ t : Nat) : Int)).natAbs = x.natAbs * 2 ^ t := by rw [Int.natAbs_mul, Int.natAbs_natCast]
theorem Fl.scale {p : Nat} {x : Int} (h : Fl p x) (t : Nat) : Fl p (x * ((2 ^ t : Nat) : Int)) := by
  obtain ⟨q, h1, h2⟩ := h
  exact ⟨q + t, mul_dvd2 h1, by rw [abs_mul2, ← Nat.add_assoc, Nat.pow_add]; exact Nat.mul_le_mul_right _ h2⟩
theorem Rn.scale {p : Nat} {x s : Int} (hp : 1 ≤ p) (h : Rn p x s) (t : Nat) : Rn p (x * ((2 ^ t : Nat) : Int)) (s * ((2 ^ t : Nat) : Int)) := by
  obtain ⟨m, m1, m2⟩ := place hp x
  have he := h.err (m := m) (Nat.le_of_lt m1)
  by_cases hm0 : m = 0
  · subst hm0
    have e1 : s = x := by simp at he; omega
    rw [e1]
    rw [e1] at h
    exact Rn.self (h.fl.scale t)
  have m2 : 2 ^ (p - 1 + m) ≤ x.natAbs := by rcases m2 with h | h; exact absurd h hm0; exact h
  have hs := (h.dvd hp m2).1
  have hb : s.natAbs ≤ 2 ^ (p + m) := by
    have h1 := h.hi (Fl.pow p (p + m)) (by omega)
    have h2 := h.neg.hi (Fl.pow p (p + m)) (by omega)
    omega
  refine rn_mk (L := m + t) hp (mul_dvd2 hs) ?_ ?_ (.inr ?_)
  · rw [abs_mul2, ← Nat.add_assoc, Nat.pow_add]; exact Nat.mul_le_mul_right _ hb
  · rw [← Int.sub_mul, abs_mul2, ← Nat.mul_assoc, Nat.pow_add]; exact Nat.mul_le_mul_right _ he
  · rw [abs_mul2, ← Nat.add_assoc, Nat.pow_add]; exact Nat.mul_le_mul_right _ m2
theorem pw (k e : Nat) : 2 ^ (k + e) = 2 ^ k * 2 ^ e := Nat.pow_add ..
theorem veltkamp_p {a c d h l : Int} {e : Nat} (h0 : 0 < a) (h1 : 2 ^ (52 + e) ≤ a.natAbs) (h2 : a.natAbs < 2 ^ (53 + e)) (hf : Fl 53 a) (hc : Rn 53 (134217729 * a) c) (hd : Rn 53 (c - a) d) (hh : Rn 53 (c - d) h) (hl : Rn 53 (a - h) l) :
    ((2 ^ (27 + e) : Nat) : Int) ∣ h ∧ ((2 ^ e : Nat) : Int) ∣ a ∧ (a - h).natAbs ≤ 2 ^ (26 + e) ∧ h.natAbs ≤ 2 ^ (53 + e) ∧ l = a - h ∧ h = c - d ∧ 67108864 * (a - h).natAbs < a.natAbs := by
  have ha : ((2 ^ e : Nat) : Int) ∣ a := hf.dvd (by omega) h1
  have hp := p2pos e
  -- the powers, by the unit of a
  have q26 : 2 ^ (26 + e) = 67108864 * 2 ^ e := by rw [pw]
  have q27 : 2 ^ (27 + e) = 134217728 * 2 ^ e := by rw [pw]
  have q28 : 2 ^ (28 + e) = 268435456 * 2 ^ e := by rw [pw]
  have q52 : 2 ^ (52 + e) = 4503599627370496 * 2 ^ e := by rw [pw]
  have q53 : 2 ^ (53 + e) = 9007199254740992 * 2 ^ e := by rw [pw]
  have q79 : 2 ^ (79 + e) = 604462909807314587353088 * 2 ^ e := by rw [pw]
  have q80 : 2 ^ (80 + e) = 1208925819614629174706176 * 2 ^ e := by rw [pw]
  have q81 : 2 ^ (81 + e) = 2417851639229258349412352 * 2 ^ e := by rw [pw]
  have hup : a.natAbs + 2 ^ e ≤ 2 ^ (53 + e) := le_of_dvd2 (dvd_abs ha) (Nat.pow_dvd_pow 2 (by omega)) h2
  have hlo : a.natAbs = 2 ^ (52 + e) ∨ 2 ^ (52 + e) + 2 ^ e ≤ a.natAbs := by
    rcases Nat.lt_or_ge (2 ^ (52 + e)) a.natAbs with h | h
    · exact .inr (le_of_dvd2 (Nat.pow_dvd_pow 2 (by omega)) (dvd_abs ha) h)
    · exact .inl (by omega)
  have hc1 := hc.err (m := 28 + e) (by rw [show 53 + (28 + e) = 81 + e by omega]; omega)
  have hc2 : (134217729 * a).natAbs < 2 ^ (80 + e) → 2 * (c - 134217729 * a).natAbs ≤ 2 ^ (27 + e) := fun h => hc.err (m := 27 + e) (by rw [show 53 + (27 + e) = 80 + e by omega]; omega)
  have hc3 := (hc.dvd (by omega) (m := 27 + e) (by rw [show 53 - 1 + (27 + e) = 79 + e by omega]; omega)).1
  rcases hlo with hA | hB
  · -- a power of two
    have ea : a = ((2 ^ (52 + e) : Nat) : Int) := by omega
    have e1 : c = 134217729 * a := by
      refine hc.ex ⟨52 + e, ⟨134217729, by rw [← ea, Int.mul_comm]⟩, ?_⟩
      rw [Int.natAbs_mul, show (134217729 : Int).natAbs = 134217729 from rfl, pw 53 (52 + e), ← hA]
      exact Nat.mul_le_mul_right _ (by decide)
    have e2 : d = c - a := by
      refine hd.ex ?_
      rw [show c - a = ((2 ^ (79 + e) : Nat) : Int) by omega]
      exact Fl.pow 53 _
    have e3 : h = c - d := by
      refine hh.ex ?_
      rw [show c - d = a by omega]; exact hf
    have e4 : h = a := by omega
    have e5 : l = a - h := by
      refine hl.ex ?_
      rw [e4, Int.sub_self]; exact Fl.zero 53
    refine ⟨?_, ha, by rw [e4, Int.sub_self]; exact Nat.zero_le _, by rw [e4]; omega, e5, e3, by rw [e4, Int.sub_self]; simp; omega⟩
    rw [e4, ea]; exact p2dvd (by omega)
  · have hca : 2 ^ (79 + e) ≤ (c - a).natAbs ∧ (c - a).natAbs ≤ 2 ^ (80 + e) ∧ 0 < c - a := by
      by_cases h3 : (134217729 * a).natAbs < 2 ^ (80 + e)
      · have := hc2 h3
        omega
      · omega
    have hd1 := hd.err (m := 27 + e) (by rw [show 53 + (27 + e) = 80 + e by omega]; omega)
    have hd2 := (hd.dvd (by omega) (m := 27 + e) (by rw [show 53 - 1 + (27 + e) = 79 + e by omega]; omega)).1
    have hcd : ((2 ^ (27 + e) : Nat) : Int) ∣ c - d := Int.dvd_sub hc3 hd2
    have hb : (c - d).natAbs ≤ 2 ^ (53 + e) := Nat.le_of_not_lt fun h3 => by
      have := le_of_dvd2 (Nat.pow_dvd_pow 2 (show 27 + e ≤ 53 + e by omega)) (dvd_abs hcd) h3
      omega
    have e3 : h = c - d := hh.ex ⟨27 + e, hcd, by rw [show 53 + (27 + e) = 80 + e by omega]; omega⟩
    have hdv : ((2 ^ e : Nat) : Int) ∣ a - h := by
      rw [e3]; exact Int.dvd_sub ha (Int.dvd_trans (p2dvd (by omega)) hcd)
    have e5 : l = a - h := hl.ex ⟨e, hdv, by omega⟩
    exact ⟨by rw [e3]; exact hcd, ha, by omega, by omega, e5, e3, by omega⟩
theorem veltkamp {a c d h l : Int} {e : Nat} (h1 : 2 ^ (52 + e) ≤ a.natAbs) (h2 : a.natAbs < 2 ^ (53 + e)) (hf : Fl 53 a) (hc : Rn 53 (134217729 * a) c) (hd : Rn 53 (c - a) d) (hh : Rn 53 (c - d) h) (hl : Rn 53 (a - h) l) :
    ((2 ^ (27 + e) : Nat) : Int) ∣ h ∧ ((2 ^ e : Nat) : Int) ∣ a ∧ (a - h).natAbs ≤ 2 ^ (26 + e) ∧ h.natAbs ≤ 2 ^ (53 + e) ∧ l = a - h ∧ h = c - d ∧ 67108864 * (a - h).natAbs < a.natAbs := by
  rcases Int.lt_trichotomy a 0 with h0 | h0 | h0
  · have := veltkamp_p (a := -a) (c := -c) (d := -d) (h := -h) (l := -l) (e := e) (by omega) (by omega) (by omega) hf.neg
      (by rw [Int.mul_neg]; exact hc.neg) (by rw [show -c - -a = -(c - a) by omega]; exact hd.neg) (by rw [show -c - -d = -(c - d) by omega]; exact hh.neg) (by rw [show -a - -h = -(a - h) by omega]; exact hl.neg)
    obtain ⟨k1, k2, k3, k4, k5, k6, k7⟩ := this
    exact ⟨Int.dvd_neg.1 k1, Int.dvd_neg.1 k2, by omega, by omega, by omega, by omega, by omega⟩
  · subst h0
    have := p2pos (52 + e)
    rw [Int.natAbs_zero] at h1
    omega
  · exact veltkamp_p h0 h1 h2 hf hc hd hh hl
theorem dekker {a b ah al bh bl p e1 e2 e3 e4 : Int} {i j : Nat} (a1 : 2 ^ (52 + i) ≤ a.natAbs) (a2 : a.natAbs < 2 ^ (53 + i)) (b1 : 2 ^ (52 + j) ≤ b.natAbs) (b2 : b.natAbs < 2 ^ (53 + j))
    (ea : al = a - ah) (eb : bl = b - bh) (da : ((2 ^ i : Nat) : Int) ∣ a) (db : ((2 ^ j : Nat) : Int) ∣ b) (dah : ((2 ^ (27 + i) : Nat) : Int) ∣ ah) (dbh : ((2 ^ (27 + j) : Nat) : Int) ∣ bh)
    (lal : al.natAbs ≤ 2 ^ (26 + i)) (lbl : bl.natAbs ≤ 2 ^ (26 + j)) (lah : ah.natAbs ≤ 2 ^ (53 + i)) (lbh : bh.natAbs ≤ 2 ^ (53 + j))
    (hp : Rn 53 (a * b) p) (h1 : Rn 53 (ah * bh - p) e1) (h2 : Rn 53 (e1 + ah * bl) e2) (h3 : Rn 53 (e2 + al * bh) e3) (h4 : Rn 53 (e3 + al * bl) e4) :
    p + e4 = a * b ∧ e1 = ah * bh - p ∧ e2 = e1 + ah * bl ∧ e3 = e2 + al * bh ∧ Fl 53 (ah * bh) ∧ Fl 53 (ah * bl) ∧ Fl 53 (al * bh) ∧ Fl 53 (al * bl) := by
  have dvd_mul : ∀ {x y : Int} {m n : Nat}, ((2 ^ m : Nat) : Int) ∣ x → ((2 ^ n : Nat) : Int) ∣ y → ((2 ^ (m + n) : Nat) : Int) ∣ x * y := fun hx hy => by
    rw [Nat.pow_add, Int.natCast_mul]; exact Int.mul_dvd_mul hx hy
  have le_mul : ∀ {x y : Int} {m n : Nat}, x.natAbs ≤ 2 ^ m → y.natAbs ≤ 2 ^ n → (x * y).natAbs ≤ 2 ^ (m + n) := fun hx hy => by
    rw [Int.natAbs_mul, Nat.pow_add]; exact Nat.mul_le_mul hx hy
  have dal : ((2 ^ i : Nat) : Int) ∣ al := by rw [ea]; exact Int.dvd_sub da (Int.dvd_trans (p2dvd (by omega)) dah)
  have dbl : ((2 ^ j : Nat) : Int) ∣ bl := by rw [eb]; exact Int.dvd_sub db (Int.dvd_trans (p2dvd (by omega)) dbh)
  obtain ⟨E, hE⟩ : ∃ E, E = i + j := ⟨_, rfl⟩
  have x1d := dvd_mul dah dbh
  have x2d := dvd_mul dah dbl
  have x3d := dvd_mul dal dbh
  have x4d := dvd_mul dal dbl
  have x1l := le_mul lah lbh
  have x2l := le_mul lah lbl
  have x3l := le_mul lal lbh
  have x4l := le_mul lal lbl
  have abl := le_mul (Nat.le_of_lt a2) (Nat.le_of_lt b2)
  have abg : 2 ^ (104 + E) ≤ (a * b).natAbs := by
    rw [Int.natAbs_mul, show 104 + E = 52 + i + (52 + j) by omega, Nat.pow_add]; exact Nat.mul_le_mul a1 b1
  rw [show 27 + i + (27 + j) = 54 + E by omega] at x1d
  rw [show 27 + i + j = 27 + E by omega] at x2d
  rw [show i + (27 + j) = 27 + E by omega] at x3d
  rw [← hE] at x4d
  rw [show 53 + i + (53 + j) = 106 + E by omega] at x1l abl
  rw [show 53 + i + (26 + j) = 79 + E by omega] at x2l
  rw [show 26 + i + (53 + j) = 79 + E by omega] at x3l
  rw [show 26 + i + (26 + j) = 52 + E by omega] at x4l
  have hsum : a * b = ah * bh + ah * bl + al * bh + al * bl := by
    rw [show a = ah + al by omega, show b = bh + bl by omega, Int.add_mul, Int.mul_add, Int.mul_add]; omega
  have pe := hp.err (m := 53 + E) (by rw [show 53 + (53 + E) = 106 + E by omega]; exact abl)
  have pd := (hp.dvd (by omega) (m := 52 + E) (by rw [show 53 - 1 + (52 + E) = 104 + E by omega]; exact abg)).1
  have hq := p2pos E
  have q27 : 2 ^ (27 + E) = 134217728 * 2 ^ E := by rw [pw]
  have q52 : 2 ^ (52 + E) = 4503599627370496 * 2 ^ E := by rw [pw]
  have q53 : 2 ^ (53 + E) = 9007199254740992 * 2 ^ E := by rw [pw]
  have q79 : 2 ^ (79 + E) = 604462909807314587353088 * 2 ^ E := by rw [pw]
  have q80 : 2 ^ (80 + E) = 1208925819614629174706176 * 2 ^ E := by rw [pw]
  have q105 : 2 ^ (105 + E) = 40564819207303340847894502572032 * 2 ^ E := by rw [pw]
  have f1 : Fl 53 (ah * bh) := ⟨54 + E, x1d, by rw [show 53 + (54 + E) = 107 + E by omega]; exact Nat.le_trans x1l (p2le (by omega))⟩
  have f2 : Fl 53 (ah * bl) := ⟨27 + E, x2d, by rw [show 53 + (27 + E) = 80 + E by omega]; omega⟩
  have f3 : Fl 53 (al * bh) := ⟨27 + E, x3d, by rw [show 53 + (27 + E) = 80 + E by omega]; omega⟩
  have f4 : Fl 53 (al * bl) := ⟨E, x4d, by omega⟩
  generalize ah * bh = X1 at *
  generalize ah * bl = X2 at *
  generalize al * bh = X3 at *
  generalize al * bl = X4 at *
  generalize a * b = AB at *
  have g1 : e1 = X1 - p := h1.ex ⟨52 + E, Int.dvd_sub (Int.dvd_trans (p2dvd (by omega)) x1d) pd, by rw [show 53 + (52 + E) = 105 + E by omega]; omega⟩
  have g2 : e2 = e1 + X2 := h2.ex ⟨27 + E, by rw [g1]; exact Int.dvd_add (Int.dvd_sub (Int.dvd_trans (p2dvd (by omega)) x1d) (Int.dvd_trans (p2dvd (by omega)) pd)) x2d, by rw [show 53 + (27 + E) = 80 + E by omega]; omega⟩
  have g3 : e3 = e2 + X3 := h3.ex ⟨27 + E, by rw [g2, g1]; exact Int.dvd_add (Int.dvd_add (Int.dvd_sub (Int.dvd_trans (p2dvd (by omega)) x1d) (Int.dvd_trans (p2dvd (by omega)) pd)) x2d) x3d, by rw [show 53 + (27 + E) = 80 + E by omega]; omega⟩
  have g4 : e4 = e3 + X4 := h4.ex ⟨E, by rw [g3, g2, g1]; exact Int.dvd_add (Int.dvd_add (Int.dvd_add (Int.dvd_sub (Int.dvd_trans (p2dvd (by omega)) x1d) (Int.dvd_trans (p2dvd (by omega)) pd)) (Int.dvd_trans (p2dvd (by omega)) x2d)) (Int.dvd_trans (p2dvd (by omega)) x3d)) x4d, by omega⟩
  exact ⟨by omega, g1, g2, g3, f1, f2, f3, f4⟩
theorem cut_all (neg : Bool) (n L : Nat) : Ieee.Toward.even.cut neg n L = rne n L := by
  rcases Nat.lt_or_ge (n.log2 + 2) L with h | h
  · have hu : n < 2 ^ (n.log2 + 1) := Nat.lt_log2_self
    have h1 : 2 ^ (n.log2 + 2) = 2 * 2 ^ (n.log2 + 1) := p2succ _
    have h2 : 2 ^ (n.log2 + 2) ≤ 2 ^ L := p2le (by omega)
    unfold Ieee.Toward.cut rne
    rw [Nat.min_eq_right (by omega), Nat.one_shiftLeft]
    dsimp only
    rw [Nat.div_eq_of_lt (show n < 2 ^ (n.log2 + 2) by omega), Nat.div_eq_of_lt (show n < 2 ^ L by omega), Nat.mod_eq_of_lt (show n < 2 ^ (n.log2 + 2) by omega), Nat.mod_eq_of_lt (show n < 2 ^ L by omega)]
    rw [decide_eq_false (show ¬ 2 ^ (n.log2 + 2) < 2 * n by omega), decide_eq_false (show ¬ 2 ^ L < 2 * n by omega), show (2 ^ (n.log2 + 2) == 2 * n) = false by simp; omega, show (2 ^ L == 2 * n) = false by simp; omega]
  · exact cut_eq neg n L h
def rgc (c n : Nat) : Nat := if n = 0 then 0 else min ((max (n.log2 - 52) c - c) * 4503599627370496 + rne n (max (n.log2 - 52) c)) 9218868437227405312
theorem nearest_rgc (neg : Bool) (mag c d : Nat) : Ieee.double.nearest neg mag (-1074 - (c : Int) + (d : Int)) = Ieee.double.word neg (rgc c (mag * 2 ^ d)) := by
  have e1 : Ieee.double.leastPlace = -1074 := by decide
  have e2 : Ieee.double.binade = 4503599627370496 := by decide
  have e3 : Ieee.double.infRung = 9218868437227405312 := by decide
  have e4 : Ieee.double.fractionBits = 52 := by decide
  have hd : 0 < 2 ^ d := p2pos d
  unfold Ieee.Format.nearest rgc
  by_cases h0 : mag = 0
  · subst h0; simp
  · have hz : mag * 2 ^ d ≠ 0 := Nat.mul_ne_zero h0 (by omega)
    rw [if_neg h0, if_neg hz, e1, e2, e3, e4]
    have hl := log2_mul mag d h0
    obtain ⟨l, hle⟩ : ∃ l, l = mag.log2 := ⟨_, rfl⟩
    rw [← hle] at hl ⊢
    rw [hl]
    obtain ⟨L, hL⟩ : ∃ L, L = max (l + d - 52) c := ⟨_, rfl⟩
    rw [← hL]
    have e5 : max (-1074 - (c : Int) + (d : Int) + (l : Int) - ((52 : Nat) : Int)) (-1074) = -1074 - (c : Int) + (L : Int) := by omega
    dsimp only
    rw [e5]
    have e6 : (-1074 - (c : Int) + (L : Int) - -1074).toNat = L - c := by omega
    rw [e6]
    have e7 : (-1074 - (c : Int) + (d : Int) - (-1074 - (c : Int) + (L : Int))).toNat = d - L := by omega
    have e8 : (-1074 - (c : Int) + (L : Int) - (-1074 - (c : Int) + (d : Int))).toNat = L - d := by omega
    rw [e7, e8, Nat.shiftLeft_eq, cut_all]
    have e9 : rne (mag * 2 ^ (d - L)) (L - d) = rne (mag * 2 ^ d) L := by
      rcases Nat.le_total L d with h1 | h1
      · rw [show L - d = 0 by omega, rne_zero]
        have h2 := rne_mul (mag * 2 ^ (d - L)) 0 L
        rw [Nat.zero_add, rne_zero, Nat.mul_assoc, ← Nat.pow_add, show d - L + L = d by omega] at h2
        exact h2.symm
      · rw [show d - L = 0 by omega, Nat.pow_zero, Nat.mul_one]
        have h2 := rne_mul mag (L - d) d
        rw [show L - d + d = L by omega] at h2
        exact h2.symm
    rw [e9]
theorem rgc_int (c n : Nat) : rgc c (n * 2 ^ c) = rg 0 n := by
  have hd : 0 < 2 ^ c := p2pos c
  unfold rgc rg
  by_cases h0 : n = 0
  · subst h0; simp
  · have hz : n * 2 ^ c ≠ 0 := Nat.mul_ne_zero h0 (by omega)
    rw [if_neg h0, if_neg hz, log2_mul n c h0, show max (n.log2 + c - 52) c = n.log2 - 52 + c by omega, rne_mul, Nat.add_sub_cancel, Nat.sub_zero]
theorem fmul_any {a b : Nat} (ha : Fin64 a) (hb : Fin64 b) : floatBits .mul .f64 a b = some (Ieee.double.word (decide (9223372036854775808 ≤ a) ^^ decide (9223372036854775808 ≤ b)) (rgc 1074 ((ux a).natAbs * (ux b).natAbs))) := by
  obtain ⟨m, q, h1, h2⟩ := read_fin ha.lt ha.fin
  obtain ⟨n, t, h3, h4⟩ := read_fin hb.lt hb.fin
  rw [ux_abs, ux_abs, ← h2, ← h4]
  show ((Ieee.double.read a).product (Ieee.double.read b)).map Ieee.double.write = _
  rw [h1, h3]
  show some (Ieee.double.nearest _ (m * n) (-1074 + (q : Int) + (-1074 + (t : Int)))) = _
  have := nearest_rgc (decide (9223372036854775808 ≤ a) ^^ decide (9223372036854775808 ≤ b)) (m * n) 1074 (q + t)
  rw [show (-1074 : Int) - ((1074 : Nat) : Int) + ((q + t : Nat) : Int) = -1074 + (q : Int) + (-1074 + (t : Int)) by omega] at this
  rw [this, show m * n * 2 ^ (q + t) = m * 2 ^ q * (n * 2 ^ t) by rw [Nat.pow_add, ← Nat.mul_assoc, ← Nat.mul_assoc, Nat.mul_assoc m n, Nat.mul_comm n, ← Nat.mul_assoc]]
theorem ux_neg {b : Nat} (h : ux b ≠ 0) : decide (9223372036854775808 ≤ b) = decide (ux b < 0) := by
  refine decide_eq_decide.2 ?_
  have := ux_eq b
  by_cases h1 : 9223372036854775808 ≤ b
  · rw [if_pos h1] at this; omega
  · rw [if_neg h1] at this; omega
theorem mul_sign {a b : Nat} (h : ux a * ux b ≠ 0) : (decide (9223372036854775808 ≤ a) ^^ decide (9223372036854775808 ≤ b)) = decide (ux a * ux b < 0) := by
  have ha : ux a ≠ 0 := fun k => h (by rw [k, Int.zero_mul])
  have hb : ux b ≠ 0 := fun k => h (by rw [k, Int.mul_zero])
  rw [ux_neg ha, ux_neg hb]
  generalize ux a = x at *
  generalize ux b = y at *
  rcases Int.lt_or_gt_of_ne ha with h1 | h1 <;> rcases Int.lt_or_gt_of_ne hb with h2 | h2
  · have := Int.mul_pos_of_neg_of_neg h1 h2
    simp [h1, h2]; omega
  · have := Int.mul_neg_of_neg_of_pos h1 h2
    simp [h1, Int.not_lt.2 (Int.le_of_lt h2), this]
  · have := Int.mul_neg_of_pos_of_neg h1 h2
    simp [h2, Int.not_lt.2 (Int.le_of_lt h1), this]
  · have := Int.mul_pos h1 h2
    simp [Int.not_lt.2 (Int.le_of_lt h1), Int.not_lt.2 (Int.le_of_lt h2)]; omega
theorem FlR.mul {x y r : Nat} (h : FlR .mul x y r) (hx : Fin64 x) (hy : Fin64 y) {X : Int} {c : Nat} (hc : c = 1074) (hX : ux x * ux y = X * ((2 ^ c : Nat) : Int)) (hm : X.natAbs ≤ MaxU) : Sm64 X r := by
  have h1 := fmul_any hx hy
  rw [← Int.natAbs_mul, hX, Int.natAbs_mul, Int.natAbs_natCast, ← hc, rgc_int] at h1
  rw [h.some _ h1]
  refine sm_word hm fun h0 => ?_
  have hp : (0 : Int) < ((2 ^ c : Nat) : Int) := Int.ofNat_lt.2 (p2pos c)
  have h2 : ux x * ux y ≠ 0 := by rw [hX]; exact Int.mul_ne_zero h0 (by omega)
  rw [mul_sign h2, hX]
  refine decide_eq_decide.2 ⟨fun h3 => ?_, fun h3 => Int.mul_neg_of_neg_of_pos h3 hp⟩
  refine Int.lt_of_not_ge fun h4 => ?_
  have := Int.mul_nonneg h4 (Int.le_of_lt hp)
  omega
structure Pm64 (V : Int) (r : Nat) : Prop where
  fin : Fin64 r
  size : r % 9223372036854775808 = rg 1074 V.natAbs
  sign : V ≠ 0 → (9223372036854775808 ≤ r ↔ V < 0)
  rn : ∀ c, c = 1074 → Rn 53 V (ux r * ((2 ^ c : Nat) : Int))
theorem FlR.big {x y r : Nat} (h : FlR .mul x y r) (hx : Fin64 x) (hy : Fin64 y) (h1 : 1126 ≤ (ux x * ux y).natAbs.log2) (h2 : (ux x * ux y).natAbs.log2 ≤ 3169) : Pm64 (ux x * ux y) r := by
  have hr := fmul_any hx hy
  rw [← Int.natAbs_mul] at hr
  have hV0 : ux x * ux y ≠ 0 := fun h0 => by rw [h0] at h1; simp at h1
  rw [mul_sign hV0] at hr
  have hr := h.some _ hr
  generalize ux x * ux y = V at *
  obtain ⟨N, hN⟩ : ∃ N, N = V.natAbs := ⟨_, rfl⟩
  have hN0 : N ≠ 0 := by omega
  rw [← hN] at h1 h2 hr
  have hl : 2 ^ N.log2 ≤ N := Nat.log2_self_le hN0
  have hu : N < 2 ^ (N.log2 + 1) := Nat.lt_log2_self
  obtain ⟨L, hL⟩ : ∃ L, L = N.log2 - 52 := ⟨_, rfl⟩
  have hk1 : rne N L ≤ 9007199254740992 := by
    refine rne_le N L _ (Nat.le_of_lt (Nat.lt_of_lt_of_le hu ?_))
    rw [show 9007199254740992 = 2 ^ 53 by decide, ← Nat.pow_add]
    exact p2le (by omega)
  have hk2 : 4503599627370496 ≤ rne N L := by
    refine le_rne N L _ (Nat.le_trans ?_ hl)
    rw [show 4503599627370496 = 2 ^ 52 by decide, ← Nat.pow_add]
    exact p2le (by omega)
  have hg : rgc 1074 N = (L - 1074) * 4503599627370496 + rne N L := by
    unfold rgc
    rw [if_neg hN0, ← hL, Nat.max_eq_left (by omega), Nat.min_eq_left (by omega)]
  have hg2 : rg 1074 N = rgc 1074 N := by
    rw [hg]; unfold rg
    rw [if_neg hN0, ← hL, Nat.min_eq_left (by omega)]
  have hlt : rgc 1074 N < 9218868437227405312 := by rw [hg]; omega
  obtain ⟨wa, wb, wc⟩ := word_facts (decide (V < 0)) hlt
  rw [← hr] at wa wb wc
  refine ⟨⟨wa, by rw [wb]; exact hlt⟩, by rw [wb, ← hN, hg2], fun _ => ?_, fun c hc => ?_⟩
  · have e4 : Ieee.double.signWeight = 9223372036854775808 := by decide
    rw [hr]
    unfold Ieee.Format.word
    rw [e4]
    by_cases h2 : V < 0
    · simp [h2]
    · simp [h2]; omega
  · have hvs : vs 4503599627370496 (rgc 1074 N) * 2 ^ c = rne N L * 2 ^ L := by
      rw [hg, vs_at _ _ (.inr hk2) hk1, Nat.mul_assoc, ← Nat.pow_add, show L - 1074 + c = L by omega]
    have hR : Rn 53 (N : Int) ((rne N L * 2 ^ L : Nat) : Int) := by
      refine rn_mk (L := L) (by omega) ⟨rne N L, by rw [Int.natCast_mul, Int.mul_comm]⟩ ?_ (rne_err N L) (.inr ?_)
      · rw [Int.natAbs_natCast, Nat.pow_add]
        exact Nat.mul_le_mul_right _ hk1
      · rw [Int.natAbs_natCast]
        exact Nat.le_trans (p2le (by omega)) hl
    rw [wc]
    by_cases h3 : V < 0
    · rw [decide_eq_true h3, if_pos rfl, Int.neg_mul, ← Int.natCast_mul, hvs]
      have := hR.neg
      rw [hN, show -((V.natAbs : Nat) : Int) = V by omega, ← hN] at this
      exact this
    · rw [decide_eq_false h3]
      simp only [Bool.false_eq_true, if_false]
      rw [← Int.natCast_mul, hvs]
      rw [show (N : Int) = V by omega] at hR
      exact hR
theorem ux_split {c : Nat} (hc : c = 1074) : ux 4728779608772575232 = 134217729 * ((2 ^ c : Nat) : Int) := by
  have h1 : 4728779608772575232 / 4503599627370496 - 1 = c - 25 := by rw [hc]
  have h2 : 4728779608772575232 - (c - 25) * 4503599627370496 = 134217729 * 33554432 := by rw [hc]
  have h3 : 2 ^ c = 33554432 * 2 ^ (c - 25) := by
    rw [show (33554432 : Nat) = 2 ^ 25 by decide, ← Nat.pow_add]
    congr 1
    omega
  rw [ux_eq, if_neg (by decide)]
  unfold vs
  rw [show 4728779608772575232 % 9223372036854775808 = 4728779608772575232 by decide, h1, h2, h3, Nat.mul_assoc, Int.natCast_mul]
  rfl
theorem fin_split : Fin64 4728779608772575232 := ⟨by decide, by decide⟩
structure Hlv (a h l : Nat) (i : Nat) : Prop where
  lo : 2 ^ (52 + i) ≤ (ux a * ((2 ^ 53 : Nat) : Int)).natAbs
  hi : (ux a * ((2 ^ 53 : Nat) : Int)).natAbs < 2 ^ (53 + i)
  dh : ((2 ^ (27 + i) : Nat) : Int) ∣ ux h * ((2 ^ 53 : Nat) : Int)
  da : ((2 ^ i : Nat) : Int) ∣ ux a * ((2 ^ 53 : Nat) : Int)
  ll : (ux l * ((2 ^ 53 : Nat) : Int)).natAbs ≤ 2 ^ (26 + i)
  lh : (ux h * ((2 ^ 53 : Nat) : Int)).natAbs ≤ 2 ^ (53 + i)
  eq : ux l = ux a - ux h
  sm : 67108864 * (ux l).natAbs < (ux a).natAbs
theorem SPR.ok {a h l : Nat} (k : SPR a h l) (ha : a < 18446744073709551616) (ka : a % 9223372036854775808 ≤ 9088264048033660928) :
    Fin64 h ∧ Fin64 l ∧ ((ux a = 0 ∧ ux h = 0 ∧ ux l = 0) ∨ ∃ i, Hlv a h l i) := by
  obtain ⟨c, d, F1, F2, F3, F4⟩ := k
  have fa : Fin64 a := ⟨ha, by omega⟩
  obtain ⟨K, hK⟩ : ∃ K, K = 2044 := ⟨_, rfl⟩
  obtain ⟨J, hJ⟩ : ∃ J, J = 2017 := ⟨_, rfl⟩
  have ma : (ux a).natAbs ≤ 2 ^ (52 + J) := ux_pow (by omega)
  obtain ⟨M, hM⟩ : ∃ M, M = 2 ^ (52 + K) := ⟨_, rfl⟩
  obtain ⟨m3, m2⟩ := max_big hK hM
  have hMJ : M = 134217728 * 2 ^ (52 + J) := by
    rw [hM, show (134217728 : Nat) = 2 ^ 27 by decide, ← Nat.pow_add]
    congr 1
    omega
  have m4 : 2 ^ (54 + K) = 4 * M := by rw [show 54 + K = 53 + K + 1 by omega, p2succ, m2]; omega
  obtain ⟨q, hq⟩ : ∃ q, q = 1074 := ⟨_, rfl⟩
  have S1 := F1.mul fin_split fa (X := 134217729 * ux a) hq (by rw [ux_split hq, Int.mul_assoc, Int.mul_comm _ (ux a), ← Int.mul_assoc]) (by omega)
  have bc := S1.rn.bound (K := 53 + K) (by rw [m2]; omega)
  rw [m2] at bc
  have S2 := F2.sub S1.fin fa (by omega)
  have bd := S2.rn.bound (K := 54 + K) (by rw [m4]; omega)
  rw [m4] at bd
  have e2 := S2.rn.near1 (M := M) (by omega)
  have S3 := F3.sub S1.fin S2.fin (by omega)
  have bh := S3.rn.bound (K := 53 + K) (by rw [m2]; omega)
  rw [m2] at bh
  have S4 := F4.sub fa S3.fin (by omega)
  refine ⟨S3.fin, S4.fin, ?_⟩
  by_cases h0 : ux a = 0
  · have z1 := S1.rn
    rw [h0, Int.mul_zero] at z1
    have z1 := z1.ex (Fl.zero 53)
    have z2 := S2.rn
    rw [z1, h0, Int.sub_zero] at z2
    have z2 := z2.ex (Fl.zero 53)
    have z3 := S3.rn
    rw [z1, z2, Int.sub_zero] at z3
    have z3 := z3.ex (Fl.zero 53)
    have z4 := S4.rn
    rw [h0, z3, Int.sub_zero] at z4
    exact .inl ⟨h0, z3, z4.ex (Fl.zero 53)⟩
  · refine .inr ?_
    have hA : 2 ^ 53 ≤ (ux a * ((2 ^ 53 : Nat) : Int)).natAbs := by
      rw [abs_mul2]
      have := Nat.mul_le_mul_right (2 ^ 53) (show 1 ≤ (ux a).natAbs by omega)
      omega
    obtain ⟨i, i1, i2⟩ := place (show 1 ≤ 53 by omega) (ux a * ((2 ^ 53 : Nat) : Int))
    have i2 : 2 ^ (52 + i) ≤ (ux a * ((2 ^ 53 : Nat) : Int)).natAbs := by
      rcases i2 with h | h
      · subst h; exact Nat.le_trans (p2le (by omega)) hA
      · exact h
    have r1 := S1.rn.scale (by omega) 53
    have r2 := S2.rn.scale (by omega) 53
    have r3 := S3.rn.scale (by omega) 53
    have r4 := S4.rn.scale (by omega) 53
    rw [Int.mul_assoc] at r1
    rw [Int.sub_mul] at r2 r3 r4
    obtain ⟨v1, v2, v3, v4, v5, v6, v7⟩ := veltkamp i2 i1 (fa.fl.scale 53) r1 r2 r3 r4
    have e5 : ux l = ux a - ux h := by
      rw [← Int.sub_mul] at v5
      exact Int.eq_of_mul_eq_mul_right (by decide) v5
    refine ⟨i, i2, i1, v1, v2, by rw [v5]; exact v3, v4, e5, ?_⟩
    rw [← Int.sub_mul, abs_mul2, abs_mul2, ← Nat.mul_assoc] at v7
    rw [e5]
    exact Nat.lt_of_mul_lt_mul_right v7
theorem Fl.unscale {p : Nat} {x : Int} {t : Nat} (h : Fl p (x * ((2 ^ t : Nat) : Int))) : Fl p x := by
  obtain ⟨q, h1, h2⟩ := h
  have ht := p2pos t
  rw [abs_mul2] at h2
  rcases Nat.lt_or_ge q t with h3 | h3
  · refine Fl.small (Nat.le_of_mul_le_mul_right (Nat.le_trans h2 ?_) ht)
    rw [← Nat.pow_add]; exact p2le (by omega)
  · obtain ⟨r, rfl⟩ : ∃ r, q = r + t := ⟨q - t, by omega⟩
    refine ⟨r, ?_, ?_⟩
    · rw [Nat.pow_add, Int.natCast_mul] at h1
      exact Int.dvd_of_mul_dvd_mul_right (by omega) h1
    · refine Nat.le_of_mul_le_mul_right (c := 2 ^ t) ?_ ht
      rw [← Nat.pow_add, Nat.add_assoc]; exact h2
theorem dvd_mul2 {x y : Int} {m n : Nat} (hx : ((2 ^ m : Nat) : Int) ∣ x) (hy : ((2 ^ n : Nat) : Int) ∣ y) : ((2 ^ (m + n) : Nat) : Int) ∣ x * y := by
  rw [Nat.pow_add, Int.natCast_mul]; exact Int.mul_dvd_mul hx hy
theorem le_mul2 {x y : Int} {m n : Nat} (hx : x.natAbs ≤ 2 ^ m) (hy : y.natAbs ≤ 2 ^ n) : (x * y).natAbs ≤ 2 ^ (m + n) := by
  rw [Int.natAbs_mul, Nat.pow_add]; exact Nat.mul_le_mul hx hy
theorem half_prod {u v : Int} {m n k l c t : Nat} (hc : c = 1074) (ht : t = 1180) (du : ((2 ^ m : Nat) : Int) ∣ u * ((2 ^ 53 : Nat) : Int)) (dv : ((2 ^ n : Nat) : Int) ∣ v * ((2 ^ 53 : Nat) : Int)) (lu : (u * ((2 ^ 53 : Nat) : Int)).natAbs ≤ 2 ^ k) (lv : (v * ((2 ^ 53 : Nat) : Int)).natAbs ≤ 2 ^ l) (h1 : 1180 ≤ m + n) (h2 : k + l ≤ 53 + (m + n)) :
    ∃ X : Int, u * v = X * ((2 ^ c : Nat) : Int) ∧ Fl 53 X ∧ X * ((2 ^ t : Nat) : Int) = u * ((2 ^ 53 : Nat) : Int) * (v * ((2 ^ 53 : Nat) : Int)) := by
  have hm : u * ((2 ^ 53 : Nat) : Int) * (v * ((2 ^ 53 : Nat) : Int)) = u * v * ((2 ^ 106 : Nat) : Int) := by
    rw [show ((2 ^ 106 : Nat) : Int) = ((2 ^ 53 : Nat) : Int) * ((2 ^ 53 : Nat) : Int) from rfl, Int.mul_assoc, Int.mul_assoc, ← Int.mul_assoc _ v, Int.mul_comm _ v, Int.mul_assoc]
  have hd := dvd_mul2 du dv
  have hl := le_mul2 lu lv
  have hf : Fl 53 (u * ((2 ^ 53 : Nat) : Int) * (v * ((2 ^ 53 : Nat) : Int))) := ⟨m + n, hd, Nat.le_trans hl (p2le h2)⟩
  rw [hm] at hd hf
  have hd2 : ((2 ^ t : Nat) : Int) ∣ u * v * ((2 ^ 106 : Nat) : Int) := Int.dvd_trans (p2dvd (by omega)) hd
  have e1 : ((2 ^ t : Nat) : Int) = ((2 ^ c : Nat) : Int) * ((2 ^ 106 : Nat) : Int) := by rw [← Int.natCast_mul, ← Nat.pow_add, show c + 106 = t by omega]
  rw [e1] at hd2
  obtain ⟨X, hX0⟩ := Int.dvd_of_mul_dvd_mul_right (by decide) hd2
  have hX : u * v = X * ((2 ^ c : Nat) : Int) := by rw [hX0, Int.mul_comm]
  refine ⟨X, hX, ?_, ?_⟩
  · rw [hX, Int.mul_assoc, ← e1] at hf
    exact hf.unscale
  · rw [hm, hX, Int.mul_assoc, ← e1]
theorem Rn.near2 {x s : Int} {M : Nat} (h : Rn 53 x s) (hs : s.natAbs ≤ 32 * M) : (x - s).natAbs ≤ M := by
  have h1 := h.little (by omega)
  rw [show (2 : Nat) ^ 53 = 9007199254740992 by decide] at h1
  omega
theorem p2x4 (k : Nat) : 2 ^ (k + 2) = 4 * 2 ^ k := by rw [p2succ, p2succ]; omega
theorem p2x8 (k : Nat) : 2 ^ (k + 3) = 8 * 2 ^ k := by rw [p2succ, p2succ, p2succ]; omega
theorem p2x16 (k : Nat) : 2 ^ (k + 4) = 16 * 2 ^ k := by rw [p2succ, p2succ, p2succ, p2succ]; omega
theorem dek_small {x y a b : Int} {k l i j : Nat} (hx : x.natAbs ≤ 2 ^ k) (hy : y.natAbs ≤ 2 ^ l) (ha : 2 ^ (52 + i) ≤ a.natAbs) (hb : 2 ^ (52 + j) ≤ b.natAbs) (h : k + l + 2 ≤ 104 + (i + j)) : 4 * (x * y).natAbs ≤ (a * b).natAbs := by
  have h1 := le_mul2 hx hy
  have h2 : 2 ^ (104 + (i + j)) ≤ (a * b).natAbs := by
    rw [Int.natAbs_mul, show 104 + (i + j) = 52 + i + (52 + j) by omega, Nat.pow_add]; exact Nat.mul_le_mul ha hb
  have h3 : 4 * 2 ^ (k + l) ≤ 2 ^ (104 + (i + j)) := by
    rw [← p2x4]; exact p2le h
  omega
theorem TPR.ok {a b p e : Nat} (h : TPR a b p e) (ha : a < 18446744073709551616) (hb : b < 18446744073709551616) (ka : a % 9223372036854775808 ≤ 9088264048033660928) (kb : b % 9223372036854775808 ≤ 9088264048033660928)
    (hV : ux a * ux b = 0 ∨ ((∀ K, K = 1188 → 2 ^ K ≤ (ux a * ux b).natAbs) ∧ ∀ K, K = 3169 → (ux a * ux b).natAbs ≤ 2 ^ K)) :
    Fin64 p ∧ Fin64 e ∧ (∀ c, c = 1074 → (ux p + ux e) * ((2 ^ c : Nat) : Int) = ux a * ux b) ∧ (ux a * ux b = 0 → ux p = 0 ∧ ux e = 0) ∧ (ux a * ux b ≠ 0 → Pm64 (ux a * ux b) p) := by
  obtain ⟨ah, al, bh, bl, x1, e1, x2, e2, x3, e3, x4, F1, S1, S2, F2, F3, F4, F5, F6, F7, F8, F9⟩ := h
  have fa : Fin64 a := ⟨ha, by omega⟩
  have fb : Fin64 b := ⟨hb, by omega⟩
  obtain ⟨f1, f2, g1⟩ := S1.ok ha ka
  obtain ⟨f3, f4, g2⟩ := S2.ok hb kb
  obtain ⟨c, hc⟩ : ∃ c, c = 1074 := ⟨_, rfl⟩
  by_cases hV0 : ux a * ux b = 0
  · -- a nought among them
    have hz : ∀ {x y r : Nat}, FlR .mul x y r → Fin64 x → Fin64 y → ux x * ux y = 0 → Fin64 r ∧ ux r = 0 := fun F hx hy h0 => by
      have S := F.mul hx hy (X := 0) hc (by rw [h0, Int.zero_mul]) (by simp)
      exact ⟨S.fin, S.rn.ex (Fl.zero 53)⟩
    have hs : ∀ {x y r : Nat}, FlR .add x y r → Fin64 x → Fin64 y → ux x = 0 → ux y = 0 → Fin64 r ∧ ux r = 0 := fun F hx hy h0 h1 => by
      have S := F.add hx hy (by rw [h0, h1]; simp)
      have R := S.rn
      rw [h0, h1, Int.add_zero] at R
      exact ⟨S.fin, R.ex (Fl.zero 53)⟩
    have hd : ∀ {x y r : Nat}, FlR .sub x y r → Fin64 x → Fin64 y → ux x = 0 → ux y = 0 → Fin64 r ∧ ux r = 0 := fun F hx hy h0 h1 => by
      have S := F.sub hx hy (by rw [h0, h1]; simp)
      have R := S.rn
      rw [h0, h1, Int.sub_zero] at R
      exact ⟨S.fin, R.ex (Fl.zero 53)⟩
    have hab : ux ah * ux bh = 0 ∧ ux ah * ux bl = 0 ∧ ux al * ux bh = 0 ∧ ux al * ux bl = 0 := by
      rcases Int.mul_eq_zero.1 hV0 with h0 | h0
      · rcases g1 with ⟨_, z1, z2⟩ | ⟨i, g⟩
        · rw [z1, z2]; simp
        · have := g.sm; rw [h0] at this; simp at this
      · rcases g2 with ⟨_, z1, z2⟩ | ⟨i, g⟩
        · rw [z1, z2]; simp
        · have := g.sm; rw [h0] at this; simp at this
    obtain ⟨y0, z0⟩ := hz F1 fa fb hV0
    obtain ⟨y1, z1⟩ := hz F2 f1 f3 hab.1
    obtain ⟨y2, z2⟩ := hd F3 y1 y0 z1 z0
    obtain ⟨y3, z3⟩ := hz F4 f1 f4 hab.2.1
    obtain ⟨y4, z4⟩ := hs F5 y2 y3 z2 z3
    obtain ⟨y5, z5⟩ := hz F6 f2 f3 hab.2.2.1
    obtain ⟨y6, z6⟩ := hs F7 y4 y5 z4 z5
    obtain ⟨y7, z7⟩ := hz F8 f2 f4 hab.2.2.2
    obtain ⟨y8, z8⟩ := hs F9 y6 y7 z6 z7
    exact ⟨y0, y8, fun c _ => by rw [z0, z8, hV0, Int.add_zero, Int.zero_mul], fun _ => ⟨z0, z8⟩, fun h => absurd hV0 h⟩
  · have hVb := hV.resolve_left hV0
    rcases g1 with ⟨z, _⟩ | ⟨i, ga⟩
    · exact absurd (by rw [z, Int.zero_mul]) hV0
    rcases g2 with ⟨z, _⟩ | ⟨j, gb⟩
    · exact absurd (by rw [z, Int.mul_zero]) hV0
    obtain ⟨k1, hk1⟩ : ∃ K, K = 1188 := ⟨_, rfl⟩
    obtain ⟨k2, hk2⟩ : ∃ K, K = 3169 := ⟨_, rfl⟩
    obtain ⟨t, ht⟩ : ∃ t, t = 1180 := ⟨_, rfl⟩
    have hV1 := hVb.1 k1 hk1
    have hV2 := hVb.2 k2 hk2
    have hm : ux a * ((2 ^ 53 : Nat) : Int) * (ux b * ((2 ^ 53 : Nat) : Int)) = ux a * ux b * ((2 ^ 106 : Nat) : Int) := by
      rw [show ((2 ^ 106 : Nat) : Int) = ((2 ^ 53 : Nat) : Int) * ((2 ^ 53 : Nat) : Int) from rfl, Int.mul_assoc, Int.mul_assoc, ← Int.mul_assoc _ (ux b), Int.mul_comm _ (ux b), Int.mul_assoc]
    have hij : 1188 ≤ i + j := by
      have h1 := le_mul2 (Nat.le_of_lt ga.hi) (Nat.le_of_lt gb.hi)
      rw [hm, abs_mul2] at h1
      have h2 := Nat.le_trans (Nat.mul_le_mul_right (2 ^ 106) hV1) h1
      rw [← Nat.pow_add] at h2
      have h3 : k1 + 106 < 53 + i + (53 + j) + 1 := p2lt (Nat.lt_of_le_of_lt h2 (by rw [p2succ]; have := p2pos (53 + i + (53 + j)); omega))
      omega
    have dal : ((2 ^ i : Nat) : Int) ∣ ux al * ((2 ^ 53 : Nat) : Int) := by rw [ga.eq, Int.sub_mul]; exact Int.dvd_sub ga.da (Int.dvd_trans (p2dvd (by omega)) ga.dh)
    have dbl : ((2 ^ j : Nat) : Int) ∣ ux bl * ((2 ^ 53 : Nat) : Int) := by rw [gb.eq, Int.sub_mul]; exact Int.dvd_sub gb.da (Int.dvd_trans (p2dvd (by omega)) gb.dh)
    obtain ⟨X1, p1, q1, s1⟩ := half_prod hc ht ga.dh gb.dh ga.lh gb.lh (by omega) (by omega)
    obtain ⟨X2, p2, q2, s2⟩ := half_prod hc ht ga.dh dbl ga.lh gb.ll (by omega) (by omega)
    obtain ⟨X3, p3, q3, s3⟩ := half_prod hc ht dal gb.dh ga.ll gb.lh (by omega) (by omega)
    obtain ⟨X4, p4, q4, s4⟩ := half_prod hc ht dal dbl ga.ll gb.ll (by omega) (by omega)
    have b2 := dek_small ga.lh gb.ll ga.lo gb.lo (by omega)
    have b3 := dek_small ga.ll gb.lh ga.lo gb.lo (by omega)
    have b4 := dek_small ga.ll gb.ll ga.lo gb.lo (by omega)
    have hsum : ux a * ux b = ux ah * ux bh + ux ah * ux bl + ux al * ux bh + ux al * ux bl := by
      have h1 := ga.eq
      have h2 := gb.eq
      rw [show ux a = ux ah + ux al by omega, show ux b = ux bh + ux bl by omega, Int.add_mul, Int.mul_add, Int.mul_add]; omega
    have hW : ux a * ux b = (X1 + X2 + X3 + X4) * ((2 ^ c : Nat) : Int) := by rw [hsum, p1, p2, p3, p4, Int.add_mul, Int.add_mul, Int.add_mul]
    have hWt : ux a * ((2 ^ 53 : Nat) : Int) * (ux b * ((2 ^ 53 : Nat) : Int)) = (X1 + X2 + X3 + X4) * ((2 ^ t : Nat) : Int) := by
      rw [hm, hW, Int.mul_assoc, ← Int.natCast_mul, ← Nat.pow_add, show c + 106 = t by omega]
    have hcp := p2pos c
    have htp := p2pos t
    rw [hWt, ← s2, abs_mul2, abs_mul2, ← Nat.mul_assoc] at b2
    rw [hWt, ← s3, abs_mul2, abs_mul2, ← Nat.mul_assoc] at b3
    rw [hWt, ← s4, abs_mul2, abs_mul2, ← Nat.mul_assoc] at b4
    have b2 := Nat.le_of_mul_le_mul_right b2 htp
    have b3 := Nat.le_of_mul_le_mul_right b3 htp
    have b4 := Nat.le_of_mul_le_mul_right b4 htp
    obtain ⟨K, hK⟩ : ∃ K, K = 2044 := ⟨_, rfl⟩
    obtain ⟨M, hM⟩ : ∃ M, M = 2 ^ (52 + K) := ⟨_, rfl⟩
    obtain ⟨m3, m2⟩ := max_big hK hM
    obtain ⟨M0, hM0⟩ : ∃ M0, M0 = 2 ^ (48 + K) := ⟨_, rfl⟩
    have hMM : M = 16 * M0 := by rw [hM, hM0, ← p2x16]; congr 1; omega
    have hWb : (X1 + X2 + X3 + X4).natAbs ≤ 8 * M0 := by
      rw [hW, abs_mul2] at hV2
      refine Nat.le_of_mul_le_mul_right (Nat.le_trans hV2 (Nat.le_of_eq ?_)) hcp
      rw [hM0, ← p2x8, ← Nat.pow_add]
      congr 1
      omega
    have hl1 : k1 ≤ (ux a * ux b).natAbs.log2 := (Nat.le_log2 (by omega)).2 hV1
    have hl2 : (ux a * ux b).natAbs.log2 ≤ k2 := by
      refine Nat.le_of_lt_succ ((Nat.log2_lt (by omega)).2 (Nat.lt_of_le_of_lt hV2 ?_))
      rw [p2succ]; have := p2pos k2; omega
    have P1 := F1.big fa fb (by omega) (by omega)
    have hp := P1.rn c hc
    have bp : (ux p).natAbs ≤ 8 * M0 := by
      have h1 := hp.bound hV2
      rw [abs_mul2] at h1
      refine Nat.le_of_mul_le_mul_right (Nat.le_trans h1 (Nat.le_of_eq ?_)) hcp
      rw [hM0, ← p2x8, ← Nat.pow_add]
      congr 1
      omega
    have T1 := F2.mul f1 f3 hc p1 (by omega)
    have T2 := F4.mul f1 f4 hc p2 (by omega)
    have T3 := F6.mul f2 f3 hc p3 (by omega)
    have T4 := F8.mul f2 f4 hc p4 (by omega)
    have y1 := T1.rn.ex q1
    have y2 := T2.rn.ex q2
    have y3 := T3.rn.ex q3
    have y4 := T4.rn.ex q4
    have U1 := F3.sub T1.fin P1.fin (by omega)
    have v1 := U1.rn.bound (K := 53 + K) (by rw [m2]; omega)
    rw [m2] at v1
    have n1 := U1.rn.near2 (M := M0) (by omega)
    have U2 := F5.add U1.fin T2.fin (by omega)
    have v2 := U2.rn.bound (K := 53 + K) (by rw [m2]; omega)
    rw [m2] at v2
    have n2 := U2.rn.near2 (M := M0) (by omega)
    have U3 := F7.add U2.fin T3.fin (by omega)
    have v3 := U3.rn.bound (K := 53 + K) (by rw [m2]; omega)
    rw [m2] at v3
    have n3 := U3.rn.near2 (M := M0) (by omega)
    have U4 := F9.add U3.fin T4.fin (by omega)
    -- in units that make normals
    have r0 := hp.scale (by omega) 106
    rw [Int.mul_assoc (ux p), ← Int.natCast_mul, ← Nat.pow_add, show c + 106 = t by omega, ← hm] at r0
    have r1 := U1.rn.scale (by omega) t
    rw [y1, Int.sub_mul, s1] at r1
    have r2 := U2.rn.scale (by omega) t
    rw [y2, Int.add_mul, s2] at r2
    have r3 := U3.rn.scale (by omega) t
    rw [y3, Int.add_mul, s3] at r3
    have r4 := U4.rn.scale (by omega) t
    rw [y4, Int.add_mul, s4] at r4
    have D := dekker ga.lo ga.hi gb.lo gb.hi (by rw [ga.eq, Int.sub_mul]) (by rw [gb.eq, Int.sub_mul]) ga.da gb.da ga.dh gb.dh ga.ll gb.ll ga.lh gb.lh r0 r1 r2 r3 r4
    have hD := D.1
    rw [← Int.add_mul, hWt] at hD
    have hD := Int.eq_of_mul_eq_mul_right (by omega) hD
    exact ⟨P1.fin, U4.fin, fun c' hc' => by rw [hD, hW, hc', hc], fun h => absurd h hV0, fun _ => P1⟩
end Go.Proofs.Ythjofcakkaolbaa
namespace Go.Proofs.Ythjofcakkaolbaa
open Go.RowKit Go.Shelf
set_option maxRecDepth 100000
set_option maxHeartbeats 0
theorem Sm64.little {X : Int} {s e : Nat} (h : Sm64 X s) (he : ux s + ux e = X) : 9007199254740992 * (ux e).natAbs ≤ (ux s).natAbs := by
  have h1 := h.rn.little (by omega)
  rw [show X - ux s = ux e by omega, show (2 : Nat) ^ 53 = 9007199254740992 by decide] at h1
  exact h1
theorem log2_div (v c : Nat) (h : c ≤ v.log2) (hv : v ≠ 0) : (v / 2 ^ c).log2 = v.log2 - c := by
  have h1 : 2 ^ v.log2 ≤ v := Nat.log2_self_le hv
  have h2 : v < 2 ^ (v.log2 + 1) := Nat.lt_log2_self
  have hp := p2pos c
  have h3 : 2 ^ (v.log2 - c) ≤ v / 2 ^ c := (Nat.le_div_iff_mul_le hp).2 (by rw [← Nat.pow_add]; exact Nat.le_trans (p2le (by omega)) h1)
  have h4 : v / 2 ^ c < 2 ^ (v.log2 - c + 1) := Nat.div_lt_of_lt_mul (by rw [← Nat.pow_add]; exact Nat.lt_of_lt_of_le h2 (p2le (by omega)))
  have h5 := p2pos (v.log2 - c)
  exact (Nat.log2_eq_iff (by omega)).2 ⟨h3, h4⟩
theorem cmpI_two (x y : Int) : cmpI (x * 2) (y * 2) = cmpI x y := by
  rcases Int.lt_trichotomy x y with h | h | h
  · rw [cmp_lt h, cmp_lt (by omega)]
  · subst h; unfold cmpI; simp
  · rw [cmp_gt h, cmp_gt (by omega)]
theorem rshrk {p : Option Addr} {n c : Nat} {xs : List Nat} {v : Nat} {w : World} (h : At32 w p n c xs) (hx : Nf B32 xs v) (hn : n ≤ 16384) (N : Nat) (e : Int) (he : e = (N : Int)) (hN2 : N ≤ 9223372036854775807) :
    Calls Try.prog 15 #[.slice p n c, .int .i64 e] w fun e w' => ∃ p' m' zs, e = .returned (.slice p' m' m') ∧ At32 w' p' m' m' zs ∧ Nf B32 zs (v / 2 ^ N) ∧ m' ≤ n ∧ Below w.heap.size w w' := by
  subst he; exact rshr_all h hx hn N hN2
theorem rg_up_y (v c k : Nat) (hc : c = 26) (hk : k = 25) (hl : 78 < v.log2) (cc : Int) (hcc : cc = cmpI (v : Int) (((vs 4503599627370496 (szN (v / 2 ^ c)) : Int) + (vs 4503599627370496 (szN (v / 2 ^ c) + 1) : Int)) * 2 ^ k)) : min (upB cc (szN (v / 2 ^ c))) 9218868437227405312 = rg 26 v := by
  have hv : v ≠ 0 := fun h => by rw [h] at hl; simp at hl
  have hu := log2_div v c (by omega) hv
  have hu0 : v / 2 ^ c ≠ 0 := fun h => by rw [h] at hu; simp at hu; omega
  obtain ⟨L, hL⟩ : ∃ L, L = v.log2 - 52 := ⟨_, rfl⟩
  have hL2 : (v / 2 ^ c).log2 - 52 = L - c := by omega
  have hdd : v / 2 ^ c / 2 ^ (L - c) = v / 2 ^ L := by rw [Nat.div_div_eq_div_mul, ← Nat.pow_add, show c + (L - c) = L by omega]
  obtain ⟨h1, h2, h3⟩ := sz_vs (v / 2 ^ c) hu0
  rw [hL2, hdd] at h1 h2 h3
  have e1 : (((vs 4503599627370496 (szN (v / 2 ^ c)) : Int) + (vs 4503599627370496 (szN (v / 2 ^ c) + 1) : Int)) * 2 ^ k) * 2 = (((2 * (v / 2 ^ L) + 1) * 2 ^ L : Nat) : Int) := by
    rw [h1, h2, ← Int.natCast_add, ← Nat.add_mul, show v / 2 ^ L + (v / 2 ^ L + 1) = 2 * (v / 2 ^ L) + 1 by omega]
    have h5 : 2 ^ L = 2 ^ (L - c) * 2 ^ k * 2 := by rw [← Nat.pow_add, ← Nat.pow_succ]; congr 1; omega
    have e0 : (2 : Int) ^ k = ((2 ^ k : Nat) : Int) := by rw [Int.natCast_pow]; rfl
    have e2 : ∀ x : Int, x * 2 = x * ((2 : Nat) : Int) := fun _ => rfl
    rw [e0, e2, ← Int.natCast_mul, ← Int.natCast_mul]
    generalize 2 * (v / 2 ^ L) + 1 = q
    rw [h5, ← Nat.mul_assoc, ← Nat.mul_assoc]
  have hc2 : cc = cmpI ((v : Int) * 2) (((2 * (v / 2 ^ L) + 1) * 2 ^ L : Nat) : Int) := by
    rw [hcc, ← e1, cmpI_two]
  rw [rne_cmp v L _ h3 cc hc2]
  have h4 : v / 2 ^ L ≤ rne v L := by unfold rne; omega
  have hs : szN (v / 2 ^ c) = (L - c) * 4503599627370496 + v / 2 ^ L := by unfold szN; rw [hL2, hdd]
  unfold rg
  rw [if_neg hv, ← hL, hs]
  generalize v / 2 ^ L = q at h4 ⊢
  rw [show (L - c) * 4503599627370496 + q + (rne v L - q) = (L - 26) * 4503599627370496 + rne v L by omega]
theorem rround_y {p : Option Addr} {n : Nat} {zs : List Nat} {v : Nat} {w : World} (h : At32 w p n n zs) (hx : Nf B32 zs v) (hn : n ≤ 10000) (hv : v ≠ 0) (hb0 : 80 ≤ bitsN v) (hb : bitsN v ≤ 2120) :
    Calls Try.prog 19 #[FV 9223372036854775808 53 (-1074) 971 9218868437227405312 9221120237041090561, .slice p n n, .int .i64 (-1100)] w fun en w' => en = .returned (U (rg 26 v)) ∧ Below w.heap.size w w' := by
  obtain ⟨b, hbe⟩ : ∃ b, b = bitsN v := ⟨_, rfl⟩
  have hb1 := bitsN_pos hv
  rw [← hbe] at hb hb1
  obtain ⟨c0, hc0⟩ : ∃ c, c = 26 := ⟨_, rfl⟩
  obtain ⟨k3, hk3⟩ : ∃ c, c = 25 := ⟨_, rfl⟩
  have hlog : v.log2 = b - 1 := by rw [hbe]; unfold bitsN; rw [if_neg hv]; omega
  rw [← hbe] at hb0
  have hul := log2_div v c0 (by omega) hv
  obtain ⟨s, hs⟩ : ∃ s, s = szN (v / 2 ^ c0) := ⟨_, rfl⟩
  have hub : bitsN (v / 2 ^ c0) ≤ 2099 := by unfold bitsN; split; omega; rw [hul]; omega
  have hs9 : s < 9223372036854775807 := by
    have h1 := sz_lt (v / 2 ^ c0)
    have h2 := log2_bits (v / 2 ^ c0)
    rw [hs]; unfold szN; omega
  obtain ⟨c, hc⟩ : ∃ c, c = cmpI (v : Int) ((ux s + ux (s + 1)) * 2 ^ k3) := ⟨_, rfl⟩
  have hu1 : ux s = (vs 4503599627370496 s : Int) := by rw [ux_eq, if_neg (by omega), Nat.mod_eq_of_lt (by omega)]
  have hu2 : ux (s + 1) = (vs 4503599627370496 (s + 1) : Int) := by rw [ux_eq, if_neg (by omega), Nat.mod_eq_of_lt (by omega)]
  have HCC : Hid ((c = -1 ∨ c = 0 ∨ c = 1) ∧ min (upB c s) 9218868437227405312 = rg 26 v) := by
    refine ⟨?_, ?_⟩
    · rw [hc]; unfold cmpI; split
      · exact .inl rfl
      · split
        · exact .inr (.inl rfl)
        · exact .inr (.inr rfl)
    · have := rg_up_y v c0 k3 hc0 hk3 (by omega) c (by rw [hc, hu1, hu2, hs])
      rw [← hs] at this
      exact this
  have HTW : Hid (0 < ux s + ux (s + 1) ∧ bitsN (ux s + ux (s + 1)).natAbs ≤ 100000 ∧ cmpI (v : Int) ((ux s + ux (s + 1)) * 2 ^ k3) = c) := by
    refine ⟨?_, ?_, hc.symm⟩
    · have : vs 4503599627370496 s < vs 4503599627370496 (s + 1) := vs_mono (by omega) (by omega)
      rw [hu1, hu2]
      omega
    · obtain ⟨L, hL⟩ : ∃ L, L = 2200 := ⟨_, rfl⟩
      have h1 : (ux s).natAbs < 2 ^ L := svS_lt s (a := 52) (c := 2048) (by decide) (by decide) (by decide) (by decide) (by omega)
      have h2 : (ux (s + 1)).natAbs < 2 ^ L := svS_lt (s + 1) (a := 52) (c := 2048) (by decide) (by decide) (by decide) (by decide) (by omega)
      have h3 := bits_le_of (n := (ux s + ux (s + 1)).natAbs) (k := L + 1) (by rw [p2succ]; omega)
      omega
  have n0 : ((n : Int) == 0) = false := by
    have hl := h.len
    have : n ≠ 0 := fun h0 => by
      subst h0
      have : zs = [] := List.eq_nil_of_length_eq_zero hl
      subst this
      exact hv hx.val.symm
    simp; omega
  have n1 : ¬ n = 0 := by simpa using n0
  obtain ⟨t, ht⟩ : ∃ t : Int, t = (b : Int) - 1100 := ⟨_, rfl⟩
  have w1 : wrap64 ((b : Int) + -1100) = t := by rw [ht]; simp only [wrap64]; omega
  have w1' : IntKind.i64.wrap ((b : Int) + -1100) = t := by rw [ht]; simp [IntKind.wrap, IntKind.signed, IntKind.bits]; omega
  have c1 : decide (t < -1074) = false := decide_eq_false (by omega)
  have c2 : decide (1024 < t) = false := decide_eq_false (by omega)
  have w5 : IntKind.i64.wrap (-1075) = -1075 := by decide
  have w3 : IntKind.u64.wrap ((s : Int) + 1) = ((s + 1 : Nat) : Int) := by rw [IntKind.wrap_u64]; omega
  have HK3 : Hid (k3 ≤ 5000 ∧ (-1075 : Int) = -1100 + (k3 : Int)) := ⟨by omega, by omega⟩
  have HA : Hid (At32 w p n n zs) := h
  have HX : Hid (Nf B32 zs v ∧ n ≤ 10000 ∧ b = bitsN v ∧ s = szN (v / 2 ^ c0) ∧ v ≠ 0 ∧ bitsN v ≤ 2120 ∧ s < 9223372036854775807 ∧ bitsN (v / 2 ^ c0) ≤ 2099 ∧ c0 = 26 ∧ k3 = 25) := ⟨hx, hn, hbe, hs, hv, by omega, hs9, hub, hc0, hk3⟩
  clear h hx hn hbe hs hv hb hb1 hb0 ht hs9 hc hu1 hu2 hub hul hlog hc0 hk3
  go_enter Try.func19, Try.ntmps19
  go_wp2_with fail
  obtain ⟨W0, hW0⟩ : ∃ W0, W0 = (w.alloc (.cells #[U 9223372036854775808, .int .i64 53, .int .i64 (-1074), .int .i64 971, U 9218868437227405312, U 9221120237041090561] 45)) := ⟨_, rfl⟩
  have Xk : Hid (B6q W0 (w.heap.size) (U 9223372036854775808) (.int .i64 53) (.int .i64 (-1074)) (.int .i64 971) (U 9218868437227405312) (U 9221120237041090561)) := by rw [hW0]; exact ⟨by go_simp, by go_simp, by go_simp, by go_simp, by go_simp, by go_simp, by go_simp, by go_simp, by go_simp, by go_simp, by go_simp, by go_simp⟩
  have hb0 : Below w.heap.size w W0 := by rw [hW0]; exact below1 w _
  rw [← hW0]
  clear hW0
  have hbw : Below w.heap.size w w := Below.refl _ _
  obtain ⟨gk, hgk⟩ : ∃ g, g = w.heap.size := ⟨_, rfl⟩
  have HGk : Hid (w.heap.size ≤ gk) := by rw [hgk]; show _ ≤ _; omega
  rw [← hgk] at Xk
  try rw [← hgk]
  clear hgk
  replace HA : Hid _ := HA.out.below hb0
  replace hbw := Below.on hbw hb0
  clear hb0
  refine (rbits_any HA.out HX.out.1 (by have := HX.out.2.1; omega)).mono ?_
  rintro e1 w1 ⟨rfl, hw⟩
  rw [← HX.out.2.2.1]
  obtain rfl := hw.symm
  clear hw
  obtain ⟨ck0, ck1, ck2, ck3, ck4, ck5, fk0, fk1, fk2, fk3, fk4, fk5⟩ := Xk.out
  have hnek : gk < W0.heap.size := World.block_lt_of_cell? W0 _ ck0
  go_wp2_with fail
  clear ck0 ck1 ck2 ck3 ck4 ck5 fk0 fk1 fk2 fk3 fk4 fk5 hnek
  refine (rshrk HA.out HX.out.1 (by have := HX.out.2.1; omega) c0 26 (by have := HX.out.2.2.2.2.2.2.2.2.1; omega) (by have := HX.out.2.2.2.2.2.2.2.2.1; omega)).mono ?_
  rintro e1 v5 ⟨p5, m5, z5, rfl, hA5, hN5, hm5, hb5⟩
  replace Xk : Hid _ := Xk.out.below hb5
  replace HA : Hid _ := HA.out.below hb5
  replace hbw := Below.on hbw hb5
  clear hb5
  have A5 : Hid (At32 v5 p5 m5 m5 z5) := hA5
  have N5 : Hid (Nf B32 z5 (v / 2 ^ c0) ∧ m5 ≤ 16384) := ⟨hN5, by have := HX.out.2.1; omega⟩
  clear hA5 hN5 hm5
  obtain ⟨ck0, ck1, ck2, ck3, ck4, ck5, fk0, fk1, fk2, fk3, fk4, fk5⟩ := Xk.out
  have hnek : gk < v5.heap.size := World.block_lt_of_cell? v5 _ ck0
  go_wp2_with fail
  clear ck0 ck1 ck2 ck3 ck4 ck5 fk0 fk1 fk2 fk3 fk4 fk5 hnek
  refine (rsizeN A5.out N5.out.1 N5.out.2 HX.out.2.2.2.2.2.2.2.1).mono ?_
  rintro e v6 ⟨rfl, hb6⟩
  rw [← HX.out.2.2.2.1]
  replace Xk : Hid _ := Xk.out.below hb6
  replace HA : Hid _ := HA.out.below hb6
  replace A5 : Hid _ := A5.out.below hb6
  replace hbw := Below.on hbw hb6
  clear hb6
  clear A5
  clear N5
  obtain ⟨ck0, ck1, ck2, ck3, ck4, ck5, fk0, fk1, fk2, fk3, fk4, fk5⟩ := Xk.out
  have hnek : gk < v6.heap.size := World.block_lt_of_cell? v6 _ ck0
  go_wp2_with fail
  clear ck0 ck1 ck2 ck3 ck4 ck5 fk0 fk1 fk2 fk3 fk4 fk5 hnek
  have HAu : Hid (At32 v6 p n n zs) := HA.out
  have hbu : Below v6.heap.size v6 v6 := Below.refl _ _
  clear HA
  obtain ⟨Wr, hWr⟩ : ∃ W1, W1 = v6.drew := ⟨_, rfl⟩
  have hbd : Below v6.heap.size v6 Wr := by rw [hWr]; exact bDrew1 (Below.refl _ _)
  have hbu' := Below.on hbu hbd
  clear hbu
  have hbu := hbu'
  clear hbu'
  replace Xk : Hid _ := Xk.out.below hbd
  replace hbw := Below.on hbw hbd
  clear hbd
  have HJ : Hid ((fun W' : World => W'.cell? ⟨gk, 0, none⟩ = some (U 9223372036854775808) ∧ W'.cell? ⟨gk, 1, none⟩ = some (.int .i64 53) ∧ W'.cell? ⟨gk, 2, none⟩ = some (.int .i64 (-1074)) ∧ W'.cell? ⟨gk, 3, none⟩ = some (.int .i64 971) ∧ W'.cell? ⟨gk, 4, none⟩ = some (U 9218868437227405312) ∧ W'.cell? ⟨gk, 5, none⟩ = some (U 9221120237041090561)) Wr) := ⟨Xk.out.c0, Xk.out.c1, Xk.out.c2, Xk.out.c3, Xk.out.c4, Xk.out.c5⟩
  refine wp_region_J (fun W' => W'.cell? ⟨gk, 0, none⟩ = some (U 9223372036854775808) ∧ W'.cell? ⟨gk, 1, none⟩ = some (.int .i64 53) ∧ W'.cell? ⟨gk, 2, none⟩ = some (.int .i64 (-1074)) ∧ W'.cell? ⟨gk, 3, none⟩ = some (.int .i64 971) ∧ W'.cell? ⟨gk, 4, none⟩ = some (U 9218868437227405312) ∧ W'.cell? ⟨gk, 5, none⟩ = some (U 9221120237041090561)) (by kernel_rfl) ?_
  rw [← hWr]
  clear hWr
  refine wpJ_tq 0 rfl HJ.out ?_
  refine wpJ_tq 1 rfl HJ.out ?_
  refine wpJ_tq 3 rfl HJ.out ?_
  refine wpJ_tq 4 rfl HJ.out ?_
  refine wpJ_tq 5 rfl HJ.out ?_
  obtain ⟨RQ, HRQ, HRP⟩ : ∃ RQ : Act → Act → World → Prop, Hid (∀ a1 a2 a3, (fun a0 a' W' => ∃ gtw tA kA nA tB kB nB tF kF nF, a' = ((((a0.put (some 58) (.agg #[.bool tA, .slice (some ⟨kA, 0, none⟩) nA nA])).put (some 62) (.agg #[.bool tB, .slice (some ⟨kB, 0, none⟩) nB nB])).put (some 63) (.agg #[.bool tF, .slice (some ⟨kF, 0, none⟩) nF nF])).put (some 10) (.pointer (some ⟨gtw, 0, none⟩))) ∧ Box W' gtw (.bool tF) (.slice (some ⟨kF, 0, none⟩) nF nF) ∧ B6q W' gk (U 9223372036854775808) (.int .i64 53) (.int .i64 (-1074)) (.int .i64 971) (U 9218868437227405312) (U 9221120237041090561) ∧ ZR W' tF (some ⟨kF, 0, none⟩) nF (ux s + ux (s + 1)) ∧ w.heap.size ≤ gtw ∧ gk ≠ gtw ∧ (nF ≤ 2300) ∧ Below v6.heap.size v6 W' ∧ Below w.heap.size w W') a1 a2 a3 → RQ a1 a2 a3) ∧ Hid (∀ a1 a2 a3, RQ a1 a2 a3 → (fun a0 a' W' => ∃ gtw tA kA nA tB kB nB tF kF nF, a' = ((((a0.put (some 58) (.agg #[.bool tA, .slice (some ⟨kA, 0, none⟩) nA nA])).put (some 62) (.agg #[.bool tB, .slice (some ⟨kB, 0, none⟩) nB nB])).put (some 63) (.agg #[.bool tF, .slice (some ⟨kF, 0, none⟩) nF nF])).put (some 10) (.pointer (some ⟨gtw, 0, none⟩))) ∧ Box W' gtw (.bool tF) (.slice (some ⟨kF, 0, none⟩) nF nF) ∧ B6q W' gk (U 9223372036854775808) (.int .i64 53) (.int .i64 (-1074)) (.int .i64 971) (U 9218868437227405312) (U 9221120237041090561) ∧ ZR W' tF (some ⟨kF, 0, none⟩) nF (ux s + ux (s + 1)) ∧ w.heap.size ≤ gtw ∧ gk ≠ gtw ∧ (nF ≤ 2300) ∧ Below v6.heap.size v6 W' ∧ Below w.heap.size w W') a1 a2 a3) := ⟨_, fun _ _ _ h => h, fun _ _ _ h => h⟩
  refine wpJ_cutA RQ ?_ ?_
  · intro a' Wc hrq
    obtain ⟨gtw, tA, kA, nA, tB, kB, nB, tF, kF, nF, rfl, xbQ, xk, rr, hg, hdk, hHNF, hbuc, hbc⟩ := HRP.out _ _ _ hrq
    clear hrq HRP HRQ
    clear hbw hbu HJ Xk
    have hbw := hbc
    have hbu := hbuc
    have Xtw : Hid (Box Wc gtw (.bool tF) (.slice (some ⟨kF, 0, none⟩) nF nF)) := xbQ
    have Xk : Hid (B6q Wc gk (U 9223372036854775808) (.int .i64 53) (.int .i64 (-1074)) (.int .i64 971) (U 9218868437227405312) (U 9221120237041090561)) := xk
    have RR : Hid (ZR Wc tF (some ⟨kF, 0, none⟩) nF (ux s + ux (s + 1))) := rr
    have HGtw : Hid (w.heap.size ≤ gtw) := hg
    have HDktw : Hid (gk ≠ gtw) := hdk
    have HNF : Hid (nF ≤ 2300) := hHNF
    clear xbQ xk rr hg hdk hHNF hbuc hbc
    have HA : Hid (At32 Wc p n n zs) := HAu.out.below hbu
    clear hbu HAu
    obtain ⟨ck0, ck1, ck2, ck3, ck4, ck5, fk0, fk1, fk2, fk3, fk4, fk5⟩ := Xk.out
    have hnek : gk < Wc.heap.size := World.block_lt_of_cell? Wc _ ck0
    obtain ⟨ctw0, ctw1, ftw0, ftw1⟩ := Xtw.out
    have hnetw := Xtw.out.lt
    go_wp2_with fail
    clear ck0 ck1 ck2 ck3 ck4 ck5 fk0 fk1 fk2 fk3 fk4 fk5 hnek
    clear ctw0 ctw1 ftw0 ftw1 hnetw
    obtain ⟨Wy, hWy⟩ : ∃ W1, W1 = Wc.drew := ⟨_, rfl⟩
    have hbd : Below Wc.heap.size Wc Wy := by rw [hWy]; exact bDrew1 (Below.refl _ _)
    replace Xtw : Hid _ := Xtw.out.below hbd
    replace Xk : Hid _ := Xk.out.below hbd
    replace RR : Hid _ := RR.out.below hbd
    replace HA : Hid _ := HA.out.below hbd
    replace hbw := Below.on hbw hbd
    clear hbd
    have HJ : Hid ((fun W' : World => W'.cell? ⟨gk, 2, none⟩ = some (.int .i64 (-1074)) ∧ W'.cell? ⟨gtw, 0, none⟩ = some (.bool tF) ∧ W'.cell? ⟨gtw, 1, none⟩ = some (.slice (some ⟨kF, 0, none⟩) nF nF)) Wy) := ⟨Xk.out.c2, Xtw.out.c0, Xtw.out.c1⟩
    refine wp_region_J (fun W' => W'.cell? ⟨gk, 2, none⟩ = some (.int .i64 (-1074)) ∧ W'.cell? ⟨gtw, 0, none⟩ = some (.bool tF) ∧ W'.cell? ⟨gtw, 1, none⟩ = some (.slice (some ⟨kF, 0, none⟩) nF nF)) (by kernel_rfl) ?_
    rw [← hWy]
    clear hWy
    refine wpJ_tq 0 rfl HJ.out ?_
    refine wpJ_tq 2 rfl HJ.out ?_
    refine wpJ_tq 3 rfl HJ.out ?_
    refine wpJ_tq 4 rfl HJ.out ?_
    refine wpJ_tq 5 rfl HJ.out ?_
    go_simp
    refine wpJ_tq 6 rfl HJ.out ?_
    refine wpJ_on 1 rfl fun KJ hK => ?_
    go_simp
    have hiv : iv false v = (v : Int) := rfl
    refine (rmk_any false HA.out HX.out.1 (by have := HX.out.2.1; omega)).mono ?_
    rintro e9 uM ⟨v, rfl, hv, hbM⟩
    obtain ⟨tM, kM, nM, rfl, hgM, hzM, hlM⟩ := hv
    skip
    replace Xtw : Hid _ := Xtw.out.below hbM
    replace Xk : Hid _ := Xk.out.below hbM
    replace RR : Hid _ := RR.out.below hbM
    replace HA : Hid _ := HA.out.below hbM
    replace hbw := Below.on hbw hbM
    clear hbM
    have YM : Hid (ZR uM tM (some ⟨kM, 0, none⟩) nM (iv false v)) := hzM
    have HLM : Hid (nM ≤ n) := hlM
    clear hzM hlM hgM
    rw [hiv] at YM
    clear hiv
    refine hK _ _ ⟨Xk.out.c2, Xtw.out.c0, Xtw.out.c1⟩ ?_
    clear hK
    refine wpJ_on 7 rfl fun KJ hK => ?_
    go_simp
    refine (rhold_l (k := k3) (e := -1100) (f := -1075) tM tF YM.out RR.out (by have h1 := HLM.out; have h2 := HX.out.2.1; omega) (by have := HNF.out; omega) (by have := HX.out.2.2.2.2.1; omega) HTW.out.1 (by rw [Int.natAbs_natCast]; have := HX.out.2.2.2.2.2.1; omega) HTW.out.2.1 HK3.out.1 ⟨by decide, by decide⟩ ⟨by decide, by decide⟩ HK3.out.2).mono ?_
    rintro e vH ⟨rfl, hbH⟩
    rw [HTW.out.2.2]
    replace Xtw : Hid _ := Xtw.out.below hbH
    replace Xk : Hid _ := Xk.out.below hbH
    replace RR : Hid _ := RR.out.below hbH
    replace HA : Hid _ := HA.out.below hbH
    replace YM : Hid _ := YM.out.below hbH
    replace hbw := Below.on hbw hbH
    clear hbH
    clear HJ
    have HJ : Hid ((fun W' : World => W'.cell? ⟨gk, 2, none⟩ = some (.int .i64 (-1074)) ∧ W'.cell? ⟨gtw, 0, none⟩ = some (.bool tF) ∧ W'.cell? ⟨gtw, 1, none⟩ = some (.slice (some ⟨kF, 0, none⟩) nF nF)) vH) := ⟨Xk.out.c2, Xtw.out.c0, Xtw.out.c1⟩
    refine hK _ _ HJ.out ?_
    clear hK
    refine wpJ_tq 8 rfl HJ.out ?_
    refine wpJ_done (by kernel_rfl) ?_ _
    clear HJ
    rcases HCC.out.1 with hc | hc | hc
    · rw [hc]
      have HC1 : Hid (c = -1) := hc
      clear hc
      obtain ⟨ck0, ck1, ck2, ck3, ck4, ck5, fk0, fk1, fk2, fk3, fk4, fk5⟩ := Xk.out
      have hnek : gk < vH.heap.size := World.block_lt_of_cell? vH _ ck0
      go_wp2_with fail
      clear ck0 ck1 ck2 ck3 ck4 ck5 fk0 fk1 fk2 fk3 fk4 fk5 hnek
      go_ret
      have hm := HCC.out.2
      rw [HC1.out] at hm
      have hu : upB (-1) s = s := by unfold upB; rfl
      rw [hu] at hm
      refine ⟨congrArg (fun z => Ending.returned (.int .u64 z)) ?_, hbw⟩
      rw [← hm]
      exact min_lit s
    · rw [hc]
      have HC1 : Hid (c = 0) := hc
      clear hc
      rcases Nat.mod_two_eq_zero_or_one s with hp | hp
      · have p1 : ((s : Int) % 2 == 1) = false := by rw [show (s : Int) % 2 = ((s % 2 : Nat) : Int) by omega, hp]; rfl
        have HP : Hid (s % 2 = 0) := hp
        have p2 : (s : Int) % 2 = 0 := by omega
        clear hp
        obtain ⟨ck0, ck1, ck2, ck3, ck4, ck5, fk0, fk1, fk2, fk3, fk4, fk5⟩ := Xk.out
        have hnek : gk < vH.heap.size := World.block_lt_of_cell? vH _ ck0
        go_wp2_with fail
        clear ck0 ck1 ck2 ck3 ck4 ck5 fk0 fk1 fk2 fk3 fk4 fk5 hnek
        go_ret
        have hm := HCC.out.2
        rw [HC1.out] at hm
        have hu : upB (0) s = s := by unfold upB; rw [HP.out]; rfl
        rw [hu] at hm
        refine ⟨congrArg (fun z => Ending.returned (.int .u64 z)) ?_, hbw⟩
        rw [← hm]
        exact min_lit s
      · have p1 : ((s : Int) % 2 == 1) = true := by rw [show (s : Int) % 2 = ((s % 2 : Nat) : Int) by omega, hp]; rfl
        have HP : Hid (s % 2 = 1) := hp
        have p2 : (s : Int) % 2 = 1 := by omega
        clear hp
        obtain ⟨ck0, ck1, ck2, ck3, ck4, ck5, fk0, fk1, fk2, fk3, fk4, fk5⟩ := Xk.out
        have hnek : gk < vH.heap.size := World.block_lt_of_cell? vH _ ck0
        go_wp2_with fail
        clear ck0 ck1 ck2 ck3 ck4 ck5 fk0 fk1 fk2 fk3 fk4 fk5 hnek
        go_ret
        have hm := HCC.out.2
        rw [HC1.out] at hm
        have hu : upB (0) s = s + 1 := by unfold upB; rw [HP.out]; rfl
        rw [hu] at hm
        refine ⟨congrArg (fun z => Ending.returned (.int .u64 z)) ?_, hbw⟩
        rw [← hm]
        exact min_lit1 s
    · rw [hc]
      have HC1 : Hid (c = 1) := hc
      clear hc
      obtain ⟨ck0, ck1, ck2, ck3, ck4, ck5, fk0, fk1, fk2, fk3, fk4, fk5⟩ := Xk.out
      have hnek : gk < vH.heap.size := World.block_lt_of_cell? vH _ ck0
      go_wp2_with fail
      clear ck0 ck1 ck2 ck3 ck4 ck5 fk0 fk1 fk2 fk3 fk4 fk5 hnek
      go_ret
      have hm := HCC.out.2
      rw [HC1.out] at hm
      have hu : upB (1) s = s + 1 := by unfold upB; rfl
      rw [hu] at hm
      refine ⟨congrArg (fun z => Ending.returned (.int .u64 z)) ?_, hbw⟩
      rw [← hm]
      exact min_lit1 s
  · skip
    refine wpJ_two (i := 2) (k := 8) (by kernel_rfl) rfl rfl (by kernel_rfl) (by kernel_rfl) (fun KJ hK => ?_) (fun KJ hK => ?_)
    · go_simp
      refine (rwhole_64 _).mono ?_
      rintro e9 uA ⟨v, rfl, hv, hbA⟩
      obtain ⟨tA, kA, nA, rfl, hgA, hzA, hlA⟩ := hv
      skip
      have hbu' := Below.on hbu hbA
      clear hbu
      have hbu := hbu'
      clear hbu'
      replace Xk : Hid _ := Xk.out.below hbA
      replace hbw := Below.on hbw hbA
      clear hbA
      have YA : Hid (ZR uA tA (some ⟨kA, 0, none⟩) nA (ux s)) := hzA
      have HLA : Hid (nA ≤ 2200) := hlA
      clear hzA hlA hgA
      clear HJ
      have HJ : Hid ((fun W' : World => W'.cell? ⟨gk, 0, none⟩ = some (U 9223372036854775808) ∧ W'.cell? ⟨gk, 1, none⟩ = some (.int .i64 53) ∧ W'.cell? ⟨gk, 2, none⟩ = some (.int .i64 (-1074)) ∧ W'.cell? ⟨gk, 3, none⟩ = some (.int .i64 971) ∧ W'.cell? ⟨gk, 4, none⟩ = some (U 9218868437227405312) ∧ W'.cell? ⟨gk, 5, none⟩ = some (U 9221120237041090561)) uA) := ⟨Xk.out.c0, Xk.out.c1, Xk.out.c2, Xk.out.c3, Xk.out.c4, Xk.out.c5⟩
      refine hK _ _ HJ.out ?_
      clear hK
      refine wpJ_two (i := 6) (k := 8) (by kernel_rfl) rfl rfl (by kernel_rfl) (by kernel_rfl) (fun KJ hK => ?_) (fun KJ hK => ?_)
      · go_simp
        refine (rwhole_64 _).mono ?_
        rintro e9 uB ⟨v, rfl, hv, hbB⟩
        obtain ⟨tB, kB, nB, rfl, hgB, hzB, hlB⟩ := hv
        skip
        have hbu' := Below.on hbu hbB
        clear hbu
        have hbu := hbu'
        clear hbu'
        replace Xk : Hid _ := Xk.out.below hbB
        replace YA : Hid _ := YA.out.below hbB
        replace hbw := Below.on hbw hbB
        clear hbB
        have YB : Hid (ZR uB tB (some ⟨kB, 0, none⟩) nB (ux (s + 1))) := hzB
        have HLB : Hid (nB ≤ 2200) := hlB
        clear hzB hlB hgB
        clear HJ
        have HJ : Hid ((fun W' : World => W'.cell? ⟨gk, 0, none⟩ = some (U 9223372036854775808) ∧ W'.cell? ⟨gk, 1, none⟩ = some (.int .i64 53) ∧ W'.cell? ⟨gk, 2, none⟩ = some (.int .i64 (-1074)) ∧ W'.cell? ⟨gk, 3, none⟩ = some (.int .i64 971) ∧ W'.cell? ⟨gk, 4, none⟩ = some (U 9218868437227405312) ∧ W'.cell? ⟨gk, 5, none⟩ = some (U 9221120237041090561)) uB) := ⟨Xk.out.c0, Xk.out.c1, Xk.out.c2, Xk.out.c3, Xk.out.c4, Xk.out.c5⟩
        refine hK _ _ HJ.out ?_
        clear hK
        refine wpJ_two (i := 7) (k := 8) (by kernel_rfl) rfl rfl (by kernel_rfl) (by kernel_rfl) (fun KJ hK => ?_) (fun KJ hK => ?_)
        · go_simp
          refine (radd04 tA tB YA.out YB.out (by have := HLA.out; omega) (by have := HLB.out; omega)).mono ?_
          rintro e9 uF ⟨v, rfl, hv, hbF⟩
          obtain ⟨tF, kF, nF, rfl, hgF, hzF, hlF⟩ := hv
          have HGB : Hid (uB.heap.size ≤ kF) := hgF
          have hbu' := Below.on hbu hbF
          clear hbu
          have hbu := hbu'
          clear hbu'
          replace Xk : Hid _ := Xk.out.below hbF
          replace YA : Hid _ := YA.out.below hbF
          replace YB : Hid _ := YB.out.below hbF
          replace hbw := Below.on hbw hbF
          clear hbF
          have RR : Hid (ZR uF tF (some ⟨kF, 0, none⟩) nF (ux s + ux (s + 1))) := hzF
          have HLF : Hid (nF ≤ max nA nB + 1) := hlF
          clear hzF hlF hgF
          clear YA
          clear YB
          have HNF : Hid (nF ≤ 2300) := by have h1 := HLA.out; have h2 := HLB.out; have h3 := HLF.out; show _ ≤ _; omega
          refine hK _ _ ⟨Xk.out.c0, Xk.out.c1, Xk.out.c2, Xk.out.c3, Xk.out.c4, Xk.out.c5⟩ ?_
          clear hK
          refine wpJ_on 8 rfl fun KJ hK => ?_
          go_simp
          have HDktw : Hid (gk ≠ uF.heap.size) := Nat.ne_of_lt Xk.out.lt
          have HLS : Hid (∀ v0 v1, ZR (((uF.alloc (.cells #[.bool false, .slice none 0 0] 36)).setCell ⟨uF.heap.size, 0, none⟩ v0).setCell ⟨uF.heap.size, 1, none⟩ v1) tF (some ⟨kF, 0, none⟩) nF (ux s + ux (s + 1))) := fun v0 v1 => RR.out.below (bSet (bSet (below1 _ _) _ _ _ (Nat.le_refl _)) _ _ _ (Nat.le_refl _))
          have HGU : Hid (v6.heap.size ≤ uF.heap.size) := hbu.size
          have Xtw0 : Hid (Box (uF.alloc (.cells #[.bool false, .slice none 0 0] 36)) uF.heap.size (.bool false) (.slice none 0 0)) := Box.new uF _ _ _
          have hbn : Below uF.heap.size uF (uF.alloc (.cells #[.bool false, .slice none 0 0] 36)) := below1 uF _
          generalize uF.alloc (.cells #[.bool false, .slice none 0 0] 36) = Wn at *
          have HGtw : Hid (w.heap.size ≤ uF.heap.size) := hbw.size
          have hbu' := Below.on hbu hbn
          clear hbu
          have hbu := hbu'
          clear hbu'
          replace Xk : Hid _ := Xk.out.below hbn
          replace RR : Hid _ := RR.out.below hbn
          replace hbw := Below.on hbw hbn
          clear hbn
          generalize uF.heap.size = gtw at *
          have Xtw := Xtw0
          clear Xtw0
          refine hK _ _ ⟨Xk.out.c0, Xk.out.c1, Xk.out.c2, Xk.out.c3, Xk.out.c4, Xk.out.c5⟩ ?_
          clear hK
          obtain ⟨ctw0, ctw1, ftw0, ftw1⟩ := Xtw.out
          have hnetw := Xtw.out.lt
          obtain ⟨ck0, ck1, ck2, ck3, ck4, ck5, fk0, fk1, fk2, fk3, fk4, fk5⟩ := Xk.out
          have hnek : gk < Wn.heap.size := World.block_lt_of_cell? Wn _ ck0
          have qak : gk ≠ gtw := HDktw.out
          have qbk : gtw ≠ gk := fun h => qak h.symm
          refine wpJ_on 9 rfl fun KJ hK => ?_
          go_simp
          have HJ2 : Hid ((fun W' : World => W'.cell? ⟨gk, 0, none⟩ = some (U 9223372036854775808) ∧ W'.cell? ⟨gk, 1, none⟩ = some (.int .i64 53) ∧ W'.cell? ⟨gk, 2, none⟩ = some (.int .i64 (-1074)) ∧ W'.cell? ⟨gk, 3, none⟩ = some (.int .i64 971) ∧ W'.cell? ⟨gk, 4, none⟩ = some (U 9218868437227405312) ∧ W'.cell? ⟨gk, 5, none⟩ = some (U 9221120237041090561)) ((Wn.setCell ⟨gtw, 0, none⟩ (.bool tF)).setCell ⟨gtw, 1, none⟩ (.slice (some ⟨kF, 0, none⟩) nF nF))) := ⟨by go_simp, by go_simp, by go_simp, by go_simp, by go_simp, by go_simp⟩
          have Xtw2 : Hid (Box ((Wn.setCell ⟨gtw, 0, none⟩ (.bool tF)).setCell ⟨gtw, 1, none⟩ (.slice (some ⟨kF, 0, none⟩) nF nF)) gtw (.bool tF) (.slice (some ⟨kF, 0, none⟩) nF nF)) := ⟨by go_simp, by go_simp, by go_simp, by go_simp⟩
          have Xk2 : Hid (B6q ((Wn.setCell ⟨gtw, 0, none⟩ (.bool tF)).setCell ⟨gtw, 1, none⟩ (.slice (some ⟨kF, 0, none⟩) nF nF)) gk (U 9223372036854775808) (.int .i64 53) (.int .i64 (-1074)) (.int .i64 971) (U 9218868437227405312) (U 9221120237041090561)) := ⟨by go_simp, by go_simp, by go_simp, by go_simp, by go_simp, by go_simp, by go_simp, by go_simp, by go_simp, by go_simp, by go_simp, by go_simp⟩
          have RR2 : Hid (ZR ((Wn.setCell ⟨gtw, 0, none⟩ (.bool tF)).setCell ⟨gtw, 1, none⟩ (.slice (some ⟨kF, 0, none⟩) nF nF)) tF (some ⟨kF, 0, none⟩) nF (ux s + ux (s + 1))) := HLS.out _ _
          have hbu2 : Below v6.heap.size v6 ((Wn.setCell ⟨gtw, 0, none⟩ (.bool tF)).setCell ⟨gtw, 1, none⟩ (.slice (some ⟨kF, 0, none⟩) nF nF)) := bSet (bSet hbu _ _ _ HGU.out) _ _ _ HGU.out
          have hbw2 : Below w.heap.size w ((Wn.setCell ⟨gtw, 0, none⟩ (.bool tF)).setCell ⟨gtw, 1, none⟩ (.slice (some ⟨kF, 0, none⟩) nF nF)) := bSet (bSet hbw _ _ _ HGtw.out) _ _ _ HGtw.out
          refine hK _ _ HJ2.out ?_
          clear hK HJ
          have HJ := HJ2
          clear HJ2
          refine wpJ_done (by kernel_rfl) ?_ _
          exact ⟨rfl, HRQ.out _ _ _ ⟨gtw, tA, kA, nA, tB, kB, nB, tF, kF, nF, by kernel_rfl, Xtw2.out, Xk2.out, RR2.out, HGtw.out, HDktw.out, HNF.out, hbu2, hbw2⟩⟩
        · go_simp
          have HDktw : Hid (gk ≠ uB.heap.size) := Nat.ne_of_lt Xk.out.lt
          have HGU : Hid (v6.heap.size ≤ uB.heap.size) := hbu.size
          have Xtw0 : Hid (Box (uB.alloc (.cells #[.bool false, .slice none 0 0] 36)) uB.heap.size (.bool false) (.slice none 0 0)) := Box.new uB _ _ _
          have hbn : Below uB.heap.size uB (uB.alloc (.cells #[.bool false, .slice none 0 0] 36)) := below1 uB _
          generalize uB.alloc (.cells #[.bool false, .slice none 0 0] 36) = Wn at *
          have HGtw : Hid (w.heap.size ≤ uB.heap.size) := hbw.size
          have hbu' := Below.on hbu hbn
          clear hbu
          have hbu := hbu'
          clear hbu'
          replace Xk : Hid _ := Xk.out.below hbn
          replace YA : Hid _ := YA.out.below hbn
          replace YB : Hid _ := YB.out.below hbn
          replace hbw := Below.on hbw hbn
          clear hbn
          generalize uB.heap.size = gtw at *
          have Xtw := Xtw0
          clear Xtw0
          refine hK _ _ ⟨Xk.out.c0, Xk.out.c1, Xk.out.c2, Xk.out.c3, Xk.out.c4, Xk.out.c5⟩ ?_
          clear hK
          refine wpJ_on 7 rfl fun KJ hK => ?_
          go_simp
          have HLT : Hid (gtw < Wn.heap.size) := Xtw.out.lt
          refine (radd04 tA tB YA.out YB.out (by have := HLA.out; omega) (by have := HLB.out; omega)).mono ?_
          rintro e9 uF ⟨v, rfl, hv, hbF⟩
          obtain ⟨tF, kF, nF, rfl, hgF, hzF, hlF⟩ := hv
          have HGB : Hid (Wn.heap.size ≤ kF) := hgF
          have hbu' := Below.on hbu hbF
          clear hbu
          have hbu := hbu'
          clear hbu'
          replace Xk : Hid _ := Xk.out.below hbF
          replace Xtw : Hid _ := Xtw.out.below hbF
          replace YA : Hid _ := YA.out.below hbF
          replace YB : Hid _ := YB.out.below hbF
          replace hbw := Below.on hbw hbF
          clear hbF
          have RR : Hid (ZR uF tF (some ⟨kF, 0, none⟩) nF (ux s + ux (s + 1))) := hzF
          have HLF : Hid (nF ≤ max nA nB + 1) := hlF
          clear hzF hlF hgF
          clear YA
          clear YB
          have HNF : Hid (nF ≤ 2300) := by have h1 := HLA.out; have h2 := HLB.out; have h3 := HLF.out; show _ ≤ _; omega
          have HNE : Hid (kF ≠ gtw) := by have h1 := HLT.out; have h2 := HGB.out; show _ ≠ _; omega
          refine hK _ _ ⟨Xk.out.c0, Xk.out.c1, Xk.out.c2, Xk.out.c3, Xk.out.c4, Xk.out.c5⟩ ?_
          clear hK
          obtain ⟨ctw0, ctw1, ftw0, ftw1⟩ := Xtw.out
          have hnetw := Xtw.out.lt
          obtain ⟨ck0, ck1, ck2, ck3, ck4, ck5, fk0, fk1, fk2, fk3, fk4, fk5⟩ := Xk.out
          have hnek : gk < uF.heap.size := World.block_lt_of_cell? uF _ ck0
          have qak : gk ≠ gtw := HDktw.out
          have qbk : gtw ≠ gk := fun h => qak h.symm
          refine wpJ_on 9 rfl fun KJ hK => ?_
          go_simp
          have HJ2 : Hid ((fun W' : World => W'.cell? ⟨gk, 0, none⟩ = some (U 9223372036854775808) ∧ W'.cell? ⟨gk, 1, none⟩ = some (.int .i64 53) ∧ W'.cell? ⟨gk, 2, none⟩ = some (.int .i64 (-1074)) ∧ W'.cell? ⟨gk, 3, none⟩ = some (.int .i64 971) ∧ W'.cell? ⟨gk, 4, none⟩ = some (U 9218868437227405312) ∧ W'.cell? ⟨gk, 5, none⟩ = some (U 9221120237041090561)) ((uF.setCell ⟨gtw, 0, none⟩ (.bool tF)).setCell ⟨gtw, 1, none⟩ (.slice (some ⟨kF, 0, none⟩) nF nF))) := ⟨by go_simp, by go_simp, by go_simp, by go_simp, by go_simp, by go_simp⟩
          have Xtw2 : Hid (Box ((uF.setCell ⟨gtw, 0, none⟩ (.bool tF)).setCell ⟨gtw, 1, none⟩ (.slice (some ⟨kF, 0, none⟩) nF nF)) gtw (.bool tF) (.slice (some ⟨kF, 0, none⟩) nF nF)) := ⟨by go_simp, by go_simp, by go_simp, by go_simp⟩
          have Xk2 : Hid (B6q ((uF.setCell ⟨gtw, 0, none⟩ (.bool tF)).setCell ⟨gtw, 1, none⟩ (.slice (some ⟨kF, 0, none⟩) nF nF)) gk (U 9223372036854775808) (.int .i64 53) (.int .i64 (-1074)) (.int .i64 971) (U 9218868437227405312) (U 9221120237041090561)) := ⟨by go_simp, by go_simp, by go_simp, by go_simp, by go_simp, by go_simp, by go_simp, by go_simp, by go_simp, by go_simp, by go_simp, by go_simp⟩
          have RR2 : Hid (ZR ((uF.setCell ⟨gtw, 0, none⟩ (.bool tF)).setCell ⟨gtw, 1, none⟩ (.slice (some ⟨kF, 0, none⟩) nF nF)) tF (some ⟨kF, 0, none⟩) nF (ux s + ux (s + 1))) := (RR.out.set _ _ _ HNE.out).set _ _ _ HNE.out
          have hbu2 : Below v6.heap.size v6 ((uF.setCell ⟨gtw, 0, none⟩ (.bool tF)).setCell ⟨gtw, 1, none⟩ (.slice (some ⟨kF, 0, none⟩) nF nF)) := bSet (bSet hbu _ _ _ HGU.out) _ _ _ HGU.out
          have hbw2 : Below w.heap.size w ((uF.setCell ⟨gtw, 0, none⟩ (.bool tF)).setCell ⟨gtw, 1, none⟩ (.slice (some ⟨kF, 0, none⟩) nF nF)) := bSet (bSet hbw _ _ _ HGtw.out) _ _ _ HGtw.out
          refine hK _ _ HJ2.out ?_
          clear hK HJ
          have HJ := HJ2
          clear HJ2
          refine wpJ_done (by kernel_rfl) ?_ _
          exact ⟨rfl, HRQ.out _ _ _ ⟨gtw, tA, kA, nA, tB, kB, nB, tF, kF, nF, by kernel_rfl, Xtw2.out, Xk2.out, RR2.out, HGtw.out, HDktw.out, HNF.out, hbu2, hbw2⟩⟩
      · go_simp
        have HDktw : Hid (gk ≠ uA.heap.size) := Nat.ne_of_lt Xk.out.lt
        have HGU : Hid (v6.heap.size ≤ uA.heap.size) := hbu.size
        have Xtw0 : Hid (Box (uA.alloc (.cells #[.bool false, .slice none 0 0] 36)) uA.heap.size (.bool false) (.slice none 0 0)) := Box.new uA _ _ _
        have hbn : Below uA.heap.size uA (uA.alloc (.cells #[.bool false, .slice none 0 0] 36)) := below1 uA _
        generalize uA.alloc (.cells #[.bool false, .slice none 0 0] 36) = Wn at *
        have HGtw : Hid (w.heap.size ≤ uA.heap.size) := hbw.size
        have hbu' := Below.on hbu hbn
        clear hbu
        have hbu := hbu'
        clear hbu'
        replace Xk : Hid _ := Xk.out.below hbn
        replace YA : Hid _ := YA.out.below hbn
        replace hbw := Below.on hbw hbn
        clear hbn
        generalize uA.heap.size = gtw at *
        have Xtw := Xtw0
        clear Xtw0
        refine hK _ _ ⟨Xk.out.c0, Xk.out.c1, Xk.out.c2, Xk.out.c3, Xk.out.c4, Xk.out.c5⟩ ?_
        clear hK
        refine wpJ_on 6 rfl fun KJ hK => ?_
        go_simp
        refine (rwhole_64 _).mono ?_
        rintro e9 uB ⟨v, rfl, hv, hbB⟩
        obtain ⟨tB, kB, nB, rfl, hgB, hzB, hlB⟩ := hv
        skip
        have hbu' := Below.on hbu hbB
        clear hbu
        have hbu := hbu'
        clear hbu'
        replace Xk : Hid _ := Xk.out.below hbB
        replace Xtw : Hid _ := Xtw.out.below hbB
        replace YA : Hid _ := YA.out.below hbB
        replace hbw := Below.on hbw hbB
        clear hbB
        have YB : Hid (ZR uB tB (some ⟨kB, 0, none⟩) nB (ux (s + 1))) := hzB
        have HLB : Hid (nB ≤ 2200) := hlB
        clear hzB hlB hgB
        refine hK _ _ ⟨Xk.out.c0, Xk.out.c1, Xk.out.c2, Xk.out.c3, Xk.out.c4, Xk.out.c5⟩ ?_
        clear hK
        refine wpJ_on 7 rfl fun KJ hK => ?_
        go_simp
        have HLT : Hid (gtw < uB.heap.size) := Xtw.out.lt
        refine (radd04 tA tB YA.out YB.out (by have := HLA.out; omega) (by have := HLB.out; omega)).mono ?_
        rintro e9 uF ⟨v, rfl, hv, hbF⟩
        obtain ⟨tF, kF, nF, rfl, hgF, hzF, hlF⟩ := hv
        have HGB : Hid (uB.heap.size ≤ kF) := hgF
        have hbu' := Below.on hbu hbF
        clear hbu
        have hbu := hbu'
        clear hbu'
        replace Xk : Hid _ := Xk.out.below hbF
        replace Xtw : Hid _ := Xtw.out.below hbF
        replace YA : Hid _ := YA.out.below hbF
        replace YB : Hid _ := YB.out.below hbF
        replace hbw := Below.on hbw hbF
        clear hbF
        have RR : Hid (ZR uF tF (some ⟨kF, 0, none⟩) nF (ux s + ux (s + 1))) := hzF
        have HLF : Hid (nF ≤ max nA nB + 1) := hlF
        clear hzF hlF hgF
        clear YA
        clear YB
        have HNF : Hid (nF ≤ 2300) := by have h1 := HLA.out; have h2 := HLB.out; have h3 := HLF.out; show _ ≤ _; omega
        have HNE : Hid (kF ≠ gtw) := by have h1 := HLT.out; have h2 := HGB.out; show _ ≠ _; omega
        refine hK _ _ ⟨Xk.out.c0, Xk.out.c1, Xk.out.c2, Xk.out.c3, Xk.out.c4, Xk.out.c5⟩ ?_
        clear hK
        obtain ⟨ctw0, ctw1, ftw0, ftw1⟩ := Xtw.out
        have hnetw := Xtw.out.lt
        obtain ⟨ck0, ck1, ck2, ck3, ck4, ck5, fk0, fk1, fk2, fk3, fk4, fk5⟩ := Xk.out
        have hnek : gk < uF.heap.size := World.block_lt_of_cell? uF _ ck0
        have qak : gk ≠ gtw := HDktw.out
        have qbk : gtw ≠ gk := fun h => qak h.symm
        refine wpJ_on 9 rfl fun KJ hK => ?_
        go_simp
        have HJ2 : Hid ((fun W' : World => W'.cell? ⟨gk, 0, none⟩ = some (U 9223372036854775808) ∧ W'.cell? ⟨gk, 1, none⟩ = some (.int .i64 53) ∧ W'.cell? ⟨gk, 2, none⟩ = some (.int .i64 (-1074)) ∧ W'.cell? ⟨gk, 3, none⟩ = some (.int .i64 971) ∧ W'.cell? ⟨gk, 4, none⟩ = some (U 9218868437227405312) ∧ W'.cell? ⟨gk, 5, none⟩ = some (U 9221120237041090561)) ((uF.setCell ⟨gtw, 0, none⟩ (.bool tF)).setCell ⟨gtw, 1, none⟩ (.slice (some ⟨kF, 0, none⟩) nF nF))) := ⟨by go_simp, by go_simp, by go_simp, by go_simp, by go_simp, by go_simp⟩
        have Xtw2 : Hid (Box ((uF.setCell ⟨gtw, 0, none⟩ (.bool tF)).setCell ⟨gtw, 1, none⟩ (.slice (some ⟨kF, 0, none⟩) nF nF)) gtw (.bool tF) (.slice (some ⟨kF, 0, none⟩) nF nF)) := ⟨by go_simp, by go_simp, by go_simp, by go_simp⟩
        have Xk2 : Hid (B6q ((uF.setCell ⟨gtw, 0, none⟩ (.bool tF)).setCell ⟨gtw, 1, none⟩ (.slice (some ⟨kF, 0, none⟩) nF nF)) gk (U 9223372036854775808) (.int .i64 53) (.int .i64 (-1074)) (.int .i64 971) (U 9218868437227405312) (U 9221120237041090561)) := ⟨by go_simp, by go_simp, by go_simp, by go_simp, by go_simp, by go_simp, by go_simp, by go_simp, by go_simp, by go_simp, by go_simp, by go_simp⟩
        have RR2 : Hid (ZR ((uF.setCell ⟨gtw, 0, none⟩ (.bool tF)).setCell ⟨gtw, 1, none⟩ (.slice (some ⟨kF, 0, none⟩) nF nF)) tF (some ⟨kF, 0, none⟩) nF (ux s + ux (s + 1))) := (RR.out.set _ _ _ HNE.out).set _ _ _ HNE.out
        have hbu2 : Below v6.heap.size v6 ((uF.setCell ⟨gtw, 0, none⟩ (.bool tF)).setCell ⟨gtw, 1, none⟩ (.slice (some ⟨kF, 0, none⟩) nF nF)) := bSet (bSet hbu _ _ _ HGU.out) _ _ _ HGU.out
        have hbw2 : Below w.heap.size w ((uF.setCell ⟨gtw, 0, none⟩ (.bool tF)).setCell ⟨gtw, 1, none⟩ (.slice (some ⟨kF, 0, none⟩) nF nF)) := bSet (bSet hbw _ _ _ HGtw.out) _ _ _ HGtw.out
        refine hK _ _ HJ2.out ?_
        clear hK HJ
        have HJ := HJ2
        clear HJ2
        refine wpJ_done (by kernel_rfl) ?_ _
        exact ⟨rfl, HRQ.out _ _ _ ⟨gtw, tA, kA, nA, tB, kB, nB, tF, kF, nF, by kernel_rfl, Xtw2.out, Xk2.out, RR2.out, HGtw.out, HDktw.out, HNF.out, hbu2, hbw2⟩⟩
    · go_simp
      have HDktw : Hid (gk ≠ Wr.heap.size) := Nat.ne_of_lt Xk.out.lt
      have HGU : Hid (v6.heap.size ≤ Wr.heap.size) := hbu.size
      have Xtw0 : Hid (Box (Wr.alloc (.cells #[.bool false, .slice none 0 0] 36)) Wr.heap.size (.bool false) (.slice none 0 0)) := Box.new Wr _ _ _
      have hbn : Below Wr.heap.size Wr (Wr.alloc (.cells #[.bool false, .slice none 0 0] 36)) := below1 Wr _
      generalize Wr.alloc (.cells #[.bool false, .slice none 0 0] 36) = Wn at *
      have HGtw : Hid (w.heap.size ≤ Wr.heap.size) := hbw.size
      have hbu' := Below.on hbu hbn
      clear hbu
      have hbu := hbu'
      clear hbu'
      replace Xk : Hid _ := Xk.out.below hbn
      replace hbw := Below.on hbw hbn
      clear hbn
      generalize Wr.heap.size = gtw at *
      have Xtw := Xtw0
      clear Xtw0
      refine hK _ _ ⟨Xk.out.c0, Xk.out.c1, Xk.out.c2, Xk.out.c3, Xk.out.c4, Xk.out.c5⟩ ?_
      clear hK
      refine wpJ_on 2 rfl fun KJ hK => ?_
      go_simp
      refine (rwhole_64 _).mono ?_
      rintro e9 uA ⟨v, rfl, hv, hbA⟩
      obtain ⟨tA, kA, nA, rfl, hgA, hzA, hlA⟩ := hv
      skip
      have hbu' := Below.on hbu hbA
      clear hbu
      have hbu := hbu'
      clear hbu'
      replace Xk : Hid _ := Xk.out.below hbA
      replace Xtw : Hid _ := Xtw.out.below hbA
      replace hbw := Below.on hbw hbA
      clear hbA
      have YA : Hid (ZR uA tA (some ⟨kA, 0, none⟩) nA (ux s)) := hzA
      have HLA : Hid (nA ≤ 2200) := hlA
      clear hzA hlA hgA
      refine hK _ _ ⟨Xk.out.c0, Xk.out.c1, Xk.out.c2, Xk.out.c3, Xk.out.c4, Xk.out.c5⟩ ?_
      clear hK
      refine wpJ_on 6 rfl fun KJ hK => ?_
      go_simp
      refine (rwhole_64 _).mono ?_
      rintro e9 uB ⟨v, rfl, hv, hbB⟩
      obtain ⟨tB, kB, nB, rfl, hgB, hzB, hlB⟩ := hv
      skip
      have hbu' := Below.on hbu hbB
      clear hbu
      have hbu := hbu'
      clear hbu'
      replace Xk : Hid _ := Xk.out.below hbB
      replace Xtw : Hid _ := Xtw.out.below hbB
      replace YA : Hid _ := YA.out.below hbB
      replace hbw := Below.on hbw hbB
      clear hbB
      have YB : Hid (ZR uB tB (some ⟨kB, 0, none⟩) nB (ux (s + 1))) := hzB
      have HLB : Hid (nB ≤ 2200) := hlB
      clear hzB hlB hgB
      refine hK _ _ ⟨Xk.out.c0, Xk.out.c1, Xk.out.c2, Xk.out.c3, Xk.out.c4, Xk.out.c5⟩ ?_
      clear hK
      refine wpJ_on 7 rfl fun KJ hK => ?_
      go_simp
      have HLT : Hid (gtw < uB.heap.size) := Xtw.out.lt
      refine (radd04 tA tB YA.out YB.out (by have := HLA.out; omega) (by have := HLB.out; omega)).mono ?_
      rintro e9 uF ⟨v, rfl, hv, hbF⟩
      obtain ⟨tF, kF, nF, rfl, hgF, hzF, hlF⟩ := hv
      have HGB : Hid (uB.heap.size ≤ kF) := hgF
      have hbu' := Below.on hbu hbF
      clear hbu
      have hbu := hbu'
      clear hbu'
      replace Xk : Hid _ := Xk.out.below hbF
      replace Xtw : Hid _ := Xtw.out.below hbF
      replace YA : Hid _ := YA.out.below hbF
      replace YB : Hid _ := YB.out.below hbF
      replace hbw := Below.on hbw hbF
      clear hbF
      have RR : Hid (ZR uF tF (some ⟨kF, 0, none⟩) nF (ux s + ux (s + 1))) := hzF
      have HLF : Hid (nF ≤ max nA nB + 1) := hlF
      clear hzF hlF hgF
      clear YA
      clear YB
      have HNF : Hid (nF ≤ 2300) := by have h1 := HLA.out; have h2 := HLB.out; have h3 := HLF.out; show _ ≤ _; omega
      have HNE : Hid (kF ≠ gtw) := by have h1 := HLT.out; have h2 := HGB.out; show _ ≠ _; omega
      refine hK _ _ ⟨Xk.out.c0, Xk.out.c1, Xk.out.c2, Xk.out.c3, Xk.out.c4, Xk.out.c5⟩ ?_
      clear hK
      obtain ⟨ctw0, ctw1, ftw0, ftw1⟩ := Xtw.out
      have hnetw := Xtw.out.lt
      obtain ⟨ck0, ck1, ck2, ck3, ck4, ck5, fk0, fk1, fk2, fk3, fk4, fk5⟩ := Xk.out
      have hnek : gk < uF.heap.size := World.block_lt_of_cell? uF _ ck0
      have qak : gk ≠ gtw := HDktw.out
      have qbk : gtw ≠ gk := fun h => qak h.symm
      refine wpJ_on 9 rfl fun KJ hK => ?_
      go_simp
      have HJ2 : Hid ((fun W' : World => W'.cell? ⟨gk, 0, none⟩ = some (U 9223372036854775808) ∧ W'.cell? ⟨gk, 1, none⟩ = some (.int .i64 53) ∧ W'.cell? ⟨gk, 2, none⟩ = some (.int .i64 (-1074)) ∧ W'.cell? ⟨gk, 3, none⟩ = some (.int .i64 971) ∧ W'.cell? ⟨gk, 4, none⟩ = some (U 9218868437227405312) ∧ W'.cell? ⟨gk, 5, none⟩ = some (U 9221120237041090561)) ((uF.setCell ⟨gtw, 0, none⟩ (.bool tF)).setCell ⟨gtw, 1, none⟩ (.slice (some ⟨kF, 0, none⟩) nF nF))) := ⟨by go_simp, by go_simp, by go_simp, by go_simp, by go_simp, by go_simp⟩
      have Xtw2 : Hid (Box ((uF.setCell ⟨gtw, 0, none⟩ (.bool tF)).setCell ⟨gtw, 1, none⟩ (.slice (some ⟨kF, 0, none⟩) nF nF)) gtw (.bool tF) (.slice (some ⟨kF, 0, none⟩) nF nF)) := ⟨by go_simp, by go_simp, by go_simp, by go_simp⟩
      have Xk2 : Hid (B6q ((uF.setCell ⟨gtw, 0, none⟩ (.bool tF)).setCell ⟨gtw, 1, none⟩ (.slice (some ⟨kF, 0, none⟩) nF nF)) gk (U 9223372036854775808) (.int .i64 53) (.int .i64 (-1074)) (.int .i64 971) (U 9218868437227405312) (U 9221120237041090561)) := ⟨by go_simp, by go_simp, by go_simp, by go_simp, by go_simp, by go_simp, by go_simp, by go_simp, by go_simp, by go_simp, by go_simp, by go_simp⟩
      have RR2 : Hid (ZR ((uF.setCell ⟨gtw, 0, none⟩ (.bool tF)).setCell ⟨gtw, 1, none⟩ (.slice (some ⟨kF, 0, none⟩) nF nF)) tF (some ⟨kF, 0, none⟩) nF (ux s + ux (s + 1))) := (RR.out.set _ _ _ HNE.out).set _ _ _ HNE.out
      have hbu2 : Below v6.heap.size v6 ((uF.setCell ⟨gtw, 0, none⟩ (.bool tF)).setCell ⟨gtw, 1, none⟩ (.slice (some ⟨kF, 0, none⟩) nF nF)) := bSet (bSet hbu _ _ _ HGU.out) _ _ _ HGU.out
      have hbw2 : Below w.heap.size w ((uF.setCell ⟨gtw, 0, none⟩ (.bool tF)).setCell ⟨gtw, 1, none⟩ (.slice (some ⟨kF, 0, none⟩) nF nF)) := bSet (bSet hbw _ _ _ HGtw.out) _ _ _ HGtw.out
      refine hK _ _ HJ2.out ?_
      clear hK HJ
      have HJ := HJ2
      clear HJ2
      refine wpJ_done (by kernel_rfl) ?_ _
      exact ⟨rfl, HRQ.out _ _ _ ⟨gtw, tA, kA, nA, tB, kB, nB, tF, kF, nF, by kernel_rfl, Xtw2.out, Xk2.out, RR2.out, HGtw.out, HDktw.out, HNF.out, hbu2, hbw2⟩⟩
theorem rn_shr {w : World} {p : Option Addr} {m a : Nat} (h : RN w p m a) (N : Nat) (e : Int) (he : e = (N : Int)) (hN : N ≤ 100000) : Calls Try.prog 15 #[.slice p m m, .int .i64 e] w fun e w' => RNs w w' e (a / 2 ^ N) := by
  obtain ⟨⟨zs, h1, h2⟩, h3⟩ := h
  refine (rshrk h1 h2 (by omega) N e he (by omega)).mono ?_
  rintro e w' ⟨p', m', z, rfl, g1, g2, g3, hb2⟩
  exact ⟨_, _, rfl, ⟨⟨z, g1, g2⟩, by omega⟩, hb2⟩
theorem rn_bits {w : World} {p : Option Addr} {m a : Nat} (h : RN w p m a) : Calls Try.prog 13 #[.slice p m m] w fun e w' => e = .returned (.int .i64 (bitsN a)) ∧ w' = w := by
  obtain ⟨⟨zs, h1, h2⟩, h3⟩ := h
  exact rbits_any h1 h2 (by omega)
def atnN (k : Nat) : Nat → Nat → Nat → Nat → Nat → Nat × Nat × Nat
  | 0, n, _, p, m => (p, m, n)
  | f + 1, n, t, p, m => bif Nat.beq t 0 then (p, m, n) else bif Nat.beq (n % 2) 0 then atnN k f (n + 1) (t / k / k) (p + t / (2 * n + 1)) m else atnN k f (n + 1) (t / k / k) p (m + t / (2 * n + 1))
def atn0 (k q : Nat) : Nat × Nat × Nat := atnN k q 0 (2 ^ q / k) 0 0
theorem atnN_zero (k f n p m : Nat) : atnN k f n 0 p m = (p, m, n) := by cases f <;> rfl
theorem atnN_even (k f n t p m : Nat) (h : t ≠ 0) (hn : n % 2 = 0) : atnN k (f + 1) n t p m = atnN k f (n + 1) (t / k / k) (p + t / (2 * n + 1)) m := by
  show (bif Nat.beq t 0 then _ else bif Nat.beq (n % 2) 0 then _ else _) = _
  rw [show Nat.beq t 0 = false by cases t with | zero => exact absurd rfl h | succ n => rfl, hn]
  rfl
theorem atnN_odd (k f n t p m : Nat) (h : t ≠ 0) (hn : n % 2 = 1) : atnN k (f + 1) n t p m = atnN k f (n + 1) (t / k / k) p (m + t / (2 * n + 1)) := by
  show (bif Nat.beq t 0 then _ else bif Nat.beq (n % 2) 0 then _ else _) = _
  rw [show Nat.beq t 0 = false by cases t with | zero => exact absurd rfl h | succ n => rfl, hn]
  rfl
theorem at_next {t k g : Nat} (hk : 2 ≤ k) (h : t < 2 ^ (g + 1)) : t / k / k < 2 ^ g := by
  have h1 : t / k ≤ t / 2 := Nat.div_le_div_left hk (by decide)
  have h2 : t / k / k ≤ t / k := Nat.div_le_self _ _
  rw [Nat.pow_succ] at h
  omega
theorem at_b {t p n q g : Nat} (h1 : t < 2 ^ (g + 1)) (h2 : n + (g + 1) = q) (h3 : p ≤ n * 2 ^ q) : p + t / (2 * n + 1) ≤ (n + 1) * 2 ^ q := by
  have h4 : t / (2 * n + 1) ≤ t := Nat.div_le_self _ _
  have h5 : t < 2 ^ q := Nat.lt_of_lt_of_le h1 (Nat.pow_le_pow_right (by decide) (by omega))
  rw [show (n + 1) * 2 ^ q = n * 2 ^ q + 2 ^ q from Nat.succ_mul n _]
  generalize t / (2 * n + 1) = z at *
  omega
theorem at_k {p n q : Nat} (h : p ≤ n * 2 ^ q) (hn : n ≤ 1300) : p < 2 ^ (q + 20) := by
  have hp := Nat.two_pow_pos q
  have h4 : n * 2 ^ q ≤ 1300 * 2 ^ q := Nat.mul_le_mul_right _ hn
  rw [Nat.pow_add, show (2 : Nat) ^ 20 = 1048576 by decide]
  generalize 2 ^ q = X at *
  omega
theorem at_start {q k : Nat} (hk : 2 ≤ k) : 2 ^ q / k < 2 ^ q := Nat.div_lt_self (Nat.two_pow_pos q) (by omega)
theorem kn1 {n : Nat} (hb : n ≤ 1300) : wrap64 ((n : Int) + 1) = ((n + 1 : Nat) : Int) := by simp only [wrap64]; omega
theorem atan_ok (k q : Nat) (hk : 2 ≤ k) (hk2 : k ≤ 60000) (hq : q ≤ 1300) (hle : (atn0 k q).2.1 ≤ (atn0 k q).1) {w : World} : Calls Try.prog 21 #[.int .u32 k, .int .i64 q] w fun en w' => ∃ p m, en = .returned (.tuple #[.slice p m m, .int .i64 ((atn0 k q).2.2 : Nat)]) ∧ RN w' p m ((atn0 k q).1 - (atn0 k q).2.1) ∧ Below w.heap.size w w' := by
  have HK : Hid (2 ≤ k ∧ k ≤ 60000 ∧ q ≤ 1300 ∧ (atn0 k q).2.1 ≤ (atn0 k q).1) := ⟨hk, hk2, hq, hle⟩
  clear hk hk2 hq hle
  go_enter Try.func21, Try.ntmps21
  go_wp2_with fail
  have hbw : Below w.heap.size w w := Below.refl _ _
  refine (rn_pow2 q (by have := HK.out; omega)).mono ?_
  rintro e v1 ⟨p1, m1, rfl, hR, hb1⟩
  have RN1 : Hid (RN v1 p1 m1 (2 ^ q)) := hR
  clear hR
  replace hbw := Below.on hbw hb1
  clear hb1
  go_wp2_with fail
  refine (rn_divs RN1.out k (by have := HK.out; omega) (by have := HK.out; show k < 4294967296; omega)).mono ?_
  rintro e v2 ⟨p2, m2, r2, rfl, hR, hb2⟩
  have RN2 : Hid (RN v2 p2 m2 (2 ^ q / k)) := hR
  clear hR
  replace RN1 : Hid (RN v2 p1 m1 (2 ^ q)) := RN1.out.below hb2
  replace hbw := Below.on hbw hb2
  clear hb2
  clear RN1
  go_wp2_with fail
  refine (rn_word 0 (by decide)).mono ?_
  rintro e v3 ⟨p3, m3, rfl, hR, hb3⟩
  have RN3 : Hid (RN v3 p3 m3 (0)) := hR
  clear hR
  replace RN2 : Hid (RN v3 p2 m2 (2 ^ q / k)) := RN2.out.below hb3
  replace hbw := Below.on hbw hb3
  clear hb3
  go_wp2_with fail
  refine (rn_word 0 (by decide)).mono ?_
  rintro e v4 ⟨p4, m4, rfl, hR, hb4⟩
  have RN4 : Hid (RN v4 p4 m4 (0)) := hR
  clear hR
  replace RN2 : Hid (RN v4 p2 m2 (2 ^ q / k)) := RN2.out.below hb4
  replace RN3 : Hid (RN v4 p3 m3 (0)) := RN3.out.below hb4
  replace hbw := Below.on hbw hb4
  clear hb4
  go_wp2_with fail
  go_loopg [6, 8, 9, 10, 11] q (fun gk tv pv mv nv iv wr => ∃ (n t x y : Nat) (p1 p2 p3 : Option Addr) (a b c : Nat), n + gk = q ∧ tv = .slice p1 a a ∧ pv = .slice p2 b b ∧ mv = .slice p3 c c ∧ nv = .int .i64 n ∧ iv = .int .u32 ((2 * n + 1 : Nat) : Int) ∧ RN wr p1 a t ∧ RN wr p2 b x ∧ RN wr p3 c y ∧ atnN k gk n t x y = atn0 k q ∧ t < 2 ^ gk ∧ x ≤ n * 2 ^ q ∧ y ≤ n * 2 ^ q ∧ Below w.heap.size w wr)
  case atStart => exact ⟨0, 2 ^ q / k, 0, 0, p2, p3, p4, m2, m3, m4, by omega, rfl, rfl, rfl, rfl, rfl, RN2.out, RN3.out, RN4.out, rfl, at_start HK.out.1, Nat.zero_le _, Nat.zero_le _, hbw⟩
  case round =>
    obtain ⟨n, t, x, y, p1, p2, p3, a, b, c, hig, rfl, rfl, rfl, rfl, rfl, xt, xp, xm, har, htb, hxb, hyb, hbr⟩ := hrel
    clear RN2 RN3 RN4 hbw
    have RNt : Hid (RN wr p1 a t) := xt
    have RNp : Hid (RN wr p2 b x) := xp
    have RNm : Hid (RN wr p3 c y) := xm
    have hbw := hbr
    have hz := xt.zero
    clear xt xp xm hbr
    by_cases ht : t = 0
    · obtain rfl : a = 0 := hz.2 ht
      subst ht
      rw [atnN_zero] at har
      have HF : Hid (atn0 k q = (x, y, n)) := har.symm
      clear RNt hz har htb hig hxb hyb
      go_wp2_with fail
      refine (rn_sub RNp.out RNm.out (by have h1 := HK.out.2.2.2; rw [HF.out] at h1; exact h1)).mono ?_
      rintro e v20 ⟨p20, m20, rfl, hR, hb20⟩
      have RN20 : Hid (RN v20 p20 m20 (x - y)) := hR
      clear hR
      replace RNp : Hid (RN v20 p2 b x) := RNp.out.below hb20
      replace RNm : Hid (RN v20 p3 c y) := RNm.out.below hb20
      replace hbw := Below.on hbw hb20
      clear hb20
      go_wp2_with fail
      go_ret2
      rw [HF.out]
      exact ⟨_, _, rfl, RN20.out, hbw⟩
    · cases gk with
      | zero => rw [Nat.pow_zero] at htb; omega
      | succ g =>
        have ha1 : (0 : Int) < (a : Int) := by have : a ≠ 0 := fun e => ht (hz.1 e); omega
        have hn9 := HK.out
        have hn13 : n ≤ 1300 := by omega
        obtain ⟨i2, hi2⟩ : ∃ i, i = 2 * n + 1 := ⟨_, rfl⟩
        obtain ⟨i3, hi3⟩ : ∃ i, i = 2 * (n + 1) + 1 := ⟨_, rfl⟩
        rw [← hi2]
        have HT : Hid (n + (g + 1) = q ∧ t < 2 ^ (g + 1) ∧ x ≤ n * 2 ^ q ∧ y ≤ n * 2 ^ q ∧ n ≤ 1300 ∧ i2 = 2 * n + 1 ∧ i3 = 2 * (n + 1) + 1 ∧ t ≠ 0) := ⟨hig, htb, hxb, hyb, hn13, hi2, hi3, ht⟩
        have HR : Hid (atnN k (g + 1) n t x y = atn0 k q) := har
        have KQ : Hid (IntKind.u32.wrap ((i2 : Int) + 2) = (i3 : Int)) := by show IntKind.u32.wrap _ = _; rw [IntKind.wrap_u32]; omega
        have hm4 : i2 % 4 = 1 ∨ i2 % 4 = 3 := by omega
        have HM4 : Hid (i2 % 4 = 1 → n % 2 = 0) := by show _ → _; omega
        have HM5 : Hid (i2 % 4 = 3 → n % 2 = 1) := by show _ → _; omega
        clear hz htb hxb hyb hig har hn9 hn13 hi2 hi3 ht
        go_wp2_with fail
        refine (rn_divs RNt.out i2 (by have := HT.out.2.2.2.2.2.1; omega) (by have := HT.out.2.2.2.2; show i2 < 4294967296; omega)).mono ?_
        rintro e v21 ⟨p21, m21, r21, rfl, hR, hb21⟩
        have RN21 : Hid (RN v21 p21 m21 (t / i2)) := hR
        clear hR
        replace RNt : Hid (RN v21 p1 a t) := RNt.out.below hb21
        replace RNp : Hid (RN v21 p2 b x) := RNp.out.below hb21
        replace RNm : Hid (RN v21 p3 c y) := RNm.out.below hb21
        replace hbw := Below.on hbw hb21
        clear hb21
        rcases hm4 with hm | hm
        · have h4 : (i2 : Int) % 4 = 1 := by omega
          have h5 : IntKind.u32.wrap (i2 : Int) = (i2 : Int) := by rw [IntKind.wrap_u32]; have := HT.out.2.2.2.2; omega
          have HMM : Hid (n % 2 = 0) := HM4.out hm
          clear hm
          go_wp2_with fail
          refine (rn_add RNp.out RN21.out (K := q + 20) (by have := HK.out; omega) (at_k (n := n + 1) (by have h1 := HT.out; rw [h1.2.2.2.2.2.1]; exact at_b h1.2.1 h1.1 h1.2.2.1) (by have h1 := HT.out; have h2 := HK.out; omega))).mono ?_
          rintro e v22 ⟨p22, m22, rfl, hR, hb22⟩
          have RN22 : Hid (RN v22 p22 m22 (x + t / i2)) := hR
          clear hR
          replace RNt : Hid (RN v22 p1 a t) := RNt.out.below hb22
          replace RNp : Hid (RN v22 p2 b x) := RNp.out.below hb22
          replace RNm : Hid (RN v22 p3 c y) := RNm.out.below hb22
          replace RN21 : Hid (RN v22 p21 m21 (t / i2)) := RN21.out.below hb22
          replace hbw := Below.on hbw hb22
          clear hb22
          go_wp2_with fail
          refine (rn_divs RNt.out k (by have := HK.out; omega) (by have := HK.out; show k < 4294967296; omega)).mono ?_
          rintro e v23 ⟨p23, m23, r23, rfl, hR, hb23⟩
          have RN23 : Hid (RN v23 p23 m23 (t / k)) := hR
          clear hR
          replace RNt : Hid (RN v23 p1 a t) := RNt.out.below hb23
          replace RNp : Hid (RN v23 p2 b x) := RNp.out.below hb23
          replace RNm : Hid (RN v23 p3 c y) := RNm.out.below hb23
          replace RN21 : Hid (RN v23 p21 m21 (t / i2)) := RN21.out.below hb23
          replace RN22 : Hid (RN v23 p22 m22 (x + t / i2)) := RN22.out.below hb23
          replace hbw := Below.on hbw hb23
          clear hb23
          go_wp2_with fail
          refine (rn_divs RN23.out k (by have := HK.out; omega) (by have := HK.out; show k < 4294967296; omega)).mono ?_
          rintro e v24 ⟨p24, m24, r24, rfl, hR, hb24⟩
          have RN24 : Hid (RN v24 p24 m24 (t / k / k)) := hR
          clear hR
          replace RNt : Hid (RN v24 p1 a t) := RNt.out.below hb24
          replace RNp : Hid (RN v24 p2 b x) := RNp.out.below hb24
          replace RNm : Hid (RN v24 p3 c y) := RNm.out.below hb24
          replace RN21 : Hid (RN v24 p21 m21 (t / i2)) := RN21.out.below hb24
          replace RN22 : Hid (RN v24 p22 m22 (x + t / i2)) := RN22.out.below hb24
          replace RN23 : Hid (RN v24 p23 m23 (t / k)) := RN23.out.below hb24
          replace hbw := Below.on hbw hb24
          clear hb24
          have kq := KQ.out
          go_wp2_with fail
          clear kq h4 h5
          go_roundg g
          case measure => omega
          case rel =>
            have h1 := HT.out
            have h6 := h1.2.2.2.2.2.1
            rw [h6] at RN22
            refine ⟨n + 1, t / k / k, x + t / (2 * n + 1), y, p24, p22, p3, m24, m22, c, by omega, rfl, rfl, rfl, congrArg (Value.int .i64) (kn1 h1.2.2.2.2.1), congrArg (Value.int .u32) (by rw [h1.2.2.2.2.2.2.1]), RN24.out, RN22.out, RNm.out, ?_, at_next HK.out.1 h1.2.1, at_b h1.2.1 h1.1 h1.2.2.1, Nat.le_trans h1.2.2.2.1 (Nat.mul_le_mul_right _ (by omega)), hbw⟩
            rw [← atnN_even k g n t x y h1.2.2.2.2.2.2.2 HMM.out]
            exact HR.out
        · have h4 : (i2 : Int) % 4 = 3 := by omega
          have h5 : IntKind.u32.wrap (i2 : Int) = (i2 : Int) := by rw [IntKind.wrap_u32]; have := HT.out.2.2.2.2; omega
          have HMM : Hid (n % 2 = 1) := HM5.out hm
          clear hm
          go_wp2_with fail
          refine (rn_add RNm.out RN21.out (K := q + 20) (by have := HK.out; omega) (at_k (n := n + 1) (by have h1 := HT.out; rw [h1.2.2.2.2.2.1]; exact at_b h1.2.1 h1.1 h1.2.2.2.1) (by have h1 := HT.out; have h2 := HK.out; omega))).mono ?_
          rintro e v22 ⟨p22, m22, rfl, hR, hb22⟩
          have RN22 : Hid (RN v22 p22 m22 (y + t / i2)) := hR
          clear hR
          replace RNt : Hid (RN v22 p1 a t) := RNt.out.below hb22
          replace RNp : Hid (RN v22 p2 b x) := RNp.out.below hb22
          replace RNm : Hid (RN v22 p3 c y) := RNm.out.below hb22
          replace RN21 : Hid (RN v22 p21 m21 (t / i2)) := RN21.out.below hb22
          replace hbw := Below.on hbw hb22
          clear hb22
          go_wp2_with fail
          refine (rn_divs RNt.out k (by have := HK.out; omega) (by have := HK.out; show k < 4294967296; omega)).mono ?_
          rintro e v23 ⟨p23, m23, r23, rfl, hR, hb23⟩
          have RN23 : Hid (RN v23 p23 m23 (t / k)) := hR
          clear hR
          replace RNt : Hid (RN v23 p1 a t) := RNt.out.below hb23
          replace RNp : Hid (RN v23 p2 b x) := RNp.out.below hb23
          replace RNm : Hid (RN v23 p3 c y) := RNm.out.below hb23
          replace RN21 : Hid (RN v23 p21 m21 (t / i2)) := RN21.out.below hb23
          replace RN22 : Hid (RN v23 p22 m22 (y + t / i2)) := RN22.out.below hb23
          replace hbw := Below.on hbw hb23
          clear hb23
          go_wp2_with fail
          refine (rn_divs RN23.out k (by have := HK.out; omega) (by have := HK.out; show k < 4294967296; omega)).mono ?_
          rintro e v24 ⟨p24, m24, r24, rfl, hR, hb24⟩
          have RN24 : Hid (RN v24 p24 m24 (t / k / k)) := hR
          clear hR
          replace RNt : Hid (RN v24 p1 a t) := RNt.out.below hb24
          replace RNp : Hid (RN v24 p2 b x) := RNp.out.below hb24
          replace RNm : Hid (RN v24 p3 c y) := RNm.out.below hb24
          replace RN21 : Hid (RN v24 p21 m21 (t / i2)) := RN21.out.below hb24
          replace RN22 : Hid (RN v24 p22 m22 (y + t / i2)) := RN22.out.below hb24
          replace RN23 : Hid (RN v24 p23 m23 (t / k)) := RN23.out.below hb24
          replace hbw := Below.on hbw hb24
          clear hb24
          have kq := KQ.out
          go_wp2_with fail
          clear kq h4 h5
          go_roundg g
          case measure => omega
          case rel =>
            have h1 := HT.out
            have h6 := h1.2.2.2.2.2.1
            rw [h6] at RN22
            refine ⟨n + 1, t / k / k, x, y + t / (2 * n + 1), p24, p2, p22, m24, b, m22, by omega, rfl, rfl, rfl, congrArg (Value.int .i64) (kn1 h1.2.2.2.2.1), congrArg (Value.int .u32) (by rw [h1.2.2.2.2.2.2.1]), RN24.out, RNp.out, RN22.out, ?_, at_next HK.out.1 h1.2.1, Nat.le_trans h1.2.2.1 (Nat.mul_le_mul_right _ (by omega)), at_b h1.2.1 h1.1 h1.2.2.2.1, hbw⟩
            rw [← atnN_odd k g n t x y h1.2.2.2.2.2.2.2 HMM.out]
            exact HR.out
end Go.Proofs.Ythjofcakkaolbaa
namespace Go.Proofs.Ythjofcakkaolbaa
open Go.RowKit
set_option maxRecDepth 100000
set_option maxHeartbeats 0
variable {P : Program} {md : Region.Mode} {ops : Array Oper} {Q : Exit → Act → World → Prop} {J : World → Prop} {L : Nat}
end Go.Proofs.Ythjofcakkaolbaa
namespace Go.Proofs.Ythjofcakkaolbaa
open Go.RowKit Go.Shelf
set_option maxRecDepth 100000
set_option maxHeartbeats 0
def A18 : Nat := (atn0 18 1163).1 - (atn0 18 1163).2.1
def A57 : Nat := (atn0 57 1163).1 - (atn0 57 1163).2.1
def A239 : Nat := (atn0 239 1163).1 - (atn0 239 1163).2.1
def HPI : Nat := 21336103401216864732494873877860887074878644244262192600537543536522469116407164677643384979800499391745914015430543377375495338955933559236967498859935331399822670913818119514166565069352943561495785284137872731605974607229729099129678380164551653562960096085052573272551291733766806739544544311320774934910808050880200775075360876
theorem at18_f : (atn0 18 1163).2.1 ≤ (atn0 18 1163).1 ∧ (atn0 18 1163).2.2 = 139 ∧ A18 < 2 ^ 1200 := by decide +kernel
theorem at18_ok {w : World} : Calls Try.prog 21 #[.int .u32 18, .int .i64 1163] w fun en w' => ∃ p m, en = .returned (.tuple #[.slice p m m, .int .i64 139]) ∧ RN w' p m A18 ∧ Below w.heap.size w w' := by
  refine (atan_ok 18 1163 (by decide) (by decide) (by decide) at18_f.1).mono ?_
  rintro e w' ⟨p, m, rfl, h1, h2⟩
  rw [at18_f.2.1]
  exact ⟨_, _, rfl, h1, h2⟩
theorem at57_f : (atn0 57 1163).2.1 ≤ (atn0 57 1163).1 ∧ (atn0 57 1163).2.2 = 100 ∧ A57 < 2 ^ 1200 := by decide +kernel
theorem at57_ok {w : World} : Calls Try.prog 21 #[.int .u32 57, .int .i64 1163] w fun en w' => ∃ p m, en = .returned (.tuple #[.slice p m m, .int .i64 100]) ∧ RN w' p m A57 ∧ Below w.heap.size w w' := by
  refine (atan_ok 57 1163 (by decide) (by decide) (by decide) at57_f.1).mono ?_
  rintro e w' ⟨p, m, rfl, h1, h2⟩
  rw [at57_f.2.1]
  exact ⟨_, _, rfl, h1, h2⟩
theorem at239_f : (atn0 239 1163).2.1 ≤ (atn0 239 1163).1 ∧ (atn0 239 1163).2.2 = 74 ∧ A239 < 2 ^ 1200 := by decide +kernel
theorem at239_ok {w : World} : Calls Try.prog 21 #[.int .u32 239, .int .i64 1163] w fun en w' => ∃ p m, en = .returned (.tuple #[.slice p m m, .int .i64 74]) ∧ RN w' p m A239 ∧ Below w.heap.size w w' := by
  refine (atan_ok 239 1163 (by decide) (by decide) (by decide) at239_f.1).mono ?_
  rintro e w' ⟨p, m, rfl, h1, h2⟩
  rw [at239_f.2.1]
  exact ⟨_, _, rfl, h1, h2⟩
theorem pi_f : A239 * 20 ≤ A18 * 48 + A57 * 32 ∧ 46208 ≤ A18 * 48 + A57 * 32 - A239 * 20 ∧ (A18 * 48 + A57 * 32 - A239 * 20 - 46208) / 2 ^ 64 = HPI ∧ (A18 * 48 + A57 * 32 - A239 * 20 + 46208) / 2 ^ 64 = HPI := by decide +kernel
theorem p12 {x k c : Nat} (h : x < 2 ^ k) (hc : c ≤ 64) : x * c < 2 ^ (k + 10) := by
  have hp := Nat.two_pow_pos k
  rw [Nat.pow_add, show (2 : Nat) ^ 10 = 1024 by decide]
  refine Nat.lt_of_le_of_lt (Nat.mul_le_mul (Nat.le_of_lt h) hc) ?_
  generalize 2 ^ k = X at *
  omega
theorem p13 {x y k : Nat} (h : x < 2 ^ (k + 10)) (g : y < 2 ^ (k + 10)) : x + y < 2 ^ (k + 20) := by
  rw [show k + 20 = k + 10 + 10 by omega, Nat.pow_add _ (k + 10) 10, show (2 : Nat) ^ 10 = 1024 by decide]
  generalize 2 ^ (k + 10) = X at *
  omega
theorem p14 {x y k : Nat} (h : x < 2 ^ (k + 20)) : x - y + 46208 < 2 ^ (k + 30) := by
  have h2 := Nat.two_pow_pos k
  have h3 : 1048576 ≤ 2 ^ (k + 20) := by rw [Nat.pow_add]; exact Nat.le_mul_of_pos_left _ h2
  rw [show k + 30 = k + 20 + 10 by omega, Nat.pow_add _ (k + 20) 10, show (2 : Nat) ^ 10 = 1024 by decide]
  generalize 2 ^ (k + 20) = X at *
  omega
theorem pifloor_ok {w : World} : Calls Try.prog 12 #[.int .i64 1099] w fun en w' => RNs w w' en HPI := by
  obtain ⟨k, hk⟩ : ∃ k, k = 1200 := ⟨_, rfl⟩
  have hA := at18_f.2.2
  have hB := at57_f.2.2
  have hC := at239_f.2.2
  have hP := pi_f
  have HU : Hid ((∀ w : World, Calls Try.prog 21 #[.int .u32 18, .int .i64 1163] w _) ∧ (∀ w : World, Calls Try.prog 21 #[.int .u32 57, .int .i64 1163] w _) ∧ (∀ w : World, Calls Try.prog 21 #[.int .u32 239, .int .i64 1163] w _)) := ⟨fun w => at18_ok (w := w), fun w => at57_ok (w := w), fun w => at239_ok (w := w)⟩
  rw [← hk] at hA hB hC
  generalize A18 = A at *
  generalize A57 = B at *
  generalize A239 = C at *
  generalize HPI = H at *
  have HN : Hid (k ≤ 2000 ∧ A < 2 ^ k ∧ B < 2 ^ k ∧ C < 2 ^ k) := ⟨by omega, hA, hB, hC⟩
  have HP : Hid (C * 20 ≤ A * 48 + B * 32 ∧ 46208 ≤ A * 48 + B * 32 - C * 20 ∧ (A * 48 + B * 32 - C * 20 - 46208) / 2 ^ 64 = H ∧ (A * 48 + B * 32 - C * 20 + 46208) / 2 ^ 64 = H) := hP
  have mx : max (1099 : Int) 0 = 1099 := by decide
  clear hk hA hB hC hP
  go_enter Try.func12, Try.ntmps12
  go_wp2_with fail
  have hbw : Below w.heap.size w w := Below.refl _ _
  refine wp_loop_rounds 1 ?_
  rw [rounds_succ]
  go_wp2_with fail
  refine (HU.out.1 _).mono ?_
  rintro e v1 ⟨p1, m1, rfl, hR, hb1⟩
  have RN1 : Hid (RN v1 p1 m1 A) := hR
  clear hR
  replace hbw := Below.on hbw hb1
  clear hb1
  go_wp2_with fail
  refine (HU.out.2.1 _).mono ?_
  rintro e v2 ⟨p2, m2, rfl, hR, hb2⟩
  have RN2 : Hid (RN v2 p2 m2 B) := hR
  clear hR
  replace RN1 : Hid (RN v2 p1 m1 A) := RN1.out.below hb2
  replace hbw := Below.on hbw hb2
  clear hb2
  go_wp2_with fail
  refine (HU.out.2.2 _).mono ?_
  rintro e v3 ⟨p3, m3, rfl, hR, hb3⟩
  have RN3 : Hid (RN v3 p3 m3 C) := hR
  clear hR
  replace RN1 : Hid (RN v3 p1 m1 A) := RN1.out.below hb3
  replace RN2 : Hid (RN v3 p2 m2 B) := RN2.out.below hb3
  replace hbw := Below.on hbw hb3
  clear hb3
  go_wp2_with fail
  refine (rn_muls RN1.out 48 (by decide) (K := k + 10) (by have := HN.out.1; omega) (p12 HN.out.2.1 (by decide))).mono ?_
  rintro e v4 ⟨p4, m4, rfl, hR, hb4⟩
  have RN4 : Hid (RN v4 p4 m4 (A * 48)) := hR
  clear hR
  replace RN1 : Hid (RN v4 p1 m1 A) := RN1.out.below hb4
  replace RN2 : Hid (RN v4 p2 m2 B) := RN2.out.below hb4
  replace RN3 : Hid (RN v4 p3 m3 C) := RN3.out.below hb4
  replace hbw := Below.on hbw hb4
  clear hb4
  go_wp2_with fail
  refine (rn_muls RN2.out 32 (by decide) (K := k + 10) (by have := HN.out.1; omega) (p12 HN.out.2.2.1 (by decide))).mono ?_
  rintro e v5 ⟨p5, m5, rfl, hR, hb5⟩
  have RN5 : Hid (RN v5 p5 m5 (B * 32)) := hR
  clear hR
  replace RN1 : Hid (RN v5 p1 m1 A) := RN1.out.below hb5
  replace RN2 : Hid (RN v5 p2 m2 B) := RN2.out.below hb5
  replace RN3 : Hid (RN v5 p3 m3 C) := RN3.out.below hb5
  replace RN4 : Hid (RN v5 p4 m4 (A * 48)) := RN4.out.below hb5
  replace hbw := Below.on hbw hb5
  clear hb5
  go_wp2_with fail
  refine (rn_add RN4.out RN5.out (K := k + 20) (by have := HN.out.1; omega) (p13 (p12 HN.out.2.1 (by decide)) (p12 HN.out.2.2.1 (by decide)))).mono ?_
  rintro e v6 ⟨p6, m6, rfl, hR, hb6⟩
  have RN6 : Hid (RN v6 p6 m6 (A * 48 + B * 32)) := hR
  clear hR
  replace RN1 : Hid (RN v6 p1 m1 A) := RN1.out.below hb6
  replace RN2 : Hid (RN v6 p2 m2 B) := RN2.out.below hb6
  replace RN3 : Hid (RN v6 p3 m3 C) := RN3.out.below hb6
  replace RN4 : Hid (RN v6 p4 m4 (A * 48)) := RN4.out.below hb6
  replace RN5 : Hid (RN v6 p5 m5 (B * 32)) := RN5.out.below hb6
  replace hbw := Below.on hbw hb6
  clear hb6
  go_wp2_with fail
  refine (rn_muls RN3.out 20 (by decide) (K := k + 10) (by have := HN.out.1; omega) (p12 HN.out.2.2.2 (by decide))).mono ?_
  rintro e v7 ⟨p7, m7, rfl, hR, hb7⟩
  have RN7 : Hid (RN v7 p7 m7 (C * 20)) := hR
  clear hR
  replace RN1 : Hid (RN v7 p1 m1 A) := RN1.out.below hb7
  replace RN2 : Hid (RN v7 p2 m2 B) := RN2.out.below hb7
  replace RN3 : Hid (RN v7 p3 m3 C) := RN3.out.below hb7
  replace RN4 : Hid (RN v7 p4 m4 (A * 48)) := RN4.out.below hb7
  replace RN5 : Hid (RN v7 p5 m5 (B * 32)) := RN5.out.below hb7
  replace RN6 : Hid (RN v7 p6 m6 (A * 48 + B * 32)) := RN6.out.below hb7
  replace hbw := Below.on hbw hb7
  clear hb7
  go_wp2_with fail
  refine (rn_sub RN6.out RN7.out HP.out.1).mono ?_
  rintro e v8 ⟨p8, m8, rfl, hR, hb8⟩
  have RN8 : Hid (RN v8 p8 m8 (A * 48 + B * 32 - C * 20)) := hR
  clear hR
  replace RN1 : Hid (RN v8 p1 m1 A) := RN1.out.below hb8
  replace RN2 : Hid (RN v8 p2 m2 B) := RN2.out.below hb8
  replace RN3 : Hid (RN v8 p3 m3 C) := RN3.out.below hb8
  replace RN4 : Hid (RN v8 p4 m4 (A * 48)) := RN4.out.below hb8
  replace RN5 : Hid (RN v8 p5 m5 (B * 32)) := RN5.out.below hb8
  replace RN6 : Hid (RN v8 p6 m6 (A * 48 + B * 32)) := RN6.out.below hb8
  replace RN7 : Hid (RN v8 p7 m7 (C * 20)) := RN7.out.below hb8
  replace hbw := Below.on hbw hb8
  clear hb8
  go_wp2_with fail
  refine (rn_small 46208 (by decide)).mono ?_
  rintro e v9 ⟨p9, m9, rfl, hR, hb9⟩
  have RN9 : Hid (RN v9 p9 m9 (46208)) := hR
  clear hR
  replace RN1 : Hid (RN v9 p1 m1 A) := RN1.out.below hb9
  replace RN2 : Hid (RN v9 p2 m2 B) := RN2.out.below hb9
  replace RN3 : Hid (RN v9 p3 m3 C) := RN3.out.below hb9
  replace RN4 : Hid (RN v9 p4 m4 (A * 48)) := RN4.out.below hb9
  replace RN5 : Hid (RN v9 p5 m5 (B * 32)) := RN5.out.below hb9
  replace RN6 : Hid (RN v9 p6 m6 (A * 48 + B * 32)) := RN6.out.below hb9
  replace RN7 : Hid (RN v9 p7 m7 (C * 20)) := RN7.out.below hb9
  replace RN8 : Hid (RN v9 p8 m8 (A * 48 + B * 32 - C * 20)) := RN8.out.below hb9
  replace hbw := Below.on hbw hb9
  clear hb9
  go_wp2_with fail
  refine (rn_sub RN8.out RN9.out HP.out.2.1).mono ?_
  rintro e v10 ⟨p10, m10, rfl, hR, hb10⟩
  have RN10 : Hid (RN v10 p10 m10 (A * 48 + B * 32 - C * 20 - 46208)) := hR
  clear hR
  replace RN1 : Hid (RN v10 p1 m1 A) := RN1.out.below hb10
  replace RN2 : Hid (RN v10 p2 m2 B) := RN2.out.below hb10
  replace RN3 : Hid (RN v10 p3 m3 C) := RN3.out.below hb10
  replace RN4 : Hid (RN v10 p4 m4 (A * 48)) := RN4.out.below hb10
  replace RN5 : Hid (RN v10 p5 m5 (B * 32)) := RN5.out.below hb10
  replace RN6 : Hid (RN v10 p6 m6 (A * 48 + B * 32)) := RN6.out.below hb10
  replace RN7 : Hid (RN v10 p7 m7 (C * 20)) := RN7.out.below hb10
  replace RN8 : Hid (RN v10 p8 m8 (A * 48 + B * 32 - C * 20)) := RN8.out.below hb10
  replace RN9 : Hid (RN v10 p9 m9 (46208)) := RN9.out.below hb10
  replace hbw := Below.on hbw hb10
  clear hb10
  go_wp2_with fail
  refine (rn_shr RN10.out 64 _ rfl (by decide)).mono ?_
  rintro e v11 ⟨p11, m11, rfl, hR, hb11⟩
  have RN11 : Hid (RN v11 p11 m11 ((A * 48 + B * 32 - C * 20 - 46208) / 2 ^ 64)) := hR
  clear hR
  replace RN1 : Hid (RN v11 p1 m1 A) := RN1.out.below hb11
  replace RN2 : Hid (RN v11 p2 m2 B) := RN2.out.below hb11
  replace RN3 : Hid (RN v11 p3 m3 C) := RN3.out.below hb11
  replace RN4 : Hid (RN v11 p4 m4 (A * 48)) := RN4.out.below hb11
  replace RN5 : Hid (RN v11 p5 m5 (B * 32)) := RN5.out.below hb11
  replace RN6 : Hid (RN v11 p6 m6 (A * 48 + B * 32)) := RN6.out.below hb11
  replace RN7 : Hid (RN v11 p7 m7 (C * 20)) := RN7.out.below hb11
  replace RN8 : Hid (RN v11 p8 m8 (A * 48 + B * 32 - C * 20)) := RN8.out.below hb11
  replace RN9 : Hid (RN v11 p9 m9 (46208)) := RN9.out.below hb11
  replace RN10 : Hid (RN v11 p10 m10 (A * 48 + B * 32 - C * 20 - 46208)) := RN10.out.below hb11
  replace hbw := Below.on hbw hb11
  clear hb11
  rw [HP.out.2.2.1] at RN11
  go_wp2_with fail
  have HS : Hid (A * 48 + B * 32 - C * 20 + 46208 < 2 ^ (k + 30)) := p14 (p13 (p12 HN.out.2.1 (show 48 ≤ 64 by decide)) (p12 HN.out.2.2.1 (show 32 ≤ 64 by decide)))
  refine (rn_add RN8.out RN9.out (K := k + 30) (by have := HN.out.1; omega) HS.out).mono ?_
  rintro e v12 ⟨p12, m12, rfl, hR, hb12⟩
  have RN12 : Hid (RN v12 p12 m12 (A * 48 + B * 32 - C * 20 + 46208)) := hR
  clear hR
  replace RN1 : Hid (RN v12 p1 m1 A) := RN1.out.below hb12
  replace RN2 : Hid (RN v12 p2 m2 B) := RN2.out.below hb12
  replace RN3 : Hid (RN v12 p3 m3 C) := RN3.out.below hb12
  replace RN4 : Hid (RN v12 p4 m4 (A * 48)) := RN4.out.below hb12
  replace RN5 : Hid (RN v12 p5 m5 (B * 32)) := RN5.out.below hb12
  replace RN6 : Hid (RN v12 p6 m6 (A * 48 + B * 32)) := RN6.out.below hb12
  replace RN7 : Hid (RN v12 p7 m7 (C * 20)) := RN7.out.below hb12
  replace RN8 : Hid (RN v12 p8 m8 (A * 48 + B * 32 - C * 20)) := RN8.out.below hb12
  replace RN9 : Hid (RN v12 p9 m9 (46208)) := RN9.out.below hb12
  replace RN10 : Hid (RN v12 p10 m10 (A * 48 + B * 32 - C * 20 - 46208)) := RN10.out.below hb12
  replace RN11 : Hid (RN v12 p11 m11 H) := RN11.out.below hb12
  replace hbw := Below.on hbw hb12
  clear hb12
  go_wp2_with fail
  refine (rn_shr RN12.out 64 _ rfl (by decide)).mono ?_
  rintro e v13 ⟨p13, m13, rfl, hR, hb13⟩
  have RN13 : Hid (RN v13 p13 m13 ((A * 48 + B * 32 - C * 20 + 46208) / 2 ^ 64)) := hR
  clear hR
  replace RN1 : Hid (RN v13 p1 m1 A) := RN1.out.below hb13
  replace RN2 : Hid (RN v13 p2 m2 B) := RN2.out.below hb13
  replace RN3 : Hid (RN v13 p3 m3 C) := RN3.out.below hb13
  replace RN4 : Hid (RN v13 p4 m4 (A * 48)) := RN4.out.below hb13
  replace RN5 : Hid (RN v13 p5 m5 (B * 32)) := RN5.out.below hb13
  replace RN6 : Hid (RN v13 p6 m6 (A * 48 + B * 32)) := RN6.out.below hb13
  replace RN7 : Hid (RN v13 p7 m7 (C * 20)) := RN7.out.below hb13
  replace RN8 : Hid (RN v13 p8 m8 (A * 48 + B * 32 - C * 20)) := RN8.out.below hb13
  replace RN9 : Hid (RN v13 p9 m9 (46208)) := RN9.out.below hb13
  replace RN10 : Hid (RN v13 p10 m10 (A * 48 + B * 32 - C * 20 - 46208)) := RN10.out.below hb13
  replace RN11 : Hid (RN v13 p11 m11 H) := RN11.out.below hb13
  replace RN12 : Hid (RN v13 p12 m12 (A * 48 + B * 32 - C * 20 + 46208)) := RN12.out.below hb13
  replace hbw := Below.on hbw hb13
  clear hb13
  rw [HP.out.2.2.2] at RN13
  go_wp2_with fail
  refine (rn_cmp RN11.out RN13.out).mono ?_
  rintro e v14 ⟨rfl, hb14⟩
  rw [cmpN_eq (rfl : H = H)]
  replace RN1 : Hid (RN v14 p1 m1 A) := RN1.out.below hb14
  replace RN2 : Hid (RN v14 p2 m2 B) := RN2.out.below hb14
  replace RN3 : Hid (RN v14 p3 m3 C) := RN3.out.below hb14
  replace RN4 : Hid (RN v14 p4 m4 (A * 48)) := RN4.out.below hb14
  replace RN5 : Hid (RN v14 p5 m5 (B * 32)) := RN5.out.below hb14
  replace RN6 : Hid (RN v14 p6 m6 (A * 48 + B * 32)) := RN6.out.below hb14
  replace RN7 : Hid (RN v14 p7 m7 (C * 20)) := RN7.out.below hb14
  replace RN8 : Hid (RN v14 p8 m8 (A * 48 + B * 32 - C * 20)) := RN8.out.below hb14
  replace RN9 : Hid (RN v14 p9 m9 (46208)) := RN9.out.below hb14
  replace RN10 : Hid (RN v14 p10 m10 (A * 48 + B * 32 - C * 20 - 46208)) := RN10.out.below hb14
  replace RN11 : Hid (RN v14 p11 m11 H) := RN11.out.below hb14
  replace RN12 : Hid (RN v14 p12 m12 (A * 48 + B * 32 - C * 20 + 46208)) := RN12.out.below hb14
  replace RN13 : Hid (RN v14 p13 m13 H) := RN13.out.below hb14
  replace hbw := Below.on hbw hb14
  clear hb14
  go_wp2_with fail
  go_ret
  exact ⟨_, _, rfl, RN11.out, hbw⟩
theorem rnmk {w : World} {p : Option Addr} {m a : Nat} (h : RN w p m a) : Calls Try.prog 11 #[.bool false, .slice p m m] w fun e w' => ∃ p' m', e = .returned (.agg #[.bool false, .slice p' m' m']) ∧ RN w' p' m' a ∧ Below w.heap.size w w' := by
  obtain ⟨⟨zs, h1, h2⟩, h3⟩ := h
  refine (rmk_any false h1 h2 (by omega)).mono ?_
  rintro e w' ⟨v, rfl, ⟨s, g, m', rfl, _, hz, hl⟩, hb⟩
  obtain ⟨ys, g1, g2⟩ := hz.ex
  have hs := hz.sg
  rw [iv_f] at g2 hs
  rw [decide_eq_false (by omega)] at hs
  subst hs
  rw [Int.natAbs_natCast] at g2
  exact ⟨_, _, rfl, ⟨⟨ys, g1, g2⟩, by omega⟩, hb⟩
theorem rn_round {w : World} {p : Option Addr} {m a : Nat} (h : RN w p m a) (h0 : 80 ≤ bitsN a) (h1 : bitsN a ≤ 2120) : Calls Try.prog 19 #[FV 9223372036854775808 53 (-1074) 971 9218868437227405312 9221120237041090561, .slice p m m, .int .i64 (-1100)] w fun e w' => e = .returned (U (rg 26 a)) ∧ Below w.heap.size w w' := by
  obtain ⟨⟨zs, g1, g2⟩, g3⟩ := h
  exact rround_y g1 g2 (by omega) (fun e => by subst e; exact absurd h0 (by decide)) h0 h1
theorem rround19y {p : Option Addr} {m a : Nat} {w : World} (h : RN w p m a) (h0 : 80 ≤ bitsN a) (h1 : bitsN a ≤ 2120) :
    Calls Try.prog 10 #[.agg #[.bool false, .slice p m m], .int .i64 (-1100)] w fun en w' => en = .returned (U (rg 26 a)) ∧ Below w.heap.size w w' := by
  have HA : Hid (RN w p m a) := h
  have HX : Hid (80 ≤ bitsN a ∧ bitsN a ≤ 2120) := ⟨h0, h1⟩
  obtain ⟨r, hr⟩ : ∃ r, r = rg 26 a := ⟨_, rfl⟩
  have HRR : Hid (rg 26 a = r) := hr.symm
  clear h h0 h1 hr
  go_enter Try.func10, Try.ntmps10
  go_wp2_with fail
  obtain ⟨W0, hW0⟩ : ∃ W0, W0 = (w.alloc (.cells #[.bool false, .slice p m m] 36)) := ⟨_, rfl⟩
  have Xv : Hid (Box W0 (w.heap.size) (.bool false) (.slice p m m)) := by rw [hW0]; exact ⟨by go_simp, by go_simp, by go_simp, by go_simp⟩
  have hb0 : Below w.heap.size w W0 := by rw [hW0]; exact below1 w _
  rw [← hW0]
  clear hW0
  have hbw : Below w.heap.size w w := Below.refl _ _
  obtain ⟨gv, hgv⟩ : ∃ g, g = w.heap.size := ⟨_, rfl⟩
  have HGv : Hid (w.heap.size ≤ gv) := by rw [hgv]; show _ ≤ _; omega
  rw [← hgv] at Xv
  try rw [← hgv]
  clear hgv
  replace HA : Hid (RN W0 p m a) := HA.out.below hb0
  replace hbw := Below.on hbw hb0
  clear hb0
  obtain ⟨W1, hW1⟩ : ∃ W1, W1 = W0.drew := ⟨_, rfl⟩
  have hbd : Below W0.heap.size W0 W1 := by rw [hW1]; exact bDrew1 (Below.refl _ _)
  replace Xv : Hid _ := Xv.out.below hbd
  replace HA : Hid (RN W1 p m a) := HA.out.below hbd
  replace hbw := Below.on hbw hbd
  clear hbd
  have HJ : Hid ((fun W' : World => W'.cell? ⟨gv, 1, none⟩ = some (.slice p m m)) W1) := Xv.out.c1
  refine wp_region_J (fun W' => W'.cell? ⟨gv, 1, none⟩ = some (.slice p m m)) (by kernel_rfl) ?_
  rw [← hW1]
  clear hW1
  refine wpJ_tk 1 (v := ?v1x1) rfl ?hy1x1 HJ.out ?_
  case hy1x1 => (intro W' hJ; have j0 := hJ; go_simp; first | done | with_reducible rfl)
  refine wpJ_tk 2 (v := ?v2x2) rfl ?hy2x2 HJ.out ?_
  case hy2x2 => (intro W' hJ; have j0 := hJ; go_simp; first | done | with_reducible rfl)
  refine wpJ_tk 3 (v := ?v3x3) rfl ?hy3x3 HJ.out ?_
  case hy3x3 => (intro W' hJ; have j0 := hJ; go_simp; first | done | with_reducible rfl)
  refine wpJ_on 0 rfl fun KJ hK => ?_
  go_simp
  refine (rdouble _).mono ?_
  rintro e v1 ⟨rfl, hb1⟩
  replace Xv : Hid _ := Xv.out.below hb1
  replace HA : Hid (RN v1 p m a) := HA.out.below hb1
  replace hbw := Below.on hbw hb1
  clear hb1
  refine hK _ _ Xv.out.c1 ?_
  clear hK
  refine wpJ_on 4 rfl fun KJ hK => ?_
  go_simp
  refine (rn_round HA.out HX.out.1 HX.out.2).mono ?_
  rintro e v2 ⟨rfl, hb2⟩
  rw [HRR.out]
  replace Xv : Hid _ := Xv.out.below hb2
  replace HA : Hid (RN v2 p m a) := HA.out.below hb2
  replace hbw := Below.on hbw hb2
  clear hb2
  clear HJ
  have HJ : Hid ((fun W' : World => W'.cell? ⟨gv, 1, none⟩ = some (.slice p m m)) v2) := Xv.out.c1
  refine hK _ _ HJ.out ?_
  clear hK
  refine wpJ_tk 5 (v := ?v4x5) rfl ?hy4x5 HJ.out ?_
  case hy4x5 => (intro W' hJ; have j0 := hJ; go_simp; first | done | with_reducible rfl)
  refine wpJ_done (by kernel_rfl) ?_ _
  clear HJ
  obtain ⟨cv0, cv1, fv0, fv1⟩ := Xv.out
  have hnev := Xv.out.lt
  go_wp2_with fail
  clear cv0 cv1 fv0 fv1 hnev
  go_ret
  rw [HRR.out]
  exact ⟨rfl, hbw⟩
theorem cut_ok {w : World} {p : Option Addr} {m a : Nat} (h : RN w p m a) (t : Nat) (ht : bitsN a = t + 33) (hb : bitsN a ≤ 2120) (h0 : a / 2 ^ t ≠ 0) (hk : a / 2 ^ t * 2 ^ t < 2 ^ (t + 100)) : Calls Try.prog 8 #[.slice p m m] w fun en w' => RNs w w' en (a / 2 ^ t * 2 ^ t) := by
  have HA : Hid (RN w p m a) := h
  have HX : Hid (bitsN a = t + 33 ∧ bitsN a ≤ 2120 ∧ a / 2 ^ t ≠ 0 ∧ a / 2 ^ t * 2 ^ t < 2 ^ (t + 100)) := ⟨ht, hb, h0, hk⟩
  obtain ⟨b, hbb⟩ : ∃ b, b = bitsN a := ⟨_, rfl⟩
  have HBB : Hid (bitsN a = b) := hbb.symm
  have q1 : wrap64 ((b : Int) - 33) = (t : Int) := by simp only [wrap64]; omega
  clear h ht hb h0 hk hbb
  go_enter Try.func8, Try.ntmps8
  go_wp2_with fail
  have hbw : Below w.heap.size w w := Below.refl _ _
  refine (rn_bits HA.out).mono ?_
  rintro e v9 ⟨rfl, hw⟩
  obtain rfl := hw.symm
  clear hw
  rw [HBB.out]
  go_wp2_with fail
  refine (rn_shr HA.out t _ rfl (by have h1 := HX.out.1; have h2 := HX.out.2.1; clear q1; omega)).mono ?_
  rintro e v1 ⟨p1, m1, rfl, hR, hb1⟩
  have RN1 : Hid (RN v1 p1 m1 (a / 2 ^ t)) := hR
  clear hR
  replace HA : Hid (RN v1 p m a) := HA.out.below hb1
  replace hbw := Below.on hbw hb1
  clear hb1
  go_wp2_with fail
  refine (rn_shl RN1.out HX.out.2.2.1 t (by have h1 := HX.out.1; have h2 := HX.out.2.1; clear q1; omega) (K := t + 100) (by have h1 := HX.out.1; have h2 := HX.out.2.1; clear q1; omega) HX.out.2.2.2).mono ?_
  rintro e v2 ⟨p2, m2, rfl, hR, hb2⟩
  have RN2 : Hid (RN v2 p2 m2 (a / 2 ^ t * 2 ^ t)) := hR
  clear hR
  replace HA : Hid (RN v2 p m a) := HA.out.below hb2
  replace RN1 : Hid (RN v2 p1 m1 (a / 2 ^ t)) := RN1.out.below hb2
  replace hbw := Below.on hbw hb2
  clear hb2
  go_wp2_with fail
  go_ret
  exact ⟨_, _, rfl, RN2.out, hbw⟩
end Go.Proofs.Ythjofcakkaolbaa
