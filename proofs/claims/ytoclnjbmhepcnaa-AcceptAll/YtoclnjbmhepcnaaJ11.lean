import Derived.Test.YtoclnjbmhepcnaaJ7
import Derived.Test.YtoclnjbmhepcnaaJ10
import Derived.Test.YtoclnjbmhepcnaaJ8
import Derived.Test.YtoclnjbmhepcnaaJ9
import Derived.Laws.Bits64b
namespace Go.Proofs.Ytoclnjbmhepcnaa
open Go.RowKit
set_option maxRecDepth 20000
set_option maxHeartbeats 0
theorem Rn.self {p : Nat} {x : Int} (h : Fl p x) : Rn p x x := ⟨h, fun z _ => by rw [Int.sub_self]; exact Nat.zero_le _⟩
theorem mul_dvd2 {L t : Nat} {s : Int} (h : ((2 ^ L : Nat) : Int) ∣ s) : ((2 ^ (L + t) : Nat) : Int) ∣ s * ((2 ^ t : Nat) : Int) := by
  rw [Nat.pow_add, Int.natCast_mul]; exact Int.mul_dvd_mul h (Int.dvd_refl _)
theorem abs_mul2 (x : Int) (t : Nat) : (x * ((2 ^ t : Nat) : Int)).natAbs = x.natAbs * 2 ^ t := by rw [Int.natAbs_mul, Int.natAbs_natCast]
theorem Fl.scale {p : Nat} {x : Int} (h : Fl p x) (t : Nat) : Fl p (x * ((2 ^ t : Nat) : Int)) := by
  obtain ⟨q, h1, h2⟩ := h
  exact ⟨q + t, mul_dvd2 h1, by rw [abs_mul2, ← Nat.add_assoc, Nat.pow_add]; exact Nat.mul_le_mul_right _ h2⟩
theorem Rn.scale {p : Nat} {x s : Int} (hp : 1 ≤ p) (h : Rn p x s) (t : Nat) : Rn p (x * ((2 ^ t : Nat) : Int)) (s * ((2 ^ t : Nat) : Int)) := by
  obtain ⟨m, m1, m2⟩ := place hp x
  have he := h.err (m := m) (Nat.le_of_lt m1)
  by_cases hm0 : m = 0
  · subst hm0
    have e1 : s = x := by simp at he; omega
    rw [e1]
    rw [e1] at h
    exact Rn.self (h.fl.scale t)
  have m2 : 2 ^ (p - 1 + m) ≤ x.natAbs := by rcases m2 with h | h; exact absurd h hm0; exact h
  have hs := (h.dvd hp m2).1
  have hb : s.natAbs ≤ 2 ^ (p + m) := by
    have h1 := h.hi (Fl.pow p (p + m)) (by omega)
    have h2 := h.neg.hi (Fl.pow p (p + m)) (by omega)
    omega
  refine rn_mk (L := m + t) hp (mul_dvd2 hs) ?_ ?_ (.inr ?_)
  · rw [abs_mul2, ← Nat.add_assoc, Nat.pow_add]; exact Nat.mul_le_mul_right _ hb
  · rw [← Int.sub_mul, abs_mul2, ← Nat.mul_assoc, Nat.pow_add]; exact Nat.mul_le_mul_right _ he
  · rw [abs_mul2, ← Nat.add_assoc, Nat.pow_add]; exact Nat.mul_le_mul_right _ m2
theorem pw (k e : Nat) : 2 ^ (k + e) = 2 ^ k * 2 ^ e := Nat.pow_add ..
theorem veltkamp_p {a c d h l : Int} {e : Nat} (h0 : 0 < a) (h1 : 2 ^ (52 + e) ≤ a.natAbs) (h2 : a.natAbs < 2 ^ (53 + e)) (hf : Fl 53 a) (hc : Rn 53 (134217729 * a) c) (hd : Rn 53 (c - a) d) (hh : Rn 53 (c - d) h) (hl : Rn 53 (a - h) l) :
    ((2 ^ (27 + e) : Nat) : Int) ∣ h ∧ ((2 ^ e : Nat) : Int) ∣ a ∧ (a - h).natAbs ≤ 2 ^ (26 + e) ∧ h.natAbs ≤ 2 ^ (53 + e) ∧ l = a - h ∧ h = c - d ∧ 67108864 * (a - h).natAbs < a.natAbs := by
  have ha : ((2 ^ e : Nat) : Int) ∣ a := hf.dvd (by omega) h1
  have hp := p2pos e
  -- the powers, by the unit of a
  have q26 : 2 ^ (26 + e) = 67108864 * 2 ^ e := by rw [pw]
  have q27 : 2 ^ (27 + e) = 134217728 * 2 ^ e := by rw [pw]
  have q28 : 2 ^ (28 + e) = 268435456 * 2 ^ e := by rw [pw]
  have q52 : 2 ^ (52 + e) = 4503599627370496 * 2 ^ e := by rw [pw]
  have q53 : 2 ^ (53 + e) = 9007199254740992 * 2 ^ e := by rw [pw]
  have q79 : 2 ^ (79 + e) = 604462909807314587353088 * 2 ^ e := by rw [pw]
  have q80 : 2 ^ (80 + e) = 1208925819614629174706176 * 2 ^ e := by rw [pw]
  have q81 : 2 ^ (81 + e) = 2417851639229258349412352 * 2 ^ e := by rw [pw]
  have hup : a.natAbs + 2 ^ e ≤ 2 ^ (53 + e) := le_of_dvd2 (dvd_abs ha) (Nat.pow_dvd_pow 2 (by omega)) h2
  have hlo : a.natAbs = 2 ^ (52 + e) ∨ 2 ^ (52 + e) + 2 ^ e ≤ a.natAbs := by
    rcases Nat.lt_or_ge (2 ^ (52 + e)) a.natAbs with h | h
    · exact .inr (le_of_dvd2 (Nat.pow_dvd_pow 2 (by omega)) (dvd_abs ha) h)
    · exact .inl (by omega)
  have hc1 := hc.err (m := 28 + e) (by rw [show 53 + (28 + e) = 81 + e by omega]; omega)
  have hc2 : (134217729 * a).natAbs < 2 ^ (80 + e) → 2 * (c - 134217729 * a).natAbs ≤ 2 ^ (27 + e) := fun h => hc.err (m := 27 + e) (by rw [show 53 + (27 + e) = 80 + e by omega]; omega)
  have hc3 := (hc.dvd (by omega) (m := 27 + e) (by rw [show 53 - 1 + (27 + e) = 79 + e by omega]; omega)).1
  rcases hlo with hA | hB
  · -- a power of two
    have ea : a = ((2 ^ (52 + e) : Nat) : Int) := by omega
    have e1 : c = 134217729 * a := by
      refine hc.ex ⟨52 + e, ⟨134217729, by rw [← ea, Int.mul_comm]⟩, ?_⟩
      rw [Int.natAbs_mul, show (134217729 : Int).natAbs = 134217729 from rfl, pw 53 (52 + e), ← hA]
      exact Nat.mul_le_mul_right _ (by decide)
    have e2 : d = c - a := by
      refine hd.ex ?_
      rw [show c - a = ((2 ^ (79 + e) : Nat) : Int) by omega]
      exact Fl.pow 53 _
    have e3 : h = c - d := by
      refine hh.ex ?_
      rw [show c - d = a by omega]; exact hf
    have e4 : h = a := by omega
    have e5 : l = a - h := by
      refine hl.ex ?_
      rw [e4, Int.sub_self]; exact Fl.zero 53
    refine ⟨?_, ha, by rw [e4, Int.sub_self]; exact Nat.zero_le _, by rw [e4]; omega, e5, e3, by rw [e4, Int.sub_self]; simp; omega⟩
    rw [e4, ea]; exact p2dvd (by omega)
  · have hca : 2 ^ (79 + e) ≤ (c - a).natAbs ∧ (c - a).natAbs ≤ 2 ^ (80 + e) ∧ 0 < c - a := by
      by_cases h3 : (134217729 * a).natAbs < 2 ^ (80 + e)
      · have := hc2 h3
        omega
      · omega
    have hd1 := hd.err (m := 27 + e) (by rw [show 53 + (27 + e) = 80 + e by omega]; omega)
    have hd2 := (hd.dvd (by omega) (m := 27 + e) (by rw [show 53 - 1 + (27 + e) = 79 + e by omega]; omega)).1
    have hcd : ((2 ^ (27 + e) : Nat) : Int) ∣ c - d := Int.dvd_sub hc3 hd2
    have hb : (c - d).natAbs ≤ 2 ^ (53 + e) := Nat.le_of_not_lt fun h3 => by
      have := le_of_dvd2 (Nat.pow_dvd_pow 2 (show 27 + e ≤ 53 + e by omega)) (dvd_abs hcd) h3
      omega
    have e3 : h = c - d := hh.ex ⟨27 + e, hcd, by rw [show 53 + (27 + e) = 80 + e by omega]; omega⟩
    have hdv : ((2 ^ e : Nat) : Int) ∣ a - h := by
      rw [e3]; exact Int.dvd_sub ha (Int.dvd_trans (p2dvd (by omega)) hcd)
    have e5 : l = a - h := hl.ex ⟨e, hdv, by omega⟩
    exact ⟨by rw [e3]; exact hcd, ha, by omega, by omega, e5, e3, by omega⟩
theorem veltkamp {a c d h l : Int} {e : Nat} (h1 : 2 ^ (52 + e) ≤ a.natAbs) (h2 : a.natAbs < 2 ^ (53 + e)) (hf : Fl 53 a) (hc : Rn 53 (134217729 * a) c) (hd : Rn 53 (c - a) d) (hh : Rn 53 (c - d) h) (hl : Rn 53 (a - h) l) :
    ((2 ^ (27 + e) : Nat) : Int) ∣ h ∧ ((2 ^ e : Nat) : Int) ∣ a ∧ (a - h).natAbs ≤ 2 ^ (26 + e) ∧ h.natAbs ≤ 2 ^ (53 + e) ∧ l = a - h ∧ h = c - d ∧ 67108864 * (a - h).natAbs < a.natAbs := by
  rcases Int.lt_trichotomy a 0 with h0 | h0 | h0
  · have := veltkamp_p (a := -a) (c := -c) (d := -d) (h := -h) (l := -l) (e := e) (by omega) (by omega) (by omega) hf.neg
      (by rw [Int.mul_neg]; exact hc.neg) (by rw [show -c - -a = -(c - a) by omega]; exact hd.neg) (by rw [show -c - -d = -(c - d) by omega]; exact hh.neg) (by rw [show -a - -h = -(a - h) by omega]; exact hl.neg)
    obtain ⟨k1, k2, k3, k4, k5, k6, k7⟩ := this
    exact ⟨Int.dvd_neg.1 k1, Int.dvd_neg.1 k2, by omega, by omega, by omega, by omega, by omega⟩
  · subst h0
    have := p2pos (52 + e)
    rw [Int.natAbs_zero] at h1
    omega
  · exact veltkamp_p h0 h1 h2 hf hc hd hh hl
theorem dekker {a b ah al bh bl p e1 e2 e3 e4 : Int} {i j : Nat} (a1 : 2 ^ (52 + i) ≤ a.natAbs) (a2 : a.natAbs < 2 ^ (53 + i)) (b1 : 2 ^ (52 + j) ≤ b.natAbs) (b2 : b.natAbs < 2 ^ (53 + j))
    (ea : al = a - ah) (eb : bl = b - bh) (da : ((2 ^ i : Nat) : Int) ∣ a) (db : ((2 ^ j : Nat) : Int) ∣ b) (dah : ((2 ^ (27 + i) : Nat) : Int) ∣ ah) (dbh : ((2 ^ (27 + j) : Nat) : Int) ∣ bh)
    (lal : al.natAbs ≤ 2 ^ (26 + i)) (lbl : bl.natAbs ≤ 2 ^ (26 + j)) (lah : ah.natAbs ≤ 2 ^ (53 + i)) (lbh : bh.natAbs ≤ 2 ^ (53 + j))
    (hp : Rn 53 (a * b) p) (h1 : Rn 53 (ah * bh - p) e1) (h2 : Rn 53 (e1 + ah * bl) e2) (h3 : Rn 53 (e2 + al * bh) e3) (h4 : Rn 53 (e3 + al * bl) e4) :
    p + e4 = a * b ∧ e1 = ah * bh - p ∧ e2 = e1 + ah * bl ∧ e3 = e2 + al * bh ∧ Fl 53 (ah * bh) ∧ Fl 53 (ah * bl) ∧ Fl 53 (al * bh) ∧ Fl 53 (al * bl) := by
  have dvd_mul : ∀ {x y : Int} {m n : Nat}, ((2 ^ m : Nat) : Int) ∣ x → ((2 ^ n : Nat) : Int) ∣ y → ((2 ^ (m + n) : Nat) : Int) ∣ x * y := fun hx hy => by
    rw [Nat.pow_add, Int.natCast_mul]; exact Int.mul_dvd_mul hx hy
  have le_mul : ∀ {x y : Int} {m n : Nat}, x.natAbs ≤ 2 ^ m → y.natAbs ≤ 2 ^ n → (x * y).natAbs ≤ 2 ^ (m + n) := fun hx hy => by
    rw [Int.natAbs_mul, Nat.pow_add]; exact Nat.mul_le_mul hx hy
  have dal : ((2 ^ i : Nat) : Int) ∣ al := by rw [ea]; exact Int.dvd_sub da (Int.dvd_trans (p2dvd (by omega)) dah)
  have dbl : ((2 ^ j : Nat) : Int) ∣ bl := by rw [eb]; exact Int.dvd_sub db (Int.dvd_trans (p2dvd (by omega)) dbh)
  obtain ⟨E, hE⟩ : ∃ E, E = i + j := ⟨_, rfl⟩
  have x1d := dvd_mul dah dbh
  have x2d := dvd_mul dah dbl
  have x3d := dvd_mul dal dbh
  have x4d := dvd_mul dal dbl
  have x1l := le_mul lah lbh
  have x2l := le_mul lah lbl
  have x3l := le_mul lal lbh
  have x4l := le_mul lal lbl
  have abl := le_mul (Nat.le_of_lt a2) (Nat.le_of_lt b2)
  have abg : 2 ^ (104 + E) ≤ (a * b).natAbs := by
    rw [Int.natAbs_mul, show 104 + E = 52 + i + (52 + j) by omega, Nat.pow_add]; exact Nat.mul_le_mul a1 b1
  rw [show 27 + i + (27 + j) = 54 + E by omega] at x1d
  rw [show 27 + i + j = 27 + E by omega] at x2d
  rw [show i + (27 + j) = 27 + E by omega] at x3d
  rw [← hE] at x4d
  rw [show 53 + i + (53 + j) = 106 + E by omega] at x1l abl
  rw [show 53 + i + (26 + j) = 79 + E by omega] at x2l
  rw [show 26 + i + (53 + j) = 79 + E by omega] at x3l
  rw [show 26 + i + (26 + j) = 52 + E by omega] at x4l
  have hsum : a * b = ah * bh + ah * bl + al * bh + al * bl := by
    rw [show a = ah + al by omega, show b = bh + bl by omega, Int.add_mul, Int.mul_add, Int.mul_add]; omega
  have pe := hp.err (m := 53 + E) (by rw [show 53 + (53 + E) = 106 + E by omega]; exact abl)
  have pd := (hp.dvd (by omega) (m := 52 + E) (by rw [show 53 - 1 + (52 + E) = 104 + E by omega]; exact abg)).1
  have hq := p2pos E
  have q27 : 2 ^ (27 + E) = 134217728 * 2 ^ E := by rw [pw]
  have q52 : 2 ^ (52 + E) = 4503599627370496 * 2 ^ E := by rw [pw]
  have q53 : 2 ^ (53 + E) = 9007199254740992 * 2 ^ E := by rw [pw]
  have q79 : 2 ^ (79 + E) = 604462909807314587353088 * 2 ^ E := by rw [pw]
  have q80 : 2 ^ (80 + E) = 1208925819614629174706176 * 2 ^ E := by rw [pw]
  have q105 : 2 ^ (105 + E) = 40564819207303340847894502572032 * 2 ^ E := by rw [pw]
  have f1 : Fl 53 (ah * bh) := ⟨54 + E, x1d, by rw [show 53 + (54 + E) = 107 + E by omega]; exact Nat.le_trans x1l (p2le (by omega))⟩
  have f2 : Fl 53 (ah * bl) := ⟨27 + E, x2d, by rw [show 53 + (27 + E) = 80 + E by omega]; omega⟩
  have f3 : Fl 53 (al * bh) := ⟨27 + E, x3d, by rw [show 53 + (27 + E) = 80 + E by omega]; omega⟩
  have f4 : Fl 53 (al * bl) := ⟨E, x4d, by omega⟩
  generalize ah * bh = X1 at *
  generalize ah * bl = X2 at *
  generalize al * bh = X3 at *
  generalize al * bl = X4 at *
  generalize a * b = AB at *
  have g1 : e1 = X1 - p := h1.ex ⟨52 + E, Int.dvd_sub (Int.dvd_trans (p2dvd (by omega)) x1d) pd, by rw [show 53 + (52 + E) = 105 + E by omega]; omega⟩
  have g2 : e2 = e1 + X2 := h2.ex ⟨27 + E, by rw [g1]; exact Int.dvd_add (Int.dvd_sub (Int.dvd_trans (p2dvd (by omega)) x1d) (Int.dvd_trans (p2dvd (by omega)) pd)) x2d, by rw [show 53 + (27 + E) = 80 + E by omega]; omega⟩
  have g3 : e3 = e2 + X3 := h3.ex ⟨27 + E, by rw [g2, g1]; exact Int.dvd_add (Int.dvd_add (Int.dvd_sub (Int.dvd_trans (p2dvd (by omega)) x1d) (Int.dvd_trans (p2dvd (by omega)) pd)) x2d) x3d, by rw [show 53 + (27 + E) = 80 + E by omega]; omega⟩
  have g4 : e4 = e3 + X4 := h4.ex ⟨E, by rw [g3, g2, g1]; exact Int.dvd_add (Int.dvd_add (Int.dvd_add (Int.dvd_sub (Int.dvd_trans (p2dvd (by omega)) x1d) (Int.dvd_trans (p2dvd (by omega)) pd)) (Int.dvd_trans (p2dvd (by omega)) x2d)) (Int.dvd_trans (p2dvd (by omega)) x3d)) x4d, by omega⟩
  exact ⟨by omega, g1, g2, g3, f1, f2, f3, f4⟩
theorem cut_all (neg : Bool) (n L : Nat) : Ieee.Toward.even.cut neg n L = rne n L := by
  rcases Nat.lt_or_ge (n.log2 + 2) L with h | h
  · have hu : n < 2 ^ (n.log2 + 1) := Nat.lt_log2_self
    have h1 : 2 ^ (n.log2 + 2) = 2 * 2 ^ (n.log2 + 1) := p2succ _
    have h2 : 2 ^ (n.log2 + 2) ≤ 2 ^ L := p2le (by omega)
    unfold Ieee.Toward.cut rne
    rw [Nat.min_eq_right (by omega), Nat.one_shiftLeft]
    dsimp only
    rw [Nat.div_eq_of_lt (show n < 2 ^ (n.log2 + 2) by omega), Nat.div_eq_of_lt (show n < 2 ^ L by omega), Nat.mod_eq_of_lt (show n < 2 ^ (n.log2 + 2) by omega), Nat.mod_eq_of_lt (show n < 2 ^ L by omega)]
    rw [decide_eq_false (show ¬ 2 ^ (n.log2 + 2) < 2 * n by omega), decide_eq_false (show ¬ 2 ^ L < 2 * n by omega), show (2 ^ (n.log2 + 2) == 2 * n) = false by simp; omega, show (2 ^ L == 2 * n) = false by simp; omega]
  · exact cut_eq neg n L h
def rgc (c n : Nat) : Nat := if n = 0 then 0 else min ((max (n.log2 - 52) c - c) * 4503599627370496 + rne n (max (n.log2 - 52) c)) 9218868437227405312
theorem nearest_rgc (neg : Bool) (mag c d : Nat) : Ieee.double.nearest neg mag (-1074 - (c : Int) + (d : Int)) = Ieee.double.word neg (rgc c (mag * 2 ^ d)) := by
  have e1 : Ieee.double.leastPlace = -1074 := by decide
  have e2 : Ieee.double.binade = 4503599627370496 := by decide
  have e3 : Ieee.double.infRung = 9218868437227405312 := by decide
  have e4 : Ieee.double.fractionBits = 52 := by decide
  have hd : 0 < 2 ^ d := p2pos d
  unfold Ieee.Format.nearest rgc
  by_cases h0 : mag = 0
  · subst h0; simp
  · have hz : mag * 2 ^ d ≠ 0 := Nat.mul_ne_zero h0 (by omega)
    rw [if_neg h0, if_neg hz, e1, e2, e3, e4]
    have hl := log2_mul mag d h0
    obtain ⟨l, hle⟩ : ∃ l, l = mag.log2 := ⟨_, rfl⟩
    rw [← hle] at hl ⊢
    rw [hl]
    obtain ⟨L, hL⟩ : ∃ L, L = max (l + d - 52) c := ⟨_, rfl⟩
    rw [← hL]
    have e5 : max (-1074 - (c : Int) + (d : Int) + (l : Int) - ((52 : Nat) : Int)) (-1074) = -1074 - (c : Int) + (L : Int) := by omega
    dsimp only
    rw [e5]
    have e6 : (-1074 - (c : Int) + (L : Int) - -1074).toNat = L - c := by omega
    rw [e6]
    have e7 : (-1074 - (c : Int) + (d : Int) - (-1074 - (c : Int) + (L : Int))).toNat = d - L := by omega
    have e8 : (-1074 - (c : Int) + (L : Int) - (-1074 - (c : Int) + (d : Int))).toNat = L - d := by omega
    rw [e7, e8, Nat.shiftLeft_eq, cut_all]
    have e9 : rne (mag * 2 ^ (d - L)) (L - d) = rne (mag * 2 ^ d) L := by
      rcases Nat.le_total L d with h1 | h1
      · rw [show L - d = 0 by omega, rne_zero]
        have h2 := rne_mul (mag * 2 ^ (d - L)) 0 L
        rw [Nat.zero_add, rne_zero, Nat.mul_assoc, ← Nat.pow_add, show d - L + L = d by omega] at h2
        exact h2.symm
      · rw [show d - L = 0 by omega, Nat.pow_zero, Nat.mul_one]
        have h2 := rne_mul mag (L - d) d
        rw [show L - d + d = L by omega] at h2
        exact h2.symm
    rw [e9]
theorem rgc_int (c n : Nat) : rgc c (n * 2 ^ c) = rg 0 n := by
  have hd : 0 < 2 ^ c := p2pos c
  unfold rgc rg
  by_cases h0 : n = 0
  · subst h0; simp
  · have hz : n * 2 ^ c ≠ 0 := Nat.mul_ne_zero h0 (by omega)
    rw [if_neg h0, if_neg hz, log2_mul n c h0, show max (n.log2 + c - 52) c = n.log2 - 52 + c by omega, rne_mul, Nat.add_sub_cancel, Nat.sub_zero]
theorem fmul_any {a b : Nat} (ha : Fin64 a) (hb : Fin64 b) : floatBits .mul .f64 a b = some (Ieee.double.word (decide (9223372036854775808 ≤ a) ^^ decide (9223372036854775808 ≤ b)) (rgc 1074 ((ux a).natAbs * (ux b).natAbs))) := by
  obtain ⟨m, q, h1, h2⟩ := read_fin ha.lt ha.fin
  obtain ⟨n, t, h3, h4⟩ := read_fin hb.lt hb.fin
  rw [ux_abs, ux_abs, ← h2, ← h4]
  show ((Ieee.double.read a).product (Ieee.double.read b)).map Ieee.double.write = _
  rw [h1, h3]
  show some (Ieee.double.nearest _ (m * n) (-1074 + (q : Int) + (-1074 + (t : Int)))) = _
  have := nearest_rgc (decide (9223372036854775808 ≤ a) ^^ decide (9223372036854775808 ≤ b)) (m * n) 1074 (q + t)
  rw [show (-1074 : Int) - ((1074 : Nat) : Int) + ((q + t : Nat) : Int) = -1074 + (q : Int) + (-1074 + (t : Int)) by omega] at this
  rw [this, show m * n * 2 ^ (q + t) = m * 2 ^ q * (n * 2 ^ t) by rw [Nat.pow_add, ← Nat.mul_assoc, ← Nat.mul_assoc, Nat.mul_assoc m n, Nat.mul_comm n, ← Nat.mul_assoc]]
theorem ux_neg {b : Nat} (h : ux b ≠ 0) : decide (9223372036854775808 ≤ b) = decide (ux b < 0) := by
  refine decide_eq_decide.2 ?_
  have := ux_eq b
  by_cases h1 : 9223372036854775808 ≤ b
  · rw [if_pos h1] at this; omega
  · rw [if_neg h1] at this; omega
theorem mul_sign {a b : Nat} (h : ux a * ux b ≠ 0) : (decide (9223372036854775808 ≤ a) ^^ decide (9223372036854775808 ≤ b)) = decide (ux a * ux b < 0) := by
  have ha : ux a ≠ 0 := fun k => h (by rw [k, Int.zero_mul])
  have hb : ux b ≠ 0 := fun k => h (by rw [k, Int.mul_zero])
  rw [ux_neg ha, ux_neg hb]
  generalize ux a = x at *
  generalize ux b = y at *
  rcases Int.lt_or_gt_of_ne ha with h1 | h1 <;> rcases Int.lt_or_gt_of_ne hb with h2 | h2
  · have := Int.mul_pos_of_neg_of_neg h1 h2
    simp [h1, h2]; omega
  · have := Int.mul_neg_of_neg_of_pos h1 h2
    simp [h1, Int.not_lt.2 (Int.le_of_lt h2), this]
  · have := Int.mul_neg_of_pos_of_neg h1 h2
    simp [h2, Int.not_lt.2 (Int.le_of_lt h1), this]
  · have := Int.mul_pos h1 h2
    simp [Int.not_lt.2 (Int.le_of_lt h1), Int.not_lt.2 (Int.le_of_lt h2)]; omega
theorem FlR.mul {x y r : Nat} (h : FlR .mul x y r) (hx : Fin64 x) (hy : Fin64 y) {X : Int} {c : Nat} (hc : c = 1074) (hX : ux x * ux y = X * ((2 ^ c : Nat) : Int)) (hm : X.natAbs ≤ MaxU) : Sm64 X r := by
  have h1 := fmul_any hx hy
  rw [← Int.natAbs_mul, hX, Int.natAbs_mul, Int.natAbs_natCast, ← hc, rgc_int] at h1
  rw [h.some _ h1]
  refine sm_word hm fun h0 => ?_
  have hp : (0 : Int) < ((2 ^ c : Nat) : Int) := Int.ofNat_lt.2 (p2pos c)
  have h2 : ux x * ux y ≠ 0 := by rw [hX]; exact Int.mul_ne_zero h0 (by omega)
  rw [mul_sign h2, hX]
  refine decide_eq_decide.2 ⟨fun h3 => ?_, fun h3 => Int.mul_neg_of_neg_of_pos h3 hp⟩
  refine Int.lt_of_not_ge fun h4 => ?_
  have := Int.mul_nonneg h4 (Int.le_of_lt hp)
  omega
structure Pm64 (V : Int) (r : Nat) : Prop where
  fin : Fin64 r
  size : r % 9223372036854775808 = rg 1074 V.natAbs
  sign : V ≠ 0 → (9223372036854775808 ≤ r ↔ V < 0)
  rn : ∀ c, c = 1074 → Rn 53 V (ux r * ((2 ^ c : Nat) : Int))
theorem FlR.big {x y r : Nat} (h : FlR .mul x y r) (hx : Fin64 x) (hy : Fin64 y) (h1 : 1126 ≤ (ux x * ux y).natAbs.log2) (h2 : (ux x * ux y).natAbs.log2 ≤ 3169) : Pm64 (ux x * ux y) r := by
  have hr := fmul_any hx hy
  rw [← Int.natAbs_mul] at hr
  have hV0 : ux x * ux y ≠ 0 := fun h0 => by rw [h0] at h1; simp at h1
  rw [mul_sign hV0] at hr
  have hr := h.some _ hr
  generalize ux x * ux y = V at *
  obtain ⟨N, hN⟩ : ∃ N, N = V.natAbs := ⟨_, rfl⟩
  have hN0 : N ≠ 0 := by omega
  rw [← hN] at h1 h2 hr
  have hl : 2 ^ N.log2 ≤ N := Nat.log2_self_le hN0
  have hu : N < 2 ^ (N.log2 + 1) := Nat.lt_log2_self
  obtain ⟨L, hL⟩ : ∃ L, L = N.log2 - 52 := ⟨_, rfl⟩
  have hk1 : rne N L ≤ 9007199254740992 := by
    refine rne_le N L _ (Nat.le_of_lt (Nat.lt_of_lt_of_le hu ?_))
    rw [show 9007199254740992 = 2 ^ 53 by decide, ← Nat.pow_add]
    exact p2le (by omega)
  have hk2 : 4503599627370496 ≤ rne N L := by
    refine le_rne N L _ (Nat.le_trans ?_ hl)
    rw [show 4503599627370496 = 2 ^ 52 by decide, ← Nat.pow_add]
    exact p2le (by omega)
  have hg : rgc 1074 N = (L - 1074) * 4503599627370496 + rne N L := by
    unfold rgc
    rw [if_neg hN0, ← hL, Nat.max_eq_left (by omega), Nat.min_eq_left (by omega)]
  have hg2 : rg 1074 N = rgc 1074 N := by
    rw [hg]; unfold rg
    rw [if_neg hN0, ← hL, Nat.min_eq_left (by omega)]
  have hlt : rgc 1074 N < 9218868437227405312 := by rw [hg]; omega
  obtain ⟨wa, wb, wc⟩ := word_facts (decide (V < 0)) hlt
  rw [← hr] at wa wb wc
  refine ⟨⟨wa, by rw [wb]; exact hlt⟩, by rw [wb, ← hN, hg2], fun _ => ?_, fun c hc => ?_⟩
  · have e4 : Ieee.double.signWeight = 9223372036854775808 := by decide
    rw [hr]
    unfold Ieee.Format.word
    rw [e4]
    by_cases h2 : V < 0
    · simp [h2]
    · simp [h2]; omega
  · have hvs : vs 4503599627370496 (rgc 1074 N) * 2 ^ c = rne N L * 2 ^ L := by
      rw [hg, vs_at _ _ (.inr hk2) hk1, Nat.mul_assoc, ← Nat.pow_add, show L - 1074 + c = L by omega]
    have hR : Rn 53 (N : Int) ((rne N L * 2 ^ L : Nat) : Int) := by
      refine rn_mk (L := L) (by omega) ⟨rne N L, by rw [Int.natCast_mul, Int.mul_comm]⟩ ?_ (rne_err N L) (.inr ?_)
      · rw [Int.natAbs_natCast, Nat.pow_add]
        exact Nat.mul_le_mul_right _ hk1
      · rw [Int.natAbs_natCast]
        exact Nat.le_trans (p2le (by omega)) hl
    rw [wc]
    by_cases h3 : V < 0
    · rw [decide_eq_true h3, if_pos rfl, Int.neg_mul, ← Int.natCast_mul, hvs]
      have := hR.neg
      rw [hN, show -((V.natAbs : Nat) : Int) = V by omega, ← hN] at this
      exact this
    · rw [decide_eq_false h3]
      simp only [Bool.false_eq_true, if_false]
      rw [← Int.natCast_mul, hvs]
      rw [show (N : Int) = V by omega] at hR
      exact hR
theorem ux_split {c : Nat} (hc : c = 1074) : ux 4728779608772575232 = 134217729 * ((2 ^ c : Nat) : Int) := by
  have h1 : 4728779608772575232 / 4503599627370496 - 1 = c - 25 := by rw [hc]
  have h2 : 4728779608772575232 - (c - 25) * 4503599627370496 = 134217729 * 33554432 := by rw [hc]
  have h3 : 2 ^ c = 33554432 * 2 ^ (c - 25) := by
    rw [show (33554432 : Nat) = 2 ^ 25 by decide, ← Nat.pow_add]
    congr 1
    omega
  rw [ux_eq, if_neg (by decide)]
  unfold vs
  rw [show 4728779608772575232 % 9223372036854775808 = 4728779608772575232 by decide, h1, h2, h3, Nat.mul_assoc, Int.natCast_mul]
  rfl
theorem fin_split : Fin64 4728779608772575232 := ⟨by decide, by decide⟩
structure Hlv (a h l : Nat) (i : Nat) : Prop where
  lo : 2 ^ (52 + i) ≤ (ux a * ((2 ^ 53 : Nat) : Int)).natAbs
  hi : (ux a * ((2 ^ 53 : Nat) : Int)).natAbs < 2 ^ (53 + i)
  dh : ((2 ^ (27 + i) : Nat) : Int) ∣ ux h * ((2 ^ 53 : Nat) : Int)
  da : ((2 ^ i : Nat) : Int) ∣ ux a * ((2 ^ 53 : Nat) : Int)
  ll : (ux l * ((2 ^ 53 : Nat) : Int)).natAbs ≤ 2 ^ (26 + i)
  lh : (ux h * ((2 ^ 53 : Nat) : Int)).natAbs ≤ 2 ^ (53 + i)
  eq : ux l = ux a - ux h
  sm : 67108864 * (ux l).natAbs < (ux a).natAbs
theorem SPR.ok {a h l : Nat} (k : SPR a h l) (ha : a < 18446744073709551616) (ka : a % 9223372036854775808 ≤ 9088264048033660928) :
    Fin64 h ∧ Fin64 l ∧ ((ux a = 0 ∧ ux h = 0 ∧ ux l = 0) ∨ ∃ i, Hlv a h l i) := by
  obtain ⟨c, d, F1, F2, F3, F4⟩ := k
  have fa : Fin64 a := ⟨ha, by omega⟩
  obtain ⟨K, hK⟩ : ∃ K, K = 2044 := ⟨_, rfl⟩
  obtain ⟨J, hJ⟩ : ∃ J, J = 2017 := ⟨_, rfl⟩
  have ma : (ux a).natAbs ≤ 2 ^ (52 + J) := ux_pow (by omega)
  obtain ⟨M, hM⟩ : ∃ M, M = 2 ^ (52 + K) := ⟨_, rfl⟩
  obtain ⟨m3, m2⟩ := max_big hK hM
  have hMJ : M = 134217728 * 2 ^ (52 + J) := by
    rw [hM, show (134217728 : Nat) = 2 ^ 27 by decide, ← Nat.pow_add]
    congr 1
    omega
  have m4 : 2 ^ (54 + K) = 4 * M := by rw [show 54 + K = 53 + K + 1 by omega, p2succ, m2]; omega
  obtain ⟨q, hq⟩ : ∃ q, q = 1074 := ⟨_, rfl⟩
  have S1 := F1.mul fin_split fa (X := 134217729 * ux a) hq (by rw [ux_split hq, Int.mul_assoc, Int.mul_comm _ (ux a), ← Int.mul_assoc]) (by omega)
  have bc := S1.rn.bound (K := 53 + K) (by rw [m2]; omega)
  rw [m2] at bc
  have S2 := F2.sub S1.fin fa (by omega)
  have bd := S2.rn.bound (K := 54 + K) (by rw [m4]; omega)
  rw [m4] at bd
  have e2 := S2.rn.near1 (M := M) (by omega)
  have S3 := F3.sub S1.fin S2.fin (by omega)
  have bh := S3.rn.bound (K := 53 + K) (by rw [m2]; omega)
  rw [m2] at bh
  have S4 := F4.sub fa S3.fin (by omega)
  refine ⟨S3.fin, S4.fin, ?_⟩
  by_cases h0 : ux a = 0
  · have z1 := S1.rn
    rw [h0, Int.mul_zero] at z1
    have z1 := z1.ex (Fl.zero 53)
    have z2 := S2.rn
    rw [z1, h0, Int.sub_zero] at z2
    have z2 := z2.ex (Fl.zero 53)
    have z3 := S3.rn
    rw [z1, z2, Int.sub_zero] at z3
    have z3 := z3.ex (Fl.zero 53)
    have z4 := S4.rn
    rw [h0, z3, Int.sub_zero] at z4
    exact .inl ⟨h0, z3, z4.ex (Fl.zero 53)⟩
  · refine .inr ?_
    have hA : 2 ^ 53 ≤ (ux a * ((2 ^ 53 : Nat) : Int)).natAbs := by
      rw [abs_mul2]
      have := Nat.mul_le_mul_right (2 ^ 53) (show 1 ≤ (ux a).natAbs by omega)
      omega
    obtain ⟨i, i1, i2⟩ := place (show 1 ≤ 53 by omega) (ux a * ((2 ^ 53 : Nat) : Int))
    have i2 : 2 ^ (52 + i) ≤ (ux a * ((2 ^ 53 : Nat) : Int)).natAbs := by
      rcases i2 with h | h
      · subst h; exact Nat.le_trans (p2le (by omega)) hA
      · exact h
    have r1 := S1.rn.scale (by omega) 53
    have r2 := S2.rn.scale (by omega) 53
    have r3 := S3.rn.scale (by omega) 53
    have r4 := S4.rn.scale (by omega) 53
    rw [Int.mul_assoc] at r1
    rw [Int.sub_mul] at r2 r3 r4
    obtain ⟨v1, v2, v3, v4, v5, v6, v7⟩ := veltkamp i2 i1 (fa.fl.scale 53) r1 r2 r3 r4
    have e5 : ux l = ux a - ux h := by
      rw [← Int.sub_mul] at v5
      exact Int.eq_of_mul_eq_mul_right (by decide) v5
    refine ⟨i, i2, i1, v1, v2, by rw [v5]; exact v3, v4, e5, ?_⟩
    rw [← Int.sub_mul, abs_mul2, abs_mul2, ← Nat.mul_assoc] at v7
    rw [e5]
    exact Nat.lt_of_mul_lt_mul_right v7
theorem Fl.unscale {p : Nat} {x : Int} {t : Nat} (h : Fl p (x * ((2 ^ t : Nat) : Int))) : Fl p x := by
  obtain ⟨q, h1, h2⟩ := h
  have ht := p2pos t
  rw [abs_mul2] at h2
  rcases Nat.lt_or_ge q t with h3 | h3
  · refine Fl.small (Nat.le_of_mul_le_mul_right (Nat.le_trans h2 ?_) ht)
    rw [← Nat.pow_add]; exact p2le (by omega)
  · obtain ⟨r, rfl⟩ : ∃ r, q = r + t := ⟨q - t, by omega⟩
    refine ⟨r, ?_, ?_⟩
    · rw [Nat.pow_add, Int.natCast_mul] at h1
      exact Int.dvd_of_mul_dvd_mul_right (by omega) h1
    · refine Nat.le_of_mul_le_mul_right (c := 2 ^ t) ?_ ht
      rw [← Nat.pow_add, Nat.add_assoc]; exact h2
theorem dvd_mul2 {x y : Int} {m n : Nat} (hx : ((2 ^ m : Nat) : Int) ∣ x) (hy : ((2 ^ n : Nat) : Int) ∣ y) : ((2 ^ (m + n) : Nat) : Int) ∣ x * y := by
  rw [Nat.pow_add, Int.natCast_mul]; exact Int.mul_dvd_mul hx hy
theorem le_mul2 {x y : Int} {m n : Nat} (hx : x.natAbs ≤ 2 ^ m) (hy : y.natAbs ≤ 2 ^ n) : (x * y).natAbs ≤ 2 ^ (m + n) := by
  rw [Int.natAbs_mul, Nat.pow_add]; exact Nat.mul_le_mul hx hy
theorem half_prod {u v : Int} {m n k l c t : Nat} (hc : c = 1074) (ht : t = 1180) (du : ((2 ^ m : Nat) : Int) ∣ u * ((2 ^ 53 : Nat) : Int)) (dv : ((2 ^ n : Nat) : Int) ∣ v * ((2 ^ 53 : Nat) : Int)) (lu : (u * ((2 ^ 53 : Nat) : Int)).natAbs ≤ 2 ^ k) (lv : (v * ((2 ^ 53 : Nat) : Int)).natAbs ≤ 2 ^ l) (h1 : 1180 ≤ m + n) (h2 : k + l ≤ 53 + (m + n)) :
    ∃ X : Int, u * v = X * ((2 ^ c : Nat) : Int) ∧ Fl 53 X ∧ X * ((2 ^ t : Nat) : Int) = u * ((2 ^ 53 : Nat) : Int) * (v * ((2 ^ 53 : Nat) : Int)) := by
  have hm : u * ((2 ^ 53 : Nat) : Int) * (v * ((2 ^ 53 : Nat) : Int)) = u * v * ((2 ^ 106 : Nat) : Int) := by
    rw [show ((2 ^ 106 : Nat) : Int) = ((2 ^ 53 : Nat) : Int) * ((2 ^ 53 : Nat) : Int) from rfl, Int.mul_assoc, Int.mul_assoc, ← Int.mul_assoc _ v, Int.mul_comm _ v, Int.mul_assoc]
  have hd := dvd_mul2 du dv
  have hl := le_mul2 lu lv
  have hf : Fl 53 (u * ((2 ^ 53 : Nat) : Int) * (v * ((2 ^ 53 : Nat) : Int))) := ⟨m + n, hd, Nat.le_trans hl (p2le h2)⟩
  rw [hm] at hd hf
  have hd2 : ((2 ^ t : Nat) : Int) ∣ u * v * ((2 ^ 106 : Nat) : Int) := Int.dvd_trans (p2dvd (by omega)) hd
  have e1 : ((2 ^ t : Nat) : Int) = ((2 ^ c : Nat) : Int) * ((2 ^ 106 : Nat) : Int) := by rw [← Int.natCast_mul, ← Nat.pow_add, show c + 106 = t by omega]
  rw [e1] at hd2
  obtain ⟨X, hX0⟩ := Int.dvd_of_mul_dvd_mul_right (by decide) hd2
  have hX : u * v = X * ((2 ^ c : Nat) : Int) := by rw [hX0, Int.mul_comm]
  refine ⟨X, hX, ?_, ?_⟩
  · rw [hX, Int.mul_assoc, ← e1] at hf
    exact hf.unscale
  · rw [hm, hX, Int.mul_assoc, ← e1]
theorem Rn.near2 {x s : Int} {M : Nat} (h : Rn 53 x s) (hs : s.natAbs ≤ 32 * M) : (x - s).natAbs ≤ M := by
  have h1 := h.little (by omega)
  rw [show (2 : Nat) ^ 53 = 9007199254740992 by decide] at h1
  omega
theorem p2x4 (k : Nat) : 2 ^ (k + 2) = 4 * 2 ^ k := by rw [p2succ, p2succ]; omega
theorem p2x8 (k : Nat) : 2 ^ (k + 3) = 8 * 2 ^ k := by rw [p2succ, p2succ, p2succ]; omega
theorem p2x16 (k : Nat) : 2 ^ (k + 4) = 16 * 2 ^ k := by rw [p2succ, p2succ, p2succ, p2succ]; omega
theorem dek_small {x y a b : Int} {k l i j : Nat} (hx : x.natAbs ≤ 2 ^ k) (hy : y.natAbs ≤ 2 ^ l) (ha : 2 ^ (52 + i) ≤ a.natAbs) (hb : 2 ^ (52 + j) ≤ b.natAbs) (h : k + l + 2 ≤ 104 + (i + j)) : 4 * (x * y).natAbs ≤ (a * b).natAbs := by
  have h1 := le_mul2 hx hy
  have h2 : 2 ^ (104 + (i + j)) ≤ (a * b).natAbs := by
    rw [Int.natAbs_mul, show 104 + (i + j) = 52 + i + (52 + j) by omega, Nat.pow_add]; exact Nat.mul_le_mul ha hb
  have h3 : 4 * 2 ^ (k + l) ≤ 2 ^ (104 + (i + j)) := by
    rw [← p2x4]; exact p2le h
  omega
theorem TPR.ok {a b p e : Nat} (h : TPR a b p e) (ha : a < 18446744073709551616) (hb : b < 18446744073709551616) (ka : a % 9223372036854775808 ≤ 9088264048033660928) (kb : b % 9223372036854775808 ≤ 9088264048033660928)
    (hV : ux a * ux b = 0 ∨ ((∀ K, K = 1188 → 2 ^ K ≤ (ux a * ux b).natAbs) ∧ ∀ K, K = 3169 → (ux a * ux b).natAbs ≤ 2 ^ K)) :
    Fin64 p ∧ Fin64 e ∧ (∀ c, c = 1074 → (ux p + ux e) * ((2 ^ c : Nat) : Int) = ux a * ux b) ∧ (ux a * ux b = 0 → ux p = 0 ∧ ux e = 0) ∧ (ux a * ux b ≠ 0 → Pm64 (ux a * ux b) p) := by
  obtain ⟨ah, al, bh, bl, x1, e1, x2, e2, x3, e3, x4, F1, S1, S2, F2, F3, F4, F5, F6, F7, F8, F9⟩ := h
  have fa : Fin64 a := ⟨ha, by omega⟩
  have fb : Fin64 b := ⟨hb, by omega⟩
  obtain ⟨f1, f2, g1⟩ := S1.ok ha ka
  obtain ⟨f3, f4, g2⟩ := S2.ok hb kb
  obtain ⟨c, hc⟩ : ∃ c, c = 1074 := ⟨_, rfl⟩
  by_cases hV0 : ux a * ux b = 0
  · -- a nought among them
    have hz : ∀ {x y r : Nat}, FlR .mul x y r → Fin64 x → Fin64 y → ux x * ux y = 0 → Fin64 r ∧ ux r = 0 := fun F hx hy h0 => by
      have S := F.mul hx hy (X := 0) hc (by rw [h0, Int.zero_mul]) (by simp)
      exact ⟨S.fin, S.rn.ex (Fl.zero 53)⟩
    have hs : ∀ {x y r : Nat}, FlR .add x y r → Fin64 x → Fin64 y → ux x = 0 → ux y = 0 → Fin64 r ∧ ux r = 0 := fun F hx hy h0 h1 => by
      have S := F.add hx hy (by rw [h0, h1]; simp)
      have R := S.rn
      rw [h0, h1, Int.add_zero] at R
      exact ⟨S.fin, R.ex (Fl.zero 53)⟩
    have hd : ∀ {x y r : Nat}, FlR .sub x y r → Fin64 x → Fin64 y → ux x = 0 → ux y = 0 → Fin64 r ∧ ux r = 0 := fun F hx hy h0 h1 => by
      have S := F.sub hx hy (by rw [h0, h1]; simp)
      have R := S.rn
      rw [h0, h1, Int.sub_zero] at R
      exact ⟨S.fin, R.ex (Fl.zero 53)⟩
    have hab : ux ah * ux bh = 0 ∧ ux ah * ux bl = 0 ∧ ux al * ux bh = 0 ∧ ux al * ux bl = 0 := by
      rcases Int.mul_eq_zero.1 hV0 with h0 | h0
      · rcases g1 with ⟨_, z1, z2⟩ | ⟨i, g⟩
        · rw [z1, z2]; simp
        · have := g.sm; rw [h0] at this; simp at this
      · rcases g2 with ⟨_, z1, z2⟩ | ⟨i, g⟩
        · rw [z1, z2]; simp
        · have := g.sm; rw [h0] at this; simp at this
    obtain ⟨y0, z0⟩ := hz F1 fa fb hV0
    obtain ⟨y1, z1⟩ := hz F2 f1 f3 hab.1
    obtain ⟨y2, z2⟩ := hd F3 y1 y0 z1 z0
    obtain ⟨y3, z3⟩ := hz F4 f1 f4 hab.2.1
    obtain ⟨y4, z4⟩ := hs F5 y2 y3 z2 z3
    obtain ⟨y5, z5⟩ := hz F6 f2 f3 hab.2.2.1
    obtain ⟨y6, z6⟩ := hs F7 y4 y5 z4 z5
    obtain ⟨y7, z7⟩ := hz F8 f2 f4 hab.2.2.2
    obtain ⟨y8, z8⟩ := hs F9 y6 y7 z6 z7
    exact ⟨y0, y8, fun c _ => by rw [z0, z8, hV0, Int.add_zero, Int.zero_mul], fun _ => ⟨z0, z8⟩, fun h => absurd hV0 h⟩
  · have hVb := hV.resolve_left hV0
    rcases g1 with ⟨z, _⟩ | ⟨i, ga⟩
    · exact absurd (by rw [z, Int.zero_mul]) hV0
    rcases g2 with ⟨z, _⟩ | ⟨j, gb⟩
    · exact absurd (by rw [z, Int.mul_zero]) hV0
    obtain ⟨k1, hk1⟩ : ∃ K, K = 1188 := ⟨_, rfl⟩
    obtain ⟨k2, hk2⟩ : ∃ K, K = 3169 := ⟨_, rfl⟩
    obtain ⟨t, ht⟩ : ∃ t, t = 1180 := ⟨_, rfl⟩
    have hV1 := hVb.1 k1 hk1
    have hV2 := hVb.2 k2 hk2
    have hm : ux a * ((2 ^ 53 : Nat) : Int) * (ux b * ((2 ^ 53 : Nat) : Int)) = ux a * ux b * ((2 ^ 106 : Nat) : Int) := by
      rw [show ((2 ^ 106 : Nat) : Int) = ((2 ^ 53 : Nat) : Int) * ((2 ^ 53 : Nat) : Int) from rfl, Int.mul_assoc, Int.mul_assoc, ← Int.mul_assoc _ (ux b), Int.mul_comm _ (ux b), Int.mul_assoc]
    have hij : 1188 ≤ i + j := by
      have h1 := le_mul2 (Nat.le_of_lt ga.hi) (Nat.le_of_lt gb.hi)
      rw [hm, abs_mul2] at h1
      have h2 := Nat.le_trans (Nat.mul_le_mul_right (2 ^ 106) hV1) h1
      rw [← Nat.pow_add] at h2
      have h3 : k1 + 106 < 53 + i + (53 + j) + 1 := p2lt (Nat.lt_of_le_of_lt h2 (by rw [p2succ]; have := p2pos (53 + i + (53 + j)); omega))
      omega
    have dal : ((2 ^ i : Nat) : Int) ∣ ux al * ((2 ^ 53 : Nat) : Int) := by rw [ga.eq, Int.sub_mul]; exact Int.dvd_sub ga.da (Int.dvd_trans (p2dvd (by omega)) ga.dh)
    have dbl : ((2 ^ j : Nat) : Int) ∣ ux bl * ((2 ^ 53 : Nat) : Int) := by rw [gb.eq, Int.sub_mul]; exact Int.dvd_sub gb.da (Int.dvd_trans (p2dvd (by omega)) gb.dh)
    obtain ⟨X1, p1, q1, s1⟩ := half_prod hc ht ga.dh gb.dh ga.lh gb.lh (by omega) (by omega)
    obtain ⟨X2, p2, q2, s2⟩ := half_prod hc ht ga.dh dbl ga.lh gb.ll (by omega) (by omega)
    obtain ⟨X3, p3, q3, s3⟩ := half_prod hc ht dal gb.dh ga.ll gb.lh (by omega) (by omega)
    obtain ⟨X4, p4, q4, s4⟩ := half_prod hc ht dal dbl ga.ll gb.ll (by omega) (by omega)
    have b2 := dek_small ga.lh gb.ll ga.lo gb.lo (by omega)
    have b3 := dek_small ga.ll gb.lh ga.lo gb.lo (by omega)
    have b4 := dek_small ga.ll gb.ll ga.lo gb.lo (by omega)
    have hsum : ux a * ux b = ux ah * ux bh + ux ah * ux bl + ux al * ux bh + ux al * ux bl := by
      have h1 := ga.eq
      have h2 := gb.eq
      rw [show ux a = ux ah + ux al by omega, show ux b = ux bh + ux bl by omega, Int.add_mul, Int.mul_add, Int.mul_add]; omega
    have hW : ux a * ux b = (X1 + X2 + X3 + X4) * ((2 ^ c : Nat) : Int) := by rw [hsum, p1, p2, p3, p4, Int.add_mul, Int.add_mul, Int.add_mul]
    have hWt : ux a * ((2 ^ 53 : Nat) : Int) * (ux b * ((2 ^ 53 : Nat) : Int)) = (X1 + X2 + X3 + X4) * ((2 ^ t : Nat) : Int) := by
      rw [hm, hW, Int.mul_assoc, ← Int.natCast_mul, ← Nat.pow_add, show c + 106 = t by omega]
    have hcp := p2pos c
    have htp := p2pos t
    rw [hWt, ← s2, abs_mul2, abs_mul2, ← Nat.mul_assoc] at b2
    rw [hWt, ← s3, abs_mul2, abs_mul2, ← Nat.mul_assoc] at b3
    rw [hWt, ← s4, abs_mul2, abs_mul2, ← Nat.mul_assoc] at b4
    have b2 := Nat.le_of_mul_le_mul_right b2 htp
    have b3 := Nat.le_of_mul_le_mul_right b3 htp
    have b4 := Nat.le_of_mul_le_mul_right b4 htp
    obtain ⟨K, hK⟩ : ∃ K, K = 2044 := ⟨_, rfl⟩
    obtain ⟨M, hM⟩ : ∃ M, M = 2 ^ (52 + K) := ⟨_, rfl⟩
    obtain ⟨m3, m2⟩ := max_big hK hM
    obtain ⟨M0, hM0⟩ : ∃ M0, M0 = 2 ^ (48 + K) := ⟨_, rfl⟩
    have hMM : M = 16 * M0 := by rw [hM, hM0, ← p2x16]; congr 1; omega
    have hWb : (X1 + X2 + X3 + X4).natAbs ≤ 8 * M0 := by
      rw [hW, abs_mul2] at hV2
      refine Nat.le_of_mul_le_mul_right (Nat.le_trans hV2 (Nat.le_of_eq ?_)) hcp
      rw [hM0, ← p2x8, ← Nat.pow_add]
      congr 1
      omega
    have hl1 : k1 ≤ (ux a * ux b).natAbs.log2 := (Nat.le_log2 (by omega)).2 hV1
    have hl2 : (ux a * ux b).natAbs.log2 ≤ k2 := by
      refine Nat.le_of_lt_succ ((Nat.log2_lt (by omega)).2 (Nat.lt_of_le_of_lt hV2 ?_))
      rw [p2succ]; have := p2pos k2; omega
    have P1 := F1.big fa fb (by omega) (by omega)
    have hp := P1.rn c hc
    have bp : (ux p).natAbs ≤ 8 * M0 := by
      have h1 := hp.bound hV2
      rw [abs_mul2] at h1
      refine Nat.le_of_mul_le_mul_right (Nat.le_trans h1 (Nat.le_of_eq ?_)) hcp
      rw [hM0, ← p2x8, ← Nat.pow_add]
      congr 1
      omega
    have T1 := F2.mul f1 f3 hc p1 (by omega)
    have T2 := F4.mul f1 f4 hc p2 (by omega)
    have T3 := F6.mul f2 f3 hc p3 (by omega)
    have T4 := F8.mul f2 f4 hc p4 (by omega)
    have y1 := T1.rn.ex q1
    have y2 := T2.rn.ex q2
    have y3 := T3.rn.ex q3
    have y4 := T4.rn.ex q4
    have U1 := F3.sub T1.fin P1.fin (by omega)
    have v1 := U1.rn.bound (K := 53 + K) (by rw [m2]; omega)
    rw [m2] at v1
    have n1 := U1.rn.near2 (M := M0) (by omega)
    have U2 := F5.add U1.fin T2.fin (by omega)
    have v2 := U2.rn.bound (K := 53 + K) (by rw [m2]; omega)
    rw [m2] at v2
    have n2 := U2.rn.near2 (M := M0) (by omega)
    have U3 := F7.add U2.fin T3.fin (by omega)
    have v3 := U3.rn.bound (K := 53 + K) (by rw [m2]; omega)
    rw [m2] at v3
    have n3 := U3.rn.near2 (M := M0) (by omega)
    have U4 := F9.add U3.fin T4.fin (by omega)
    -- in units that make normals
    have r0 := hp.scale (by omega) 106
    rw [Int.mul_assoc (ux p), ← Int.natCast_mul, ← Nat.pow_add, show c + 106 = t by omega, ← hm] at r0
    have r1 := U1.rn.scale (by omega) t
    rw [y1, Int.sub_mul, s1] at r1
    have r2 := U2.rn.scale (by omega) t
    rw [y2, Int.add_mul, s2] at r2
    have r3 := U3.rn.scale (by omega) t
    rw [y3, Int.add_mul, s3] at r3
    have r4 := U4.rn.scale (by omega) t
    rw [y4, Int.add_mul, s4] at r4
    have D := dekker ga.lo ga.hi gb.lo gb.hi (by rw [ga.eq, Int.sub_mul]) (by rw [gb.eq, Int.sub_mul]) ga.da gb.da ga.dh gb.dh ga.ll gb.ll ga.lh gb.lh r0 r1 r2 r3 r4
    have hD := D.1
    rw [← Int.add_mul, hWt] at hD
    have hD := Int.eq_of_mul_eq_mul_right (by omega) hD
    exact ⟨P1.fin, U4.fin, fun c' hc' => by rw [hD, hW, hc', hc], fun h => absurd h hV0, fun _ => P1⟩
end Go.Proofs.Ytoclnjbmhepcnaa
namespace Go.Proofs.Ytoclnjbmhepcnaa
open Go.RowKit Go.Shelf
set_option maxRecDepth 20000
set_option maxHeartbeats 0
theorem rpow2t (w : World) (k : Nat) (hk : k ≤ 524288) :
    Calls Try.prog 22 #[.int .i64 k] w fun e w' => ∃ p' m' zs, e = .returned (.slice p' m' m') ∧ At32 w' p' m' m' zs ∧ Nf B32 zs (2 ^ k) ∧ m' ≤ 40000 ∧ Below w.heap.size w w' := by
  have HK : Hid (k ≤ 524288) := hk
  clear hk
  have hbw : Below w.heap.size w w := Below.refl _ _
  go_enter Try.func22, Try.ntmps22
  go_wp2_with fail
  refine (rword 1 (by rw [B64_eq]; decide) _).mono ?_
  rintro e v4 ⟨g4, z4, rfl, hl4, hA4, hN4, hb4⟩
  replace hbw := Below.on hbw hb4
  clear hb4
  have A4 : Hid (At32 v4 (some ⟨g4, 0, none⟩) z4.length z4.length z4) := hA4
  have N4 : Hid (Nf B32 z4 1 ∧ z4.length ≤ 2) := ⟨hN4, hl4⟩
  clear hA4 hN4 hl4
  go_wp2_with fail
  refine (rshl_all A4.out N4.out.1 (by have := N4.out; omega) k (.inl HK.out)).mono ?_
  rintro e v5 ⟨p5, m5, z5, rfl, hA5, hN5, hl5, hb5⟩
  replace A4 : Hid _ := A4.out.below hb5
  replace hbw := Below.on hbw hb5
  clear hb5
  have A5 : Hid (At32 v5 p5 m5 m5 z5) := hA5
  have N5 : Hid (Nf B32 z5 (2 ^ k) ∧ m5 ≤ 40000) := ⟨by rw [Nat.one_mul] at hN5; exact hN5, hl5⟩
  clear hA5 hN5 hl5
  go_wp2_with fail
  go_ret
  exact ⟨p5, m5, z5, rfl, A5.out, N5.out.1, N5.out.2, hbw⟩
theorem rpow2k (k : Nat) (e : Int) (he : e = (k : Int)) (hk : k ≤ 524288) (w : World) : Calls Try.prog 22 #[.int .i64 e] w fun e w' => ∃ p' m' zs, e = .returned (.slice p' m' m') ∧ At32 w' p' m' m' zs ∧ Nf B32 zs (2 ^ k) ∧ m' ≤ 40000 ∧ Below w.heap.size w w' := by
  subst he; exact rpow2t w k hk
theorem Sm64.little {X : Int} {s e : Nat} (h : Sm64 X s) (he : ux s + ux e = X) : 9007199254740992 * (ux e).natAbs ≤ (ux s).natAbs := by
  have h1 := h.rn.little (by omega)
  rw [show X - ux s = ux e by omega, show (2 : Nat) ^ 53 = 9007199254740992 by decide] at h1
  exact h1
theorem rshl04k {p : Option Addr} {m : Nat} {w : World} {x : Int} (s : Bool) (h : ZR w s p m x) (hm : m ≤ 16384) (k : Nat) (e : Int) (he : e = (k : Int)) (hk : k ≤ 524288) :
    Calls Try.prog 23 #[.agg #[.bool s, .slice p m m], .int .i64 e] w fun e w' => ∃ v, e = .returned v ∧ GotR w.heap.size w' v (x * 2 ^ k) 40000 ∧ Below w.heap.size w w' := by
  subst he; exact rshl04 s h hm k (.inl hk)
end Go.Proofs.Ytoclnjbmhepcnaa
namespace Go.Proofs.Ytoclnjbmhepcnaa
open Go.RowKit
set_option maxRecDepth 20000
set_option maxHeartbeats 0
theorem ordI (x y : Int) : compare x y = if x < y then .lt else if x = y then .eq else .gt := rfl
theorem ordI_mul (x y : Int) {k : Nat} (hk : 0 < k) : compare (x * (k : Int)) (y * (k : Int)) = compare x y := by
  have hk' : (0 : Int) < (k : Int) := by omega
  rw [ordI, ordI]
  have h1 : (x * (k : Int) < y * (k : Int)) ↔ x < y := ⟨fun h => Int.lt_of_mul_lt_mul_right h (Int.le_of_lt hk'), fun h => Int.mul_lt_mul_of_pos_right h hk'⟩
  have h2 : (x * (k : Int) = y * (k : Int)) ↔ x = y := ⟨fun h => Int.eq_of_mul_eq_mul_right (by omega) h, fun h => by rw [h]⟩
  simp only [h1, h2]
theorem order_fin {a b : Nat} (ha : Fin64 a) (hb : Fin64 b) : Ieee.double.order a b = some (compare (ux a) (ux b)) := by
  obtain ⟨m, q, h1, h2⟩ := read_fin ha.lt ha.fin
  obtain ⟨n, r, h3, h4⟩ := read_fin hb.lt hb.fin
  unfold Ieee.Format.order
  rw [h1, h3, ux_of h2, ux_of h4]
  unfold Ieee.Datum.order
  dsimp only
  obtain ⟨d, hd⟩ : ∃ d, d = min q r := ⟨_, rfl⟩
  have e1 : (-1074 + (q : Int) - min (-1074 + (q : Int)) (-1074 + (r : Int))).toNat = q - d := by omega
  have e2 : (-1074 + (r : Int) - min (-1074 + (q : Int)) (-1074 + (r : Int))).toNat = r - d := by omega
  rw [e1, e2, ← ordI_mul _ _ (p2pos d), signed_up, signed_up, show q - d + d = q by omega, show r - d + d = r by omega]
def InfP (r : Nat) : Prop := r % 9223372036854775808 = 9218868437227405312
theorem three64 (r : Nat) (h : r < 18446744073709551616) : Fin64 r ∨ InfP r ∨ NanP r := by
  unfold InfP NanP
  rcases Nat.lt_trichotomy (r % 9223372036854775808) 9218868437227405312 with h1 | h1 | h1
  · exact .inl ⟨h, h1⟩
  · exact .inr (.inl h1)
  · exact .inr (.inr h1)
theorem read_inf {b : Nat} (h : InfP b) : Ieee.double.read b = .infinity (b / 9223372036854775808 % 2 == 1) := by
  have e1 : Ieee.double.leastPlace = -1074 := by decide
  have e2 : Ieee.double.binade = 4503599627370496 := by decide
  have e3 : Ieee.double.infRung = 9218868437227405312 := by decide
  have e4 : Ieee.double.signWeight = 9223372036854775808 := by decide
  unfold InfP at h
  unfold Ieee.Format.read
  rw [e1, e2, e3, e4]
  dsimp only
  rw [h]
  simp
theorem read_nan {b : Nat} (h : NanP b) : ∃ s m, Ieee.double.read b = .nan s m := by
  have e2 : Ieee.double.binade = 4503599627370496 := by decide
  have e3 : Ieee.double.infRung = 9218868437227405312 := by decide
  have e4 : Ieee.double.signWeight = 9223372036854775808 := by decide
  unfold NanP at h
  unfold Ieee.Format.read
  rw [e2, e3, e4]
  dsimp only
  rw [if_neg (by omega), if_neg (by omega), if_neg (by omega)]
  exact ⟨_, _, rfl⟩
theorem order_nan {a b : Nat} (h : NanP a ∨ NanP b) : Ieee.double.order a b = none := by
  unfold Ieee.Format.order
  rcases h with h | h
  · obtain ⟨s, m, hr⟩ := read_nan h; rw [hr]; rfl
  · obtain ⟨s, m, hr⟩ := read_nan h; rw [hr]
    cases Ieee.double.read a <;> rfl
theorem order_inf {a b : Nat} (h : InfP a) (hb : Fin64 b) : Ieee.double.order a b = some .lt ∨ Ieee.double.order a b = some .gt := by
  unfold Ieee.Format.order
  obtain ⟨n, r, h3, h4⟩ := read_fin hb.lt hb.fin
  rw [read_inf h, h3]
  unfold Ieee.Datum.order
  cases (a / 9223372036854775808 % 2 == 1)
  · exact .inr rfl
  · exact .inl rfl
def rv (X : Int) : Int := if X < 0 then -(vs 4503599627370496 (rg 0 X.natAbs) : Int) else (vs 4503599627370496 (rg 0 X.natAbs) : Int)
theorem sm_word2 {X : Int} {neg : Bool} (h1 : rg 0 X.natAbs < 9218868437227405312) (hn : X ≠ 0 → neg = decide (X < 0)) : Fin64 (Ieee.double.word neg (rg 0 X.natAbs)) ∧ ux (Ieee.double.word neg (rg 0 X.natAbs)) = rv X ∧ Rn 53 X (rv X) := by
  obtain ⟨a, b, c⟩ := word_facts neg h1
  have hc : ux (Ieee.double.word neg (rg 0 X.natAbs)) = rv X := by
    rw [c]
    unfold rv
    by_cases h0 : X = 0
    · subst h0
      have h3 : vs 4503599627370496 (rg 0 (Int.natAbs 0)) = 0 := by rw [show rg 0 (Int.natAbs 0) = 0 from rfl]; simp [vs]
      rw [h3]; cases neg <;> simp
    · rw [hn h0]; by_cases h3 : X < 0 <;> simp [h3]
  refine ⟨⟨a, by rw [b]; exact h1⟩, hc, ?_⟩
  have h2 := rg_rn X.natAbs h1
  unfold rv
  by_cases h3 : X < 0
  · rw [if_pos h3]
    have := h2.neg
    rw [show -((X.natAbs : Nat) : Int) = X by omega] at this
    exact this
  · rw [if_neg h3]
    rw [show ((X.natAbs : Nat) : Int) = X by omega] at h2
    exact h2
theorem rg_top (n : Nat) : rg 0 n ≤ 9218868437227405312 := by
  unfold rg
  split
  · omega
  · exact Nat.min_le_right ..
theorem fl_add_any {a b : Nat} (ha : Fin64 a) (hb : Fin64 b) : ∃ r, floatBits .add .f64 a b = some r ∧ ((Fin64 r ∧ ux r = rv (ux a + ux b) ∧ Rn 53 (ux a + ux b) (ux r)) ∨ InfP r) ∧ (rg 0 (ux a + ux b).natAbs < 9218868437227405312 ↔ Fin64 r) := by
  obtain ⟨m, q, h1, h2⟩ := read_fin ha.lt ha.fin
  obtain ⟨n, t, h3, h4⟩ := read_fin hb.lt hb.fin
  have hX : ux a + ux b = Ieee.signed (decide (9223372036854775808 ≤ a)) m q + Ieee.signed (decide (9223372036854775808 ≤ b)) n t := by rw [ux_of h2, ux_of h4]
  refine ⟨Ieee.double.word (if ux a + ux b = 0 then decide (9223372036854775808 ≤ a) && decide (9223372036854775808 ≤ b) else decide (ux a + ux b < 0)) (rg 0 (ux a + ux b).natAbs), ?_, ?_⟩
  · show ((Ieee.double.read a).sum (Ieee.double.read b)).map Ieee.double.write = _
    rw [h1, h3]
    exact sum_fin _ _ _ _ _ _ _ hX
  · rcases Nat.lt_or_ge (rg 0 (ux a + ux b).natAbs) 9218868437227405312 with h | h
    · obtain ⟨f1, f2, f3⟩ := sm_word2 (neg := if ux a + ux b = 0 then decide (9223372036854775808 ≤ a) && decide (9223372036854775808 ≤ b) else decide (ux a + ux b < 0)) h fun h0 => if_neg h0
      exact ⟨.inl ⟨f1, f2, by rw [f2]; exact f3⟩, fun _ => f1, fun _ => h⟩
    · have h5 : rg 0 (ux a + ux b).natAbs = 9218868437227405312 := Nat.le_antisymm (rg_top _) h
      have e4 : Ieee.double.signWeight = 9223372036854775808 := by decide
      have h6 : InfP (Ieee.double.word (if ux a + ux b = 0 then decide (9223372036854775808 ≤ a) && decide (9223372036854775808 ≤ b) else decide (ux a + ux b < 0)) (rg 0 (ux a + ux b).natAbs)) := by
        rw [h5]
        unfold InfP Ieee.Format.word
        rw [e4]
        cases (if ux a + ux b = 0 then decide (9223372036854775808 ≤ a) && decide (9223372036854775808 ≤ b) else decide (ux a + ux b < 0)) <;> simp
      refine ⟨.inr h6, fun h7 => absurd h7 (by omega), fun h7 => ?_⟩
      have h8 := h7.fin
      unfold InfP at h6
      omega
theorem fl_add_not {a b : Nat} (ha : Fin64 a) (hb : ¬ Fin64 b) (hlt : b < 18446744073709551616) : floatBits .add .f64 a b = none ∨ ∃ r, floatBits .add .f64 a b = some r ∧ InfP r := by
  obtain ⟨m, q, h1, h2⟩ := read_fin ha.lt ha.fin
  rcases three64 b hlt with h | h | h
  · exact absurd h hb
  · refine .inr ?_
    have e : floatBits .add .f64 a b = ((Ieee.double.read a).sum (Ieee.double.read b)).map Ieee.double.write := rfl
    rw [e, h1, read_inf h]
    cases (b / 9223372036854775808 % 2 == 1)
    · exact ⟨_, rfl, by unfold InfP; decide⟩
    · exact ⟨_, rfl, by unfold InfP; decide⟩
  · refine .inl ?_
    have e : floatBits .add .f64 a b = ((Ieee.double.read a).sum (Ieee.double.read b)).map Ieee.double.write := rfl
    obtain ⟨s, k, hr⟩ := read_nan h
    rw [e, h1, hr]; rfl
structure DdF (h l : Nat) : Prop where
  hi : Fin64 h
  lo : Fin64 l
  fit : rg 0 (ux h + ux l).natAbs < 9218868437227405312
  eq : rv (ux h + ux l) = ux h
theorem DdF.rn {h l : Nat} (d : DdF h l) : Rn 53 (ux h + ux l) (ux h) := by
  have := (sm_word2 (neg := decide (ux h + ux l < 0)) d.fit fun _ => rfl).2.2
  rw [d.eq] at this
  exact this
theorem form_iff {h l r : Nat} (hh : Fin64 h) (hl : l < 18446744073709551616) (F : FlR .add h l r) : Ieee.double.order r h = some .eq ↔ DdF h l := by
  by_cases hf : Fin64 l
  · obtain ⟨r', e1, e2, e3⟩ := fl_add_any hh hf
    obtain rfl : r = r' := F.some _ e1
    rcases e2 with ⟨f1, f2, f3⟩ | h6
    · rw [order_fin f1 hh, f2, ordI]
      constructor
      · intro h7
        refine ⟨hh, hf, e3.2 f1, ?_⟩
        split at h7
        · cases h7
        · split at h7
          · assumption
          · cases h7
      · intro d
        rw [if_neg (by rw [d.eq]; omega), if_pos d.eq]
    · constructor
      · intro h7
        rcases order_inf h6 hh with h8 | h8 <;> rw [h8] at h7 <;> cases h7
      · intro d
        have h8 := (e3.1 d.fit).fin
        unfold InfP at h6
        omega
  · constructor
    · intro h7
      rcases fl_add_not hh hf hl with h8 | ⟨r', h8, h9⟩
      · rw [order_nan (.inl (F.none h8))] at h7; cases h7
      · obtain rfl : r = r' := F.some _ h8
        rcases order_inf h9 hh with h8 | h8 <;> rw [h8] at h7 <;> cases h7
    · intro d
      exact absurd d.lo hf
def flipS (b : Nat) : Nat := if 9223372036854775808 ≤ b then b - 9223372036854775808 else b + 9223372036854775808
theorem flip_ux {b : Nat} (hb : b < 18446744073709551616) : ux (flipS b) = -ux b ∧ flipS b < 18446744073709551616 ∧ flipS b % 9223372036854775808 = b % 9223372036854775808 := by
  rw [ux_eq, ux_eq]
  unfold flipS
  split
  · rename_i h
    rw [if_neg (by omega), show (b - 9223372036854775808) % 9223372036854775808 = b % 9223372036854775808 by omega]
    exact ⟨by omega, by omega, rfl⟩
  · rename_i h
    rw [if_pos (by omega), show (b + 9223372036854775808) % 9223372036854775808 = b % 9223372036854775808 by omega]
    exact ⟨by omega, by omega, rfl⟩
theorem rv_neg (X : Int) : rv (-X) = -rv X := by
  unfold rv
  rw [Int.natAbs_neg]
  rcases Int.lt_trichotomy X 0 with h | h | h
  · rw [if_neg (by omega), if_pos h]; omega
  · subst h
    have h3 : vs 4503599627370496 (rg 0 (Int.natAbs 0)) = 0 := by rw [show rg 0 (Int.natAbs 0) = 0 from rfl]; simp [vs]
    rw [h3]; simp
  · rw [if_pos (by omega), if_neg (by omega)]
theorem Fin64.flipS {b : Nat} (h : Fin64 b) : Fin64 (flipS b) := by
  obtain ⟨_, h2, h3⟩ := flip_ux h.lt
  exact ⟨h2, by rw [h3]; exact h.fin⟩
theorem DdF.neg {h l : Nat} (d : DdF h l) : DdF (flipS h) (flipS l) := by
  have h1 := (flip_ux d.hi.lt).1
  have h2 := (flip_ux d.lo.lt).1
  have h3 : ux (flipS h) + ux (flipS l) = -(ux h + ux l) := by rw [h1, h2]; omega
  refine ⟨d.hi.flipS, d.lo.flipS, ?_, ?_⟩
  · rw [h3, Int.natAbs_neg]; exact d.fit
  · rw [h3, rv_neg, d.eq, h1]
theorem vs_max {r : Nat} (h : r < 9218868437227405312) : vs 4503599627370496 r ≤ MaxU := by
  obtain ⟨K, hK⟩ : ∃ K, K = 2045 := ⟨_, rfl⟩
  rw [MaxU_eq hK]
  unfold vs
  refine Nat.mul_le_mul (by omega) (p2le (by omega))
theorem ux_pos {r : Nat} (h : r < 9223372036854775808) : ux r = (vs 4503599627370496 r : Int) := by
  rw [ux_eq, if_neg (by omega), Nat.mod_eq_of_lt h]
theorem ux_max : ux 9218868437227405311 = (MaxU : Int) := by
  rw [ux_pos (by decide)]
  have h : vs 4503599627370496 9218868437227405311 = MaxU := by decide +kernel
  rw [h]
theorem order_max {r : Nat} (h : r < 9218868437227405312) : FloatKind.f64.format.order r 9218868437227405311 = some .lt ∨ FloatKind.f64.format.order r 9218868437227405311 = some .eq := by
  have e : FloatKind.f64.format.order r 9218868437227405311 = Ieee.double.order r 9218868437227405311 := rfl
  rw [e, order_fin ⟨by omega, by omega⟩ ⟨by decide, by decide⟩, ux_max, ux_pos (by omega), ordI]
  have := vs_max h
  rcases Nat.lt_or_eq_of_le this with h1 | h1
  · rw [if_pos (by omega)]; exact .inl rfl
  · rw [if_neg (by omega), if_pos (by omega)]; exact .inr rfl
theorem order_inf_max : FloatKind.f64.format.order 9218868437227405312 9218868437227405311 = some .gt := by decide +kernel
theorem mabs (x : Nat) (hx : x < 18446744073709551616) (w : World) : Calls Try.prog 31 #[Fv x] w fun en w' => en = .returned (Fv (x % 9223372036854775808)) ∧ w' = w := by
  have bo1 : ∀ w, (callFunc 33 #[Fv x]).run Try.prog w = .ok (.value (.int .u64 (x : Int))) w := fun w => bitsOf x w
  have br3 : bits BinOp.andNot IntKind.u64 (x : Int) 9223372036854775808 = ((x % 9223372036854775808 : Nat) : Int) := sign_andNot x 9223372036854775808 63 (by decide) (by omega) (by omega)
  generalize x % 9223372036854775808 = y at br3 ⊢
  have fb2 : ∀ w, (callFunc 15 #[.int .u64 (y : Int)]).run Try.prog w = .ok (.value (Fv y)) w := fun w => frombits _ w
  go_enter Try.func31, Try.ntmps31
  go_wp2_with fail
  go_ret
  exact ⟨rfl, rfl⟩
theorem isinf (x : Nat) (hx : x < 18446744073709551616) (w : World) : Calls Try.prog 61 #[Fv x, .int .i64 0] w fun en w' => en = .returned (.bool (decide (x % 9223372036854775808 = 9218868437227405312))) ∧ w' = w := by
  have HX := mabs x hx
  generalize hy : x % 9223372036854775808 = y at HX ⊢
  have hc : ∃ o, FloatKind.f64.format.order y 9218868437227405311 = o ∧ (o == some .gt) = decide (y = 9218868437227405312) := by
    rcases Nat.lt_trichotomy y 9218868437227405312 with h | h | h
    · have : decide (y = 9218868437227405312) = false := decide_eq_false (by omega)
      rcases order_max h with h1 | h1
      · exact ⟨_, h1, by rw [this]; rfl⟩
      · exact ⟨_, h1, by rw [this]; rfl⟩
    · subst h; exact ⟨_, order_inf_max, by simp⟩
    · have : decide (y = 9218868437227405312) = false := decide_eq_false (by omega)
      exact ⟨none, order_nan (.inl (by unfold NanP; omega)), by rw [this]; rfl⟩
  obtain ⟨o, ho, hb⟩ := hc
  rw [← hb]
  clear hb hy hx
  go_enter Try.func61, Try.ntmps61
  go_wp2_with fail
  refine (HX _).mono ?_
  rintro e v9 ⟨rfl, hw⟩
  obtain rfl := hw.symm
  clear hw
  rcases o with _ | _ | _ | _
  all_goals
    go_wp2_with fail
    go_ret
    exact ⟨by kernel_rfl, rfl⟩
theorem isnan (x : Nat) (hx : x < 18446744073709551616) (w : World) : Calls Try.prog 62 #[Fv x] w fun en w' => en = .returned (.bool (decide (9218868437227405312 < x % 9223372036854775808))) ∧ w' = w := by
  have hc : ∃ o, FloatKind.f64.format.order x x = o ∧ (o != some .eq) = decide (9218868437227405312 < x % 9223372036854775808) := by
    rcases three64 x hx with h | h | h
    · refine ⟨_, order_fin h h, ?_⟩
      rw [ordI, if_neg (by omega), if_pos rfl, decide_eq_false (by have := h.fin; omega)]; rfl
    · refine ⟨some .eq, ?_, ?_⟩
      · show Ieee.double.order x x = _
        unfold Ieee.Format.order
        rw [read_inf h]
        unfold Ieee.Datum.order
        cases (x / 9223372036854775808 % 2 == 1) <;> rfl
      · unfold InfP at h
        rw [decide_eq_false (by omega)]; rfl
    · refine ⟨none, order_nan (.inl h), ?_⟩
      unfold NanP at h
      rw [decide_eq_true h]; rfl
  obtain ⟨o, ho, hb⟩ := hc
  rw [← hb]
  clear hb hx
  go_enter Try.func62, Try.ntmps62
  rcases o with _ | _ | _ | _
  all_goals
    go_wp2_with fail
    go_ret
    exact ⟨by kernel_rfl, rfl⟩
def finB (x : Nat) : Bool := decide (x % 9223372036854775808 < 9218868437227405312)
theorem ddfinite (x : Nat) (hx : x < 18446744073709551616) (w : World) : Calls Try.prog 60 #[Fv x] w fun en w' => en = .returned (.bool (finB x)) ∧ w' = w := by
  have H1 := isinf x hx
  have H2 := isnan x hx
  unfold finB
  generalize x % 9223372036854775808 = y at H1 H2 ⊢
  rcases Nat.lt_trichotomy y 9218868437227405312 with h | h | h
  · rw [decide_eq_true h]
    rw [decide_eq_false (show ¬ y = 9218868437227405312 by omega)] at H1
    rw [decide_eq_false (show ¬ 9218868437227405312 < y by omega)] at H2
    clear h hx
    go_enter Try.func60, Try.ntmps60
    go_wp2_with fail
    refine (H1 _).mono ?_
    rintro e v9 ⟨rfl, hw⟩
    obtain rfl := hw.symm
    clear hw
    go_wp2_with fail
    refine (H2 _).mono ?_
    rintro e v9 ⟨rfl, hw⟩
    obtain rfl := hw.symm
    clear hw
    go_wp2_with fail
    go_ret
    exact ⟨rfl, rfl⟩
  · rw [decide_eq_false (show ¬ y < 9218868437227405312 by omega)]
    rw [decide_eq_true h] at H1
    clear h hx H2
    go_enter Try.func60, Try.ntmps60
    go_wp2_with fail
    refine (H1 _).mono ?_
    rintro e v9 ⟨rfl, hw⟩
    obtain rfl := hw.symm
    clear hw
    go_wp2_with fail
    go_ret
    exact ⟨rfl, rfl⟩
  · rw [decide_eq_false (show ¬ y < 9218868437227405312 by omega)]
    rw [decide_eq_false (show ¬ y = 9218868437227405312 by omega)] at H1
    rw [decide_eq_true h] at H2
    clear h hx
    go_enter Try.func60, Try.ntmps60
    go_wp2_with fail
    refine (H1 _).mono ?_
    rintro e v9 ⟨rfl, hw⟩
    obtain rfl := hw.symm
    clear hw
    go_wp2_with fail
    refine (H2 _).mono ?_
    rintro e v9 ⟨rfl, hw⟩
    obtain rfl := hw.symm
    clear hw
    go_wp2_with fail
    go_ret
    exact ⟨rfl, rfl⟩
theorem finB_iff {x : Nat} (hx : x < 18446744073709551616) : finB x = true ↔ Fin64 x := by
  unfold finB
  rw [decide_eq_true_iff]
  exact ⟨fun h => ⟨hx, h⟩, fun h => h.fin⟩
def ddB (h l : Nat) : Bool := decide (h < 18446744073709551616) && decide (l < 18446744073709551616) && finB h && finB l && decide (rg 0 (ux h + ux l).natAbs < 9218868437227405312) && decide (rv (ux h + ux l) = ux h)
theorem ddB_iff {h l : Nat} : ddB h l = true ↔ DdF h l := by
  unfold ddB finB
  simp only [Bool.and_eq_true, decide_eq_true_iff]
  exact ⟨fun ⟨⟨⟨⟨⟨h1, h2⟩, h3⟩, h4⟩, h5⟩, h6⟩ => ⟨⟨h1, h3⟩, ⟨h2, h4⟩, h5, h6⟩, fun d => ⟨⟨⟨⟨⟨d.hi.lt, d.lo.lt⟩, d.hi.fin⟩, d.lo.fin⟩, d.fit⟩, d.eq⟩⟩
theorem ddB_not {h l : Nat} (hf : finB h = false) : ddB h l = false := by
  cases hb : ddB h l with
  | false => rfl
  | true =>
    have d := ddB_iff.1 hb
    have := (finB_iff d.hi.lt).2 d.hi
    rw [hf] at this
    cases this
theorem belowDn {B : Nat} {a w : World} (h : Below B a w) (n : Nat) : Below B a (w.drewN n) := ⟨h.os, h.tape, h.output, h.size, h.block⟩
theorem ddform (h l : Nat) (hh : h < 18446744073709551616) (hl : l < 18446744073709551616) (w : World) : Calls Try.prog 50 #[.agg #[Fv h, Fv l]] w fun en w' => en = .returned (.bool (ddB h l)) ∧ Below w.heap.size w w' := by
  have hSF : ∀ (w : World) (a : Addr) (b : Nat), (store a (Fv b)).run Try.prog w = stored Try.prog w a (Fv b) .plain := fun w a b => run_store _ w a (Fv b) _ rfl
  have H1 := ddfinite h hh
  cases hfb : finB h with
  | false =>
    rw [ddB_not hfb]
    rw [hfb] at H1
    clear hfb
    go_enter Try.func50, Try.ntmps50
    go_wp2_with fail
    refine (H1 _).mono ?_
    rintro e v9 ⟨rfl, hw⟩
    obtain rfl := hw.symm
    clear hw
    go_wp2_with fail
    go_ret
    exact ⟨rfl, bwAlloc w _⟩
  | true =>
    rw [hfb] at H1
    have hF := (finB_iff hh).1 hfb
    obtain ⟨r, n, hr, F⟩ := fop (P := Try.prog) .add (.inl rfl) 37 h l (w.alloc (Obj.cells #[Fv h, Fv l] 40))
    have hfm := form_iff hF hl F
    obtain ⟨o, ho⟩ : ∃ o, FloatKind.f64.format.order r h = o := ⟨_, rfl⟩
    have hb : ddB h l = (o == some .eq) := by
      rw [Bool.eq_iff_iff, ddB_iff, ← hfm, beq_iff_eq, ← ho]; rfl
    rw [hb]
    clear hb hfm F hF hfb hh hl
    go_enter Try.func50, Try.ntmps50
    go_wp2_with fail
    refine (H1 _).mono ?_
    rintro e v9 ⟨rfl, hw⟩
    obtain rfl := hw.symm
    clear hw
    rcases o with _ | _ | _ | _
    all_goals
      go_wp2_with fail
      go_ret
      exact ⟨by kernel_rfl, belowDn (bwAlloc w _) n⟩
theorem rv_rn {X : Int} (h : X.natAbs ≤ MaxU) : Rn 53 X (rv X) := (sm_word2 (neg := decide (X < 0)) (rg_fin h) fun _ => rfl).2.2
theorem sm_rv {X : Int} {r : Nat} (h : Sm64 X r) : ux r = rv X := by
  have h1 := h.size
  have h2 := h.sign
  rw [ux_eq, h1]
  unfold rv
  by_cases h0 : X = 0
  · subst h0
    have h3 : vs 4503599627370496 (rg 0 (Int.natAbs 0)) = 0 := by rw [show rg 0 (Int.natAbs 0) = 0 from rfl]; simp [vs]
    rw [h3]; simp
  · by_cases h3 : X < 0
    · rw [if_pos h3, if_pos ((h2 h0).2 h3)]
    · rw [if_neg h3, if_neg fun h4 => h3 ((h2 h0).1 h4)]
theorem max_k {K : Nat} (hK : K = 1974) : 8 * 2 ^ K ≤ MaxU := by
  rw [MaxU_eq (K := K + 71) (by omega), Nat.pow_add, show 2 ^ 71 = 2361183241434822606848 by decide]
  have := p2pos K
  omega
theorem sz_q {s : Nat} (h1 : 553942754166571008 ≤ s) : ∃ q h, 122 ≤ q ∧ q = s / 4503599627370496 - 1 ∧ 4503599627370496 ≤ h ∧ h < 9007199254740992 ∧ vs 4503599627370496 s = h * 2 ^ q := by
  refine ⟨s / 4503599627370496 - 1, s - (s / 4503599627370496 - 1) * 4503599627370496, by omega, rfl, by omega, by omega, rfl⟩
def mgX (k : Nat) (H : Int) : Nat := 3 * H.natAbs / 2 ^ (k + 1)
def mgR (k : Nat) (H : Int) : Int := rv (mgX k H : Int)
structure SzF (hi : Nat) : Prop where
  fin : Fin64 hi
  least : 553942754166571008 ≤ hi % 9223372036854775808
  most : hi % 9223372036854775808 ≤ 8660422083433463808
theorem mgX_exact {k hi : Nat} (hk : k ≤ 100) (h : SzF hi) : mgX k (ux hi) * 2 ^ (k + 1) = 3 * (ux hi).natAbs := by
  obtain ⟨q, g, h1, _, h2, h3, h4⟩ := sz_q h.least
  unfold mgX
  rw [ux_abs, h4]
  refine Nat.div_mul_cancel ⟨3 * g * 2 ^ (q - (k + 1)), ?_⟩
  rw [Nat.mul_comm (2 ^ (k + 1)), Nat.mul_assoc (3 * g), ← Nat.pow_add, show q - (k + 1) + (k + 1) = q by omega, Nat.mul_assoc]
theorem SzF.le {hi K : Nat} (hK : K = 1974) (h : SzF hi) : (ux hi).natAbs ≤ 2 ^ K := by
  have := ux_pow (b := hi) (K := K - 52) (by have := h.most; omega)
  rw [show 52 + (K - 52) = K by omega] at this
  exact this
theorem mg_facts {k hi K : Nat} (hK : K = 1974) (hk1 : 56 ≤ k) (hk : k ≤ 100) (h : SzF hi) : 0 ≤ mgR k (ux hi) ∧ (mgR k (ux hi)).natAbs ≤ 2 ^ K ∧ mgX k (ux hi) ≤ 2 ^ K ∧ Rn 53 (mgX k (ux hi)) (mgR k (ux hi)) := by
  have h1 := mgX_exact hk h
  have h2 := h.le hK
  have h3 : mgX k (ux hi) ≤ 2 ^ K := by
    have : 2 ^ 57 ≤ 2 ^ (k + 1) := p2le (by omega)
    have h4 : mgX k (ux hi) * 2 ^ 57 ≤ 3 * (ux hi).natAbs := by rw [← h1]; exact Nat.mul_le_mul_left _ this
    rw [show 2 ^ 57 = 144115188075855872 by decide] at h4
    omega
  have h5 := max_k hK
  have h6 : Rn 53 (mgX k (ux hi)) (mgR k (ux hi)) := rv_rn (by omega)
  refine ⟨h6.lo (Fl.zero _) (by omega), h6.bound (by omega), h3, h6⟩
theorem dd_little {h l : Nat} (d : DdF h l) : 9007199254740992 * (ux l).natAbs ≤ (ux h).natAbs := by
  have := d.rn.little (by decide)
  rw [show ux h + ux l - ux h = ux l by omega] at this
  exact this
theorem lo_le {h l K : Nat} (hK : K = 1974) (d : DdF h l) (hs : SzF h) : (ux l).natAbs ≤ 2 ^ K := by
  have := dd_little d
  have := hs.le hK
  omega
structure AccP (hi lo k : Nat) : Prop where
  k1 : 56 ≤ k
  k2 : k ≤ 100
  sz : SzF hi
  dd : DdF hi lo
  dn : rv (ux hi + rv (ux lo - mgR k (ux hi))) = ux hi
  up : rv (ux hi + rv (ux lo + mgR k (ux hi))) = ux hi
theorem acc_bd {hi lo k K : Nat} (hK : K = 1974) (hk1 : 56 ≤ k) (hk : k ≤ 100) (hs : SzF hi) (d : DdF hi lo) {t : Int} (ht : t.natAbs ≤ (mgR k (ux hi)).natAbs) :
    (ux lo + t).natAbs ≤ 2 * 2 ^ K ∧ (rv (ux lo + t)).natAbs ≤ 2 * 2 ^ K ∧ (ux hi + rv (ux lo + t)).natAbs ≤ MaxU ∧ (ux lo + t).natAbs ≤ MaxU := by
  obtain ⟨m1, m2, m3, m4⟩ := mg_facts hK hk1 hk hs
  have h1 := lo_le hK d hs
  have h2 := hs.le hK
  have h3 := max_k hK
  have h4 : (ux lo + t).natAbs ≤ 2 ^ (K + 1) := by rw [p2succ]; omega
  have h5 := (rv_rn (X := ux lo + t) (by rw [p2succ] at h4; omega)).bound h4
  rw [p2succ] at h4 h5
  exact ⟨h4, h5, by omega, by omega⟩
theorem AccP.flip {hi lo k : Nat} (h : AccP hi lo k) : AccP (flipS hi) (flipS lo) k := by
  obtain ⟨k1, k2, sz, d, dn, up⟩ := h
  obtain ⟨f1, f2, f3⟩ := flip_ux sz.fin.lt
  obtain ⟨g1, g2, g3⟩ := flip_ux d.lo.lt
  have hm : mgR k (-ux hi) = mgR k (ux hi) := by unfold mgR mgX; rw [Int.natAbs_neg]
  refine ⟨k1, k2, ⟨sz.fin.flipS, by rw [f3]; exact sz.least, by rw [f3]; exact sz.most⟩, d.neg, ?_, ?_⟩
  · rw [f1, g1, hm, show -ux lo - mgR k (ux hi) = -(ux lo + mgR k (ux hi)) by omega, rv_neg, show -ux hi + -rv (ux lo + mgR k (ux hi)) = -(ux hi + rv (ux lo + mgR k (ux hi))) by omega, rv_neg, up]
  · rw [f1, g1, hm, show -ux lo + mgR k (ux hi) = -(ux lo - mgR k (ux hi)) by omega, rv_neg, show -ux hi + -rv (ux lo - mgR k (ux hi)) = -(ux hi + rv (ux lo - mgR k (ux hi))) by omega, rv_neg, dn]
def LD (k : Nat) : Nat := 4609434218613702656 - k * 4503599627370496
theorem ld_mul : ∀ j, j < 45 → floatBits .mul .f64 4607182418800017408 (LD (56 + j)) = some (LD (56 + j)) := by decide +kernel
theorem ld_or : ∀ j, j < 45 → bits BinOp.or IntKind.u64 2251799813685248 (((967 - j) * 4503599627370496 : Nat) : Int) = ((LD (56 + j) : Nat) : Int) := by decide +kernel
theorem isinf_h (w : World) : Calls Try.prog 61 #[Fv 4609434218613702656, .int .i64 0] w fun en w' => en = .returned (.bool false) ∧ w' = w := isinf 4609434218613702656 (by decide) w
theorem isnan_h (w : World) : Calls Try.prog 62 #[Fv 4609434218613702656] w fun en w' => en = .returned (.bool false) ∧ w' = w := isnan 4609434218613702656 (by decide) w
theorem norm_h (w : World) : Calls Try.prog 63 #[Fv 4609434218613702656] w fun en w' => en = .returned (.tuple #[Fv 4609434218613702656, .int .i64 0]) ∧ w' = w := by
  have or6 : FloatKind.f64.format.order 4609434218613702656 4503599627370496 = some Ordering.gt := by decide +kernel
  go_enter Try.func63, Try.ntmps63
  go_wp2_with fail
  refine (mabs 4609434218613702656 (by decide) _).mono ?_
  rintro e v9 ⟨rfl, hw⟩
  obtain rfl := hw.symm
  clear hw
  go_wp2_with fail
  go_ret2
  exact ⟨by kernel_rfl, rfl⟩
theorem ldexp_h (j P : Nat) (e : Int) (hj : j < 45) (he : e = -56 - (j : Int)) (hP : P = 967 - j) (w : World) : Calls Try.prog 52 #[Fv 4609434218613702656, .int .i64 e] w fun en w' => en = .returned (Fv (LD (56 + j))) ∧ w' = w := by
  have or7 : FloatKind.f64.format.order 4609434218613702656 0 = some Ordering.gt := by decide +kernel
  have bo8 : ∀ w, (callFunc 33 #[Fv 4609434218613702656]).run Try.prog w = .ok (.value (.int .u64 4609434218613702656)) w := fun w => bitsOf 4609434218613702656 w
  have fl10 : ∀ w, (binOp .mul 37 (Fv 4607182418800017408) (Fv (LD (56 + j)))).run Try.prog w = .ok (Fv (LD (56 + j))) w := fun w => run_float_arith w .mul 37 .f64 4607182418800017408 (LD (56 + j)) (LD (56 + j)) (ld_mul j hj)
  have br20 := ld_or j hj
  rw [← hP] at br20
  have wr14 : IntKind.u64.wrap ((P : Int) * 4503599627370496) = ((P * 4503599627370496 : Nat) : Int) := by rw [IntKind.wrap_u64]; omega
  generalize ((P * 4503599627370496 : Nat) : Int) = PP at br20 wr14
  have fb9 : ∀ w, (callFunc 15 #[.int .u64 ((LD (56 + j) : Nat) : Int)]).run Try.prog w = .ok (.value (Fv (LD (56 + j)))) w := fun w => frombits (LD (56 + j)) w
  generalize LD (56 + j) = Q at *
  have wr11 : IntKind.i64.wrap e = e := by simp [IntKind.wrap, IntKind.signed, IntKind.bits]; omega
  have wr12 : IntKind.i64.wrap (e + 1023) = (P : Int) := by simp [IntKind.wrap, IntKind.signed, IntKind.bits]; omega
  have wr13 : IntKind.u64.wrap (P : Int) = (P : Int) := by rw [IntKind.wrap_u64]; omega
  have br17 : bits BinOp.and IntKind.i64 (1023) (2047) = 1023 := by kernel_rfl
  have br18 : bits BinOp.andNot IntKind.u64 (4609434218613702656) (9218868437227405312) = 2251799813685248 := by kernel_rfl
  have b1 : ¬ e < -1075 := by omega
  have b2 : ¬ 1023 < e := by omega
  have b3 : ¬ e < -1022 := by omega
  clear he hP hj
  go_enter Try.func52, Try.ntmps52
  go_wp2_with fail
  refine (isinf_h _).mono ?_
  rintro e9 v9 ⟨rfl, hw⟩
  obtain rfl := hw.symm
  clear hw
  go_wp2_with fail
  refine (isnan_h _).mono ?_
  rintro e9 v9 ⟨rfl, hw⟩
  obtain rfl := hw.symm
  clear hw
  go_wp2_with fail
  refine (norm_h _).mono ?_
  rintro e9 v9 ⟨rfl, hw⟩
  obtain rfl := hw.symm
  clear hw
  go_wp2_with fail
  go_ret
  exact ⟨by kernel_rfl, rfl⟩
theorem Ldexp_h (j : Nat) (e : Int) (hj : j < 45) (he : e = -56 - (j : Int)) (w : World) : Calls Try.prog 30 #[Fv 4609434218613702656, .int .i64 e] w fun en w' => en = .returned (Fv (LD (56 + j))) ∧ w' = w := by
  have HL := ldexp_h j (967 - j) e hj he rfl
  clear hj he
  go_enter Try.func30, Try.ntmps30
  go_wp2_with fail
  refine (HL _).mono ?_
  rintro e9 v9 ⟨rfl, hw⟩
  obtain rfl := hw.symm
  clear hw
  go_wp2_with fail
  go_ret
  exact ⟨by kernel_rfl, rfl⟩
theorem flr_of {op : BinOp} {x y r : Nat} (h : floatBits op .f64 x y = some r) : FlR op x y r := by
  refine ⟨?_, fun v hv => ?_, fun hv => ?_⟩
  · have := floatBits_wf h
    simp [Lit.wf] at this
    exact this
  · rw [h] at hv; exact Option.some.inj hv
  · rw [h] at hv; cases hv
theorem keeps_ok (x a : Nat) (hx : Fin64 x) (ha : Fin64 a) (w : World) : Calls Try.prog 32 #[Fv x, Fv a] w fun en w' => en = .returned (.bool (ddB x a)) ∧ w' = w := by
  obtain ⟨r, h1, _⟩ := fl_add_any hx ha
  have hfm := form_iff hx ha.lt (flr_of h1)
  obtain ⟨o, ho⟩ : ∃ o, FloatKind.f64.format.order r x = o := ⟨_, rfl⟩
  have hb : ddB x a = (o == some .eq) := by
    rw [Bool.eq_iff_iff, ddB_iff, ← hfm, beq_iff_eq, ← ho]; rfl
  rw [hb]
  have fl1 : ∀ w, (binOp .add 37 (Fv x) (Fv a)).run Try.prog w = .ok (Fv r) w := fun w => run_float_arith w .add 37 .f64 x a r h1
  clear hb hfm h1 hx ha
  go_enter Try.func32, Try.ntmps32
  rcases o with _ | _ | _ | _
  all_goals
    go_wp2_with fail
    go_ret
    exact ⟨by kernel_rfl, rfl⟩
def fit25 (hi lo : Nat) (e : Int) : Bool := decide (-100 ≤ e) && decide (e ≤ -56) && decide (553942754166571008 ≤ hi % 9223372036854775808) && decide (hi % 9223372036854775808 ≤ 8660422083433463808) && ddB hi lo
theorem ord_pos {s t : Nat} (hs : s < 9218868437227405312) (ht : t < 9218868437227405312) : FloatKind.f64.format.order s t = some (if s < t then .lt else if s = t then .eq else .gt) := by
  have e : FloatKind.f64.format.order s t = Ieee.double.order s t := rfl
  rw [e, order_fin ⟨by omega, by omega⟩ ⟨by omega, by omega⟩, ux_pos (by omega), ux_pos (by omega), ordI]
  rcases Nat.lt_trichotomy s t with h | h | h
  · have := vs_mono (H := 4503599627370496) (by decide) h
    rw [if_pos (by omega), if_pos h]
  · subst h
    rw [if_neg (by omega), if_pos rfl, if_neg (by omega), if_pos rfl]
  · have := vs_mono (H := 4503599627370496) (by decide) h
    rw [if_neg (by omega), if_neg (by omega), if_neg (by omega), if_neg (by omega)]
theorem ord_fit (s : Nat) (hs : s < 9223372036854775808) : ∃ o1 o2, FloatKind.f64.format.order s 553942754166571008 = o1 ∧ FloatKind.f64.format.order s 8660422083433463808 = o2 ∧
    (((o1 = some .gt ∨ o1 = some .eq) ∧ (o2 = some .lt ∨ o2 = some .eq) ∧ 553942754166571008 ≤ s ∧ s ≤ 8660422083433463808) ∨
     ((o1 = some .gt ∨ o1 = some .eq) ∧ (o2 = some .gt) ∧ ¬ s ≤ 8660422083433463808) ∨
     ((o1 = some .lt) ∧ ¬ 553942754166571008 ≤ s) ∨ (o1 = none ∧ ¬ s ≤ 8660422083433463808)) := by
  rcases Nat.lt_trichotomy s 9218868437227405312 with h | h | h
  · refine ⟨_, _, ord_pos h (by decide), ord_pos h (by decide), ?_⟩
    rcases Nat.lt_trichotomy s 553942754166571008 with h1 | h1 | h1
    · exact .inr (.inr (.inl ⟨by rw [if_pos h1], by omega⟩))
    · subst h1; exact .inl ⟨.inr (by decide), .inl (by decide), by decide, by decide⟩
    · rcases Nat.lt_trichotomy s 8660422083433463808 with h2 | h2 | h2
      · exact .inl ⟨.inl (by rw [if_neg (by omega), if_neg (by omega)]), .inl (by rw [if_pos h2]), by omega, by omega⟩
      · subst h2; exact .inl ⟨.inl (by decide), .inr (by decide), by decide, by decide⟩
      · exact .inr (.inl ⟨.inl (by rw [if_neg (by omega), if_neg (by omega)]), by rw [if_neg (by omega), if_neg (by omega)], by omega⟩)
  · subst h
    exact ⟨some .gt, some .gt, by decide +kernel, by decide +kernel, .inr (.inl ⟨.inl rfl, rfl, by decide⟩)⟩
  · refine ⟨none, none, order_nan (.inl ?_), order_nan (.inl ?_), .inr (.inr (.inr ⟨rfl, by omega⟩))⟩
    · unfold NanP; omega
    · unfold NanP; omega
theorem fit_ok (hi lo : Nat) (hh : hi < 18446744073709551616) (hl : lo < 18446744073709551616) (e : Int) (w : World) : Calls Try.prog 29 #[.agg #[Fv hi, Fv lo], .int .i64 e] w fun en w' => en = .returned (.bool (fit25 hi lo e)) ∧ Below w.heap.size w w' := by
  have hSF : ∀ (w : World) (a : Addr) (b : Nat), (store a (Fv b)).run Try.prog w = stored Try.prog w a (Fv b) .plain := fun w a b => run_store _ w a (Fv b) _ rfl
  have HA := mabs hi hh
  have HF := ddform hi lo hh hl
  unfold fit25
  have hs : hi % 9223372036854775808 < 9223372036854775808 := by omega
  generalize hi % 9223372036854775808 = s at HA hs ⊢
  obtain ⟨o1, o2, ho1, ho2, hc⟩ := ord_fit s hs
  generalize ddB hi lo = D at HF ⊢
  clear hh hl hs
  by_cases c1 : -100 ≤ e
  · rw [decide_eq_true c1, Bool.true_and]
    by_cases c2 : e ≤ -56
    · rw [decide_eq_true c2, Bool.true_and]
      rcases hc with ⟨h1 | h1, h2 | h2, h3, h4⟩ | ⟨h1 | h1, h2, h4⟩ | ⟨h1, h3⟩ | ⟨h1, h4⟩
      iterate 4
        rw [decide_eq_true h3, decide_eq_true h4, Bool.true_and, Bool.true_and]
        subst h1 h2
        clear h3 h4
        go_enter Try.func29, Try.ntmps29
        go_wp2_with fail
        refine (HA _).mono ?_
        rintro e9 v9 ⟨rfl, hw⟩
        obtain rfl := hw.symm
        clear hw
        go_wp2_with fail
        refine (HF _).mono ?_
        rintro e9 v9 ⟨rfl, hw⟩
        go_wp2_with fail
        go_ret
        exact ⟨rfl, (bwAlloc w _).trans (hw.mono (bwAlloc w _).size)⟩
      iterate 2
        rw [decide_eq_false h4, Bool.and_false, Bool.false_and]
        subst h1 h2
        clear h4
        go_enter Try.func29, Try.ntmps29
        go_wp2_with fail
        refine (HA _).mono ?_
        rintro e9 v9 ⟨rfl, hw⟩
        obtain rfl := hw.symm
        clear hw
        go_wp2_with fail
        go_ret
        exact ⟨rfl, bwAlloc w _⟩
      · rw [decide_eq_false h3, Bool.false_and, Bool.false_and]
        subst h1
        clear h3
        go_enter Try.func29, Try.ntmps29
        go_wp2_with fail
        refine (HA _).mono ?_
        rintro e9 v9 ⟨rfl, hw⟩
        obtain rfl := hw.symm
        clear hw
        go_wp2_with fail
        go_ret
        exact ⟨rfl, bwAlloc w _⟩
      · rw [decide_eq_false h4, Bool.and_false, Bool.false_and]
        subst h1
        clear h4
        go_enter Try.func29, Try.ntmps29
        go_wp2_with fail
        refine (HA _).mono ?_
        rintro e9 v9 ⟨rfl, hw⟩
        obtain rfl := hw.symm
        clear hw
        go_wp2_with fail
        go_ret
        exact ⟨rfl, bwAlloc w _⟩
    · rw [decide_eq_false c2, Bool.false_and, Bool.false_and, Bool.false_and]
      clear hc
      go_enter Try.func29, Try.ntmps29
      go_wp2_with fail
      refine (HA _).mono ?_
      rintro e9 v9 ⟨rfl, hw⟩
      obtain rfl := hw.symm
      clear hw
      go_wp2_with fail
      go_ret
      exact ⟨rfl, bwAlloc w _⟩
  · rw [decide_eq_false c1, Bool.false_and, Bool.false_and, Bool.false_and, Bool.false_and]
    clear hc
    go_enter Try.func29, Try.ntmps29
    go_wp2_with fail
    refine (HA _).mono ?_
    rintro e9 v9 ⟨rfl, hw⟩
    obtain rfl := hw.symm
    clear hw
    go_wp2_with fail
    go_ret
    exact ⟨rfl, bwAlloc w _⟩
theorem ld_lt {k : Nat} (_h1 : 56 ≤ k) (_h2 : k ≤ 100) : LD k < 9218868437227405312 := by unfold LD; omega
theorem mg_run {hi k : Nat} (k1 : 56 ≤ k) (k2 : k ≤ 100) (sz : SzF hi) : ∃ M, floatBits .mul .f64 (LD k) (hi % 9223372036854775808) = some M ∧ Fin64 M ∧ ux M = mgR k (ux hi) := by
  have hL := ld_lt k1 k2
  have f1 : Fin64 (LD k) := ⟨by omega, by omega⟩
  have f2 : Fin64 (hi % 9223372036854775808) := ⟨by omega, by have := sz.most; omega⟩
  have h1 := fmul_any f1 f2
  obtain ⟨c, hc⟩ : ∃ c, c = 1074 := ⟨_, rfl⟩
  have hx := mgX_exact k2 sz
  have u1 : ux (LD k) = ((3 * 2 ^ (c - 1 - k) : Nat) : Int) := by
    rw [ux_pos (by omega)]
    have : LD k = (c - 52 - k) * 4503599627370496 + 6755399441055744 := by unfold LD; omega
    rw [this, vs_at _ _ (.inr (by decide)) (by decide), show 6755399441055744 = 3 * 2 ^ 51 by decide, Nat.mul_assoc, ← Nat.pow_add, show 51 + (c - 52 - k) = c - 1 - k by omega]
  have u2 : ux (hi % 9223372036854775808) = ((ux hi).natAbs : Int) := by
    rw [ux_pos (by omega), ux_abs]
  have hX : ux (LD k) * ux (hi % 9223372036854775808) = (mgX k (ux hi) : Int) * ((2 ^ c : Nat) : Int) := by
    rw [u1, u2, ← Int.natCast_mul, ← Int.natCast_mul]
    congr 1
    rw [Nat.mul_right_comm, ← hx, Nat.mul_assoc, ← Nat.pow_add]
    congr 2
    omega
  obtain ⟨K, hK⟩ : ∃ K, K = 1974 := ⟨_, rfl⟩
  have m3 := (mg_facts hK k1 k2 sz).2.2.1
  have hmx := max_k hK
  have hs := (flr_of h1).mul f1 f2 hc hX (by omega)
  exact ⟨_, h1, hs.fin, sm_rv hs⟩
def accB (hi lo : Nat) (e : Int) : Bool := fit25 hi lo e && (decide (rv (ux hi + rv (ux lo - mgR (-e).toNat (ux hi))) = ux hi) && decide (rv (ux hi + rv (ux lo + mgR (-e).toNat (ux hi))) = ux hi))
theorem fit25_iff {hi lo : Nat} {e : Int} : fit25 hi lo e = true ↔ ∃ k : Nat, e = -(k : Int) ∧ 56 ≤ k ∧ k ≤ 100 ∧ SzF hi ∧ DdF hi lo := by
  unfold fit25
  simp only [Bool.and_eq_true, decide_eq_true_iff, ddB_iff]
  constructor
  · rintro ⟨⟨⟨⟨h1, h2⟩, h3⟩, h4⟩, h5⟩
    exact ⟨(-e).toNat, by omega, by omega, by omega, ⟨h5.hi, h3, h4⟩, h5⟩
  · rintro ⟨k, rfl, h1, h2, h3, h4⟩
    exact ⟨⟨⟨⟨by omega, by omega⟩, h3.least⟩, h3.most⟩, h4⟩
theorem accB_iff {hi lo : Nat} {e : Int} : accB hi lo e = true ↔ ∃ k : Nat, e = -(k : Int) ∧ AccP hi lo k := by
  unfold accB
  rw [Bool.and_eq_true, Bool.and_eq_true, decide_eq_true_iff, decide_eq_true_iff, fit25_iff]
  constructor
  · rintro ⟨⟨k, rfl, h1, h2, h3, h4⟩, h5, h6⟩
    rw [show (-(-(k : Int))).toNat = k by omega] at h5 h6
    exact ⟨k, rfl, h1, h2, h3, h4, h5, h6⟩
  · rintro ⟨k, rfl, h⟩
    rw [show (-(-(k : Int))).toNat = k by omega]
    exact ⟨⟨k, rfl, h.k1, h.k2, h.sz, h.dd⟩, h.dn, h.up⟩
theorem acc_keep {hi lo k a : Nat} (k1 : 56 ≤ k) (k2 : k ≤ 100) (sz : SzF hi) (d : DdF hi lo) {t : Int} (ht : t.natAbs ≤ (mgR k (ux hi)).natAbs) (hs : Sm64 (ux lo + t) a) : ddB hi a = decide (rv (ux hi + rv (ux lo + t)) = ux hi) := by
  have h1 := sm_rv hs
  obtain ⟨_, _, c3, _⟩ := acc_bd rfl k1 k2 sz d ht
  rw [Bool.eq_iff_iff, ddB_iff, decide_eq_true_iff, ← h1]
  rw [← h1] at c3
  exact ⟨fun d => d.eq, fun h => ⟨sz.fin, hs.fin, rg_fin c3, h⟩⟩
end Go.Proofs.Ytoclnjbmhepcnaa
namespace Go.Proofs.Ytoclnjbmhepcnaa
open Go.RowKit Go.Shelf
set_option maxRecDepth 20000
set_option maxHeartbeats 0
theorem accept_n (hi lo : Nat) (hh : hi < 18446744073709551616) (hl : lo < 18446744073709551616) (e : Int) (w : World) (hf : fit25 hi lo e = false) :
    Calls Try.prog 14 #[.agg #[Fv hi, Fv lo], .int .i64 e] w fun en w' => en = .returned (.tuple #[.int .u64 0, .bool false]) ∧ Below w.heap.size w w' := by
  have hSF : ∀ (w : World) (a : Addr) (b : Nat), (store a (Fv b)).run Try.prog w = stored Try.prog w a (Fv b) .plain := fun w a b => run_store _ w a (Fv b) _ rfl
  have HF := fit_ok hi lo hh hl e
  rw [hf] at HF
  clear hf hh hl
  go_enter Try.func14, Try.ntmps14
  go_wp2_with fail
  obtain ⟨W0, hW0⟩ : ∃ W0, W0 = (w.alloc (.cells #[Fv hi, Fv lo] 40)) := ⟨_, rfl⟩
  have Xv : Hid (Box W0 (w.heap.size) (Fv hi) (Fv lo)) := by rw [hW0]; exact ⟨by go_simp, by go_simp, by go_simp, by go_simp⟩
  have hb0 : Below w.heap.size w W0 := by rw [hW0]; exact below1 w _
  rw [← hW0]
  clear hW0
  have hbw : Below w.heap.size w w := Below.refl _ _
  obtain ⟨gv, hgv⟩ : ∃ g, g = w.heap.size := ⟨_, rfl⟩
  have HGv : Hid (w.heap.size ≤ gv) := by rw [hgv]; show _ ≤ _; omega
  rw [← hgv] at Xv
  try rw [← hgv]
  clear hgv
  replace hbw := Below.on hbw hb0
  clear hb0
  refine (HF _).mono ?_
  rintro e v1 ⟨rfl, hb1⟩
  replace Xv : Hid _ := Xv.out.below hb1
  replace hbw := Below.on hbw hb1
  clear hb1
  obtain ⟨cv0, cv1, fv0, fv1⟩ := Xv.out
  have hnev := Xv.out.lt
  go_wp2_with fail
  clear cv0 cv1 fv0 fv1 hnev
  go_ret2
  exact ⟨rfl, hbw⟩
theorem accept_d (hi lo k M a : Nat) (e : Int) (w : World) (HF : ∀ w, Calls Try.prog 29 #[.agg #[Fv hi, Fv lo], .int .i64 e] w fun en w' => en = .returned (.bool true) ∧ Below w.heap.size w w') (HL : ∀ w, Calls Try.prog 30 #[Fv 4609434218613702656, .int .i64 e] w fun en w' => en = .returned (Fv k) ∧ w' = w) (hs : Nat) (HB : ∀ w, Calls Try.prog 31 #[Fv hi] w fun en w' => en = .returned (Fv hs) ∧ w' = w) (H1 : ∀ w, Calls Try.prog 32 #[Fv hi, Fv a] w fun en w' => en = .returned (.bool false) ∧ w' = w) (f1 : ∀ w, (binOp .mul 37 (Fv k) (Fv hs)).run Try.prog w = .ok (Fv M) w) (f2 : ∀ w, (binOp .sub 37 (Fv lo) (Fv M)).run Try.prog w = .ok (Fv a) w) :
    Calls Try.prog 14 #[.agg #[Fv hi, Fv lo], .int .i64 e] w fun en w' => en = .returned (.tuple #[.int .u64 0, .bool false]) ∧ Below w.heap.size w w' := by
  have hSF : ∀ (w : World) (a : Addr) (b : Nat), (store a (Fv b)).run Try.prog w = stored Try.prog w a (Fv b) .plain := fun w a b => run_store _ w a (Fv b) _ rfl
  have bo8 : ∀ w, (callFunc 33 #[Fv hi]).run Try.prog w = .ok (.value (.int .u64 (hi : Int))) w := fun w => bitsOf hi w
  go_enter Try.func14, Try.ntmps14
  go_wp2_with fail
  obtain ⟨W0, hW0⟩ : ∃ W0, W0 = (w.alloc (.cells #[Fv hi, Fv lo] 40)) := ⟨_, rfl⟩
  have Xv : Hid (Box W0 (w.heap.size) (Fv hi) (Fv lo)) := by rw [hW0]; exact ⟨by go_simp, by go_simp, by go_simp, by go_simp⟩
  have hb0 : Below w.heap.size w W0 := by rw [hW0]; exact below1 w _
  rw [← hW0]
  clear hW0
  have hbw : Below w.heap.size w w := Below.refl _ _
  obtain ⟨gv, hgv⟩ : ∃ g, g = w.heap.size := ⟨_, rfl⟩
  have HGv : Hid (w.heap.size ≤ gv) := by rw [hgv]; show _ ≤ _; omega
  rw [← hgv] at Xv
  try rw [← hgv]
  clear hgv
  replace hbw := Below.on hbw hb0
  clear hb0
  refine (HF _).mono ?_
  rintro e v1 ⟨rfl, hb1⟩
  replace Xv : Hid _ := Xv.out.below hb1
  replace hbw := Below.on hbw hb1
  clear hb1
  obtain ⟨cv0, cv1, fv0, fv1⟩ := Xv.out
  have hnev := Xv.out.lt
  go_wp2_with fail
  clear cv0 cv1 fv0 fv1 hnev
  obtain ⟨W2, hW2⟩ : ∃ W1, W1 = v1.drew := ⟨_, rfl⟩
  have hbd : Below v1.heap.size v1 W2 := by rw [hW2]; exact bDrew1 (Below.refl _ _)
  replace Xv : Hid _ := Xv.out.below hbd
  replace hbw := Below.on hbw hbd
  clear hbd
  have HJ : Hid ((fun W' : World => W'.cell? ⟨gv, 0, none⟩ = some (Fv hi)) W2) := Xv.out.c0
  refine wp_region_J (fun W' => W'.cell? ⟨gv, 0, none⟩ = some (Fv hi)) (by kernel_rfl) ?_
  rw [← hW2]
  clear hW2
  refine wpJ_tk 0 (v := ?v1x0) rfl ?hy1x0 HJ.out ?_
  case hy1x0 => (intro W' hJ; have j0 := hJ; go_simp; first | done | with_reducible rfl)
  refine wpJ_tk 2 (v := ?v2x2) rfl ?hy2x2 HJ.out ?_
  case hy2x2 => (intro W' hJ; have j0 := hJ; go_simp; first | done | with_reducible rfl)
  refine wpJ_tk 3 (v := ?v3x3) rfl ?hy3x3 HJ.out ?_
  case hy3x3 => (intro W' hJ; have j0 := hJ; go_simp; first | done | with_reducible rfl)
  refine wpJ_on 1 rfl fun KJ hK => ?_
  go_simp
  refine (HL _).mono ?_
  rintro e9 v7 ⟨rfl, hw⟩
  obtain rfl := hw.symm
  clear hw
  refine hK _ _ Xv.out.c0 ?_
  clear hK
  refine wpJ_on 4 rfl fun KJ hK => ?_
  go_simp
  refine (HB _).mono ?_
  rintro e9 v7 ⟨rfl, hw⟩
  obtain rfl := hw.symm
  clear hw
  clear HJ
  have HJ : Hid ((fun W' : World => W'.cell? ⟨gv, 0, none⟩ = some (Fv hi)) W2) := Xv.out.c0
  refine hK _ _ HJ.out ?_
  clear hK
  refine wpJ_tk 5 (v := ?v4x5) rfl ?hy4x5 HJ.out ?_
  case hy4x5 => (intro W' hJ; have j0 := hJ; go_simp; first | done | with_reducible rfl)
  refine wpJ_tk 6 (v := ?v5x6) rfl ?hy5x6 HJ.out ?_
  case hy5x6 => (intro W' hJ; have j0 := hJ; go_simp; first | done | with_reducible rfl)
  refine wpJ_done (by kernel_rfl) ?_ _
  clear HJ
  obtain ⟨cv0, cv1, fv0, fv1⟩ := Xv.out
  have hnev := Xv.out.lt
  go_wp2_with fail
  clear cv0 cv1 fv0 fv1 hnev
  refine (H1 _).mono ?_
  rintro e9 v7 ⟨rfl, hw⟩
  obtain rfl := hw.symm
  clear hw
  obtain ⟨cv0, cv1, fv0, fv1⟩ := Xv.out
  have hnev := Xv.out.lt
  go_wp2_with fail
  clear cv0 cv1 fv0 fv1 hnev
  go_ret2
  exact ⟨rfl, hbw⟩
theorem accept_u (hi lo k M a b : Nat) (e : Int) (w : World) (HF : ∀ w, Calls Try.prog 29 #[.agg #[Fv hi, Fv lo], .int .i64 e] w fun en w' => en = .returned (.bool true) ∧ Below w.heap.size w w') (HL : ∀ w, Calls Try.prog 30 #[Fv 4609434218613702656, .int .i64 e] w fun en w' => en = .returned (Fv k) ∧ w' = w) (hs : Nat) (HB : ∀ w, Calls Try.prog 31 #[Fv hi] w fun en w' => en = .returned (Fv hs) ∧ w' = w) (H1 : ∀ w, Calls Try.prog 32 #[Fv hi, Fv a] w fun en w' => en = .returned (.bool true) ∧ w' = w) (H2 : ∀ w, Calls Try.prog 32 #[Fv hi, Fv b] w fun en w' => en = .returned (.bool false) ∧ w' = w) (f1 : ∀ w, (binOp .mul 37 (Fv k) (Fv hs)).run Try.prog w = .ok (Fv M) w) (f2 : ∀ w, (binOp .sub 37 (Fv lo) (Fv M)).run Try.prog w = .ok (Fv a) w) (f3 : ∀ w, (binOp .add 37 (Fv lo) (Fv M)).run Try.prog w = .ok (Fv b) w) :
    Calls Try.prog 14 #[.agg #[Fv hi, Fv lo], .int .i64 e] w fun en w' => en = .returned (.tuple #[.int .u64 0, .bool false]) ∧ Below w.heap.size w w' := by
  have hSF : ∀ (w : World) (a : Addr) (b : Nat), (store a (Fv b)).run Try.prog w = stored Try.prog w a (Fv b) .plain := fun w a b => run_store _ w a (Fv b) _ rfl
  have bo8 : ∀ w, (callFunc 33 #[Fv hi]).run Try.prog w = .ok (.value (.int .u64 (hi : Int))) w := fun w => bitsOf hi w
  go_enter Try.func14, Try.ntmps14
  go_wp2_with fail
  obtain ⟨W0, hW0⟩ : ∃ W0, W0 = (w.alloc (.cells #[Fv hi, Fv lo] 40)) := ⟨_, rfl⟩
  have Xv : Hid (Box W0 (w.heap.size) (Fv hi) (Fv lo)) := by rw [hW0]; exact ⟨by go_simp, by go_simp, by go_simp, by go_simp⟩
  have hb0 : Below w.heap.size w W0 := by rw [hW0]; exact below1 w _
  rw [← hW0]
  clear hW0
  have hbw : Below w.heap.size w w := Below.refl _ _
  obtain ⟨gv, hgv⟩ : ∃ g, g = w.heap.size := ⟨_, rfl⟩
  have HGv : Hid (w.heap.size ≤ gv) := by rw [hgv]; show _ ≤ _; omega
  rw [← hgv] at Xv
  try rw [← hgv]
  clear hgv
  replace hbw := Below.on hbw hb0
  clear hb0
  refine (HF _).mono ?_
  rintro e v1 ⟨rfl, hb1⟩
  replace Xv : Hid _ := Xv.out.below hb1
  replace hbw := Below.on hbw hb1
  clear hb1
  obtain ⟨cv0, cv1, fv0, fv1⟩ := Xv.out
  have hnev := Xv.out.lt
  go_wp2_with fail
  clear cv0 cv1 fv0 fv1 hnev
  obtain ⟨W2, hW2⟩ : ∃ W1, W1 = v1.drew := ⟨_, rfl⟩
  have hbd : Below v1.heap.size v1 W2 := by rw [hW2]; exact bDrew1 (Below.refl _ _)
  replace Xv : Hid _ := Xv.out.below hbd
  replace hbw := Below.on hbw hbd
  clear hbd
  have HJ : Hid ((fun W' : World => W'.cell? ⟨gv, 0, none⟩ = some (Fv hi)) W2) := Xv.out.c0
  refine wp_region_J (fun W' => W'.cell? ⟨gv, 0, none⟩ = some (Fv hi)) (by kernel_rfl) ?_
  rw [← hW2]
  clear hW2
  refine wpJ_tk 0 (v := ?v6x0) rfl ?hy6x0 HJ.out ?_
  case hy6x0 => (intro W' hJ; have j0 := hJ; go_simp; first | done | with_reducible rfl)
  refine wpJ_tk 2 (v := ?v7x2) rfl ?hy7x2 HJ.out ?_
  case hy7x2 => (intro W' hJ; have j0 := hJ; go_simp; first | done | with_reducible rfl)
  refine wpJ_tk 3 (v := ?v8x3) rfl ?hy8x3 HJ.out ?_
  case hy8x3 => (intro W' hJ; have j0 := hJ; go_simp; first | done | with_reducible rfl)
  refine wpJ_on 1 rfl fun KJ hK => ?_
  go_simp
  refine (HL _).mono ?_
  rintro e9 v7 ⟨rfl, hw⟩
  obtain rfl := hw.symm
  clear hw
  refine hK _ _ Xv.out.c0 ?_
  clear hK
  refine wpJ_on 4 rfl fun KJ hK => ?_
  go_simp
  refine (HB _).mono ?_
  rintro e9 v7 ⟨rfl, hw⟩
  obtain rfl := hw.symm
  clear hw
  clear HJ
  have HJ : Hid ((fun W' : World => W'.cell? ⟨gv, 0, none⟩ = some (Fv hi)) W2) := Xv.out.c0
  refine hK _ _ HJ.out ?_
  clear hK
  refine wpJ_tk 5 (v := ?v9x5) rfl ?hy9x5 HJ.out ?_
  case hy9x5 => (intro W' hJ; have j0 := hJ; go_simp; first | done | with_reducible rfl)
  refine wpJ_tk 6 (v := ?v10x6) rfl ?hy10x6 HJ.out ?_
  case hy10x6 => (intro W' hJ; have j0 := hJ; go_simp; first | done | with_reducible rfl)
  refine wpJ_done (by kernel_rfl) ?_ _
  clear HJ
  obtain ⟨cv0, cv1, fv0, fv1⟩ := Xv.out
  have hnev := Xv.out.lt
  go_wp2_with fail
  clear cv0 cv1 fv0 fv1 hnev
  refine (H1 _).mono ?_
  rintro e9 v7 ⟨rfl, hw⟩
  obtain rfl := hw.symm
  clear hw
  obtain ⟨cv0, cv1, fv0, fv1⟩ := Xv.out
  have hnev := Xv.out.lt
  go_wp2_with fail
  clear cv0 cv1 fv0 fv1 hnev
  refine (H2 _).mono ?_
  rintro e9 v7 ⟨rfl, hw⟩
  obtain rfl := hw.symm
  clear hw
  obtain ⟨cv0, cv1, fv0, fv1⟩ := Xv.out
  have hnev := Xv.out.lt
  go_wp2_with fail
  clear cv0 cv1 fv0 fv1 hnev
  go_ret2
  exact ⟨rfl, hbw⟩
theorem accept_y (hi lo k M a b : Nat) (e : Int) (w : World) (HF : ∀ w, Calls Try.prog 29 #[.agg #[Fv hi, Fv lo], .int .i64 e] w fun en w' => en = .returned (.bool true) ∧ Below w.heap.size w w') (HL : ∀ w, Calls Try.prog 30 #[Fv 4609434218613702656, .int .i64 e] w fun en w' => en = .returned (Fv k) ∧ w' = w) (hs : Nat) (HB : ∀ w, Calls Try.prog 31 #[Fv hi] w fun en w' => en = .returned (Fv hs) ∧ w' = w) (H1 : ∀ w, Calls Try.prog 32 #[Fv hi, Fv a] w fun en w' => en = .returned (.bool true) ∧ w' = w) (H2 : ∀ w, Calls Try.prog 32 #[Fv hi, Fv b] w fun en w' => en = .returned (.bool true) ∧ w' = w) (f1 : ∀ w, (binOp .mul 37 (Fv k) (Fv hs)).run Try.prog w = .ok (Fv M) w) (f2 : ∀ w, (binOp .sub 37 (Fv lo) (Fv M)).run Try.prog w = .ok (Fv a) w) (f3 : ∀ w, (binOp .add 37 (Fv lo) (Fv M)).run Try.prog w = .ok (Fv b) w) :
    Calls Try.prog 14 #[.agg #[Fv hi, Fv lo], .int .i64 e] w fun en w' => en = .returned (.tuple #[.int .u64 (hi : Int), .bool true]) ∧ Below w.heap.size w w' := by
  have hSF : ∀ (w : World) (a : Addr) (b : Nat), (store a (Fv b)).run Try.prog w = stored Try.prog w a (Fv b) .plain := fun w a b => run_store _ w a (Fv b) _ rfl
  have bo8 : ∀ w, (callFunc 33 #[Fv hi]).run Try.prog w = .ok (.value (.int .u64 (hi : Int))) w := fun w => bitsOf hi w
  go_enter Try.func14, Try.ntmps14
  go_wp2_with fail
  obtain ⟨W0, hW0⟩ : ∃ W0, W0 = (w.alloc (.cells #[Fv hi, Fv lo] 40)) := ⟨_, rfl⟩
  have Xv : Hid (Box W0 (w.heap.size) (Fv hi) (Fv lo)) := by rw [hW0]; exact ⟨by go_simp, by go_simp, by go_simp, by go_simp⟩
  have hb0 : Below w.heap.size w W0 := by rw [hW0]; exact below1 w _
  rw [← hW0]
  clear hW0
  have hbw : Below w.heap.size w w := Below.refl _ _
  obtain ⟨gv, hgv⟩ : ∃ g, g = w.heap.size := ⟨_, rfl⟩
  have HGv : Hid (w.heap.size ≤ gv) := by rw [hgv]; show _ ≤ _; omega
  rw [← hgv] at Xv
  try rw [← hgv]
  clear hgv
  replace hbw := Below.on hbw hb0
  clear hb0
  refine (HF _).mono ?_
  rintro e v1 ⟨rfl, hb1⟩
  replace Xv : Hid _ := Xv.out.below hb1
  replace hbw := Below.on hbw hb1
  clear hb1
  obtain ⟨cv0, cv1, fv0, fv1⟩ := Xv.out
  have hnev := Xv.out.lt
  go_wp2_with fail
  clear cv0 cv1 fv0 fv1 hnev
  obtain ⟨W2, hW2⟩ : ∃ W1, W1 = v1.drew := ⟨_, rfl⟩
  have hbd : Below v1.heap.size v1 W2 := by rw [hW2]; exact bDrew1 (Below.refl _ _)
  replace Xv : Hid _ := Xv.out.below hbd
  replace hbw := Below.on hbw hbd
  clear hbd
  have HJ : Hid ((fun W' : World => W'.cell? ⟨gv, 0, none⟩ = some (Fv hi)) W2) := Xv.out.c0
  refine wp_region_J (fun W' => W'.cell? ⟨gv, 0, none⟩ = some (Fv hi)) (by kernel_rfl) ?_
  rw [← hW2]
  clear hW2
  refine wpJ_tk 0 (v := ?v11x0) rfl ?hy11x0 HJ.out ?_
  case hy11x0 => (intro W' hJ; have j0 := hJ; go_simp; first | done | with_reducible rfl)
  refine wpJ_tk 2 (v := ?v12x2) rfl ?hy12x2 HJ.out ?_
  case hy12x2 => (intro W' hJ; have j0 := hJ; go_simp; first | done | with_reducible rfl)
  refine wpJ_tk 3 (v := ?v13x3) rfl ?hy13x3 HJ.out ?_
  case hy13x3 => (intro W' hJ; have j0 := hJ; go_simp; first | done | with_reducible rfl)
  refine wpJ_on 1 rfl fun KJ hK => ?_
  go_simp
  refine (HL _).mono ?_
  rintro e9 v7 ⟨rfl, hw⟩
  obtain rfl := hw.symm
  clear hw
  refine hK _ _ Xv.out.c0 ?_
  clear hK
  refine wpJ_on 4 rfl fun KJ hK => ?_
  go_simp
  refine (HB _).mono ?_
  rintro e9 v7 ⟨rfl, hw⟩
  obtain rfl := hw.symm
  clear hw
  clear HJ
  have HJ : Hid ((fun W' : World => W'.cell? ⟨gv, 0, none⟩ = some (Fv hi)) W2) := Xv.out.c0
  refine hK _ _ HJ.out ?_
  clear hK
  refine wpJ_tk 5 (v := ?v14x5) rfl ?hy14x5 HJ.out ?_
  case hy14x5 => (intro W' hJ; have j0 := hJ; go_simp; first | done | with_reducible rfl)
  refine wpJ_tk 6 (v := ?v15x6) rfl ?hy15x6 HJ.out ?_
  case hy15x6 => (intro W' hJ; have j0 := hJ; go_simp; first | done | with_reducible rfl)
  refine wpJ_done (by kernel_rfl) ?_ _
  clear HJ
  obtain ⟨cv0, cv1, fv0, fv1⟩ := Xv.out
  have hnev := Xv.out.lt
  go_wp2_with fail
  clear cv0 cv1 fv0 fv1 hnev
  refine (H1 _).mono ?_
  rintro e9 v7 ⟨rfl, hw⟩
  obtain rfl := hw.symm
  clear hw
  obtain ⟨cv0, cv1, fv0, fv1⟩ := Xv.out
  have hnev := Xv.out.lt
  go_wp2_with fail
  clear cv0 cv1 fv0 fv1 hnev
  refine (H2 _).mono ?_
  rintro e9 v7 ⟨rfl, hw⟩
  obtain rfl := hw.symm
  clear hw
  obtain ⟨cv0, cv1, fv0, fv1⟩ := Xv.out
  have hnev := Xv.out.lt
  go_wp2_with fail
  clear cv0 cv1 fv0 fv1 hnev
  go_ret2
  exact ⟨rfl, hbw⟩
theorem accept_ok (hi lo : Nat) (hh : hi < 18446744073709551616) (hl : lo < 18446744073709551616) (e : Int) (w : World) : Calls Try.prog 14 #[.agg #[Fv hi, Fv lo], .int .i64 e] w fun en w' => en = .returned (.tuple #[.int .u64 ((if accB hi lo e then hi else 0 : Nat) : Int), .bool (accB hi lo e)]) ∧ Below w.heap.size w w' := by
  cases hf : fit25 hi lo e with
  | false =>
    have hA : accB hi lo e = false := by unfold accB; rw [hf, Bool.false_and]
    rw [hA]
    exact accept_n hi lo hh hl e w hf
  | true =>
    have HF := fit_ok hi lo hh hl e
    rw [hf] at HF
    obtain ⟨k, he, k1, k2, sz, d⟩ := fit25_iff.1 hf
    obtain ⟨M, hM, FM, uM⟩ := mg_run k1 k2 sz
    have t1 : (-mgR k (ux hi)).natAbs ≤ (mgR k (ux hi)).natAbs := by rw [Int.natAbs_neg]; exact Nat.le_refl _
    have a4 := (acc_bd rfl k1 k2 sz d t1).2.2.2
    have b4 := (acc_bd rfl k1 k2 sz d (Nat.le_refl (mgR k (ux hi)).natAbs)).2.2.2
    obtain ⟨a, ha, sa⟩ := fl_sub_fin d.lo FM (by rw [uM, Int.sub_eq_add_neg]; exact a4)
    obtain ⟨b, hb, sb⟩ := fl_add_fin d.lo FM (by rw [uM]; exact b4)
    rw [uM] at sa sb
    rw [Int.sub_eq_add_neg] at sa
    have ka := acc_keep k1 k2 sz d t1 sa
    have kb := acc_keep k1 k2 sz d (Nat.le_refl _) sb
    have hA : accB hi lo e = (ddB hi a && ddB hi b) := by
      unfold accB
      rw [hf, Bool.true_and, ka, kb, ← Int.sub_eq_add_neg, he, show (-(-(k : Int))).toNat = k by omega]
    rw [hA]
    have H1 := keeps_ok hi a sz.fin sa.fin
    have H2 := keeps_ok hi b sz.fin sb.fin
    have HL := Ldexp_h (k - 56) e (by omega) (by omega)
    rw [show 56 + (k - 56) = k by omega] at HL
    have HB := mabs hi hh
    have f1 : ∀ w, (binOp .mul 37 (Fv (LD k)) (Fv (hi % 9223372036854775808))).run Try.prog w = .ok (Fv M) w := fun w => run_float_arith w .mul 37 .f64 _ _ _ hM
    have f2 : ∀ w, (binOp .sub 37 (Fv lo) (Fv M)).run Try.prog w = .ok (Fv a) w := fun w => run_float_arith w .sub 37 .f64 _ _ _ ha
    have f3 : ∀ w, (binOp .add 37 (Fv lo) (Fv M)).run Try.prog w = .ok (Fv b) w := fun w => run_float_arith w .add 37 .f64 _ _ _ hb
    generalize ddB hi a = A at *
    generalize ddB hi b = B at *
    cases A
    · exact accept_d hi lo _ M a e w HF HL _ HB H1 f1 f2
    · cases B
      · exact accept_u hi lo _ M a b e w HF HL _ HB H1 H2 f1 f2 f3
      · exact accept_y hi lo _ M a b e w HF HL _ HB H1 H2 f1 f2 f3
def accN (hi lo : Nat) (e : Int) : Nat := if accB hi lo e then hi else 0
theorem ask_ok (hi lo : Nat) (hh : hi < 18446744073709551616) (hl : lo < 18446744073709551616) (e : Int) (w : World) : Calls Try.prog 10 #[U hi, U lo, .int .i64 e] w fun en w' => en = .returned (.tuple #[.int .u64 (accN hi lo e : Int), .bool (accB hi lo e)]) ∧ Below w.heap.size w w' := by
  have HA : ∀ w, Calls Try.prog 14 #[.agg #[Fv hi, Fv lo], .int .i64 e] w fun en w' => en = .returned (.tuple #[.int .u64 (accN hi lo e : Int), .bool (accB hi lo e)]) ∧ Below w.heap.size w w' := accept_ok hi lo hh hl e
  have h1 := fun w => frombits hi w
  have h2 := fun w => frombits lo w
  generalize accN hi lo e = R at *
  generalize accB hi lo e = B at *
  clear hh hl
  go_enter Try.func10, Try.ntmps10
  go_wp2_with fail
  refine (HA _).mono ?_
  rintro e9 v9 ⟨rfl, hw⟩
  go_wp2_with fail
  go_ret2
  exact ⟨rfl, hw⟩
theorem aw1 : accB 4607182418800017408 0 (-60) = true := by decide +kernel
theorem aw2 : accB 4607182418800017408 4368491638549381120 (-60) = false := by decide +kernel
theorem aw3 : accB 4607182418800017408 4354980839667269632 (-56) = true := by decide +kernel
theorem awake25 (w : World) : Calls Try.prog 9 #[] w fun en w' => en = .returned (.bool true) ∧ Below w.heap.size w w' := by
  have H1 := ask_ok 4607182418800017408 0 (by decide) (by decide) (-60)
  have H2 := ask_ok 4607182418800017408 4368491638549381120 (by decide) (by decide) (-60)
  have H3 := ask_ok 4607182418800017408 4354980839667269632 (by decide) (by decide) (-56)
  unfold accN at H1 H2 H3
  rw [aw1, if_pos rfl] at H1
  rw [aw2, if_neg (by decide)] at H2
  rw [aw3, if_pos rfl] at H3
  go_enter Try.func9, Try.ntmps9
  go_wp2_with fail
  refine (H1 _).mono ?_
  rintro e9 v1 ⟨rfl, hb1⟩
  go_wp2_with fail
  refine (H2 _).mono ?_
  rintro e9 v2 ⟨rfl, hb2⟩
  go_wp2_with fail
  refine (H3 _).mono ?_
  rintro e9 v3 ⟨rfl, hb3⟩
  go_wp2_with fail
  go_ret
  exact ⟨rfl, Below.on (Below.on hb1 hb2) hb3⟩
theorem rp_ux {z : Int} (h : rg 0 z.natAbs < 9218868437227405312) : ux (rp 0 z) = rv z ∧ Fin64 (rp 0 z) ∧ rp 0 z % 9223372036854775808 = rg 0 z.natAbs := by
  rw [ux_eq]
  unfold rp rv
  generalize rg 0 z.natAbs = r at *
  by_cases h1 : z < 0
  · rw [if_pos h1, if_pos h1, if_pos (by omega), show (9223372036854775808 + r) % 9223372036854775808 = r by omega]
    exact ⟨rfl, ⟨by omega, by omega⟩, rfl⟩
  · rw [if_neg h1, if_neg h1, if_neg (by omega), Nat.mod_eq_of_lt (show r < 9223372036854775808 by omega)]
    exact ⟨rfl, ⟨by omega, by omega⟩, rfl⟩
theorem ux_inj {a b : Nat} (ha : Fin64 a) (hb : Fin64 b) (h0 : ux a ≠ 0) (h : ux a = ux b) : a = b := by
  have h1 := ux_abs a
  have h2 := ux_abs b
  rw [h, h2] at h1
  have h3 : a % 9223372036854775808 = b % 9223372036854775808 := by
    rcases Nat.lt_trichotomy (a % 9223372036854775808) (b % 9223372036854775808) with h4 | h4 | h4
    · have := vs_mono (H := 4503599627370496) (by decide) h4; omega
    · exact h4
    · have := vs_mono (H := 4503599627370496) (by decide) h4; omega
  have h5 := ux_neg h0
  have h6 := ux_neg (show ux b ≠ 0 by rw [← h]; exact h0)
  rw [h] at h5
  have h7 : decide (9223372036854775808 ≤ a) = decide (9223372036854775808 ≤ b) := h5.trans h6.symm
  have h8 := decide_eq_decide.1 h7
  have := ha.lt
  have := hb.lt
  omega
theorem SzF.ne {hi : Nat} (h : SzF hi) : ux hi ≠ 0 := by
  obtain ⟨q, g, q1, _, g1, g2, g3⟩ := sz_q h.least
  intro h0
  have := ux_abs hi
  rw [g3, h0] at this
  have h3 : 0 < g * 2 ^ q := Nat.mul_pos (by omega) (p2pos q)
  rw [← this] at h3
  exact absurd h3 (by decide)
theorem fit_round {hi lo : Nat} (sz : SzF hi) (hl : Fin64 lo) : rp 0 (ux hi + ux lo) = hi ↔ DdF hi lo := by
  constructor
  · intro h
    have h1 : rg 0 (ux hi + ux lo).natAbs < 9218868437227405312 := by
      have h2 := rg_top (ux hi + ux lo).natAbs
      have h3 := sz.fin.fin
      unfold rp at h
      generalize rg 0 (ux hi + ux lo).natAbs = r at *
      split at h <;> omega
    have h2 := (rp_ux h1).1
    rw [h] at h2
    exact ⟨sz.fin, hl, h1, h2.symm⟩
  · intro d
    obtain ⟨h1, h2, _⟩ := rp_ux d.fit
    exact (ux_inj sz.fin h2 sz.ne (by rw [h1, d.eq])).symm
theorem v_bits {hi lo : Nat} (sz : SzF hi) (hl : Fin64 lo) : bitsN (ux hi + ux lo).natAbs ≤ 2098 := by
  obtain ⟨K, hK⟩ : ∃ K, K = 1974 := ⟨_, rfl⟩
  have h1 := sz.le hK
  have h2 : (ux lo).natAbs ≤ MaxU := by rw [ux_abs]; exact vs_max hl.fin
  refine bits_le_of (Nat.lt_of_le_of_lt (m := 2 ^ K + MaxU) (by omega) ?_)
  obtain ⟨J, hJ⟩ : ∃ J, J = 2045 := ⟨_, rfl⟩
  rw [MaxU_eq hJ, show 2098 = 53 + J by omega, Nat.pow_add, show 2 ^ 53 = 9007199254740992 by decide]
  have h3 : 2 ^ K < 2 ^ J := Nat.pow_lt_pow_right (by decide) (by omega)
  omega
theorem fit_no {hi lo : Nat} {e : Int} (h : ¬ (-100 ≤ e ∧ e ≤ -56 ∧ hi % 9223372036854775808 < 9218868437227405312 ∧ lo % 9223372036854775808 < 9218868437227405312 ∧ 553942754166571008 ≤ hi % 9223372036854775808 ∧ hi % 9223372036854775808 ≤ 8660422083433463808)) : fit25 hi lo e = false := by
  cases hf : fit25 hi lo e with
  | false => rfl
  | true =>
    obtain ⟨k, rfl, k1, k2, sz, d⟩ := fit25_iff.1 hf
    exact absurd ⟨by omega, by omega, sz.fin.fin, d.lo.fin, sz.least, sz.most⟩ h
theorem rsum25 {a b : Nat} (w : World) :
    Calls Try.prog 20 #[U a, U b] w fun en w' => ∃ v, en = .returned v ∧ GotR w.heap.size w' v (ux a + ux b) 2201 ∧ Below w.heap.size w w' := by
  go_enter Try.func20, Try.ntmps20
  go_wp2_with fail
  obtain ⟨W0, hW0⟩ : ∃ W0, W0 = (w.alloc (.cells #[.bool false, .slice none 0 0] 47)) := ⟨_, rfl⟩
  have Xr : Hid (Box W0 (w.heap.size) (.bool false) (.slice none 0 0)) := by rw [hW0]; exact ⟨by go_simp, by go_simp, by go_simp, by go_simp⟩
  have hb0 : Below w.heap.size w W0 := by rw [hW0]; exact below1 w _
  rw [← hW0]
  clear hW0
  have hbw : Below w.heap.size w w := Below.refl _ _
  obtain ⟨gr, hgr⟩ : ∃ g, g = w.heap.size := ⟨_, rfl⟩
  have HGr : Hid (w.heap.size ≤ gr) := by rw [hgr]; show _ ≤ _; omega
  rw [← hgr] at Xr
  try rw [← hgr]
  clear hgr
  replace hbw := Below.on hbw hb0
  clear hb0
  refine (runits _).mono ?_
  rintro e v1 ⟨v, rfl, hv, hb1⟩
  obtain ⟨s1, g1, m1, rfl, hg1, hz1, hl1⟩ := hv
  have HN1 : Hid (W0.heap.size ≤ g1) := hg1
  have HB1 : Hid (W0.heap.size ≤ v1.heap.size) := hb1.size
  replace Xr : Hid _ := Xr.out.below hb1
  replace hbw := Below.on hbw hb1
  clear hb1
  have Z1 : Hid (ZR v1 s1 (some ⟨g1, 0, none⟩) m1 (ux a)) := hz1
  have HL1 : Hid (m1 ≤ 2200) := hl1
  clear hz1 hl1 hg1
  go_wp2_with fail
  refine (runits _).mono ?_
  rintro e v2 ⟨v, rfl, hv, hb2⟩
  obtain ⟨s2, g2, m2, rfl, hg2, hz2, hl2⟩ := hv
  have HN2 : Hid (v1.heap.size ≤ g2) := hg2
  have HB2 : Hid (v1.heap.size ≤ v2.heap.size) := hb2.size
  replace Xr : Hid _ := Xr.out.below hb2
  replace Z1 : Hid _ := Z1.out.below hb2
  replace hbw := Below.on hbw hb2
  clear hb2
  have Z2 : Hid (ZR v2 s2 (some ⟨g2, 0, none⟩) m2 (ux b)) := hz2
  have HL2 : Hid (m2 ≤ 2200) := hl2
  clear hz2 hl2 hg2
  go_wp2_with fail
  have HRB : Hid (gr < v2.heap.size ∧ w.heap.size ≤ v2.heap.size) := ⟨Xr.out.lt, hbw.size⟩
  refine (radd04 s1 s2 Z1.out Z2.out (by have := HL1.out; omega) (by have := HL2.out; omega)).mono ?_
  rintro e v3 ⟨v, rfl, hv, hb3⟩
  obtain ⟨s3, g3, m3, rfl, hg3, hz3, hl3⟩ := hv
  have HN3 : Hid (v2.heap.size ≤ g3) := hg3
  have HB3 : Hid (v2.heap.size ≤ v3.heap.size) := hb3.size
  replace Xr : Hid _ := Xr.out.below hb3
  replace Z1 : Hid _ := Z1.out.below hb3
  replace Z2 : Hid _ := Z2.out.below hb3
  replace hbw := Below.on hbw hb3
  clear hb3
  have Z3 : Hid (ZR v3 s3 (some ⟨g3, 0, none⟩) m3 (ux a + ux b)) := hz3
  have HL3 : Hid (m3 ≤ max m1 m2 + 1) := hl3
  clear hz3 hl3 hg3
  obtain ⟨cr0, cr1, fr0, fr1⟩ := Xr.out
  have hner := Xr.out.lt
  go_wp2_with fail
  refine bodyPost_ret (v := .agg #[.bool s3, .slice (some ⟨g3, 0, none⟩) m3 m3]) (by rw [results_cell1 rfl]; go_simp) rfl ⟨_, rfl, ⟨s3, g3, m3, rfl, Nat.le_trans HRB.out.2 HN3.out, ?_, (by have h1 := HL1.out; have h2 := HL2.out; have h3 := HL3.out; omega)⟩, ?_⟩
  · have := HN3.out; have := HRB.out.1
    exact (Z3.out.set _ _ _ (by omega)).set _ _ _ (by omega)
  · exact bSet (bSet hbw _ _ _ HGr.out) _ _ _ HGr.out
theorem rfit25 {hi lo : Nat} (hh : hi < 18446744073709551616) (hl : lo < 18446744073709551616) (e : Int) (w : World) :
    Calls Try.prog 11 #[U hi, U lo, .int .i64 e] w fun en w' => en = .returned (.bool (fit25 hi lo e)) ∧ Below w.heap.size w w' := by
  have HW : Hid (hi < 18446744073709551616 ∧ lo < 18446744073709551616) := ⟨hh, hl⟩
  have hbw : Below w.heap.size w w := Below.refl _ _
  obtain ⟨S, hS⟩ : ∃ S : Int, ((hi % 9223372036854775808 : Nat) : Int) = S := ⟨_, rfl⟩
  have HS : Hid (((hi % 9223372036854775808 : Nat) : Int) = S) := hS
  have H0 : ∀ w, Calls Try.prog 17 #[U hi] w fun e w' => e = .returned (.int .u64 ((hi % 9223372036854775808 : Nat) : Int)) ∧ w' = w := rsz hi
  rw [hS] at H0
  obtain ⟨B, hB⟩ : ∃ B, fit25 hi lo e = B := ⟨_, rfl⟩
  have HB : Hid (fit25 hi lo e = B) := hB
  rw [hB]
  clear hh hl hB hS
  by_cases c1 : e < -100
  · obtain rfl : B = false := HB.out.symm.trans (fit_no (by intro hx; have hs := HS.out; omega))
    go_enter Try.func11, Try.ntmps11
    go_wp2_with fail
    go_ret
    exact ⟨rfl, hbw⟩
  · by_cases c2 : -56 < e
    · obtain rfl : B = false := HB.out.symm.trans (fit_no (by intro hx; have hs := HS.out; omega))
      go_enter Try.func11, Try.ntmps11
      go_wp2_with fail
      go_ret
      exact ⟨rfl, hbw⟩
    · have HE : Hid (-100 ≤ e ∧ e ≤ -56) := ⟨by omega, by omega⟩
      go_enter Try.func11, Try.ntmps11
      go_wp2_with fail
      have H1 := rfin hi
      by_cases c3 : hi % 9223372036854775808 < 9218868437227405312
      · rw [decide_eq_true c3] at H1
        refine (H1 _).mono ?_
        rintro e9 v7 ⟨rfl, hw⟩
        obtain rfl := hw.symm
        clear hw
        go_wp2_with fail
        have H2 := rfin lo
        by_cases c4 : lo % 9223372036854775808 < 9218868437227405312
        · rw [decide_eq_true c4] at H2
          refine (H2 _).mono ?_
          rintro e9 v7 ⟨rfl, hw⟩
          obtain rfl := hw.symm
          clear hw
          have HC : Hid (hi % 9223372036854775808 < 9218868437227405312 ∧ lo % 9223372036854775808 < 9218868437227405312) := ⟨c3, c4⟩
          clear c3 c4 H1 H2
          go_wp2_with fail
          refine (H0 _).mono ?_
          rintro e9 v7 ⟨rfl, hw⟩
          obtain rfl := hw.symm
          clear hw
          go_wp2_with fail
          refine (rpow19 123 (-900) (by omega) (by omega) _).mono ?_
          rintro e9 v7 ⟨rfl, hw⟩
          obtain rfl := hw.symm
          clear hw
          by_cases c5 : S < 553942754166571008
          · obtain rfl : B = false := HB.out.symm.trans (fit_no (by intro hx; have hs := HS.out; omega))
            go_wp2_with fail
            go_ret
            exact ⟨rfl, hbw⟩
          · go_wp2_with fail
            refine (rpow19 1923 900 (by omega) (by omega) _).mono ?_
            rintro e9 v7 ⟨rfl, hw⟩
            obtain rfl := hw.symm
            clear hw
            by_cases c6 : 8660422083433463808 < S
            · obtain rfl : B = false := HB.out.symm.trans (fit_no (by intro hx; have hs := HS.out; omega))
              go_wp2_with fail
              go_ret
              exact ⟨rfl, hbw⟩
            · have HZ : Hid (SzF hi) := by have hs := HS.out; exact ⟨⟨HW.out.1, HC.out.1⟩, by omega, by omega⟩
              have HLo : Hid (Fin64 lo) := ⟨HW.out.2, HC.out.2⟩
              go_wp2_with fail
              refine (rsum25 _).mono ?_
              rintro e v1 ⟨v, rfl, hv, hb1⟩
              obtain ⟨s1, g1, m1, rfl, hg1, hz1, hl1⟩ := hv
              have HN1 : Hid (w.heap.size ≤ g1) := hg1
              have HB1 : Hid (w.heap.size ≤ v1.heap.size) := hb1.size
              replace hbw := Below.on hbw hb1
              clear hb1
              have Z1 : Hid (ZR v1 s1 (some ⟨g1, 0, none⟩) m1 (ux hi + ux lo)) := hz1
              have HL1 : Hid (m1 ≤ 2201) := hl1
              clear hz1 hl1 hg1
              go_wp2_with fail
              have HFB : Hid (B = decide ((hi : Int) = ((rp 0 (ux hi + ux lo) : Nat) : Int))) := by
                rw [← HB.out]
                have h1 := fit_round HZ.out HLo.out
                by_cases h2 : rp 0 (ux hi + ux lo) = hi
                · rw [decide_eq_true (by omega)]; exact fit25_iff.2 ⟨(-e).toNat, by have := HE.out; omega, by have := HE.out; omega, by have := HE.out; omega, HZ.out, h1.1 h2⟩
                · rw [decide_eq_false (by omega)]
                  cases hf : fit25 hi lo e with
                  | false => rfl
                  | true => obtain ⟨_, _, _, _, _, d⟩ := fit25_iff.1 hf; exact absurd (h1.2 d) h2
              refine (rround19 s1 Z1.out (by have := HL1.out; omega) (v_bits HZ.out HLo.out)).mono ?_
              rintro e v2 ⟨rfl, hb2⟩
              generalize rp 0 (ux hi + ux lo) = R at *
              replace Z1 : Hid _ := Z1.out.below hb2
              replace hbw := Below.on hbw hb2
              clear hb2
              go_wp2_with fail
              go_ret
              refine ⟨?_, hbw⟩
              rw [HFB.out]
              rfl
        · obtain rfl : B = false := HB.out.symm.trans (fit_no (by intro hx; have hs := HS.out; exact c4 hx.2.2.2.1))
          rw [decide_eq_false c4] at H2
          refine (H2 _).mono ?_
          rintro e9 v7 ⟨rfl, hw⟩
          obtain rfl := hw.symm
          clear hw
          go_wp2_with fail
          go_ret
          exact ⟨rfl, hbw⟩
      · obtain rfl : B = false := HB.out.symm.trans (fit_no (by intro hx; have hs := HS.out; exact c3 hx.2.2.1))
        rw [decide_eq_false c3] at H1
        refine (H1 _).mono ?_
        rintro e9 v7 ⟨rfl, hw⟩
        obtain rfl := hw.symm
        clear hw
        go_wp2_with fail
        go_ret
        exact ⟨rfl, hbw⟩
end Go.Proofs.Ytoclnjbmhepcnaa
