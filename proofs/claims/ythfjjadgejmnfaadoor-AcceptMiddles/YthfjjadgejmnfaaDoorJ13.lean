import Derived.Laws.FloatArith
import Derived.Test.YthfjjadgejmnfaaDoorVal
import Derived.Test.YthfjjadgejmnfaaDoorJ12
import Derived.Deep.Draws
import Derived.Test.YthfjjadgejmnfaaDoorChecked
import Derived.Test.YthfjjadgejmnfaaDoorMem
import Derived.Laws.Externs
import Derived.Test.YthfjjadgejmnfaaDoorJ8
import Derived.Test.YthfjjadgejmnfaaDoorJ9
namespace Go.Proofs.YthfjjadgejmnfaaDoor
open Go.RowKit
set_option maxRecDepth 20000
set_option maxHeartbeats 0
def Fl (p : Nat) (x : Int) : Prop := ∃ q : Nat, ((2 ^ q : Nat) : Int) ∣ x ∧ x.natAbs ≤ 2 ^ (p + q)
structure Rn (p : Nat) (x s : Int) : Prop where
  fl : Fl p s
  near : ∀ z, Fl p z → (s - x).natAbs ≤ (z - x).natAbs

theorem p2pos (n : Nat) : 0 < 2 ^ n := Nat.pow_pos (by omega)
theorem p2le {a b : Nat} (h : a ≤ b) : 2 ^ a ≤ 2 ^ b := Nat.pow_le_pow_right (by omega) h
theorem p2lt {a b : Nat} (h : 2 ^ a < 2 ^ b) : a < b := Nat.lt_of_not_le fun k => by have := p2le k; omega
theorem p2succ (a : Nat) : 2 ^ (a + 1) = 2 * 2 ^ a := by rw [Nat.pow_succ, Nat.mul_comm]
theorem p2dvd {a b : Nat} (h : a ≤ b) : ((2 ^ a : Nat) : Int) ∣ ((2 ^ b : Nat) : Int) := Int.natCast_dvd_natCast.2 (Nat.pow_dvd_pow 2 h)
theorem dvd_abs {d : Nat} {x : Int} (h : (d : Int) ∣ x) : d ∣ x.natAbs := Int.ofNat_dvd_left.1 h
theorem le_of_dvd2 {a b d : Nat} (ha : d ∣ a) (hb : d ∣ b) (h : a < b) : a + d ≤ b := by
  obtain ⟨u, rfl⟩ := ha
  obtain ⟨v, rfl⟩ := hb
  have h1 : u < v := Nat.lt_of_mul_lt_mul_left h
  have h2 : d * (u + 1) ≤ d * v := Nat.mul_le_mul_left d h1
  rw [Nat.mul_add] at h2
  omega
theorem Fl.zero (p : Nat) : Fl p 0 := ⟨0, ⟨0, by omega⟩, by simp⟩
theorem Fl.neg {p : Nat} {x : Int} (h : Fl p x) : Fl p (-x) := by
  obtain ⟨q, h1, h2⟩ := h
  exact ⟨q, Int.dvd_neg.2 h1, by rw [Int.natAbs_neg]; exact h2⟩
theorem Fl.small {p : Nat} {x : Int} (h : x.natAbs ≤ 2 ^ p) : Fl p x := ⟨0, ⟨x, by simp⟩, h⟩
theorem Fl.pow (p n : Nat) : Fl p ((2 ^ n : Nat) : Int) := ⟨n, ⟨1, by simp⟩, by rw [Int.natAbs_natCast]; exact p2le (by omega)⟩
theorem Fl.dvd {p : Nat} {x : Int} (hp : 1 ≤ p) (h : Fl p x) {m : Nat} (hm : 2 ^ (p - 1 + m) ≤ x.natAbs) : ((2 ^ m : Nat) : Int) ∣ x := by
  obtain ⟨q, h1, h2⟩ := h
  rcases Nat.lt_or_ge q m with h3 | h3
  · have h4 : x.natAbs = 2 ^ (p + q) := by
      have h5 : 2 ^ (p - 1 + m) ≤ 2 ^ (p + q) := Nat.le_trans hm h2
      have h6 : p + q ≤ p - 1 + m := by omega
      have := p2le h6
      omega
    have h5 : 2 ^ m ∣ x.natAbs := by
      rw [h4]
      refine Nat.pow_dvd_pow 2 ?_
      have h6 : ¬ (p + q < p - 1 + m) := fun h7 => by
        have := Nat.pow_lt_pow_right (show 1 < 2 by omega) h7
        omega
      omega
    exact Int.ofNat_dvd_left.2 h5
  · exact Int.dvd_trans (p2dvd h3) h1
theorem place {p : Nat} (hp : 1 ≤ p) (x : Int) : ∃ m : Nat, x.natAbs < 2 ^ (p + m) ∧ (m = 0 ∨ 2 ^ (p - 1 + m) ≤ x.natAbs) := by
  by_cases h0 : x.natAbs = 0
  · exact ⟨0, by rw [h0]; exact p2pos _, .inl rfl⟩
  · have h1 : 2 ^ x.natAbs.log2 ≤ x.natAbs := Nat.log2_self_le h0
    have h2 : x.natAbs < 2 ^ (x.natAbs.log2 + 1) := Nat.lt_log2_self
    refine ⟨x.natAbs.log2 + 1 - p, Nat.lt_of_lt_of_le h2 (p2le (by omega)), ?_⟩
    by_cases h3 : x.natAbs.log2 + 1 - p = 0
    · exact .inl h3
    · refine .inr (Nat.le_trans (p2le ?_) h1)
      omega
theorem Rn.ex {p : Nat} {x s : Int} (h : Rn p x s) (hx : Fl p x) : s = x := by
  have := h.near x hx
  omega
theorem Rn.neg {p : Nat} {x s : Int} (h : Rn p x s) : Rn p (-x) (-s) := by
  refine ⟨h.fl.neg, fun z hz => ?_⟩
  have := h.near (-z) hz.neg
  omega
theorem Rn.lo {p : Nat} {x s z : Int} (h : Rn p x s) (hz : Fl p z) (hx : z ≤ x) : z ≤ s := by
  have := h.near z hz
  omega
theorem Rn.hi {p : Nat} {x s z : Int} (h : Rn p x s) (hz : Fl p z) (hx : x ≤ z) : s ≤ z := by
  have := h.near z hz
  omega
theorem Rn.err {p : Nat} {x s : Int} (h : Rn p x s) {m : Nat} (hx : x.natAbs ≤ 2 ^ (p + m)) : 2 * (s - x).natAbs ≤ 2 ^ m := by
  have hd : 0 < 2 ^ m := p2pos m
  have hN : 2 ^ (p + m) = 2 ^ p * 2 ^ m := Nat.pow_add ..
  obtain ⟨d, hde⟩ : ∃ d, d = 2 ^ m := ⟨_, rfl⟩
  obtain ⟨N, hNe⟩ : ∃ N, N = 2 ^ p := ⟨_, rfl⟩
  rw [← hde] at hd hN
  rw [← hNe] at hN
  rw [hN] at hx
  -- the multiple of d that is nearest
  obtain ⟨k, hk⟩ : ∃ k : Int, k = (2 * x + d) / (2 * d) := ⟨_, rfl⟩
  have h1 : 2 * (d : Int) * k ≤ 2 * x + d := by rw [hk]; exact Int.mul_ediv_self_le (by omega)
  have h2 : 2 * x + d < 2 * (d : Int) * k + 2 * d := by rw [hk]; exact Int.lt_mul_ediv_self_add (by omega)
  have e1 : 2 * (d : Int) * k = 2 * (d * k) := Int.mul_assoc ..
  rw [e1] at h1 h2
  have h3 : Fl p (d * k) := by
    refine ⟨m, ⟨k, by rw [hde]⟩, ?_⟩
    rw [hN]
    have h4 : k ≤ N := by
      refine Int.le_of_lt_add_one (Int.lt_of_mul_lt_mul_left (a := (d : Int)) ?_ (by omega))
      rw [Int.mul_add, Int.mul_one]
      have : (x.natAbs : Int) ≤ (N : Int) * d := by exact_mod_cast hx
      rw [Int.mul_comm] at this
      omega
    have h5 : -(N : Int) ≤ k := by
      refine Int.le_of_lt_add_one (Int.lt_of_mul_lt_mul_left (a := (d : Int)) ?_ (by omega))
      rw [Int.mul_add, Int.mul_one, Int.mul_neg]
      have : (x.natAbs : Int) ≤ (N : Int) * d := by exact_mod_cast hx
      rw [Int.mul_comm] at this
      omega
    rw [Int.natAbs_mul, Int.natAbs_natCast, Nat.mul_comm]
    exact Nat.mul_le_mul_right _ (by omega)
  have h6 := h.near _ h3
  rw [← hde]
  omega
theorem Rn.dvd {p : Nat} {x s : Int} (hp : 1 ≤ p) (h : Rn p x s) {m : Nat} (hx : 2 ^ (p - 1 + m) ≤ x.natAbs) : ((2 ^ m : Nat) : Int) ∣ s ∧ 2 ^ (p - 1 + m) ≤ s.natAbs := by
  have h1 : 2 ^ (p - 1 + m) ≤ s.natAbs := by
    rcases Int.le_total 0 x with h0 | h0
    · have := h.lo (Fl.pow p (p - 1 + m)) (by omega)
      omega
    · have := h.neg.lo (Fl.pow p (p - 1 + m)) (by omega)
      omega
  exact ⟨h.fl.dvd hp h1, h1⟩
theorem err_fl {p : Nat} {a b s : Int} (hp : 1 ≤ p) (ha : Fl p a) (hb : Fl p b) (h : Rn p (a + b) s) : Fl p (a + b - s) := by
  have key : ∀ {a b s : Int} {i j : Nat}, Fl p a → Rn p (a + b) s → ((2 ^ i : Nat) : Int) ∣ a → ((2 ^ j : Nat) : Int) ∣ b → b.natAbs ≤ 2 ^ (p + j) → j ≤ i → Fl p (a + b - s) := fun {a b s i j} ha h h1 h2 h3 hij => by
    have h4 : ((2 ^ j : Nat) : Int) ∣ a := Int.dvd_trans (p2dvd hij) h1
    have h5 : ((2 ^ j : Nat) : Int) ∣ a + b := Int.dvd_add h4 h2
    rcases Nat.lt_or_ge (2 ^ (p + j)) (a + b).natAbs with h6 | h6
    · have h7 := (h.dvd hp (m := j) (Nat.le_trans (p2le (by omega)) (Nat.le_of_lt h6))).1
      refine ⟨j, Int.dvd_sub h5 h7, ?_⟩
      have h8 := h.near a ha
      omega
    · have := h.ex ⟨j, h5, h6⟩
      rw [this, Int.sub_self]; exact Fl.zero p
  obtain ⟨i, a1, a2⟩ := ha
  obtain ⟨j, b1, b2⟩ := hb
  rcases Nat.le_total j i with hij | hij
  · exact key ⟨i, a1, a2⟩ h a1 b1 b2 hij
  · have := key (s := s) ⟨j, b1, b2⟩ (by rw [Int.add_comm]; exact h) b1 a1 a2 hij
    rw [Int.add_comm]; exact this
theorem fast_fl {p : Nat} {a b s : Int} (hp : 2 ≤ p) (ha : Fl p a) (hb : Fl p b) (h : Rn p (a + b) s) (hab : b.natAbs ≤ a.natAbs) : Fl p (s - a) := by
  obtain ⟨m, m1, m2⟩ := place (show 1 ≤ p by omega) (a + b)
  obtain ⟨k, k1, k2⟩ := place (show 1 ≤ p by omega) a
  have he := h.err (m := m) (Nat.le_of_lt m1)
  rcases m2 with m0 | m2
  · subst m0
    have : s = a + b := by simp at he; omega
    rw [this, show a + b - a = b by omega]; exact hb
  have hs := (h.dvd (by omega) m2).1
  have hka : ((2 ^ k : Nat) : Int) ∣ a := by
    rcases k2 with k0 | k2
    · subst k0; exact ⟨a, by simp⟩
    · exact ha.dvd (by omega) k2
  by_cases hm0 : m = 0
  · subst hm0
    have : s = a + b := by simp at he; omega
    rw [this, show a + b - a = b by omega]; exact hb
  obtain ⟨n, rfl⟩ : ∃ n, m = n + 1 := ⟨m - 1, by omega⟩
  have hmk : n + 1 ≤ k + 1 := by
    have h1 : 2 ^ (p - 1 + (n + 1)) < 2 ^ (p + k + 1) := by
      have := p2succ (p + k)
      omega
    have := p2lt h1
    omega
  rw [p2succ] at he
  rcases Nat.lt_or_ge k (n + 1) with h1 | h1
  · obtain rfl : n = k := by omega
    have hb2 : a.natAbs + 2 ^ n ≤ 2 ^ (p + n) := le_of_dvd2 (dvd_abs hka) (Nat.pow_dvd_pow 2 (by omega)) k1
    refine ⟨n, Int.dvd_sub (Int.dvd_trans (p2dvd (by omega)) hs) hka, ?_⟩
    omega
  · by_cases hb3 : ((2 ^ (n + 1) : Nat) : Int) ∣ b
    · have h2 : ((2 ^ (n + 1) : Nat) : Int) ∣ a := Int.dvd_trans (p2dvd h1) hka
      have := h.ex ⟨n + 1, Int.dvd_add h2 hb3, Nat.le_of_lt m1⟩
      rw [this, show a + b - a = b by omega]; exact hb
    · have h3 : b.natAbs < 2 ^ (p - 1 + (n + 1)) := Nat.lt_of_not_le fun h4 => hb3 (hb.dvd (by omega) h4)
      refine ⟨n + 1, Int.dvd_sub hs (Int.dvd_trans (p2dvd h1) hka), ?_⟩
      have h4 : 2 ^ (p + (n + 1)) = 2 * 2 ^ (p - 1 + (n + 1)) := by rw [← p2succ]; congr 1; omega
      have h5 : 2 ^ n ≤ 2 ^ (p - 1 + (n + 1)) := p2le (by omega)
      omega
theorem fast_sum {p : Nat} {a b s t e : Int} (hp : 2 ≤ p) (ha : Fl p a) (hb : Fl p b) (hab : a = 0 ∨ b.natAbs ≤ a.natAbs) (h1 : Rn p (a + b) s) (h2 : Rn p (s - a) t) (h3 : Rn p (b - t) e) : s + e = a + b := by
  have hf : Fl p (s - a) := by
    rcases hab with h | h
    · subst h
      rw [Int.zero_add] at h1
      rw [h1.ex hb, Int.sub_zero]; exact hb
    · exact fast_fl hp ha hb h1 h
  have ht := h2.ex hf
  have hx := err_fl (by omega) ha hb h1
  have he := h3.ex (by rw [ht, show b - (s - a) = a + b - s by omega]; exact hx)
  omega
theorem two_sum_a {p : Nat} {a b s b' a' da db : Int} (hp : 3 ≤ p) (ha : Fl p a) (hb : Fl p b) (h1 : Rn p (a + b) s) (h2 : Rn p (s - a) b') (h3 : Rn p (s - b') a') (h4 : Rn p (a - a') da) (h5 : Rn p (b - b') db) : a' + b' = s ∧ da + db = a + b - s := by
  have hx := err_fl (by omega) ha hb h1
  by_cases hf : Fl p (s - a)
  · have e2 := h2.ex hf
    have e3 := h3.ex (by rw [e2, show s - (s - a) = a by omega]; exact ha)
    have e4 := h4.ex (by rw [e3, e2, show a - (s - (s - a)) = 0 by omega]; exact Fl.zero p)
    have e5 := h5.ex (by rw [e2, show b - (s - a) = a + b - s by omega]; exact hx)
    omega
  have hab : a.natAbs < b.natAbs := Nat.lt_of_not_le fun h => hf (fast_fl (by omega) ha hb h1 h)
  obtain ⟨m, m1, m2⟩ := place (show 1 ≤ p by omega) (a + b)
  obtain ⟨k, k1, k2⟩ := place (show 1 ≤ p by omega) b
  have he := h1.err (m := m) (Nat.le_of_lt m1)
  have hm0 : m ≠ 0 := fun h => hf (by
    subst h
    have : s = a + b := by simp at he; omega
    rw [this, show a + b - a = b by omega]; exact hb)
  have hne : s ≠ a + b := fun h => hf (by rw [h, show a + b - a = b by omega]; exact hb)
  have m2 : 2 ^ (p - 1 + m) ≤ (a + b).natAbs := by rcases m2 with h | h; exact absurd h hm0; exact h
  have hs := (h1.dvd (by omega) m2).1
  have hkb : ((2 ^ k : Nat) : Int) ∣ b := by
    rcases k2 with k0 | k2
    · subst k0; exact ⟨b, by simp⟩
    · exact hb.dvd (by omega) k2
  have hmk : m ≤ k + 1 := by
    have h1 : 2 ^ (p - 1 + m) < 2 ^ (p + k + 1) := by
      have := p2succ (p + k)
      omega
    have := p2lt h1
    omega
  have hbk : b.natAbs + 2 ^ k ≤ 2 ^ (p + k) := le_of_dvd2 (dvd_abs hkb) (Nat.pow_dvd_pow 2 (by omega)) k1
  have hak : ¬ ((2 ^ k : Nat) : Int) ∣ a := fun h => by
    rcases Nat.lt_or_ge k m with h7 | h7
    · obtain rfl : m = k + 1 := by omega
      refine hf ⟨k, Int.dvd_sub (Int.dvd_trans (p2dvd (by omega)) hs) h, ?_⟩
      rw [p2succ] at he
      omega
    · exact hne (h1.ex ⟨m, Int.dvd_add (Int.dvd_trans (p2dvd h7) h) (Int.dvd_trans (p2dvd h7) hkb), Nat.le_of_lt m1⟩)
  have hk0 : k ≠ 0 := fun h => hak (by subst h; exact ⟨a, by simp⟩)
  have k2 : 2 ^ (p - 1 + k) ≤ b.natAbs := by rcases k2 with h | h; exact absurd h hk0; exact h
  have hal : a.natAbs < 2 ^ (p - 1 + k) := Nat.lt_of_not_le fun h => hak (ha.dvd (by omega) h)
  obtain ⟨j, rfl⟩ : ∃ j, k = j + 1 := ⟨k - 1, by omega⟩
  obtain ⟨r, rfl⟩ : ∃ r, p = r + 3 := ⟨p - 3, by omega⟩
  -- the powers that are met
  have q0 : 2 ^ (j + 1) = 2 * 2 ^ j := p2succ j
  have q1 : 2 ^ (r + 3 - 1 + (j + 1)) = 2 * 2 ^ (r + 2 + j) := by rw [← p2succ]; congr 1
  have q2 : 2 ^ (r + 3 + (j + 1)) = 4 * 2 ^ (r + 2 + j) := by
    rw [show r + 3 + (j + 1) = r + 2 + j + 1 + 1 by omega, p2succ, p2succ]; omega
  have q3 : 4 * 2 ^ j ≤ 2 ^ (r + 2 + j) := by
    rw [show r + 2 + j = r + j + 1 + 1 by omega, p2succ, p2succ]
    have : 2 ^ j ≤ 2 ^ (r + j) := p2le (by omega)
    omega
  have q4 : 2 ^ (r + 3 + j) = 2 * 2 ^ (r + 2 + j) := by rw [← p2succ]; congr 1; omega
  rw [q0] at hbk
  rw [q1] at k2 hal
  rw [q2] at hbk
  have hmj : j ≤ m := Nat.le_of_not_lt fun h => by
    -- a sum so small: a is smaller still
    have ham : ¬ ((2 ^ m : Nat) : Int) ∣ a := fun h7 => hne (h1.ex ⟨m, Int.dvd_add h7 (Int.dvd_trans (p2dvd (by omega)) hkb), Nat.le_of_lt m1⟩)
    have h8 : a.natAbs < 2 ^ (r + 3 - 1 + m) := Nat.lt_of_not_le fun h => ham (ha.dvd (by omega) h)
    have h9 : 2 ^ (r + 3 - 1 + m) ≤ 2 ^ (r + 2 + j) := p2le (by omega)
    have h10 : 2 ^ (r + 3 + m) ≤ 2 ^ (r + 2 + j) := p2le (by omega)
    omega
  have hsj : ((2 ^ j : Nat) : Int) ∣ s := Int.dvd_trans (p2dvd hmj) hs
  have he2 : 2 * (s - (a + b)).natAbs ≤ 4 * 2 ^ j := by
    have h7 : 2 ^ m ≤ 2 ^ (j + 1 + 1) := p2le (by omega)
    rw [p2succ, p2succ] at h7
    omega
  -- b'
  have hy := h2.err (m := j + 1) (by rw [q2]; omega)
  have hb' := (h2.dvd (by omega) (m := j) (by rw [show r + 3 - 1 + j = r + 2 + j by omega]; omega)).1
  rw [q0] at hy
  have hal2 : a.natAbs + 2 ^ j ≤ 2 * 2 ^ (r + 2 + j) := by
    by_cases h7 : ((2 ^ j : Nat) : Int) ∣ a
    · refine le_of_dvd2 (dvd_abs h7) ?_ hal
      rw [← q4]; exact Nat.pow_dvd_pow 2 (by omega)
    · have h8 : a.natAbs < 2 ^ (r + 3 - 1 + j) := Nat.lt_of_not_le fun h => h7 (ha.dvd (by omega) h)
      rw [show r + 3 - 1 + j = r + 2 + j by omega] at h8
      omega
  have e3 := h3.ex ⟨j, Int.dvd_sub hsj hb', by rw [q4]; omega⟩
  have hxa : Fl (r + 3) (s - a - b') := by
    have := err_fl (p := r + 3) (a := s) (b := -a) (s := b') (by omega) h1.fl ha.neg (by rw [← Int.sub_eq_add_neg]; exact h2)
    rw [← Int.sub_eq_add_neg] at this
    exact this
  have e4 := h4.ex (by rw [e3, show a - (s - b') = -(s - a - b') by omega]; exact hxa.neg)
  have e5 := h5.ex ⟨j, Int.dvd_sub (Int.dvd_trans (p2dvd (by omega)) hkb) hb', by rw [q4]; omega⟩
  omega
theorem two_sum {p : Nat} {a b s b' a' da db e : Int} (hp : 3 ≤ p) (ha : Fl p a) (hb : Fl p b) (h1 : Rn p (a + b) s) (h2 : Rn p (s - a) b') (h3 : Rn p (s - b') a') (h4 : Rn p (a - a') da) (h5 : Rn p (b - b') db) (h6 : Rn p (da + db) e) : s + e = a + b := by
  have h := (two_sum_a hp ha hb h1 h2 h3 h4 h5).2
  have := h6.ex (by rw [h]; exact err_fl (by omega) ha hb h1)
  omega
theorem Rn.little {p : Nat} {x s : Int} (hp : 1 ≤ p) (h : Rn p x s) : 2 ^ p * (x - s).natAbs ≤ s.natAbs := by
  obtain ⟨m, m1, m2⟩ := place hp x
  have he := h.err (m := m) (Nat.le_of_lt m1)
  by_cases hm0 : m = 0
  · subst hm0
    have : s = x := by simp at he; omega
    rw [this, Int.sub_self]; simp
  have m2 : 2 ^ (p - 1 + m) ≤ x.natAbs := by rcases m2 with h | h; exact absurd h hm0; exact h
  have h2 := (h.dvd hp m2).2
  obtain ⟨q, rfl⟩ : ∃ q, p = q + 1 := ⟨p - 1, by omega⟩
  have h3 : 2 ^ (q + 1) * (x - s).natAbs = 2 ^ q * (2 * (s - x).natAbs) := by
    rw [p2succ, show (x - s).natAbs = (s - x).natAbs by omega, Nat.mul_comm 2, Nat.mul_assoc]
  rw [h3]
  refine Nat.le_trans (Nat.mul_le_mul_left _ he) ?_
  rw [← Nat.pow_add]
  exact h2
theorem dvd_far {d : Nat} {x y : Int} (hx : (d : Int) ∣ x) (hy : (d : Int) ∣ y) (h : x ≠ y) : d ≤ (x - y).natAbs := by
  have h1 : d ∣ (x - y).natAbs := Int.ofNat_dvd_left.1 (Int.dvd_sub hx hy)
  exact Nat.le_of_dvd (by omega) h1
theorem rn_mk {p L : Nat} {x s : Int} (hp : 1 ≤ p) (h1 : ((2 ^ L : Nat) : Int) ∣ s) (h2 : s.natAbs ≤ 2 ^ (p + L)) (h3 : 2 * (s - x).natAbs ≤ 2 ^ L) (h4 : L = 0 ∨ 2 ^ (p - 1 + L) ≤ x.natAbs) : Rn p x s := by
  have key : ∀ z : Int, ((2 ^ L : Nat) : Int) ∣ z → (s - x).natAbs ≤ (z - x).natAbs := fun z hz => by
    by_cases h : z = s
    · rw [h]; exact Nat.le_refl _
    · have := dvd_far hz h1 h
      omega
  refine ⟨⟨L, h1, h2⟩, fun z hz => ?_⟩
  by_cases hd : ((2 ^ L : Nat) : Int) ∣ z
  · exact key z hd
  · have hL : L ≠ 0 := fun h => hd (by subst h; exact ⟨z, by simp⟩)
    have h4 : 2 ^ (p - 1 + L) ≤ x.natAbs := by rcases h4 with h | h; exact absurd h hL; exact h
    have h5 : z.natAbs < 2 ^ (p - 1 + L) := Nat.lt_of_not_le fun h => hd (hz.dvd hp h)
    rcases Int.le_total 0 x with h0 | h0
    · have := key _ (p2dvd (show L ≤ p - 1 + L by omega))
      omega
    · have := key _ (Int.dvd_neg.2 (p2dvd (show L ≤ p - 1 + L by omega)))
      omega
def rne (n L : Nat) : Nat := n / 2 ^ L + (decide (2 ^ L < 2 * (n % 2 ^ L)) || (2 ^ L == 2 * (n % 2 ^ L) && n / 2 ^ L % 2 == 1)).toNat
theorem cut_eq (neg : Bool) (n L : Nat) (h : L ≤ n.log2 + 2) : Ieee.Toward.even.cut neg n L = rne n L := by
  unfold Ieee.Toward.cut rne
  rw [Nat.min_eq_left h, Nat.one_shiftLeft]
theorem rne_zero (n : Nat) : rne n 0 = n := by
  unfold rne
  simp [Nat.mod_one]
theorem rne_mul (n L d : Nat) : rne (n * 2 ^ d) (L + d) = rne n L := by
  have hd : 0 < 2 ^ d := p2pos d
  have h1 : n * 2 ^ d / 2 ^ (L + d) = n / 2 ^ L := by rw [Nat.pow_add]; exact Nat.mul_div_mul_right _ _ hd
  have h2 : n * 2 ^ d % 2 ^ (L + d) = n % 2 ^ L * 2 ^ d := by rw [Nat.pow_add]; exact Nat.mul_mod_mul_right _ _ _
  have h3 : decide (2 ^ (L + d) < 2 * (n % 2 ^ L * 2 ^ d)) = decide (2 ^ L < 2 * (n % 2 ^ L)) := by
    rw [← Nat.mul_assoc, Nat.pow_add]; exact decide_eq_decide.2 (Nat.mul_lt_mul_right hd)
  have h4 : (2 ^ (L + d) == 2 * (n % 2 ^ L * 2 ^ d)) = (2 ^ L == 2 * (n % 2 ^ L)) := by
    rw [← Nat.mul_assoc, Nat.pow_add, Bool.eq_iff_iff, beq_iff_eq, beq_iff_eq]; exact Nat.mul_right_cancel_iff hd
  unfold rne
  rw [h1, h2, h3, h4]
theorem rne_err (n L : Nat) : 2 * ((rne n L * 2 ^ L : Nat) - (n : Int)).natAbs ≤ 2 ^ L := by
  have h1 := Nat.div_add_mod n (2 ^ L)
  have h2 := Nat.mod_lt n (p2pos L)
  unfold rne
  rw [Nat.mul_comm] at h1
  generalize hr : n % 2 ^ L = r at *
  generalize hq : n / 2 ^ L = q at *
  generalize 2 ^ L = D at *
  by_cases h3 : D < 2 * r
  · rw [decide_eq_true h3, Bool.true_or, Bool.toNat_true, Nat.add_mul]; omega
  · rw [decide_eq_false h3, Bool.false_or]
    by_cases h4 : D = 2 * r
    · rcases Nat.mod_two_eq_zero_or_one q with h5 | h5
      · rw [h5]; simp; omega
      · rw [h5, show (D == 2 * r) = true by simp [h4]]
        simp only [beq_self_eq_true, Bool.and_self, Bool.toNat_true]
        rw [Nat.add_mul]; omega
    · have : (D == 2 * r) = false := by simp [h4]
      rw [this]; simp; omega
theorem rne_le (n L K : Nat) (h : n ≤ K * 2 ^ L) : rne n L ≤ K := by
  have h1 := rne_err n L
  refine Nat.le_of_not_lt fun h2 => ?_
  have h3 : (K + 1) * 2 ^ L ≤ rne n L * 2 ^ L := Nat.mul_le_mul_right _ h2
  rw [Nat.add_mul] at h3
  have := p2pos L
  omega
theorem le_rne (n L K : Nat) (h : K * 2 ^ L ≤ n) : K ≤ rne n L := by
  unfold rne
  have : K ≤ n / 2 ^ L := (Nat.le_div_iff_mul_le (p2pos L)).2 h
  omega
theorem log2_mul (n d : Nat) (h : n ≠ 0) : (n * 2 ^ d).log2 = n.log2 + d := by
  have h1 : 2 ^ n.log2 ≤ n := Nat.log2_self_le h
  have h2 : n < 2 ^ (n.log2 + 1) := Nat.lt_log2_self
  have hd : 0 < 2 ^ d := p2pos d
  have hz : n * 2 ^ d ≠ 0 := Nat.mul_ne_zero h (by omega)
  refine (Nat.log2_eq_iff hz).2 ⟨?_, ?_⟩
  · rw [Nat.pow_add]; exact Nat.mul_le_mul_right _ h1
  · rw [show n.log2 + d + 1 = n.log2 + 1 + d by omega, Nat.pow_add]; exact Nat.mul_lt_mul_of_pos_right h2 hd
def rg (c n : Nat) : Nat := if n = 0 then 0 else min ((n.log2 - 52 - c) * 4503599627370496 + rne n (n.log2 - 52)) 9218868437227405312
theorem nearest_rg (neg : Bool) (mag c d : Nat) (h : c = 0 ∨ c + 52 ≤ (mag * 2 ^ d).log2) :
    Ieee.double.nearest neg mag (-1074 - (c : Int) + (d : Int)) = Ieee.double.word neg (rg c (mag * 2 ^ d)) := by
  have e1 : Ieee.double.leastPlace = -1074 := by decide
  have e2 : Ieee.double.binade = 4503599627370496 := by decide
  have e3 : Ieee.double.infRung = 9218868437227405312 := by decide
  have e4 : Ieee.double.fractionBits = 52 := by decide
  have hd : 0 < 2 ^ d := p2pos d
  unfold Ieee.Format.nearest rg
  by_cases h0 : mag = 0
  · subst h0; simp
  · have hz : mag * 2 ^ d ≠ 0 := Nat.mul_ne_zero h0 (by omega)
    rw [if_neg h0, if_neg hz, e1, e2, e3, e4]
    have hl := log2_mul mag d h0
    obtain ⟨l, hle⟩ : ∃ l, l = mag.log2 := ⟨_, rfl⟩
    rw [← hle] at hl ⊢
    rw [hl] at h ⊢
    obtain ⟨L, hL⟩ : ∃ L, L = l + d - 52 := ⟨_, rfl⟩
    rw [← hL]
    have e5 : max (-1074 - (c : Int) + (d : Int) + (l : Int) - ((52 : Nat) : Int)) (-1074) = -1074 - (c : Int) + (L : Int) := by omega
    dsimp only
    rw [e5]
    have e6 : (-1074 - (c : Int) + (L : Int) - -1074).toNat = L - c := by omega
    rw [e6]
    have e7 : (-1074 - (c : Int) + (d : Int) - (-1074 - (c : Int) + (L : Int))).toNat = d - L := by omega
    have e8 : (-1074 - (c : Int) + (L : Int) - (-1074 - (c : Int) + (d : Int))).toNat = L - d := by omega
    rw [e7, e8, Nat.shiftLeft_eq]
    have e9 : Ieee.Toward.even.cut neg (mag * 2 ^ (d - L)) (L - d) = rne (mag * 2 ^ d) L := by
      rcases Nat.le_total L d with h1 | h1
      · rw [show L - d = 0 by omega, cut_eq _ _ _ (by omega), rne_zero]
        have h2 := rne_mul (mag * 2 ^ (d - L)) 0 L
        rw [Nat.zero_add, rne_zero, Nat.mul_assoc, ← Nat.pow_add, show d - L + L = d by omega] at h2
        exact h2.symm
      · rw [show d - L = 0 by omega, Nat.pow_zero, Nat.mul_one, cut_eq _ _ _ (by omega)]
        have h2 := rne_mul mag (L - d) d
        rw [show L - d + d = L by omega] at h2
        exact h2.symm
    rw [e9]

def ux (b : Nat) : Int := svS 9223372036854775808 4503599627370496 b
theorem ux_eq (b : Nat) : ux b = if 9223372036854775808 ≤ b then -(vs 4503599627370496 (b % 9223372036854775808) : Int) else (vs 4503599627370496 (b % 9223372036854775808) : Int) := svS_eq _ _ _
theorem vs_at (L k : Nat) (h : L = 0 ∨ 4503599627370496 ≤ k) (hk : k ≤ 9007199254740992) : vs 4503599627370496 (L * 4503599627370496 + k) = k * 2 ^ L := by
  unfold vs
  rcases Nat.lt_or_ge k 9007199254740992 with h1 | h1
  · have h2 : (L * 4503599627370496 + k) / 4503599627370496 - 1 = L := by omega
    rw [h2, show L * 4503599627370496 + k - L * 4503599627370496 = k by omega]
  · obtain rfl : k = 9007199254740992 := by omega
    have h2 : (L * 4503599627370496 + 9007199254740992) / 4503599627370496 - 1 = L + 1 := by omega
    rw [h2, p2succ, show L * 4503599627370496 + 9007199254740992 - (L + 1) * 4503599627370496 = 4503599627370496 by omega, ← Nat.mul_assoc]
theorem rg_rn (n : Nat) (h : rg 0 n < 9218868437227405312) : Rn 53 (n : Int) (vs 4503599627370496 (rg 0 n) : Int) := by
  unfold rg at h ⊢
  by_cases h0 : n = 0
  · subst h0
    rw [if_pos rfl]
    exact rn_mk (L := 0) (by omega) ⟨0, by simp [vs]⟩ (by simp [vs]) (by simp [vs]) (.inl rfl)
  · rw [if_neg h0] at h ⊢
    have hl : 2 ^ n.log2 ≤ n := Nat.log2_self_le h0
    have hu : n < 2 ^ (n.log2 + 1) := Nat.lt_log2_self
    rw [Nat.sub_zero] at h ⊢
    rw [Nat.min_eq_left (by omega)]
    obtain ⟨L, hL⟩ : ∃ L, L = n.log2 - 52 := ⟨_, rfl⟩
    rw [← hL]
    have hk : rne n L ≤ 9007199254740992 := by
      refine rne_le n L _ (Nat.le_of_lt (Nat.lt_of_lt_of_le hu ?_))
      rw [show 9007199254740992 = 2 ^ 53 by decide, ← Nat.pow_add]
      exact p2le (by omega)
    have hn : L = 0 ∨ 2 ^ (52 + L) ≤ n := by
      by_cases h1 : L = 0
      · exact .inl h1
      · exact .inr (Nat.le_trans (p2le (by omega)) hl)
    have hk2 : L = 0 ∨ 4503599627370496 ≤ rne n L := by
      rcases hn with h1 | h1
      · exact .inl h1
      · refine .inr (le_rne n L _ ?_)
        rw [show 4503599627370496 = 2 ^ 52 by decide, ← Nat.pow_add]; exact h1
    rw [vs_at L _ hk2 hk]
    refine rn_mk (L := L) (by omega) ⟨rne n L, by rw [Int.natCast_mul, Int.mul_comm]⟩ ?_ (rne_err n L) ?_
    · rw [Int.natAbs_natCast, Nat.pow_add]
      exact Nat.mul_le_mul_right _ hk
    · rw [Int.natAbs_natCast]; exact hn
theorem read_fin {b : Nat} (hb : b < 18446744073709551616) (hf : b % 9223372036854775808 < 9218868437227405312) :
    ∃ m q : Nat, Ieee.double.read b = .number (decide (9223372036854775808 ≤ b)) m (-1074 + (q : Int)) ∧ m * 2 ^ q = vs 4503599627370496 (b % 9223372036854775808) := by
  have e1 : Ieee.double.leastPlace = -1074 := by decide
  have e2 : Ieee.double.binade = 4503599627370496 := by decide
  have e3 : Ieee.double.infRung = 9218868437227405312 := by decide
  have e4 : Ieee.double.signWeight = 9223372036854775808 := by decide
  have hs : (b / 9223372036854775808 % 2 == 1) = decide (9223372036854775808 ≤ b) := by
    by_cases h : 9223372036854775808 ≤ b
    · rw [decide_eq_true h, beq_iff_eq]; omega
    · rw [decide_eq_false h, beq_eq_false_iff_ne]; omega
  unfold Ieee.Format.read
  rw [e1, e2, e3, e4]
  dsimp only
  rw [hs]
  generalize b % 9223372036854775808 = r at hf ⊢
  by_cases h1 : r < 4503599627370496
  · refine ⟨r, 0, by rw [if_pos h1]; rfl, ?_⟩
    unfold vs
    rw [show r / 4503599627370496 - 1 = 0 by omega]; simp
  · refine ⟨4503599627370496 + r % 4503599627370496, r / 4503599627370496 - 1, by rw [if_neg h1, if_pos hf], ?_⟩
    unfold vs
    congr 1
    omega
theorem signed_eq (neg : Bool) (m u : Nat) : Ieee.signed neg m u = if neg then -((m * 2 ^ u : Nat) : Int) else ((m * 2 ^ u : Nat) : Int) := by
  unfold Ieee.signed
  rw [Nat.shiftLeft_eq]
theorem ux_of {b m q : Nat} (h : m * 2 ^ q = vs 4503599627370496 (b % 9223372036854775808)) : ux b = Ieee.signed (decide (9223372036854775808 ≤ b)) m q := by
  rw [ux_eq, signed_eq, ← h]
  by_cases h1 : 9223372036854775808 ≤ b <;> simp [h1]
theorem signed_up (neg : Bool) (m u v : Nat) : Ieee.signed neg m u * ((2 ^ v : Nat) : Int) = Ieee.signed neg m (u + v) := by
  rw [signed_eq, signed_eq, Nat.pow_add, ← Nat.mul_assoc]
  cases neg <;> simp [Int.neg_mul]
theorem sum_fin (s t : Bool) (m n q r : Nat) (X : Int) (hX : X = Ieee.signed s m q + Ieee.signed t n r) :
    ((Ieee.Datum.number s m (-1074 + (q : Int))).sum (.number t n (-1074 + (r : Int)))).map Ieee.double.write = some (Ieee.double.word (if X = 0 then s && t else decide (X < 0)) (rg 0 X.natAbs)) := by
  obtain ⟨d, hd⟩ : ∃ d, d = min q r := ⟨_, rfl⟩
  have hb : min (-1074 + (q : Int)) (-1074 + (r : Int)) = -1074 + (d : Int) := by omega
  unfold Ieee.Datum.sum
  dsimp only
  rw [hb, show (-1074 + (q : Int) - (-1074 + (d : Int))).toNat = q - d by omega, show (-1074 + (r : Int) - (-1074 + (d : Int))).toNat = r - d by omega]
  have hT : (Ieee.signed s m (q - d) + Ieee.signed t n (r - d)) * ((2 ^ d : Nat) : Int) = X := by
    rw [Int.add_mul, signed_up, signed_up, hX, show q - d + d = q by omega, show r - d + d = r by omega]
  generalize Ieee.signed s m (q - d) + Ieee.signed t n (r - d) = T at hT ⊢
  have hp : (0 : Int) < ((2 ^ d : Nat) : Int) := Int.ofNat_lt.2 (p2pos d)
  have h0 : (T = 0) = (X = 0) := by
    rw [← hT, eq_iff_iff, Int.mul_eq_zero]
    exact ⟨fun h => .inl h, fun h => by rcases h with h | h; exact h; omega⟩
  have hn : decide (T < 0) = decide (X < 0) := by
    refine decide_eq_decide.2 ?_
    rw [← hT]
    constructor
    · intro h; exact Int.mul_neg_of_neg_of_pos h hp
    · intro h
      refine Int.lt_of_not_ge fun h1 => ?_
      have := Int.mul_nonneg h1 (Int.le_of_lt hp)
      omega
  have ha : T.natAbs * 2 ^ d = X.natAbs := by rw [← hT, Int.natAbs_mul, Int.natAbs_natCast]
  show some (Ieee.double.nearest _ T.natAbs (-1074 + (d : Int))) = _
  have := nearest_rg (if T = 0 then s && t else decide (T < 0)) T.natAbs 0 d (.inl rfl)
  rw [show (-1074 : Int) - ((0 : Nat) : Int) + (d : Int) = -1074 + (d : Int) by omega, ha] at this
  rw [this, hn]
  simp only [h0]

theorem word_facts (neg : Bool) {r : Nat} (_h : r < 9218868437227405312) : Ieee.double.word neg r < 18446744073709551616 ∧ Ieee.double.word neg r % 9223372036854775808 = r ∧ ux (Ieee.double.word neg r) = if neg then -(vs 4503599627370496 r : Int) else (vs 4503599627370496 r : Int) := by
  have e4 : Ieee.double.signWeight = 9223372036854775808 := by decide
  rw [ux_eq]
  unfold Ieee.Format.word
  rw [e4]
  cases neg
  · refine ⟨by simp; omega, by simp; omega, ?_⟩
    simp only [Bool.false_eq_true, if_false]
    rw [if_neg (by omega), Nat.mod_eq_of_lt (by omega)]
  · refine ⟨by simp; omega, by simp; omega, ?_⟩
    simp only [if_true]
    rw [if_pos (by omega), show (9223372036854775808 + r) % 9223372036854775808 = r by omega]
def MaxU : Nat := 9007199254740991 * 2 ^ 2045
theorem MaxU_eq {K : Nat} (h : K = 2045) : MaxU = 9007199254740991 * 2 ^ K := by subst h; rfl
theorem rg_fin {n : Nat} (h : n ≤ MaxU) : rg 0 n < 9218868437227405312 := by
  unfold rg
  by_cases h0 : n = 0
  · rw [if_pos h0]; omega
  · rw [if_neg h0, Nat.sub_zero]
    refine Nat.lt_of_le_of_lt (Nat.min_le_left ..) ?_
    have hl : 2 ^ n.log2 ≤ n := Nat.log2_self_le h0
    have hu : n < 2 ^ (n.log2 + 1) := Nat.lt_log2_self
    have h53 : (9007199254740992 : Nat) = 2 ^ 53 := by decide
    rcases Nat.lt_or_ge n.log2 2097 with h1 | h1
    · have hk : rne n (n.log2 - 52) ≤ 9007199254740992 := by
        refine rne_le n _ _ (Nat.le_of_lt (Nat.lt_of_lt_of_le hu ?_))
        rw [h53, ← Nat.pow_add]
        exact p2le (by omega)
      omega
    · obtain ⟨K, hK⟩ : ∃ K, K = 2045 := ⟨_, rfl⟩
      rw [MaxU_eq hK] at h
      have h2 : n.log2 < 53 + K := by
        refine p2lt (Nat.lt_of_le_of_lt hl (Nat.lt_of_le_of_lt h ?_))
        rw [Nat.pow_add, ← h53]
        exact Nat.mul_lt_mul_of_pos_right (by omega) (p2pos _)
      rw [show n.log2 - 52 = K by omega]
      have hk := rne_le n K 9007199254740991 h
      omega
structure Fin64 (b : Nat) : Prop where
  lt : b < 18446744073709551616
  fin : b % 9223372036854775808 < 9218868437227405312
theorem Fin64.fl {b : Nat} (_h : Fin64 b) : Fl 53 (ux b) := by
  have h1 : Fl 53 (vs 4503599627370496 (b % 9223372036854775808) : Int) := by
    unfold vs
    refine ⟨b % 9223372036854775808 / 4503599627370496 - 1, ⟨((b % 9223372036854775808 - (b % 9223372036854775808 / 4503599627370496 - 1) * 4503599627370496 : Nat) : Int), by rw [Int.natCast_mul, Int.mul_comm]⟩, ?_⟩
    rw [Int.natAbs_natCast, Nat.pow_add]
    refine Nat.mul_le_mul_right _ ?_
    rw [show 2 ^ 53 = 9007199254740992 by decide]
    omega
  rw [ux_eq]
  split
  · exact h1.neg
  · exact h1
structure Sm64 (X : Int) (r : Nat) : Prop where
  fin : Fin64 r
  size : r % 9223372036854775808 = rg 0 X.natAbs
  sign : X ≠ 0 → (9223372036854775808 ≤ r ↔ X < 0)
  rn : Rn 53 X (ux r)
theorem sm_word {X : Int} {neg : Bool} (h : X.natAbs ≤ MaxU) (hn : X ≠ 0 → neg = decide (X < 0)) : Sm64 X (Ieee.double.word neg (rg 0 X.natAbs)) := by
  have h1 := rg_fin h
  obtain ⟨a, b, c⟩ := word_facts neg h1
  refine ⟨⟨a, by rw [b]; exact h1⟩, b, fun h0 => ?_, ?_⟩
  · have e4 : Ieee.double.signWeight = 9223372036854775808 := by decide
    rw [hn h0]
    unfold Ieee.Format.word
    rw [e4]
    by_cases h2 : X < 0
    · simp [h2]
    · simp [h2]; omega
  · rw [c]
    have h2 := rg_rn X.natAbs h1
    by_cases h0 : X = 0
    · subst h0
      have : rg 0 (Int.natAbs 0) = 0 := rfl
      rw [this]
      have h3 : vs 4503599627370496 0 = 0 := by simp [vs]
      rw [h3]
      cases neg
      · exact ⟨Fl.zero _, fun z _ => by simp⟩
      · exact ⟨Fl.zero _, fun z _ => by simp⟩
    · rw [hn h0]
      by_cases h3 : X < 0
      · rw [decide_eq_true h3, if_pos rfl]
        have := h2.neg
        rw [show -((X.natAbs : Nat) : Int) = X by omega] at this
        exact this
      · rw [decide_eq_false h3]
        rw [show ((X.natAbs : Nat) : Int) = X by omega] at h2
        simpa using h2
theorem fl_add_fin {a b : Nat} (ha : Fin64 a) (hb : Fin64 b) (h : (ux a + ux b).natAbs ≤ MaxU) : ∃ r, floatBits .add .f64 a b = some r ∧ Sm64 (ux a + ux b) r := by
  obtain ⟨m, q, h1, h2⟩ := read_fin ha.lt ha.fin
  obtain ⟨n, t, h3, h4⟩ := read_fin hb.lt hb.fin
  have hX : ux a + ux b = Ieee.signed (decide (9223372036854775808 ≤ a)) m q + Ieee.signed (decide (9223372036854775808 ≤ b)) n t := by rw [ux_of h2, ux_of h4]
  refine ⟨_, ?_, sm_word h (neg := if ux a + ux b = 0 then decide (9223372036854775808 ≤ a) && decide (9223372036854775808 ≤ b) else decide (ux a + ux b < 0)) fun h0 => if_neg h0⟩
  show ((Ieee.double.read a).sum (Ieee.double.read b)).map Ieee.double.write = _
  rw [h1, h3]
  exact sum_fin _ _ _ _ _ _ _ hX
theorem fl_sub_fin {a b : Nat} (ha : Fin64 a) (hb : Fin64 b) (h : (ux a - ux b).natAbs ≤ MaxU) : ∃ r, floatBits .sub .f64 a b = some r ∧ Sm64 (ux a - ux b) r := by
  obtain ⟨m, q, h1, h2⟩ := read_fin ha.lt ha.fin
  obtain ⟨n, t, h3, h4⟩ := read_fin hb.lt hb.fin
  have hX : ux a - ux b = Ieee.signed (decide (9223372036854775808 ≤ a)) m q + Ieee.signed (!decide (9223372036854775808 ≤ b)) n t := by
    rw [ux_of h2, ux_of h4, signed_eq _ n, signed_eq _ n]
    cases decide (9223372036854775808 ≤ b) <;> simp <;> omega
  refine ⟨_, ?_, sm_word h (neg := if ux a - ux b = 0 then decide (9223372036854775808 ≤ a) && !decide (9223372036854775808 ≤ b) else decide (ux a - ux b < 0)) fun h0 => if_neg h0⟩
  show ((Ieee.double.read a).sum (Ieee.double.read b).opposite).map Ieee.double.write = _
  rw [h1, h3]
  exact sum_fin _ _ _ _ _ _ _ hX
abbrev Fv (b : Nat) : Value := .float .f64 b
def NanP (r : Nat) : Prop := 9218868437227405312 < r % 9223372036854775808
structure FlR (op : BinOp) (x y r : Nat) : Prop where
  lt : r < 18446744073709551616
  some : ∀ v, floatBits op .f64 x y = some v → r = v
  none : floatBits op .f64 x y = none → NanP r
theorem nan_cut (x y t : Nat) : (Question.nanBits .f64 x y).cut t < 18446744073709551616 ∧ NanP ((Question.nanBits .f64 x y).cut t) := by
  have h1 : (Question.nanBits .f64 x y).cut t = t % 2 * 2 ^ 63 + 9218868437227405312 + 1 + t / 2 % (2 ^ 52 - 1) := rfl
  have h2 : t / 2 % (2 ^ 52 - 1) < 2 ^ 52 - 1 := Nat.mod_lt _ (by decide)
  rw [h1]
  unfold NanP
  generalize t / 2 % (2 ^ 52 - 1) = u at h2 ⊢
  rw [show (2 : Nat) ^ 52 - 1 = 4503599627370495 by decide] at h2
  rw [show (2 : Nat) ^ 63 = 9223372036854775808 by decide]
  rcases Nat.mod_two_eq_zero_or_one t with h | h <;> rw [h] <;> omega
theorem fop {P : Program} (op : BinOp) (hop : op = .add ∨ op = .sub ∨ op = .mul ∨ op = .quo) (T : TypeId) (x y : Nat) (w : World) :
    ∃ r n, (binOp op T (Fv x) (Fv y)).run P w = .ok (Fv r) (w.drewN n) ∧ FlR op x y r := by
  cases h : floatBits op .f64 x y with
  | some v =>
    refine ⟨v, 0, run_float_arith w op T .f64 x y v h, ⟨?_, fun u hu => ?_, fun hu => ?_⟩⟩
    · have := floatBits_wf h
      simp [Lit.wf] at this
      exact this
    · rw [h] at hu; exact Option.some.inj hu
    · rw [h] at hu; cases hu
  | none =>
    refine ⟨(Question.nanBits .f64 x y).cut (w.tape w.drawn (.nanBits .f64 x y)), 1, ?_, ⟨?_, fun u hu => ?_, fun _ => ?_⟩⟩
    · rcases hop with rfl | rfl | rfl | rfl <;> (unfold floatBits at h; simp only at h; simp [binOp, Op.floatArith, h, Question.forced]; rfl)
    · exact (nan_cut ..).1
    · rw [h] at hu; cases hu
    · exact (nan_cut ..).2
def TSR (a b s r : Nat) : Prop := ∃ ob oa da db, FlR .add a b s ∧ FlR .sub s a ob ∧ FlR .sub s ob oa ∧ FlR .sub a oa da ∧ FlR .sub b ob db ∧ FlR .add da db r
def FSR (a b s r : Nat) : Prop := ∃ t, FlR .add a b s ∧ FlR .sub s a t ∧ FlR .sub b t r
theorem ordI (x y : Int) : compare x y = if x < y then .lt else if x = y then .eq else .gt := rfl
theorem ordI_mul (x y : Int) {k : Nat} (hk : 0 < k) : compare (x * (k : Int)) (y * (k : Int)) = compare x y := by
  have hk' : (0 : Int) < (k : Int) := by omega
  rw [ordI, ordI]
  have h1 : (x * (k : Int) < y * (k : Int)) ↔ x < y := ⟨fun h => Int.lt_of_mul_lt_mul_right h (Int.le_of_lt hk'), fun h => Int.mul_lt_mul_of_pos_right h hk'⟩
  have h2 : (x * (k : Int) = y * (k : Int)) ↔ x = y := ⟨fun h => Int.eq_of_mul_eq_mul_right (by omega) h, fun h => by rw [h]⟩
  simp only [h1, h2]
theorem order_fin {a b : Nat} (ha : Fin64 a) (hb : Fin64 b) : Ieee.double.order a b = some (compare (ux a) (ux b)) := by
  obtain ⟨m, q, h1, h2⟩ := read_fin ha.lt ha.fin
  obtain ⟨n, r, h3, h4⟩ := read_fin hb.lt hb.fin
  unfold Ieee.Format.order
  rw [h1, h3, ux_of h2, ux_of h4]
  unfold Ieee.Datum.order
  dsimp only
  obtain ⟨d, hd⟩ : ∃ d, d = min q r := ⟨_, rfl⟩
  have e1 : (-1074 + (q : Int) - min (-1074 + (q : Int)) (-1074 + (r : Int))).toNat = q - d := by omega
  have e2 : (-1074 + (r : Int) - min (-1074 + (q : Int)) (-1074 + (r : Int))).toNat = r - d := by omega
  rw [e1, e2, ← ordI_mul _ _ (p2pos d), signed_up, signed_up, show q - d + d = q by omega, show r - d + d = r by omega]
def InfP (r : Nat) : Prop := r % 9223372036854775808 = 9218868437227405312
theorem three64 (r : Nat) (h : r < 18446744073709551616) : Fin64 r ∨ InfP r ∨ NanP r := by
  unfold InfP NanP
  rcases Nat.lt_trichotomy (r % 9223372036854775808) 9218868437227405312 with h1 | h1 | h1
  · exact .inl ⟨h, h1⟩
  · exact .inr (.inl h1)
  · exact .inr (.inr h1)
theorem read_inf {b : Nat} (h : InfP b) : Ieee.double.read b = .infinity (b / 9223372036854775808 % 2 == 1) := by
  have e1 : Ieee.double.leastPlace = -1074 := by decide
  have e2 : Ieee.double.binade = 4503599627370496 := by decide
  have e3 : Ieee.double.infRung = 9218868437227405312 := by decide
  have e4 : Ieee.double.signWeight = 9223372036854775808 := by decide
  unfold InfP at h
  unfold Ieee.Format.read
  rw [e1, e2, e3, e4]
  dsimp only
  rw [h]
  simp
theorem read_nan {b : Nat} (h : NanP b) : ∃ s m, Ieee.double.read b = .nan s m := by
  have e2 : Ieee.double.binade = 4503599627370496 := by decide
  have e3 : Ieee.double.infRung = 9218868437227405312 := by decide
  have e4 : Ieee.double.signWeight = 9223372036854775808 := by decide
  unfold NanP at h
  unfold Ieee.Format.read
  rw [e2, e3, e4]
  dsimp only
  rw [if_neg (by omega), if_neg (by omega), if_neg (by omega)]
  exact ⟨_, _, rfl⟩
theorem order_nan {a b : Nat} (h : NanP a ∨ NanP b) : Ieee.double.order a b = none := by
  unfold Ieee.Format.order
  rcases h with h | h
  · obtain ⟨s, m, hr⟩ := read_nan h; rw [hr]; rfl
  · obtain ⟨s, m, hr⟩ := read_nan h; rw [hr]
    cases Ieee.double.read a <;> rfl
theorem order_inf {a b : Nat} (h : InfP a) (hb : Fin64 b) : Ieee.double.order a b = some .lt ∨ Ieee.double.order a b = some .gt := by
  unfold Ieee.Format.order
  obtain ⟨n, r, h3, h4⟩ := read_fin hb.lt hb.fin
  rw [read_inf h, h3]
  unfold Ieee.Datum.order
  cases (a / 9223372036854775808 % 2 == 1)
  · exact .inr rfl
  · exact .inl rfl
def rv (X : Int) : Int := if X < 0 then -(vs 4503599627370496 (rg 0 X.natAbs) : Int) else (vs 4503599627370496 (rg 0 X.natAbs) : Int)
theorem sm_word2 {X : Int} {neg : Bool} (h1 : rg 0 X.natAbs < 9218868437227405312) (hn : X ≠ 0 → neg = decide (X < 0)) : Fin64 (Ieee.double.word neg (rg 0 X.natAbs)) ∧ ux (Ieee.double.word neg (rg 0 X.natAbs)) = rv X ∧ Rn 53 X (rv X) := by
  obtain ⟨a, b, c⟩ := word_facts neg h1
  have hc : ux (Ieee.double.word neg (rg 0 X.natAbs)) = rv X := by
    rw [c]
    unfold rv
    by_cases h0 : X = 0
    · subst h0
      have h3 : vs 4503599627370496 (rg 0 (Int.natAbs 0)) = 0 := by rw [show rg 0 (Int.natAbs 0) = 0 from rfl]; simp [vs]
      rw [h3]; cases neg <;> simp
    · rw [hn h0]; by_cases h3 : X < 0 <;> simp [h3]
  refine ⟨⟨a, by rw [b]; exact h1⟩, hc, ?_⟩
  have h2 := rg_rn X.natAbs h1
  unfold rv
  by_cases h3 : X < 0
  · rw [if_pos h3]
    have := h2.neg
    rw [show -((X.natAbs : Nat) : Int) = X by omega] at this
    exact this
  · rw [if_neg h3]
    rw [show ((X.natAbs : Nat) : Int) = X by omega] at h2
    exact h2
theorem rg_top (n : Nat) : rg 0 n ≤ 9218868437227405312 := by
  unfold rg
  split
  · omega
  · exact Nat.min_le_right ..
theorem fl_add_any {a b : Nat} (ha : Fin64 a) (hb : Fin64 b) : ∃ r, floatBits .add .f64 a b = some r ∧ ((Fin64 r ∧ ux r = rv (ux a + ux b) ∧ Rn 53 (ux a + ux b) (ux r)) ∨ InfP r) ∧ (rg 0 (ux a + ux b).natAbs < 9218868437227405312 ↔ Fin64 r) := by
  obtain ⟨m, q, h1, h2⟩ := read_fin ha.lt ha.fin
  obtain ⟨n, t, h3, h4⟩ := read_fin hb.lt hb.fin
  have hX : ux a + ux b = Ieee.signed (decide (9223372036854775808 ≤ a)) m q + Ieee.signed (decide (9223372036854775808 ≤ b)) n t := by rw [ux_of h2, ux_of h4]
  refine ⟨Ieee.double.word (if ux a + ux b = 0 then decide (9223372036854775808 ≤ a) && decide (9223372036854775808 ≤ b) else decide (ux a + ux b < 0)) (rg 0 (ux a + ux b).natAbs), ?_, ?_⟩
  · show ((Ieee.double.read a).sum (Ieee.double.read b)).map Ieee.double.write = _
    rw [h1, h3]
    exact sum_fin _ _ _ _ _ _ _ hX
  · rcases Nat.lt_or_ge (rg 0 (ux a + ux b).natAbs) 9218868437227405312 with h | h
    · obtain ⟨f1, f2, f3⟩ := sm_word2 (neg := if ux a + ux b = 0 then decide (9223372036854775808 ≤ a) && decide (9223372036854775808 ≤ b) else decide (ux a + ux b < 0)) h fun h0 => if_neg h0
      exact ⟨.inl ⟨f1, f2, by rw [f2]; exact f3⟩, fun _ => f1, fun _ => h⟩
    · have h5 : rg 0 (ux a + ux b).natAbs = 9218868437227405312 := Nat.le_antisymm (rg_top _) h
      have e4 : Ieee.double.signWeight = 9223372036854775808 := by decide
      have h6 : InfP (Ieee.double.word (if ux a + ux b = 0 then decide (9223372036854775808 ≤ a) && decide (9223372036854775808 ≤ b) else decide (ux a + ux b < 0)) (rg 0 (ux a + ux b).natAbs)) := by
        rw [h5]
        unfold InfP Ieee.Format.word
        rw [e4]
        cases (if ux a + ux b = 0 then decide (9223372036854775808 ≤ a) && decide (9223372036854775808 ≤ b) else decide (ux a + ux b < 0)) <;> simp
      refine ⟨.inr h6, fun h7 => absurd h7 (by omega), fun h7 => ?_⟩
      have h8 := h7.fin
      unfold InfP at h6
      omega
theorem fl_add_not {a b : Nat} (ha : Fin64 a) (hb : ¬ Fin64 b) (hlt : b < 18446744073709551616) : floatBits .add .f64 a b = none ∨ ∃ r, floatBits .add .f64 a b = some r ∧ InfP r := by
  obtain ⟨m, q, h1, h2⟩ := read_fin ha.lt ha.fin
  rcases three64 b hlt with h | h | h
  · exact absurd h hb
  · refine .inr ?_
    have e : floatBits .add .f64 a b = ((Ieee.double.read a).sum (Ieee.double.read b)).map Ieee.double.write := rfl
    rw [e, h1, read_inf h]
    cases (b / 9223372036854775808 % 2 == 1)
    · exact ⟨_, rfl, by unfold InfP; decide⟩
    · exact ⟨_, rfl, by unfold InfP; decide⟩
  · refine .inl ?_
    have e : floatBits .add .f64 a b = ((Ieee.double.read a).sum (Ieee.double.read b)).map Ieee.double.write := rfl
    obtain ⟨s, k, hr⟩ := read_nan h
    rw [e, h1, hr]; rfl
structure DdF (h l : Nat) : Prop where
  hi : Fin64 h
  lo : Fin64 l
  fit : rg 0 (ux h + ux l).natAbs < 9218868437227405312
  eq : rv (ux h + ux l) = ux h
theorem DdF.rn {h l : Nat} (d : DdF h l) : Rn 53 (ux h + ux l) (ux h) := by
  have := (sm_word2 (neg := decide (ux h + ux l < 0)) d.fit fun _ => rfl).2.2
  rw [d.eq] at this
  exact this
theorem form_iff {h l r : Nat} (hh : Fin64 h) (hl : l < 18446744073709551616) (F : FlR .add h l r) : Ieee.double.order r h = some .eq ↔ DdF h l := by
  by_cases hf : Fin64 l
  · obtain ⟨r', e1, e2, e3⟩ := fl_add_any hh hf
    obtain rfl : r = r' := F.some _ e1
    rcases e2 with ⟨f1, f2, f3⟩ | h6
    · rw [order_fin f1 hh, f2, ordI]
      constructor
      · intro h7
        refine ⟨hh, hf, e3.2 f1, ?_⟩
        split at h7
        · cases h7
        · split at h7
          · assumption
          · cases h7
      · intro d
        rw [if_neg (by rw [d.eq]; omega), if_pos d.eq]
    · constructor
      · intro h7
        rcases order_inf h6 hh with h8 | h8 <;> rw [h8] at h7 <;> cases h7
      · intro d
        have h8 := (e3.1 d.fit).fin
        unfold InfP at h6
        omega
  · constructor
    · intro h7
      rcases fl_add_not hh hf hl with h8 | ⟨r', h8, h9⟩
      · rw [order_nan (.inl (F.none h8))] at h7; cases h7
      · obtain rfl : r = r' := F.some _ h8
        rcases order_inf h9 hh with h8 | h8 <;> rw [h8] at h7 <;> cases h7
    · intro d
      exact absurd d.lo hf
def flipS (b : Nat) : Nat := if 9223372036854775808 ≤ b then b - 9223372036854775808 else b + 9223372036854775808
theorem flip_ux {b : Nat} (hb : b < 18446744073709551616) : ux (flipS b) = -ux b ∧ flipS b < 18446744073709551616 ∧ flipS b % 9223372036854775808 = b % 9223372036854775808 := by
  rw [ux_eq, ux_eq]
  unfold flipS
  split
  · rename_i h
    rw [if_neg (by omega), show (b - 9223372036854775808) % 9223372036854775808 = b % 9223372036854775808 by omega]
    exact ⟨by omega, by omega, rfl⟩
  · rename_i h
    rw [if_pos (by omega), show (b + 9223372036854775808) % 9223372036854775808 = b % 9223372036854775808 by omega]
    exact ⟨by omega, by omega, rfl⟩
theorem rv_neg (X : Int) : rv (-X) = -rv X := by
  unfold rv
  rw [Int.natAbs_neg]
  rcases Int.lt_trichotomy X 0 with h | h | h
  · rw [if_neg (by omega), if_pos h]; omega
  · subst h
    have h3 : vs 4503599627370496 (rg 0 (Int.natAbs 0)) = 0 := by rw [show rg 0 (Int.natAbs 0) = 0 from rfl]; simp [vs]
    rw [h3]; simp
  · rw [if_pos (by omega), if_neg (by omega)]
theorem Fin64.flipS {b : Nat} (h : Fin64 b) : Fin64 (flipS b) := by
  obtain ⟨_, h2, h3⟩ := flip_ux h.lt
  exact ⟨h2, by rw [h3]; exact h.fin⟩
theorem DdF.neg {h l : Nat} (d : DdF h l) : DdF (flipS h) (flipS l) := by
  have h1 := (flip_ux d.hi.lt).1
  have h2 := (flip_ux d.lo.lt).1
  have h3 : ux (flipS h) + ux (flipS l) = -(ux h + ux l) := by rw [h1, h2]; omega
  refine ⟨d.hi.flipS, d.lo.flipS, ?_, ?_⟩
  · rw [h3, Int.natAbs_neg]; exact d.fit
  · rw [h3, rv_neg, d.eq, h1]
theorem frombits (a : Nat) (w : World) : (callFunc 12 #[U a]).run Tryd.prog w = .ok (.value (Fv a)) w := by
  rw [run_callFunc_extern Tryd.func12 (by kernel_rfl) (by kernel_rfl) (by kernel_rfl) (e := Extern.MathFloatBits.float64frombits) (by kernel_rfl)]
  rfl
theorem bitsOf (a : Nat) (w : World) : (callFunc 53 #[Fv a]).run Tryd.prog w = .ok (.value (U a)) w := by
  rw [run_callFunc_extern Tryd.func53 (by kernel_rfl) (by kernel_rfl) (by kernel_rfl) (e := Extern.MathFloatBits.float64bits) (by kernel_rfl)]
  rfl
theorem vs_max {r : Nat} (h : r < 9218868437227405312) : vs 4503599627370496 r ≤ MaxU := by
  obtain ⟨K, hK⟩ : ∃ K, K = 2045 := ⟨_, rfl⟩
  rw [MaxU_eq hK]
  unfold vs
  refine Nat.mul_le_mul (by omega) (p2le (by omega))
theorem ux_pos {r : Nat} (h : r < 9223372036854775808) : ux r = (vs 4503599627370496 r : Int) := by
  rw [ux_eq, if_neg (by omega), Nat.mod_eq_of_lt h]
theorem ux_max : ux 9218868437227405311 = (MaxU : Int) := by
  rw [ux_pos (by decide)]
  have h : vs 4503599627370496 9218868437227405311 = MaxU := by decide +kernel
  rw [h]
theorem order_max {r : Nat} (h : r < 9218868437227405312) : FloatKind.f64.format.order r 9218868437227405311 = some .lt ∨ FloatKind.f64.format.order r 9218868437227405311 = some .eq := by
  have e : FloatKind.f64.format.order r 9218868437227405311 = Ieee.double.order r 9218868437227405311 := rfl
  rw [e, order_fin ⟨by omega, by omega⟩ ⟨by decide, by decide⟩, ux_max, ux_pos (by omega), ordI]
  have := vs_max h
  rcases Nat.lt_or_eq_of_le this with h1 | h1
  · rw [if_pos (by omega)]; exact .inl rfl
  · rw [if_neg (by omega), if_pos (by omega)]; exact .inr rfl
theorem order_inf_max : FloatKind.f64.format.order 9218868437227405312 9218868437227405311 = some .gt := by decide +kernel
theorem mabs (x : Nat) (hx : x < 18446744073709551616) (w : World) : Calls Tryd.prog 51 #[Fv x] w fun en w' => en = .returned (Fv (x % 9223372036854775808)) ∧ w' = w := by
  have bo1 : ∀ w, (callFunc 53 #[Fv x]).run Tryd.prog w = .ok (.value (.int .u64 (x : Int))) w := fun w => bitsOf x w
  have br3 : bits BinOp.andNot IntKind.u64 (x : Int) 9223372036854775808 = ((x % 9223372036854775808 : Nat) : Int) := sign_andNot x 9223372036854775808 63 (by decide) (by omega) (by omega)
  generalize x % 9223372036854775808 = y at br3 ⊢
  have fb2 : ∀ w, (callFunc 12 #[.int .u64 (y : Int)]).run Tryd.prog w = .ok (.value (Fv y)) w := fun w => frombits _ w
  go_enter Tryd.func51, Tryd.ntmps51
  go_wp2_with fail
  go_ret
  exact ⟨rfl, rfl⟩
theorem isinf (x : Nat) (hx : x < 18446744073709551616) (w : World) : Calls Tryd.prog 75 #[Fv x, .int .i64 0] w fun en w' => en = .returned (.bool (decide (x % 9223372036854775808 = 9218868437227405312))) ∧ w' = w := by
  have HX := mabs x hx
  generalize hy : x % 9223372036854775808 = y at HX ⊢
  have hc : ∃ o, FloatKind.f64.format.order y 9218868437227405311 = o ∧ (o == some .gt) = decide (y = 9218868437227405312) := by
    rcases Nat.lt_trichotomy y 9218868437227405312 with h | h | h
    · have : decide (y = 9218868437227405312) = false := decide_eq_false (by omega)
      rcases order_max h with h1 | h1
      · exact ⟨_, h1, by rw [this]; rfl⟩
      · exact ⟨_, h1, by rw [this]; rfl⟩
    · subst h; exact ⟨_, order_inf_max, by simp⟩
    · have : decide (y = 9218868437227405312) = false := decide_eq_false (by omega)
      exact ⟨none, order_nan (.inl (by unfold NanP; omega)), by rw [this]; rfl⟩
  obtain ⟨o, ho, hb⟩ := hc
  rw [← hb]
  clear hb hy hx
  go_enter Tryd.func75, Tryd.ntmps75
  go_wp2_with fail
  refine (HX _).mono ?_
  rintro e v9 ⟨rfl, hw⟩
  obtain rfl := hw.symm
  clear hw
  rcases o with _ | _ | _ | _
  all_goals
    go_wp2_with fail
    go_ret
    exact ⟨by kernel_rfl, rfl⟩
theorem isnan (x : Nat) (hx : x < 18446744073709551616) (w : World) : Calls Tryd.prog 76 #[Fv x] w fun en w' => en = .returned (.bool (decide (9218868437227405312 < x % 9223372036854775808))) ∧ w' = w := by
  have hc : ∃ o, FloatKind.f64.format.order x x = o ∧ (o != some .eq) = decide (9218868437227405312 < x % 9223372036854775808) := by
    rcases three64 x hx with h | h | h
    · refine ⟨_, order_fin h h, ?_⟩
      rw [ordI, if_neg (by omega), if_pos rfl, decide_eq_false (by have := h.fin; omega)]; rfl
    · refine ⟨some .eq, ?_, ?_⟩
      · show Ieee.double.order x x = _
        unfold Ieee.Format.order
        rw [read_inf h]
        unfold Ieee.Datum.order
        cases (x / 9223372036854775808 % 2 == 1) <;> rfl
      · unfold InfP at h
        rw [decide_eq_false (by omega)]; rfl
    · refine ⟨none, order_nan (.inl h), ?_⟩
      unfold NanP at h
      rw [decide_eq_true h]; rfl
  obtain ⟨o, ho, hb⟩ := hc
  rw [← hb]
  clear hb hx
  go_enter Tryd.func76, Tryd.ntmps76
  rcases o with _ | _ | _ | _
  all_goals
    go_wp2_with fail
    go_ret
    exact ⟨by kernel_rfl, rfl⟩
def finB (x : Nat) : Bool := decide (x % 9223372036854775808 < 9218868437227405312)
theorem ddfinite (x : Nat) (hx : x < 18446744073709551616) (w : World) : Calls Tryd.prog 54 #[Fv x] w fun en w' => en = .returned (.bool (finB x)) ∧ w' = w := by
  have H1 := isinf x hx
  have H2 := isnan x hx
  unfold finB
  generalize x % 9223372036854775808 = y at H1 H2 ⊢
  rcases Nat.lt_trichotomy y 9218868437227405312 with h | h | h
  · rw [decide_eq_true h]
    rw [decide_eq_false (show ¬ y = 9218868437227405312 by omega)] at H1
    rw [decide_eq_false (show ¬ 9218868437227405312 < y by omega)] at H2
    clear h hx
    go_enter Tryd.func54, Tryd.ntmps54
    go_wp2_with fail
    refine (H1 _).mono ?_
    rintro e v9 ⟨rfl, hw⟩
    obtain rfl := hw.symm
    clear hw
    go_wp2_with fail
    refine (H2 _).mono ?_
    rintro e v9 ⟨rfl, hw⟩
    obtain rfl := hw.symm
    clear hw
    go_wp2_with fail
    go_ret
    exact ⟨rfl, rfl⟩
  · rw [decide_eq_false (show ¬ y < 9218868437227405312 by omega)]
    rw [decide_eq_true h] at H1
    clear h hx H2
    go_enter Tryd.func54, Tryd.ntmps54
    go_wp2_with fail
    refine (H1 _).mono ?_
    rintro e v9 ⟨rfl, hw⟩
    obtain rfl := hw.symm
    clear hw
    go_wp2_with fail
    go_ret
    exact ⟨rfl, rfl⟩
  · rw [decide_eq_false (show ¬ y < 9218868437227405312 by omega)]
    rw [decide_eq_false (show ¬ y = 9218868437227405312 by omega)] at H1
    rw [decide_eq_true h] at H2
    clear h hx
    go_enter Tryd.func54, Tryd.ntmps54
    go_wp2_with fail
    refine (H1 _).mono ?_
    rintro e v9 ⟨rfl, hw⟩
    obtain rfl := hw.symm
    clear hw
    go_wp2_with fail
    refine (H2 _).mono ?_
    rintro e v9 ⟨rfl, hw⟩
    obtain rfl := hw.symm
    clear hw
    go_wp2_with fail
    go_ret
    exact ⟨rfl, rfl⟩
theorem finB_iff {x : Nat} (hx : x < 18446744073709551616) : finB x = true ↔ Fin64 x := by
  unfold finB
  rw [decide_eq_true_iff]
  exact ⟨fun h => ⟨hx, h⟩, fun h => h.fin⟩
def ddB (h l : Nat) : Bool := decide (h < 18446744073709551616) && decide (l < 18446744073709551616) && finB h && finB l && decide (rg 0 (ux h + ux l).natAbs < 9218868437227405312) && decide (rv (ux h + ux l) = ux h)
theorem ddB_iff {h l : Nat} : ddB h l = true ↔ DdF h l := by
  unfold ddB finB
  simp only [Bool.and_eq_true, decide_eq_true_iff]
  exact ⟨fun ⟨⟨⟨⟨⟨h1, h2⟩, h3⟩, h4⟩, h5⟩, h6⟩ => ⟨⟨h1, h3⟩, ⟨h2, h4⟩, h5, h6⟩, fun d => ⟨⟨⟨⟨⟨d.hi.lt, d.lo.lt⟩, d.hi.fin⟩, d.lo.fin⟩, d.fit⟩, d.eq⟩⟩
theorem ddB_not {h l : Nat} (hf : finB h = false) : ddB h l = false := by
  cases hb : ddB h l with
  | false => rfl
  | true =>
    have d := ddB_iff.1 hb
    have := (finB_iff d.hi.lt).2 d.hi
    rw [hf] at this
    cases this
theorem belowDn {B : Nat} {a w : World} (h : Below B a w) (n : Nat) : Below B a (w.drewN n) := ⟨h.os, h.tape, h.output, h.size, h.block⟩
theorem ddform (h l : Nat) (hh : h < 18446744073709551616) (hl : l < 18446744073709551616) (w : World) : Calls Tryd.prog 25 #[.agg #[Fv h, Fv l]] w fun en w' => en = .returned (.bool (ddB h l)) ∧ Below w.heap.size w w' := by
  have hSF : ∀ (w : World) (a : Addr) (b : Nat), (store a (Fv b)).run Tryd.prog w = stored Tryd.prog w a (Fv b) .plain := fun w a b => run_store _ w a (Fv b) _ rfl
  have H1 := ddfinite h hh
  cases hfb : finB h with
  | false =>
    rw [ddB_not hfb]
    rw [hfb] at H1
    clear hfb
    go_enter Tryd.func25, Tryd.ntmps25
    go_wp2_with fail
    refine (H1 _).mono ?_
    rintro e v9 ⟨rfl, hw⟩
    obtain rfl := hw.symm
    clear hw
    go_wp2_with fail
    go_ret
    exact ⟨rfl, bwAlloc w _⟩
  | true =>
    rw [hfb] at H1
    have hF := (finB_iff hh).1 hfb
    obtain ⟨r, n, hr, F⟩ := fop (P := Tryd.prog) .add (.inl rfl) 40 h l (w.alloc (Obj.cells #[Fv h, Fv l] 43))
    have hfm := form_iff hF hl F
    obtain ⟨o, ho⟩ : ∃ o, FloatKind.f64.format.order r h = o := ⟨_, rfl⟩
    have hb : ddB h l = (o == some .eq) := by
      rw [Bool.eq_iff_iff, ddB_iff, ← hfm, beq_iff_eq, ← ho]; rfl
    rw [hb]
    clear hb hfm F hF hfb hh hl
    go_enter Tryd.func25, Tryd.ntmps25
    go_wp2_with fail
    refine (H1 _).mono ?_
    rintro e v9 ⟨rfl, hw⟩
    obtain rfl := hw.symm
    clear hw
    rcases o with _ | _ | _ | _
    all_goals
      go_wp2_with fail
      go_ret
      exact ⟨by kernel_rfl, belowDn (bwAlloc w _) n⟩
theorem FlR.add {x y r : Nat} (h : FlR .add x y r) (hx : Fin64 x) (hy : Fin64 y) (hm : (ux x + ux y).natAbs ≤ MaxU) : Sm64 (ux x + ux y) r := by
  obtain ⟨v, h1, h2⟩ := fl_add_fin hx hy hm
  rw [h.some v h1]; exact h2
theorem FlR.sub {x y r : Nat} (h : FlR .sub x y r) (hx : Fin64 x) (hy : Fin64 y) (hm : (ux x - ux y).natAbs ≤ MaxU) : Sm64 (ux x - ux y) r := by
  obtain ⟨v, h1, h2⟩ := fl_sub_fin hx hy hm
  rw [h.some v h1]; exact h2
theorem ux_abs (b : Nat) : (ux b).natAbs = vs 4503599627370496 (b % 9223372036854775808) := by
  rw [ux_eq]; split <;> omega
theorem vs_le4 {s t : Nat} (h : s ≤ t) : vs 4503599627370496 s ≤ vs 4503599627370496 t := by
  rcases Nat.lt_or_eq_of_le h with h1 | h1
  · exact Nat.le_of_lt (vs_mono (by omega) h1)
  · rw [h1]; exact Nat.le_refl _
theorem ux_pow {b K : Nat} (h : b % 9223372036854775808 ≤ (K + 1) * 4503599627370496) : (ux b).natAbs ≤ 2 ^ (52 + K) := by
  rw [ux_abs]
  refine Nat.le_trans (vs_le4 h) (Nat.le_of_eq ?_)
  have := vs_at K 4503599627370496 (.inr (Nat.le_refl _)) (by omega)
  rw [show (K + 1) * 4503599627370496 = K * 4503599627370496 + 4503599627370496 by omega, this, Nat.pow_add, show (2 : Nat) ^ 52 = 4503599627370496 by decide]
theorem Rn.bound {p : Nat} {x s : Int} {K : Nat} (h : Rn p x s) (hx : x.natAbs ≤ 2 ^ K) : s.natAbs ≤ 2 ^ K := by
  have h1 := h.hi (Fl.pow p K) (by omega)
  have h2 := h.neg.hi (Fl.pow p K) (by omega)
  omega
theorem Rn.near1 {x s : Int} {M : Nat} (h : Rn 53 x s) (hs : s.natAbs ≤ 4 * M) : (x - s).natAbs ≤ M := by
  have h1 := h.little (by omega)
  rw [show (2 : Nat) ^ 53 = 9007199254740992 by decide] at h1
  omega
theorem max_big {K M : Nat} (hK : K = 2044) (h : M = 2 ^ (52 + K)) : 3 * M ≤ MaxU ∧ 2 ^ (53 + K) = 2 * M := by
  have h1 : 2 ^ (52 + K) = 2251799813685248 * 2 ^ (K + 1) := by
    rw [show (2251799813685248 : Nat) = 2 ^ 51 by decide, ← Nat.pow_add]
    congr 1
    omega
  have h2 : 2 ^ (53 + K) = 2 * 2 ^ (52 + K) := by rw [show 53 + K = 52 + K + 1 by omega, p2succ]
  refine ⟨?_, by rw [h2, h]⟩
  rw [MaxU_eq (show K + 1 = 2045 by omega), h, h1]
  generalize 2 ^ (K + 1) = z
  omega
theorem pow1022 {a K : Nat} (hK : K = 2044) (h : a % 9223372036854775808 ≤ 9209861237972664320) : (ux a).natAbs ≤ 2 ^ (52 + K) := ux_pow (by omega)
theorem TSR.ok {a b s r : Nat} (h : TSR a b s r) (ha : a < 18446744073709551616) (hb : b < 18446744073709551616) (ka : a % 9223372036854775808 ≤ 9209861237972664320) (kb : b % 9223372036854775808 ≤ 9209861237972664320) :
    Sm64 (ux a + ux b) s ∧ Fin64 r ∧ ux s + ux r = ux a + ux b := by
  obtain ⟨ob, oa, da, db, F1, F2, F3, F4, F5, F6⟩ := h
  have fa : Fin64 a := ⟨ha, by omega⟩
  have fb : Fin64 b := ⟨hb, by omega⟩
  obtain ⟨K, hK⟩ : ∃ K, K = 2044 := ⟨_, rfl⟩
  have ma := pow1022 hK ka
  have mb := pow1022 hK kb
  obtain ⟨M, hM⟩ : ∃ M, M = 2 ^ (52 + K) := ⟨_, rfl⟩
  obtain ⟨m3, m2⟩ := max_big hK hM
  rw [← hM] at ma mb
  have S1 := F1.add fa fb (by omega)
  have bs := S1.rn.bound (K := 53 + K) (by rw [m2]; omega)
  rw [m2] at bs
  have e1 := S1.rn.near1 (M := M) (by omega)
  have S2 := F2.sub S1.fin fa (by omega)
  have bb := S2.rn.bound (K := 53 + K) (by rw [m2]; omega)
  rw [m2] at bb
  have e2 := S2.rn.near1 (M := M) (by omega)
  have S3 := F3.sub S1.fin S2.fin (by omega)
  have ba := S3.rn.bound (K := 53 + K) (by rw [m2]; omega)
  rw [m2] at ba
  have S4 := F4.sub fa S3.fin (by omega)
  have S5 := F5.sub fb S2.fin (by omega)
  have hd := two_sum_a (by omega) fa.fl fb.fl S1.rn S2.rn S3.rn S4.rn S5.rn
  have S6 := F6.add S4.fin S5.fin (by omega)
  exact ⟨S1, S6.fin, two_sum (by omega) fa.fl fb.fl S1.rn S2.rn S3.rn S4.rn S5.rn S6.rn⟩
theorem FSR.ok {a b s r : Nat} (h : FSR a b s r) (ha : a < 18446744073709551616) (hb : b < 18446744073709551616) (ka : a % 9223372036854775808 ≤ 9209861237972664320) (kb : b % 9223372036854775808 ≤ 9209861237972664320) (hab : a % 9223372036854775808 = 0 ∨ b % 9223372036854775808 ≤ a % 9223372036854775808) :
    Sm64 (ux a + ux b) s ∧ Fin64 r ∧ ux s + ux r = ux a + ux b := by
  obtain ⟨t, F1, F2, F3⟩ := h
  have fa : Fin64 a := ⟨ha, by omega⟩
  have fb : Fin64 b := ⟨hb, by omega⟩
  obtain ⟨K, hK⟩ : ∃ K, K = 2044 := ⟨_, rfl⟩
  have ma := pow1022 hK ka
  have mb := pow1022 hK kb
  have hab : ux a = 0 ∨ (ux b).natAbs ≤ (ux a).natAbs := by
    rcases hab with h | h
    · refine .inl ?_
      have := ux_abs a
      rw [h, vs_zero] at this
      omega
    · refine .inr ?_
      rw [ux_abs, ux_abs]; exact vs_le4 h
  obtain ⟨M, hM⟩ : ∃ M, M = 2 ^ (52 + K) := ⟨_, rfl⟩
  obtain ⟨m3, m2⟩ := max_big hK hM
  rw [← hM] at ma mb
  have S1 := F1.add fa fb (by omega)
  have bs := S1.rn.bound (K := 53 + K) (by rw [m2]; omega)
  rw [m2] at bs
  have e1 := S1.rn.near1 (M := M) (by omega)
  have S2 := F2.sub S1.fin fa (by omega)
  have bb := S2.rn.bound (K := 53 + K) (by rw [m2]; omega)
  rw [m2] at bb
  have S3 := F3.sub fb S2.fin (by omega)
  exact ⟨S1, S3.fin, fast_sum (by omega) fa.fl fb.fl hab S1.rn S2.rn S3.rn⟩
theorem cut_all (neg : Bool) (n L : Nat) : Ieee.Toward.even.cut neg n L = rne n L := by
  rcases Nat.lt_or_ge (n.log2 + 2) L with h | h
  · have hu : n < 2 ^ (n.log2 + 1) := Nat.lt_log2_self
    have h1 : 2 ^ (n.log2 + 2) = 2 * 2 ^ (n.log2 + 1) := p2succ _
    have h2 : 2 ^ (n.log2 + 2) ≤ 2 ^ L := p2le (by omega)
    unfold Ieee.Toward.cut rne
    rw [Nat.min_eq_right (by omega), Nat.one_shiftLeft]
    dsimp only
    rw [Nat.div_eq_of_lt (show n < 2 ^ (n.log2 + 2) by omega), Nat.div_eq_of_lt (show n < 2 ^ L by omega), Nat.mod_eq_of_lt (show n < 2 ^ (n.log2 + 2) by omega), Nat.mod_eq_of_lt (show n < 2 ^ L by omega)]
    rw [decide_eq_false (show ¬ 2 ^ (n.log2 + 2) < 2 * n by omega), decide_eq_false (show ¬ 2 ^ L < 2 * n by omega), show (2 ^ (n.log2 + 2) == 2 * n) = false by simp; omega, show (2 ^ L == 2 * n) = false by simp; omega]
  · exact cut_eq neg n L h
def rgc (c n : Nat) : Nat := if n = 0 then 0 else min ((max (n.log2 - 52) c - c) * 4503599627370496 + rne n (max (n.log2 - 52) c)) 9218868437227405312
theorem nearest_rgc (neg : Bool) (mag c d : Nat) : Ieee.double.nearest neg mag (-1074 - (c : Int) + (d : Int)) = Ieee.double.word neg (rgc c (mag * 2 ^ d)) := by
  have e1 : Ieee.double.leastPlace = -1074 := by decide
  have e2 : Ieee.double.binade = 4503599627370496 := by decide
  have e3 : Ieee.double.infRung = 9218868437227405312 := by decide
  have e4 : Ieee.double.fractionBits = 52 := by decide
  have hd : 0 < 2 ^ d := p2pos d
  unfold Ieee.Format.nearest rgc
  by_cases h0 : mag = 0
  · subst h0; simp
  · have hz : mag * 2 ^ d ≠ 0 := Nat.mul_ne_zero h0 (by omega)
    rw [if_neg h0, if_neg hz, e1, e2, e3, e4]
    have hl := log2_mul mag d h0
    obtain ⟨l, hle⟩ : ∃ l, l = mag.log2 := ⟨_, rfl⟩
    rw [← hle] at hl ⊢
    rw [hl]
    obtain ⟨L, hL⟩ : ∃ L, L = max (l + d - 52) c := ⟨_, rfl⟩
    rw [← hL]
    have e5 : max (-1074 - (c : Int) + (d : Int) + (l : Int) - ((52 : Nat) : Int)) (-1074) = -1074 - (c : Int) + (L : Int) := by omega
    dsimp only
    rw [e5]
    have e6 : (-1074 - (c : Int) + (L : Int) - -1074).toNat = L - c := by omega
    rw [e6]
    have e7 : (-1074 - (c : Int) + (d : Int) - (-1074 - (c : Int) + (L : Int))).toNat = d - L := by omega
    have e8 : (-1074 - (c : Int) + (L : Int) - (-1074 - (c : Int) + (d : Int))).toNat = L - d := by omega
    rw [e7, e8, Nat.shiftLeft_eq, cut_all]
    have e9 : rne (mag * 2 ^ (d - L)) (L - d) = rne (mag * 2 ^ d) L := by
      rcases Nat.le_total L d with h1 | h1
      · rw [show L - d = 0 by omega, rne_zero]
        have h2 := rne_mul (mag * 2 ^ (d - L)) 0 L
        rw [Nat.zero_add, rne_zero, Nat.mul_assoc, ← Nat.pow_add, show d - L + L = d by omega] at h2
        exact h2.symm
      · rw [show d - L = 0 by omega, Nat.pow_zero, Nat.mul_one]
        have h2 := rne_mul mag (L - d) d
        rw [show L - d + d = L by omega] at h2
        exact h2.symm
    rw [e9]
theorem rgc_int (c n : Nat) : rgc c (n * 2 ^ c) = rg 0 n := by
  have hd : 0 < 2 ^ c := p2pos c
  unfold rgc rg
  by_cases h0 : n = 0
  · subst h0; simp
  · have hz : n * 2 ^ c ≠ 0 := Nat.mul_ne_zero h0 (by omega)
    rw [if_neg h0, if_neg hz, log2_mul n c h0, show max (n.log2 + c - 52) c = n.log2 - 52 + c by omega, rne_mul, Nat.add_sub_cancel, Nat.sub_zero]
theorem fmul_any {a b : Nat} (ha : Fin64 a) (hb : Fin64 b) : floatBits .mul .f64 a b = some (Ieee.double.word (decide (9223372036854775808 ≤ a) ^^ decide (9223372036854775808 ≤ b)) (rgc 1074 ((ux a).natAbs * (ux b).natAbs))) := by
  obtain ⟨m, q, h1, h2⟩ := read_fin ha.lt ha.fin
  obtain ⟨n, t, h3, h4⟩ := read_fin hb.lt hb.fin
  rw [ux_abs, ux_abs, ← h2, ← h4]
  show ((Ieee.double.read a).product (Ieee.double.read b)).map Ieee.double.write = _
  rw [h1, h3]
  show some (Ieee.double.nearest _ (m * n) (-1074 + (q : Int) + (-1074 + (t : Int)))) = _
  have := nearest_rgc (decide (9223372036854775808 ≤ a) ^^ decide (9223372036854775808 ≤ b)) (m * n) 1074 (q + t)
  rw [show (-1074 : Int) - ((1074 : Nat) : Int) + ((q + t : Nat) : Int) = -1074 + (q : Int) + (-1074 + (t : Int)) by omega] at this
  rw [this, show m * n * 2 ^ (q + t) = m * 2 ^ q * (n * 2 ^ t) by rw [Nat.pow_add, ← Nat.mul_assoc, ← Nat.mul_assoc, Nat.mul_assoc m n, Nat.mul_comm n, ← Nat.mul_assoc]]
theorem ux_neg {b : Nat} (h : ux b ≠ 0) : decide (9223372036854775808 ≤ b) = decide (ux b < 0) := by
  refine decide_eq_decide.2 ?_
  have := ux_eq b
  by_cases h1 : 9223372036854775808 ≤ b
  · rw [if_pos h1] at this; omega
  · rw [if_neg h1] at this; omega
theorem mul_sign {a b : Nat} (h : ux a * ux b ≠ 0) : (decide (9223372036854775808 ≤ a) ^^ decide (9223372036854775808 ≤ b)) = decide (ux a * ux b < 0) := by
  have ha : ux a ≠ 0 := fun k => h (by rw [k, Int.zero_mul])
  have hb : ux b ≠ 0 := fun k => h (by rw [k, Int.mul_zero])
  rw [ux_neg ha, ux_neg hb]
  generalize ux a = x at *
  generalize ux b = y at *
  rcases Int.lt_or_gt_of_ne ha with h1 | h1 <;> rcases Int.lt_or_gt_of_ne hb with h2 | h2
  · have := Int.mul_pos_of_neg_of_neg h1 h2
    simp [h1, h2]; omega
  · have := Int.mul_neg_of_neg_of_pos h1 h2
    simp [h1, Int.not_lt.2 (Int.le_of_lt h2), this]
  · have := Int.mul_neg_of_pos_of_neg h1 h2
    simp [h2, Int.not_lt.2 (Int.le_of_lt h1), this]
  · have := Int.mul_pos h1 h2
    simp [Int.not_lt.2 (Int.le_of_lt h1), Int.not_lt.2 (Int.le_of_lt h2)]; omega
theorem FlR.mul {x y r : Nat} (h : FlR .mul x y r) (hx : Fin64 x) (hy : Fin64 y) {X : Int} {c : Nat} (hc : c = 1074) (hX : ux x * ux y = X * ((2 ^ c : Nat) : Int)) (hm : X.natAbs ≤ MaxU) : Sm64 X r := by
  have h1 := fmul_any hx hy
  rw [← Int.natAbs_mul, hX, Int.natAbs_mul, Int.natAbs_natCast, ← hc, rgc_int] at h1
  rw [h.some _ h1]
  refine sm_word hm fun h0 => ?_
  have hp : (0 : Int) < ((2 ^ c : Nat) : Int) := Int.ofNat_lt.2 (p2pos c)
  have h2 : ux x * ux y ≠ 0 := by rw [hX]; exact Int.mul_ne_zero h0 (by omega)
  rw [mul_sign h2, hX]
  refine decide_eq_decide.2 ⟨fun h3 => ?_, fun h3 => Int.mul_neg_of_neg_of_pos h3 hp⟩
  refine Int.lt_of_not_ge fun h4 => ?_
  have := Int.mul_nonneg h4 (Int.le_of_lt hp)
  omega
theorem rv_rn {X : Int} (h : X.natAbs ≤ MaxU) : Rn 53 X (rv X) := (sm_word2 (neg := decide (X < 0)) (rg_fin h) fun _ => rfl).2.2
theorem sm_rv {X : Int} {r : Nat} (h : Sm64 X r) : ux r = rv X := by
  have h1 := h.size
  have h2 := h.sign
  rw [ux_eq, h1]
  unfold rv
  by_cases h0 : X = 0
  · subst h0
    have h3 : vs 4503599627370496 (rg 0 (Int.natAbs 0)) = 0 := by rw [show rg 0 (Int.natAbs 0) = 0 from rfl]; simp [vs]
    rw [h3]; simp
  · by_cases h3 : X < 0
    · rw [if_pos h3, if_pos ((h2 h0).2 h3)]
    · rw [if_neg h3, if_neg fun h4 => h3 ((h2 h0).1 h4)]
theorem max_k {K : Nat} (hK : K = 1974) : 8 * 2 ^ K ≤ MaxU := by
  rw [MaxU_eq (K := K + 71) (by omega), Nat.pow_add, show 2 ^ 71 = 2361183241434822606848 by decide]
  have := p2pos K
  omega
theorem sz_q {s : Nat} (h1 : 553942754166571008 ≤ s) : ∃ q h, 122 ≤ q ∧ q = s / 4503599627370496 - 1 ∧ 4503599627370496 ≤ h ∧ h < 9007199254740992 ∧ vs 4503599627370496 s = h * 2 ^ q := by
  refine ⟨s / 4503599627370496 - 1, s - (s / 4503599627370496 - 1) * 4503599627370496, by omega, rfl, by omega, by omega, rfl⟩
def mgX (k : Nat) (H : Int) : Nat := 3 * H.natAbs / 2 ^ (k + 1)
def mgR (k : Nat) (H : Int) : Int := rv (mgX k H : Int)
structure SzF (hi : Nat) : Prop where
  fin : Fin64 hi
  least : 553942754166571008 ≤ hi % 9223372036854775808
  most : hi % 9223372036854775808 ≤ 8660422083433463808
theorem mgX_exact {k hi : Nat} (hk : k ≤ 100) (h : SzF hi) : mgX k (ux hi) * 2 ^ (k + 1) = 3 * (ux hi).natAbs := by
  obtain ⟨q, g, h1, _, h2, h3, h4⟩ := sz_q h.least
  unfold mgX
  rw [ux_abs, h4]
  refine Nat.div_mul_cancel ⟨3 * g * 2 ^ (q - (k + 1)), ?_⟩
  rw [Nat.mul_comm (2 ^ (k + 1)), Nat.mul_assoc (3 * g), ← Nat.pow_add, show q - (k + 1) + (k + 1) = q by omega, Nat.mul_assoc]
theorem SzF.le {hi K : Nat} (hK : K = 1974) (h : SzF hi) : (ux hi).natAbs ≤ 2 ^ K := by
  have := ux_pow (b := hi) (K := K - 52) (by have := h.most; omega)
  rw [show 52 + (K - 52) = K by omega] at this
  exact this
theorem mg_facts {k hi K : Nat} (hK : K = 1974) (hk1 : 56 ≤ k) (hk : k ≤ 100) (h : SzF hi) : 0 ≤ mgR k (ux hi) ∧ (mgR k (ux hi)).natAbs ≤ 2 ^ K ∧ mgX k (ux hi) ≤ 2 ^ K ∧ Rn 53 (mgX k (ux hi)) (mgR k (ux hi)) := by
  have h1 := mgX_exact hk h
  have h2 := h.le hK
  have h3 : mgX k (ux hi) ≤ 2 ^ K := by
    have : 2 ^ 57 ≤ 2 ^ (k + 1) := p2le (by omega)
    have h4 : mgX k (ux hi) * 2 ^ 57 ≤ 3 * (ux hi).natAbs := by rw [← h1]; exact Nat.mul_le_mul_left _ this
    rw [show 2 ^ 57 = 144115188075855872 by decide] at h4
    omega
  have h5 := max_k hK
  have h6 : Rn 53 (mgX k (ux hi)) (mgR k (ux hi)) := rv_rn (by omega)
  refine ⟨h6.lo (Fl.zero _) (by omega), h6.bound (by omega), h3, h6⟩
theorem dd_little {h l : Nat} (d : DdF h l) : 9007199254740992 * (ux l).natAbs ≤ (ux h).natAbs := by
  have := d.rn.little (by decide)
  rw [show ux h + ux l - ux h = ux l by omega] at this
  exact this
theorem lo_le {h l K : Nat} (hK : K = 1974) (d : DdF h l) (hs : SzF h) : (ux l).natAbs ≤ 2 ^ K := by
  have := dd_little d
  have := hs.le hK
  omega
structure AccP (hi lo k : Nat) : Prop where
  k1 : 56 ≤ k
  k2 : k ≤ 100
  sz : SzF hi
  dd : DdF hi lo
  dn : rv (ux hi + rv (ux lo - mgR k (ux hi))) = ux hi
  up : rv (ux hi + rv (ux lo + mgR k (ux hi))) = ux hi
theorem acc_bd {hi lo k K : Nat} (hK : K = 1974) (hk1 : 56 ≤ k) (hk : k ≤ 100) (hs : SzF hi) (d : DdF hi lo) {t : Int} (ht : t.natAbs ≤ (mgR k (ux hi)).natAbs) :
    (ux lo + t).natAbs ≤ 2 * 2 ^ K ∧ (rv (ux lo + t)).natAbs ≤ 2 * 2 ^ K ∧ (ux hi + rv (ux lo + t)).natAbs ≤ MaxU ∧ (ux lo + t).natAbs ≤ MaxU := by
  obtain ⟨m1, m2, m3, m4⟩ := mg_facts hK hk1 hk hs
  have h1 := lo_le hK d hs
  have h2 := hs.le hK
  have h3 := max_k hK
  have h4 : (ux lo + t).natAbs ≤ 2 ^ (K + 1) := by rw [p2succ]; omega
  have h5 := (rv_rn (X := ux lo + t) (by rw [p2succ] at h4; omega)).bound h4
  rw [p2succ] at h4 h5
  exact ⟨h4, h5, by omega, by omega⟩
theorem AccP.flip {hi lo k : Nat} (h : AccP hi lo k) : AccP (flipS hi) (flipS lo) k := by
  obtain ⟨k1, k2, sz, d, dn, up⟩ := h
  obtain ⟨f1, f2, f3⟩ := flip_ux sz.fin.lt
  obtain ⟨g1, g2, g3⟩ := flip_ux d.lo.lt
  have hm : mgR k (-ux hi) = mgR k (ux hi) := by unfold mgR mgX; rw [Int.natAbs_neg]
  refine ⟨k1, k2, ⟨sz.fin.flipS, by rw [f3]; exact sz.least, by rw [f3]; exact sz.most⟩, d.neg, ?_, ?_⟩
  · rw [f1, g1, hm, show -ux lo - mgR k (ux hi) = -(ux lo + mgR k (ux hi)) by omega, rv_neg, show -ux hi + -rv (ux lo + mgR k (ux hi)) = -(ux hi + rv (ux lo + mgR k (ux hi))) by omega, rv_neg, up]
  · rw [f1, g1, hm, show -ux lo + mgR k (ux hi) = -(ux lo - mgR k (ux hi)) by omega, rv_neg, show -ux hi + -rv (ux lo - mgR k (ux hi)) = -(ux hi + rv (ux lo - mgR k (ux hi))) by omega, rv_neg, dn]
def LD (k : Nat) : Nat := 4609434218613702656 - k * 4503599627370496
theorem ld_mul : ∀ j, j < 45 → floatBits .mul .f64 4607182418800017408 (LD (56 + j)) = some (LD (56 + j)) := by decide +kernel
theorem ld_or : ∀ j, j < 45 → bits BinOp.or IntKind.u64 2251799813685248 (((967 - j) * 4503599627370496 : Nat) : Int) = ((LD (56 + j) : Nat) : Int) := by decide +kernel
theorem isinf_h (w : World) : Calls Tryd.prog 75 #[Fv 4609434218613702656, .int .i64 0] w fun en w' => en = .returned (.bool false) ∧ w' = w := isinf 4609434218613702656 (by decide) w
theorem isnan_h (w : World) : Calls Tryd.prog 76 #[Fv 4609434218613702656] w fun en w' => en = .returned (.bool false) ∧ w' = w := isnan 4609434218613702656 (by decide) w
theorem norm_h (w : World) : Calls Tryd.prog 89 #[Fv 4609434218613702656] w fun en w' => en = .returned (.tuple #[Fv 4609434218613702656, .int .i64 0]) ∧ w' = w := by
  have or6 : FloatKind.f64.format.order 4609434218613702656 4503599627370496 = some Ordering.gt := by decide +kernel
  go_enter Tryd.func89, Tryd.ntmps89
  go_wp2_with fail
  refine (mabs 4609434218613702656 (by decide) _).mono ?_
  rintro e v9 ⟨rfl, hw⟩
  obtain rfl := hw.symm
  clear hw
  go_wp2_with fail
  go_ret2
  exact ⟨by kernel_rfl, rfl⟩
theorem ldexp_h (j P : Nat) (e : Int) (hj : j < 45) (he : e = -56 - (j : Int)) (hP : P = 967 - j) (w : World) : Calls Tryd.prog 74 #[Fv 4609434218613702656, .int .i64 e] w fun en w' => en = .returned (Fv (LD (56 + j))) ∧ w' = w := by
  have or7 : FloatKind.f64.format.order 4609434218613702656 0 = some Ordering.gt := by decide +kernel
  have bo8 : ∀ w, (callFunc 53 #[Fv 4609434218613702656]).run Tryd.prog w = .ok (.value (.int .u64 4609434218613702656)) w := fun w => bitsOf 4609434218613702656 w
  have fl10 : ∀ w, (binOp .mul 40 (Fv 4607182418800017408) (Fv (LD (56 + j)))).run Tryd.prog w = .ok (Fv (LD (56 + j))) w := fun w => run_float_arith w .mul 40 .f64 4607182418800017408 (LD (56 + j)) (LD (56 + j)) (ld_mul j hj)
  have br20 := ld_or j hj
  rw [← hP] at br20
  have wr14 : IntKind.u64.wrap ((P : Int) * 4503599627370496) = ((P * 4503599627370496 : Nat) : Int) := by rw [IntKind.wrap_u64]; omega
  generalize ((P * 4503599627370496 : Nat) : Int) = PP at br20 wr14
  have fb9 : ∀ w, (callFunc 12 #[.int .u64 ((LD (56 + j) : Nat) : Int)]).run Tryd.prog w = .ok (.value (Fv (LD (56 + j)))) w := fun w => frombits (LD (56 + j)) w
  generalize LD (56 + j) = Q at *
  have wr11 : IntKind.i64.wrap e = e := by simp [IntKind.wrap, IntKind.signed, IntKind.bits]; omega
  have wr12 : IntKind.i64.wrap (e + 1023) = (P : Int) := by simp [IntKind.wrap, IntKind.signed, IntKind.bits]; omega
  have wr13 : IntKind.u64.wrap (P : Int) = (P : Int) := by rw [IntKind.wrap_u64]; omega
  have br17 : bits BinOp.and IntKind.i64 (1023) (2047) = 1023 := by kernel_rfl
  have br18 : bits BinOp.andNot IntKind.u64 (4609434218613702656) (9218868437227405312) = 2251799813685248 := by kernel_rfl
  have b1 : ¬ e < -1075 := by omega
  have b2 : ¬ 1023 < e := by omega
  have b3 : ¬ e < -1022 := by omega
  clear he hP hj
  go_enter Tryd.func74, Tryd.ntmps74
  go_wp2_with fail
  refine (isinf_h _).mono ?_
  rintro e9 v9 ⟨rfl, hw⟩
  obtain rfl := hw.symm
  clear hw
  go_wp2_with fail
  refine (isnan_h _).mono ?_
  rintro e9 v9 ⟨rfl, hw⟩
  obtain rfl := hw.symm
  clear hw
  go_wp2_with fail
  refine (norm_h _).mono ?_
  rintro e9 v9 ⟨rfl, hw⟩
  obtain rfl := hw.symm
  clear hw
  go_wp2_with fail
  go_ret
  exact ⟨by kernel_rfl, rfl⟩
theorem Ldexp_h (j : Nat) (e : Int) (hj : j < 45) (he : e = -56 - (j : Int)) (w : World) : Calls Tryd.prog 50 #[Fv 4609434218613702656, .int .i64 e] w fun en w' => en = .returned (Fv (LD (56 + j))) ∧ w' = w := by
  have HL := ldexp_h j (967 - j) e hj he rfl
  clear hj he
  go_enter Tryd.func50, Tryd.ntmps50
  go_wp2_with fail
  refine (HL _).mono ?_
  rintro e9 v9 ⟨rfl, hw⟩
  obtain rfl := hw.symm
  clear hw
  go_wp2_with fail
  go_ret
  exact ⟨by kernel_rfl, rfl⟩
theorem flr_of {op : BinOp} {x y r : Nat} (h : floatBits op .f64 x y = some r) : FlR op x y r := by
  refine ⟨?_, fun v hv => ?_, fun hv => ?_⟩
  · have := floatBits_wf h
    simp [Lit.wf] at this
    exact this
  · rw [h] at hv; exact Option.some.inj hv
  · rw [h] at hv; cases hv
theorem keeps_ok (x a : Nat) (hx : Fin64 x) (ha : Fin64 a) (w : World) : Calls Tryd.prog 52 #[Fv x, Fv a] w fun en w' => en = .returned (.bool (ddB x a)) ∧ w' = w := by
  obtain ⟨r, h1, _⟩ := fl_add_any hx ha
  have hfm := form_iff hx ha.lt (flr_of h1)
  obtain ⟨o, ho⟩ : ∃ o, FloatKind.f64.format.order r x = o := ⟨_, rfl⟩
  have hb : ddB x a = (o == some .eq) := by
    rw [Bool.eq_iff_iff, ddB_iff, ← hfm, beq_iff_eq, ← ho]; rfl
  rw [hb]
  have fl1 : ∀ w, (binOp .add 40 (Fv x) (Fv a)).run Tryd.prog w = .ok (Fv r) w := fun w => run_float_arith w .add 40 .f64 x a r h1
  clear hb hfm h1 hx ha
  go_enter Tryd.func52, Tryd.ntmps52
  rcases o with _ | _ | _ | _
  all_goals
    go_wp2_with fail
    go_ret
    exact ⟨by kernel_rfl, rfl⟩
def fit25 (hi lo : Nat) (e : Int) : Bool := decide (-100 ≤ e) && decide (e ≤ -56) && decide (553942754166571008 ≤ hi % 9223372036854775808) && decide (hi % 9223372036854775808 ≤ 8660422083433463808) && ddB hi lo
theorem ord_pos {s t : Nat} (hs : s < 9218868437227405312) (ht : t < 9218868437227405312) : FloatKind.f64.format.order s t = some (if s < t then .lt else if s = t then .eq else .gt) := by
  have e : FloatKind.f64.format.order s t = Ieee.double.order s t := rfl
  rw [e, order_fin ⟨by omega, by omega⟩ ⟨by omega, by omega⟩, ux_pos (by omega), ux_pos (by omega), ordI]
  rcases Nat.lt_trichotomy s t with h | h | h
  · have := vs_mono (H := 4503599627370496) (by decide) h
    rw [if_pos (by omega), if_pos h]
  · subst h
    rw [if_neg (by omega), if_pos rfl, if_neg (by omega), if_pos rfl]
  · have := vs_mono (H := 4503599627370496) (by decide) h
    rw [if_neg (by omega), if_neg (by omega), if_neg (by omega), if_neg (by omega)]
theorem ord_fit (s : Nat) (hs : s < 9223372036854775808) : ∃ o1 o2, FloatKind.f64.format.order s 553942754166571008 = o1 ∧ FloatKind.f64.format.order s 8660422083433463808 = o2 ∧
    (((o1 = some .gt ∨ o1 = some .eq) ∧ (o2 = some .lt ∨ o2 = some .eq) ∧ 553942754166571008 ≤ s ∧ s ≤ 8660422083433463808) ∨
     ((o1 = some .gt ∨ o1 = some .eq) ∧ (o2 = some .gt) ∧ ¬ s ≤ 8660422083433463808) ∨
     ((o1 = some .lt) ∧ ¬ 553942754166571008 ≤ s) ∨ (o1 = none ∧ ¬ s ≤ 8660422083433463808)) := by
  rcases Nat.lt_trichotomy s 9218868437227405312 with h | h | h
  · refine ⟨_, _, ord_pos h (by decide), ord_pos h (by decide), ?_⟩
    rcases Nat.lt_trichotomy s 553942754166571008 with h1 | h1 | h1
    · exact .inr (.inr (.inl ⟨by rw [if_pos h1], by omega⟩))
    · subst h1; exact .inl ⟨.inr (by decide), .inl (by decide), by decide, by decide⟩
    · rcases Nat.lt_trichotomy s 8660422083433463808 with h2 | h2 | h2
      · exact .inl ⟨.inl (by rw [if_neg (by omega), if_neg (by omega)]), .inl (by rw [if_pos h2]), by omega, by omega⟩
      · subst h2; exact .inl ⟨.inl (by decide), .inr (by decide), by decide, by decide⟩
      · exact .inr (.inl ⟨.inl (by rw [if_neg (by omega), if_neg (by omega)]), by rw [if_neg (by omega), if_neg (by omega)], by omega⟩)
  · subst h
    exact ⟨some .gt, some .gt, by decide +kernel, by decide +kernel, .inr (.inl ⟨.inl rfl, rfl, by decide⟩)⟩
  · refine ⟨none, none, order_nan (.inl ?_), order_nan (.inl ?_), .inr (.inr (.inr ⟨rfl, by omega⟩))⟩
    · unfold NanP; omega
    · unfold NanP; omega
theorem fit_ok (hi lo : Nat) (hh : hi < 18446744073709551616) (hl : lo < 18446744073709551616) (e : Int) (w : World) : Calls Tryd.prog 49 #[.agg #[Fv hi, Fv lo], .int .i64 e] w fun en w' => en = .returned (.bool (fit25 hi lo e)) ∧ Below w.heap.size w w' := by
  have hSF : ∀ (w : World) (a : Addr) (b : Nat), (store a (Fv b)).run Tryd.prog w = stored Tryd.prog w a (Fv b) .plain := fun w a b => run_store _ w a (Fv b) _ rfl
  have HA := mabs hi hh
  have HF := ddform hi lo hh hl
  unfold fit25
  have hs : hi % 9223372036854775808 < 9223372036854775808 := by omega
  generalize hi % 9223372036854775808 = s at HA hs ⊢
  obtain ⟨o1, o2, ho1, ho2, hc⟩ := ord_fit s hs
  generalize ddB hi lo = D at HF ⊢
  clear hh hl hs
  by_cases c1 : -100 ≤ e
  · rw [decide_eq_true c1, Bool.true_and]
    by_cases c2 : e ≤ -56
    · rw [decide_eq_true c2, Bool.true_and]
      rcases hc with ⟨h1 | h1, h2 | h2, h3, h4⟩ | ⟨h1 | h1, h2, h4⟩ | ⟨h1, h3⟩ | ⟨h1, h4⟩
      iterate 4
        rw [decide_eq_true h3, decide_eq_true h4, Bool.true_and, Bool.true_and]
        subst h1 h2
        clear h3 h4
        go_enter Tryd.func49, Tryd.ntmps49
        go_wp2_with fail
        refine (HA _).mono ?_
        rintro e9 v9 ⟨rfl, hw⟩
        obtain rfl := hw.symm
        clear hw
        go_wp2_with fail
        refine (HF _).mono ?_
        rintro e9 v9 ⟨rfl, hw⟩
        go_wp2_with fail
        go_ret
        exact ⟨rfl, (bwAlloc w _).trans (hw.mono (bwAlloc w _).size)⟩
      iterate 2
        rw [decide_eq_false h4, Bool.and_false, Bool.false_and]
        subst h1 h2
        clear h4
        go_enter Tryd.func49, Tryd.ntmps49
        go_wp2_with fail
        refine (HA _).mono ?_
        rintro e9 v9 ⟨rfl, hw⟩
        obtain rfl := hw.symm
        clear hw
        go_wp2_with fail
        go_ret
        exact ⟨rfl, bwAlloc w _⟩
      · rw [decide_eq_false h3, Bool.false_and, Bool.false_and]
        subst h1
        clear h3
        go_enter Tryd.func49, Tryd.ntmps49
        go_wp2_with fail
        refine (HA _).mono ?_
        rintro e9 v9 ⟨rfl, hw⟩
        obtain rfl := hw.symm
        clear hw
        go_wp2_with fail
        go_ret
        exact ⟨rfl, bwAlloc w _⟩
      · rw [decide_eq_false h4, Bool.and_false, Bool.false_and]
        subst h1
        clear h4
        go_enter Tryd.func49, Tryd.ntmps49
        go_wp2_with fail
        refine (HA _).mono ?_
        rintro e9 v9 ⟨rfl, hw⟩
        obtain rfl := hw.symm
        clear hw
        go_wp2_with fail
        go_ret
        exact ⟨rfl, bwAlloc w _⟩
    · rw [decide_eq_false c2, Bool.false_and, Bool.false_and, Bool.false_and]
      clear hc
      go_enter Tryd.func49, Tryd.ntmps49
      go_wp2_with fail
      refine (HA _).mono ?_
      rintro e9 v9 ⟨rfl, hw⟩
      obtain rfl := hw.symm
      clear hw
      go_wp2_with fail
      go_ret
      exact ⟨rfl, bwAlloc w _⟩
  · rw [decide_eq_false c1, Bool.false_and, Bool.false_and, Bool.false_and, Bool.false_and]
    clear hc
    go_enter Tryd.func49, Tryd.ntmps49
    go_wp2_with fail
    refine (HA _).mono ?_
    rintro e9 v9 ⟨rfl, hw⟩
    obtain rfl := hw.symm
    clear hw
    go_wp2_with fail
    go_ret
    exact ⟨rfl, bwAlloc w _⟩
theorem ld_lt {k : Nat} (_h1 : 56 ≤ k) (_h2 : k ≤ 100) : LD k < 9218868437227405312 := by unfold LD; omega
theorem mg_run {hi k : Nat} (k1 : 56 ≤ k) (k2 : k ≤ 100) (sz : SzF hi) : ∃ M, floatBits .mul .f64 (LD k) (hi % 9223372036854775808) = some M ∧ Fin64 M ∧ ux M = mgR k (ux hi) := by
  have hL := ld_lt k1 k2
  have f1 : Fin64 (LD k) := ⟨by omega, by omega⟩
  have f2 : Fin64 (hi % 9223372036854775808) := ⟨by omega, by have := sz.most; omega⟩
  have h1 := fmul_any f1 f2
  obtain ⟨c, hc⟩ : ∃ c, c = 1074 := ⟨_, rfl⟩
  have hx := mgX_exact k2 sz
  have u1 : ux (LD k) = ((3 * 2 ^ (c - 1 - k) : Nat) : Int) := by
    rw [ux_pos (by omega)]
    have : LD k = (c - 52 - k) * 4503599627370496 + 6755399441055744 := by unfold LD; omega
    rw [this, vs_at _ _ (.inr (by decide)) (by decide), show 6755399441055744 = 3 * 2 ^ 51 by decide, Nat.mul_assoc, ← Nat.pow_add, show 51 + (c - 52 - k) = c - 1 - k by omega]
  have u2 : ux (hi % 9223372036854775808) = ((ux hi).natAbs : Int) := by
    rw [ux_pos (by omega), ux_abs]
  have hX : ux (LD k) * ux (hi % 9223372036854775808) = (mgX k (ux hi) : Int) * ((2 ^ c : Nat) : Int) := by
    rw [u1, u2, ← Int.natCast_mul, ← Int.natCast_mul]
    congr 1
    rw [Nat.mul_right_comm, ← hx, Nat.mul_assoc, ← Nat.pow_add]
    congr 2
    omega
  obtain ⟨K, hK⟩ : ∃ K, K = 1974 := ⟨_, rfl⟩
  have m3 := (mg_facts hK k1 k2 sz).2.2.1
  have hmx := max_k hK
  have hs := (flr_of h1).mul f1 f2 hc hX (by omega)
  exact ⟨_, h1, hs.fin, sm_rv hs⟩
def accB (hi lo : Nat) (e : Int) : Bool := fit25 hi lo e && (decide (rv (ux hi + rv (ux lo - mgR (-e).toNat (ux hi))) = ux hi) && decide (rv (ux hi + rv (ux lo + mgR (-e).toNat (ux hi))) = ux hi))
theorem fit25_iff {hi lo : Nat} {e : Int} : fit25 hi lo e = true ↔ ∃ k : Nat, e = -(k : Int) ∧ 56 ≤ k ∧ k ≤ 100 ∧ SzF hi ∧ DdF hi lo := by
  unfold fit25
  simp only [Bool.and_eq_true, decide_eq_true_iff, ddB_iff]
  constructor
  · rintro ⟨⟨⟨⟨h1, h2⟩, h3⟩, h4⟩, h5⟩
    exact ⟨(-e).toNat, by omega, by omega, by omega, ⟨h5.hi, h3, h4⟩, h5⟩
  · rintro ⟨k, rfl, h1, h2, h3, h4⟩
    exact ⟨⟨⟨⟨by omega, by omega⟩, h3.least⟩, h3.most⟩, h4⟩
theorem accB_iff {hi lo : Nat} {e : Int} : accB hi lo e = true ↔ ∃ k : Nat, e = -(k : Int) ∧ AccP hi lo k := by
  unfold accB
  rw [Bool.and_eq_true, Bool.and_eq_true, decide_eq_true_iff, decide_eq_true_iff, fit25_iff]
  constructor
  · rintro ⟨⟨k, rfl, h1, h2, h3, h4⟩, h5, h6⟩
    rw [show (-(-(k : Int))).toNat = k by omega] at h5 h6
    exact ⟨k, rfl, h1, h2, h3, h4, h5, h6⟩
  · rintro ⟨k, rfl, h⟩
    rw [show (-(-(k : Int))).toNat = k by omega]
    exact ⟨⟨k, rfl, h.k1, h.k2, h.sz, h.dd⟩, h.dn, h.up⟩
theorem acc_keep {hi lo k a : Nat} (k1 : 56 ≤ k) (k2 : k ≤ 100) (sz : SzF hi) (d : DdF hi lo) {t : Int} (ht : t.natAbs ≤ (mgR k (ux hi)).natAbs) (hs : Sm64 (ux lo + t) a) : ddB hi a = decide (rv (ux hi + rv (ux lo + t)) = ux hi) := by
  have h1 := sm_rv hs
  obtain ⟨_, _, c3, _⟩ := acc_bd rfl k1 k2 sz d ht
  rw [Bool.eq_iff_iff, ddB_iff, decide_eq_true_iff, ← h1]
  rw [← h1] at c3
  exact ⟨fun d => d.eq, fun h => ⟨sz.fin, hs.fin, rg_fin c3, h⟩⟩
end Go.Proofs.YthfjjadgejmnfaaDoor
namespace Go.Proofs.YthfjjadgejmnfaaDoor
open Go.RowKit Go.Shelf
set_option maxRecDepth 20000
set_option maxHeartbeats 0
theorem accept_n (hi lo : Nat) (hh : hi < 18446744073709551616) (hl : lo < 18446744073709551616) (e : Int) (w : World) (hf : fit25 hi lo e = false) :
    Calls Tryd.prog 24 #[.agg #[Fv hi, Fv lo], .int .i64 e] w fun en w' => en = .returned (.tuple #[.int .u64 0, .bool false]) ∧ Below w.heap.size w w' := by
  have hSF : ∀ (w : World) (a : Addr) (b : Nat), (store a (Fv b)).run Tryd.prog w = stored Tryd.prog w a (Fv b) .plain := fun w a b => run_store _ w a (Fv b) _ rfl
  have HF := fit_ok hi lo hh hl e
  rw [hf] at HF
  clear hf hh hl
  go_enter Tryd.func24, Tryd.ntmps24
  go_wp2_with fail
  obtain ⟨W0, hW0⟩ : ∃ W0, W0 = (w.alloc (.cells #[Fv hi, Fv lo] 43)) := ⟨_, rfl⟩
  have Xv : Hid (Box W0 (w.heap.size) (Fv hi) (Fv lo)) := by rw [hW0]; exact ⟨by go_simp, by go_simp, by go_simp, by go_simp⟩
  have hb0 : Below w.heap.size w W0 := by rw [hW0]; exact below1 w _
  rw [← hW0]
  clear hW0
  have hbw : Below w.heap.size w w := Below.refl _ _
  obtain ⟨gv, hgv⟩ : ∃ g, g = w.heap.size := ⟨_, rfl⟩
  have HGv : Hid (w.heap.size ≤ gv) := by rw [hgv]; show _ ≤ _; omega
  rw [← hgv] at Xv
  try rw [← hgv]
  clear hgv
  replace hbw := Below.on hbw hb0
  clear hb0
  refine (HF _).mono ?_
  rintro e v1 ⟨rfl, hb1⟩
  replace Xv : Hid _ := Xv.out.below hb1
  replace hbw := Below.on hbw hb1
  clear hb1
  obtain ⟨cv0, cv1, fv0, fv1⟩ := Xv.out
  have hnev := Xv.out.lt
  go_wp2_with fail
  clear cv0 cv1 fv0 fv1 hnev
  go_ret2
  exact ⟨rfl, hbw⟩
theorem accept_d (hi lo k M a : Nat) (e : Int) (w : World) (HF : ∀ w, Calls Tryd.prog 49 #[.agg #[Fv hi, Fv lo], .int .i64 e] w fun en w' => en = .returned (.bool true) ∧ Below w.heap.size w w') (HL : ∀ w, Calls Tryd.prog 50 #[Fv 4609434218613702656, .int .i64 e] w fun en w' => en = .returned (Fv k) ∧ w' = w) (hs : Nat) (HB : ∀ w, Calls Tryd.prog 51 #[Fv hi] w fun en w' => en = .returned (Fv hs) ∧ w' = w) (H1 : ∀ w, Calls Tryd.prog 52 #[Fv hi, Fv a] w fun en w' => en = .returned (.bool false) ∧ w' = w) (f1 : ∀ w, (binOp .mul 40 (Fv k) (Fv hs)).run Tryd.prog w = .ok (Fv M) w) (f2 : ∀ w, (binOp .sub 40 (Fv lo) (Fv M)).run Tryd.prog w = .ok (Fv a) w) :
    Calls Tryd.prog 24 #[.agg #[Fv hi, Fv lo], .int .i64 e] w fun en w' => en = .returned (.tuple #[.int .u64 0, .bool false]) ∧ Below w.heap.size w w' := by
  have hSF : ∀ (w : World) (a : Addr) (b : Nat), (store a (Fv b)).run Tryd.prog w = stored Tryd.prog w a (Fv b) .plain := fun w a b => run_store _ w a (Fv b) _ rfl
  have bo8 : ∀ w, (callFunc 53 #[Fv hi]).run Tryd.prog w = .ok (.value (.int .u64 (hi : Int))) w := fun w => bitsOf hi w
  go_enter Tryd.func24, Tryd.ntmps24
  go_wp2_with fail
  obtain ⟨W0, hW0⟩ : ∃ W0, W0 = (w.alloc (.cells #[Fv hi, Fv lo] 43)) := ⟨_, rfl⟩
  have Xv : Hid (Box W0 (w.heap.size) (Fv hi) (Fv lo)) := by rw [hW0]; exact ⟨by go_simp, by go_simp, by go_simp, by go_simp⟩
  have hb0 : Below w.heap.size w W0 := by rw [hW0]; exact below1 w _
  rw [← hW0]
  clear hW0
  have hbw : Below w.heap.size w w := Below.refl _ _
  obtain ⟨gv, hgv⟩ : ∃ g, g = w.heap.size := ⟨_, rfl⟩
  have HGv : Hid (w.heap.size ≤ gv) := by rw [hgv]; show _ ≤ _; omega
  rw [← hgv] at Xv
  try rw [← hgv]
  clear hgv
  replace hbw := Below.on hbw hb0
  clear hb0
  refine (HF _).mono ?_
  rintro e v1 ⟨rfl, hb1⟩
  replace Xv : Hid _ := Xv.out.below hb1
  replace hbw := Below.on hbw hb1
  clear hb1
  obtain ⟨cv0, cv1, fv0, fv1⟩ := Xv.out
  have hnev := Xv.out.lt
  go_wp2_with fail
  clear cv0 cv1 fv0 fv1 hnev
  obtain ⟨W2, hW2⟩ : ∃ W1, W1 = v1.drew := ⟨_, rfl⟩
  have hbd : Below v1.heap.size v1 W2 := by rw [hW2]; exact bDrew1 (Below.refl _ _)
  replace Xv : Hid _ := Xv.out.below hbd
  replace hbw := Below.on hbw hbd
  clear hbd
  have HJ : Hid ((fun W' : World => W'.cell? ⟨gv, 0, none⟩ = some (Fv hi)) W2) := Xv.out.c0
  refine wp_region_J (fun W' => W'.cell? ⟨gv, 0, none⟩ = some (Fv hi)) (by kernel_rfl) ?_
  rw [← hW2]
  clear hW2
  refine wpJ_tk 0 (v := ?v1x0) rfl ?hy1x0 HJ.out ?_
  case hy1x0 => (intro W' hJ; have j0 := hJ; go_simp; first | done | with_reducible rfl)
  refine wpJ_tk 2 (v := ?v2x2) rfl ?hy2x2 HJ.out ?_
  case hy2x2 => (intro W' hJ; have j0 := hJ; go_simp; first | done | with_reducible rfl)
  refine wpJ_tk 3 (v := ?v3x3) rfl ?hy3x3 HJ.out ?_
  case hy3x3 => (intro W' hJ; have j0 := hJ; go_simp; first | done | with_reducible rfl)
  refine wpJ_on 1 rfl fun KJ hK => ?_
  go_simp
  refine (HL _).mono ?_
  rintro e9 v7 ⟨rfl, hw⟩
  obtain rfl := hw.symm
  clear hw
  refine hK _ _ Xv.out.c0 ?_
  clear hK
  refine wpJ_on 4 rfl fun KJ hK => ?_
  go_simp
  refine (HB _).mono ?_
  rintro e9 v7 ⟨rfl, hw⟩
  obtain rfl := hw.symm
  clear hw
  clear HJ
  have HJ : Hid ((fun W' : World => W'.cell? ⟨gv, 0, none⟩ = some (Fv hi)) W2) := Xv.out.c0
  refine hK _ _ HJ.out ?_
  clear hK
  refine wpJ_tk 5 (v := ?v4x5) rfl ?hy4x5 HJ.out ?_
  case hy4x5 => (intro W' hJ; have j0 := hJ; go_simp; first | done | with_reducible rfl)
  refine wpJ_tk 6 (v := ?v5x6) rfl ?hy5x6 HJ.out ?_
  case hy5x6 => (intro W' hJ; have j0 := hJ; go_simp; first | done | with_reducible rfl)
  refine wpJ_done (by kernel_rfl) ?_ _
  clear HJ
  obtain ⟨cv0, cv1, fv0, fv1⟩ := Xv.out
  have hnev := Xv.out.lt
  go_wp2_with fail
  clear cv0 cv1 fv0 fv1 hnev
  refine (H1 _).mono ?_
  rintro e9 v7 ⟨rfl, hw⟩
  obtain rfl := hw.symm
  clear hw
  obtain ⟨cv0, cv1, fv0, fv1⟩ := Xv.out
  have hnev := Xv.out.lt
  go_wp2_with fail
  clear cv0 cv1 fv0 fv1 hnev
  go_ret2
  exact ⟨rfl, hbw⟩
theorem accept_u (hi lo k M a b : Nat) (e : Int) (w : World) (HF : ∀ w, Calls Tryd.prog 49 #[.agg #[Fv hi, Fv lo], .int .i64 e] w fun en w' => en = .returned (.bool true) ∧ Below w.heap.size w w') (HL : ∀ w, Calls Tryd.prog 50 #[Fv 4609434218613702656, .int .i64 e] w fun en w' => en = .returned (Fv k) ∧ w' = w) (hs : Nat) (HB : ∀ w, Calls Tryd.prog 51 #[Fv hi] w fun en w' => en = .returned (Fv hs) ∧ w' = w) (H1 : ∀ w, Calls Tryd.prog 52 #[Fv hi, Fv a] w fun en w' => en = .returned (.bool true) ∧ w' = w) (H2 : ∀ w, Calls Tryd.prog 52 #[Fv hi, Fv b] w fun en w' => en = .returned (.bool false) ∧ w' = w) (f1 : ∀ w, (binOp .mul 40 (Fv k) (Fv hs)).run Tryd.prog w = .ok (Fv M) w) (f2 : ∀ w, (binOp .sub 40 (Fv lo) (Fv M)).run Tryd.prog w = .ok (Fv a) w) (f3 : ∀ w, (binOp .add 40 (Fv lo) (Fv M)).run Tryd.prog w = .ok (Fv b) w) :
    Calls Tryd.prog 24 #[.agg #[Fv hi, Fv lo], .int .i64 e] w fun en w' => en = .returned (.tuple #[.int .u64 0, .bool false]) ∧ Below w.heap.size w w' := by
  have hSF : ∀ (w : World) (a : Addr) (b : Nat), (store a (Fv b)).run Tryd.prog w = stored Tryd.prog w a (Fv b) .plain := fun w a b => run_store _ w a (Fv b) _ rfl
  have bo8 : ∀ w, (callFunc 53 #[Fv hi]).run Tryd.prog w = .ok (.value (.int .u64 (hi : Int))) w := fun w => bitsOf hi w
  go_enter Tryd.func24, Tryd.ntmps24
  go_wp2_with fail
  obtain ⟨W0, hW0⟩ : ∃ W0, W0 = (w.alloc (.cells #[Fv hi, Fv lo] 43)) := ⟨_, rfl⟩
  have Xv : Hid (Box W0 (w.heap.size) (Fv hi) (Fv lo)) := by rw [hW0]; exact ⟨by go_simp, by go_simp, by go_simp, by go_simp⟩
  have hb0 : Below w.heap.size w W0 := by rw [hW0]; exact below1 w _
  rw [← hW0]
  clear hW0
  have hbw : Below w.heap.size w w := Below.refl _ _
  obtain ⟨gv, hgv⟩ : ∃ g, g = w.heap.size := ⟨_, rfl⟩
  have HGv : Hid (w.heap.size ≤ gv) := by rw [hgv]; show _ ≤ _; omega
  rw [← hgv] at Xv
  try rw [← hgv]
  clear hgv
  replace hbw := Below.on hbw hb0
  clear hb0
  refine (HF _).mono ?_
  rintro e v1 ⟨rfl, hb1⟩
  replace Xv : Hid _ := Xv.out.below hb1
  replace hbw := Below.on hbw hb1
  clear hb1
  obtain ⟨cv0, cv1, fv0, fv1⟩ := Xv.out
  have hnev := Xv.out.lt
  go_wp2_with fail
  clear cv0 cv1 fv0 fv1 hnev
  obtain ⟨W2, hW2⟩ : ∃ W1, W1 = v1.drew := ⟨_, rfl⟩
  have hbd : Below v1.heap.size v1 W2 := by rw [hW2]; exact bDrew1 (Below.refl _ _)
  replace Xv : Hid _ := Xv.out.below hbd
  replace hbw := Below.on hbw hbd
  clear hbd
  have HJ : Hid ((fun W' : World => W'.cell? ⟨gv, 0, none⟩ = some (Fv hi)) W2) := Xv.out.c0
  refine wp_region_J (fun W' => W'.cell? ⟨gv, 0, none⟩ = some (Fv hi)) (by kernel_rfl) ?_
  rw [← hW2]
  clear hW2
  refine wpJ_tk 0 (v := ?v6x0) rfl ?hy6x0 HJ.out ?_
  case hy6x0 => (intro W' hJ; have j0 := hJ; go_simp; first | done | with_reducible rfl)
  refine wpJ_tk 2 (v := ?v7x2) rfl ?hy7x2 HJ.out ?_
  case hy7x2 => (intro W' hJ; have j0 := hJ; go_simp; first | done | with_reducible rfl)
  refine wpJ_tk 3 (v := ?v8x3) rfl ?hy8x3 HJ.out ?_
  case hy8x3 => (intro W' hJ; have j0 := hJ; go_simp; first | done | with_reducible rfl)
  refine wpJ_on 1 rfl fun KJ hK => ?_
  go_simp
  refine (HL _).mono ?_
  rintro e9 v7 ⟨rfl, hw⟩
  obtain rfl := hw.symm
  clear hw
  refine hK _ _ Xv.out.c0 ?_
  clear hK
  refine wpJ_on 4 rfl fun KJ hK => ?_
  go_simp
  refine (HB _).mono ?_
  rintro e9 v7 ⟨rfl, hw⟩
  obtain rfl := hw.symm
  clear hw
  clear HJ
  have HJ : Hid ((fun W' : World => W'.cell? ⟨gv, 0, none⟩ = some (Fv hi)) W2) := Xv.out.c0
  refine hK _ _ HJ.out ?_
  clear hK
  refine wpJ_tk 5 (v := ?v9x5) rfl ?hy9x5 HJ.out ?_
  case hy9x5 => (intro W' hJ; have j0 := hJ; go_simp; first | done | with_reducible rfl)
  refine wpJ_tk 6 (v := ?v10x6) rfl ?hy10x6 HJ.out ?_
  case hy10x6 => (intro W' hJ; have j0 := hJ; go_simp; first | done | with_reducible rfl)
  refine wpJ_done (by kernel_rfl) ?_ _
  clear HJ
  obtain ⟨cv0, cv1, fv0, fv1⟩ := Xv.out
  have hnev := Xv.out.lt
  go_wp2_with fail
  clear cv0 cv1 fv0 fv1 hnev
  refine (H1 _).mono ?_
  rintro e9 v7 ⟨rfl, hw⟩
  obtain rfl := hw.symm
  clear hw
  obtain ⟨cv0, cv1, fv0, fv1⟩ := Xv.out
  have hnev := Xv.out.lt
  go_wp2_with fail
  clear cv0 cv1 fv0 fv1 hnev
  refine (H2 _).mono ?_
  rintro e9 v7 ⟨rfl, hw⟩
  obtain rfl := hw.symm
  clear hw
  obtain ⟨cv0, cv1, fv0, fv1⟩ := Xv.out
  have hnev := Xv.out.lt
  go_wp2_with fail
  clear cv0 cv1 fv0 fv1 hnev
  go_ret2
  exact ⟨rfl, hbw⟩
theorem accept_y (hi lo k M a b : Nat) (e : Int) (w : World) (HF : ∀ w, Calls Tryd.prog 49 #[.agg #[Fv hi, Fv lo], .int .i64 e] w fun en w' => en = .returned (.bool true) ∧ Below w.heap.size w w') (HL : ∀ w, Calls Tryd.prog 50 #[Fv 4609434218613702656, .int .i64 e] w fun en w' => en = .returned (Fv k) ∧ w' = w) (hs : Nat) (HB : ∀ w, Calls Tryd.prog 51 #[Fv hi] w fun en w' => en = .returned (Fv hs) ∧ w' = w) (H1 : ∀ w, Calls Tryd.prog 52 #[Fv hi, Fv a] w fun en w' => en = .returned (.bool true) ∧ w' = w) (H2 : ∀ w, Calls Tryd.prog 52 #[Fv hi, Fv b] w fun en w' => en = .returned (.bool true) ∧ w' = w) (f1 : ∀ w, (binOp .mul 40 (Fv k) (Fv hs)).run Tryd.prog w = .ok (Fv M) w) (f2 : ∀ w, (binOp .sub 40 (Fv lo) (Fv M)).run Tryd.prog w = .ok (Fv a) w) (f3 : ∀ w, (binOp .add 40 (Fv lo) (Fv M)).run Tryd.prog w = .ok (Fv b) w) :
    Calls Tryd.prog 24 #[.agg #[Fv hi, Fv lo], .int .i64 e] w fun en w' => en = .returned (.tuple #[.int .u64 (hi : Int), .bool true]) ∧ Below w.heap.size w w' := by
  have hSF : ∀ (w : World) (a : Addr) (b : Nat), (store a (Fv b)).run Tryd.prog w = stored Tryd.prog w a (Fv b) .plain := fun w a b => run_store _ w a (Fv b) _ rfl
  have bo8 : ∀ w, (callFunc 53 #[Fv hi]).run Tryd.prog w = .ok (.value (.int .u64 (hi : Int))) w := fun w => bitsOf hi w
  go_enter Tryd.func24, Tryd.ntmps24
  go_wp2_with fail
  obtain ⟨W0, hW0⟩ : ∃ W0, W0 = (w.alloc (.cells #[Fv hi, Fv lo] 43)) := ⟨_, rfl⟩
  have Xv : Hid (Box W0 (w.heap.size) (Fv hi) (Fv lo)) := by rw [hW0]; exact ⟨by go_simp, by go_simp, by go_simp, by go_simp⟩
  have hb0 : Below w.heap.size w W0 := by rw [hW0]; exact below1 w _
  rw [← hW0]
  clear hW0
  have hbw : Below w.heap.size w w := Below.refl _ _
  obtain ⟨gv, hgv⟩ : ∃ g, g = w.heap.size := ⟨_, rfl⟩
  have HGv : Hid (w.heap.size ≤ gv) := by rw [hgv]; show _ ≤ _; omega
  rw [← hgv] at Xv
  try rw [← hgv]
  clear hgv
  replace hbw := Below.on hbw hb0
  clear hb0
  refine (HF _).mono ?_
  rintro e v1 ⟨rfl, hb1⟩
  replace Xv : Hid _ := Xv.out.below hb1
  replace hbw := Below.on hbw hb1
  clear hb1
  obtain ⟨cv0, cv1, fv0, fv1⟩ := Xv.out
  have hnev := Xv.out.lt
  go_wp2_with fail
  clear cv0 cv1 fv0 fv1 hnev
  obtain ⟨W2, hW2⟩ : ∃ W1, W1 = v1.drew := ⟨_, rfl⟩
  have hbd : Below v1.heap.size v1 W2 := by rw [hW2]; exact bDrew1 (Below.refl _ _)
  replace Xv : Hid _ := Xv.out.below hbd
  replace hbw := Below.on hbw hbd
  clear hbd
  have HJ : Hid ((fun W' : World => W'.cell? ⟨gv, 0, none⟩ = some (Fv hi)) W2) := Xv.out.c0
  refine wp_region_J (fun W' => W'.cell? ⟨gv, 0, none⟩ = some (Fv hi)) (by kernel_rfl) ?_
  rw [← hW2]
  clear hW2
  refine wpJ_tk 0 (v := ?v11x0) rfl ?hy11x0 HJ.out ?_
  case hy11x0 => (intro W' hJ; have j0 := hJ; go_simp; first | done | with_reducible rfl)
  refine wpJ_tk 2 (v := ?v12x2) rfl ?hy12x2 HJ.out ?_
  case hy12x2 => (intro W' hJ; have j0 := hJ; go_simp; first | done | with_reducible rfl)
  refine wpJ_tk 3 (v := ?v13x3) rfl ?hy13x3 HJ.out ?_
  case hy13x3 => (intro W' hJ; have j0 := hJ; go_simp; first | done | with_reducible rfl)
  refine wpJ_on 1 rfl fun KJ hK => ?_
  go_simp
  refine (HL _).mono ?_
  rintro e9 v7 ⟨rfl, hw⟩
  obtain rfl := hw.symm
  clear hw
  refine hK _ _ Xv.out.c0 ?_
  clear hK
  refine wpJ_on 4 rfl fun KJ hK => ?_
  go_simp
  refine (HB _).mono ?_
  rintro e9 v7 ⟨rfl, hw⟩
  obtain rfl := hw.symm
  clear hw
  clear HJ
  have HJ : Hid ((fun W' : World => W'.cell? ⟨gv, 0, none⟩ = some (Fv hi)) W2) := Xv.out.c0
  refine hK _ _ HJ.out ?_
  clear hK
  refine wpJ_tk 5 (v := ?v14x5) rfl ?hy14x5 HJ.out ?_
  case hy14x5 => (intro W' hJ; have j0 := hJ; go_simp; first | done | with_reducible rfl)
  refine wpJ_tk 6 (v := ?v15x6) rfl ?hy15x6 HJ.out ?_
  case hy15x6 => (intro W' hJ; have j0 := hJ; go_simp; first | done | with_reducible rfl)
  refine wpJ_done (by kernel_rfl) ?_ _
  clear HJ
  obtain ⟨cv0, cv1, fv0, fv1⟩ := Xv.out
  have hnev := Xv.out.lt
  go_wp2_with fail
  clear cv0 cv1 fv0 fv1 hnev
  refine (H1 _).mono ?_
  rintro e9 v7 ⟨rfl, hw⟩
  obtain rfl := hw.symm
  clear hw
  obtain ⟨cv0, cv1, fv0, fv1⟩ := Xv.out
  have hnev := Xv.out.lt
  go_wp2_with fail
  clear cv0 cv1 fv0 fv1 hnev
  refine (H2 _).mono ?_
  rintro e9 v7 ⟨rfl, hw⟩
  obtain rfl := hw.symm
  clear hw
  obtain ⟨cv0, cv1, fv0, fv1⟩ := Xv.out
  have hnev := Xv.out.lt
  go_wp2_with fail
  clear cv0 cv1 fv0 fv1 hnev
  go_ret2
  exact ⟨rfl, hbw⟩
theorem accept_ok (hi lo : Nat) (hh : hi < 18446744073709551616) (hl : lo < 18446744073709551616) (e : Int) (w : World) : Calls Tryd.prog 24 #[.agg #[Fv hi, Fv lo], .int .i64 e] w fun en w' => en = .returned (.tuple #[.int .u64 ((if accB hi lo e then hi else 0 : Nat) : Int), .bool (accB hi lo e)]) ∧ Below w.heap.size w w' := by
  cases hf : fit25 hi lo e with
  | false =>
    have hA : accB hi lo e = false := by unfold accB; rw [hf, Bool.false_and]
    rw [hA]
    exact accept_n hi lo hh hl e w hf
  | true =>
    have HF := fit_ok hi lo hh hl e
    rw [hf] at HF
    obtain ⟨k, he, k1, k2, sz, d⟩ := fit25_iff.1 hf
    obtain ⟨M, hM, FM, uM⟩ := mg_run k1 k2 sz
    have t1 : (-mgR k (ux hi)).natAbs ≤ (mgR k (ux hi)).natAbs := by rw [Int.natAbs_neg]; exact Nat.le_refl _
    have a4 := (acc_bd rfl k1 k2 sz d t1).2.2.2
    have b4 := (acc_bd rfl k1 k2 sz d (Nat.le_refl (mgR k (ux hi)).natAbs)).2.2.2
    obtain ⟨a, ha, sa⟩ := fl_sub_fin d.lo FM (by rw [uM, Int.sub_eq_add_neg]; exact a4)
    obtain ⟨b, hb, sb⟩ := fl_add_fin d.lo FM (by rw [uM]; exact b4)
    rw [uM] at sa sb
    rw [Int.sub_eq_add_neg] at sa
    have ka := acc_keep k1 k2 sz d t1 sa
    have kb := acc_keep k1 k2 sz d (Nat.le_refl _) sb
    have hA : accB hi lo e = (ddB hi a && ddB hi b) := by
      unfold accB
      rw [hf, Bool.true_and, ka, kb, ← Int.sub_eq_add_neg, he, show (-(-(k : Int))).toNat = k by omega]
    rw [hA]
    have H1 := keeps_ok hi a sz.fin sa.fin
    have H2 := keeps_ok hi b sz.fin sb.fin
    have HL := Ldexp_h (k - 56) e (by omega) (by omega)
    rw [show 56 + (k - 56) = k by omega] at HL
    have HB := mabs hi hh
    have f1 : ∀ w, (binOp .mul 40 (Fv (LD k)) (Fv (hi % 9223372036854775808))).run Tryd.prog w = .ok (Fv M) w := fun w => run_float_arith w .mul 40 .f64 _ _ _ hM
    have f2 : ∀ w, (binOp .sub 40 (Fv lo) (Fv M)).run Tryd.prog w = .ok (Fv a) w := fun w => run_float_arith w .sub 40 .f64 _ _ _ ha
    have f3 : ∀ w, (binOp .add 40 (Fv lo) (Fv M)).run Tryd.prog w = .ok (Fv b) w := fun w => run_float_arith w .add 40 .f64 _ _ _ hb
    generalize ddB hi a = A at *
    generalize ddB hi b = B at *
    cases A
    · exact accept_d hi lo _ M a e w HF HL _ HB H1 f1 f2
    · cases B
      · exact accept_u hi lo _ M a b e w HF HL _ HB H1 H2 f1 f2 f3
      · exact accept_y hi lo _ M a b e w HF HL _ HB H1 H2 f1 f2 f3
def accN (hi lo : Nat) (e : Int) : Nat := if accB hi lo e then hi else 0
theorem ask_ok (hi lo : Nat) (hh : hi < 18446744073709551616) (hl : lo < 18446744073709551616) (e : Int) (w : World) : Calls Tryd.prog 10 #[U hi, U lo, .int .i64 e] w fun en w' => en = .returned (.tuple #[.int .u64 (accN hi lo e : Int), .bool (accB hi lo e)]) ∧ Below w.heap.size w w' := by
  have HA : ∀ w, Calls Tryd.prog 24 #[.agg #[Fv hi, Fv lo], .int .i64 e] w fun en w' => en = .returned (.tuple #[.int .u64 (accN hi lo e : Int), .bool (accB hi lo e)]) ∧ Below w.heap.size w w' := accept_ok hi lo hh hl e
  have h1 := fun w => frombits hi w
  have h2 := fun w => frombits lo w
  generalize accN hi lo e = R at *
  generalize accB hi lo e = B at *
  clear hh hl
  go_enter Tryd.func10, Tryd.ntmps10
  go_wp2_with fail
  refine (HA _).mono ?_
  rintro e9 v9 ⟨rfl, hw⟩
  go_wp2_with fail
  go_ret2
  exact ⟨rfl, hw⟩
theorem aw1 : accB 4607182418800017408 0 (-60) = true := by decide +kernel
theorem aw2 : accB 4607182418800017408 4368491638549381120 (-60) = false := by decide +kernel
theorem aw3 : accB 4607182418800017408 4354980839667269632 (-56) = true := by decide +kernel
theorem awake25 (w : World) : Calls Tryd.prog 5 #[] w fun en w' => en = .returned (.bool true) ∧ Below w.heap.size w w' := by
  have H1 := ask_ok 4607182418800017408 0 (by decide) (by decide) (-60)
  have H2 := ask_ok 4607182418800017408 4368491638549381120 (by decide) (by decide) (-60)
  have H3 := ask_ok 4607182418800017408 4354980839667269632 (by decide) (by decide) (-56)
  unfold accN at H1 H2 H3
  rw [aw1, if_pos rfl] at H1
  rw [aw2, if_neg (by decide)] at H2
  rw [aw3, if_pos rfl] at H3
  go_enter Tryd.func5, Tryd.ntmps5
  go_wp2_with fail
  refine (H1 _).mono ?_
  rintro e9 v1 ⟨rfl, hb1⟩
  go_wp2_with fail
  refine (H2 _).mono ?_
  rintro e9 v2 ⟨rfl, hb2⟩
  go_wp2_with fail
  refine (H3 _).mono ?_
  rintro e9 v3 ⟨rfl, hb3⟩
  go_wp2_with fail
  go_ret
  exact ⟨rfl, Below.on (Below.on hb1 hb2) hb3⟩
end Go.Proofs.YthfjjadgejmnfaaDoor
namespace Go.Proofs.YthfjjadgejmnfaaDoor
open Go.RowKit
set_option maxRecDepth 20000
set_option maxHeartbeats 0
theorem SzF.ne {hi : Nat} (h : SzF hi) : ux hi ≠ 0 := by
  obtain ⟨q, g, q1, _, g1, g2, g3⟩ := sz_q h.least
  intro h0
  have := ux_abs hi
  rw [g3, h0] at this
  have h3 : 0 < g * 2 ^ q := Nat.mul_pos (by omega) (p2pos q)
  rw [← this] at h3
  exact absurd h3 (by decide)
theorem marg {h l a m X R e : Int} (_h0 : 0 < h) (hR0 : 0 < R) (hR : R ≤ 1267650600228229401496703205376) (h1 : 2 * (X * R) = 3 * h) (hm : 0 ≤ m) (h2 : 9007199254740992 * (X - m) ≤ m) (h3 : 9007199254740992 * (m - X) ≤ m)
    (he : 0 ≤ e) (h4 : 9007199254740992 * e ≤ a) (h5 : a ≤ l + m + e) (h6 : 9007199254740992 * l ≤ h) : 14 * h ≤ 10 * (m * R - e * R) ∧ m * R + e * R ≤ 2 * h - h / 4 - 1 ∧ 0 ≤ e * R ∧ 0 ≤ m * R := by
  have g2 := Int.mul_le_mul_of_nonneg_right h2 (Int.le_of_lt hR0)
  have g3 := Int.mul_le_mul_of_nonneg_right h3 (Int.le_of_lt hR0)
  have g4 := Int.mul_le_mul_of_nonneg_right h4 (Int.le_of_lt hR0)
  have g5 := Int.mul_le_mul_of_nonneg_right h5 (Int.le_of_lt hR0)
  have g6 := Int.mul_le_mul_of_nonneg_right h6 (Int.le_of_lt hR0)
  have g7 : h * R ≤ h * 1267650600228229401496703205376 := Int.mul_le_mul_of_nonneg_left hR (by omega)
  have g8 := Int.mul_nonneg he (Int.le_of_lt hR0)
  have g9 := Int.mul_nonneg hm (Int.le_of_lt hR0)
  rw [Int.mul_assoc] at g2 g3 g4 g6
  rw [Int.sub_mul] at g2 g3
  rw [Int.add_mul, Int.add_mul] at g5
  generalize m * R = M at *
  generalize e * R = E at *
  generalize l * R = L at *
  generalize a * R = A at *
  generalize X * R = Y at *
  generalize h * R = HR at *
  omega
theorem pk_le {k : Nat} (h : k ≤ 100) : ((2 ^ k : Nat) : Int) ≤ 1267650600228229401496703205376 := by
  have : 2 ^ k ≤ 2 ^ 100 := p2le h
  rw [show 2 ^ 100 = 1267650600228229401496703205376 by decide] at this
  omega
theorem acc_marg {hi lo k : Nat} (k1 : 56 ≤ k) (k2 : k ≤ 100) (sz : SzF hi) (d : DdF hi lo) {t : Int} (ht : t = mgR k (ux hi) ∨ t = -mgR k (ux hi)) :
    ∃ e : Int, 0 ≤ e ∧ rv (ux lo + t) - (ux lo + t) ≤ e ∧ -(rv (ux lo + t) - (ux lo + t)) ≤ e ∧ 14 * ((ux hi).natAbs : Int) ≤ 10 * (mgR k (ux hi) * ((2 ^ k : Nat) : Int) - e * ((2 ^ k : Nat) : Int)) ∧ mgR k (ux hi) * ((2 ^ k : Nat) : Int) + e * ((2 ^ k : Nat) : Int) ≤ 2 * ((ux hi).natAbs : Int) - ((ux hi).natAbs : Int) / 4 - 1 ∧ 0 ≤ e * ((2 ^ k : Nat) : Int) ∧ 0 ≤ mgR k (ux hi) * ((2 ^ k : Nat) : Int) := by
  have m1 := (mg_facts rfl k1 k2 sz).1
  have m4 := (mg_facts rfl k1 k2 sz).2.2.2
  have hx := mgX_exact k2 sz
  have hne := sz.ne
  have hl := dd_little d
  have hq := m4.little (by decide)
  rw [show 2 ^ 53 = 9007199254740992 by decide] at hq
  have ht2 : t.natAbs ≤ (mgR k (ux hi)).natAbs := by rcases ht with h | h <;> rw [h] <;> first | exact Nat.le_refl _ | (rw [Int.natAbs_neg]; exact Nat.le_refl _)
  have ha := (rv_rn (acc_bd rfl k1 k2 sz d ht2).2.2.2).little (by decide)
  rw [show 2 ^ 53 = 9007199254740992 by decide] at ha
  have hp : (0 : Int) < ((2 ^ k : Nat) : Int) := Int.ofNat_lt.2 (p2pos k)
  have h1 : 2 * ((mgX k (ux hi) : Int) * ((2 ^ k : Nat) : Int)) = 3 * ((ux hi).natAbs : Int) := by
    rw [p2succ] at hx
    have h2 : mgX k (ux hi) * (2 * 2 ^ k) = 2 * (mgX k (ux hi) * 2 ^ k) := by rw [← Nat.mul_assoc, Nat.mul_comm _ 2, Nat.mul_assoc]
    rw [h2] at hx
    rw [← Int.natCast_mul]
    omega
  have hb : t.natAbs ≤ (mgR k (ux hi)).natAbs := ht2
  clear ht ht2 hx
  generalize mgX k (ux hi) = X at *
  generalize mgR k (ux hi) = m at *
  generalize rv (ux lo + t) = a at *
  generalize ux lo = L at *
  generalize ux hi = H at *
  obtain ⟨e, he⟩ : ∃ e : Nat, e = (L + t - a).natAbs := ⟨_, rfl⟩
  rw [← he] at ha
  refine ⟨(e : Int), by omega, by omega, by omega, ?_⟩
  exact marg (l := (L.natAbs : Int)) (a := (a.natAbs : Int)) (X := (X : Int)) (by omega) hp (pk_le k2) h1 m1 (by omega) (by omega) (by omega) (by omega) (by omega) (by omega)
theorem rn_high {X h g : Int} (hr : Rn 53 X h) (hg : Fl 53 g) (h1 : h < g) : 2 * X ≤ h + g := by
  have := hr.2 _ hg
  omega
theorem vs_next25 {s : Nat} (h1 : 553942754166571008 ≤ s) : vs 4503599627370496 (s + 1) = vs 4503599627370496 s + 2 ^ (s / 4503599627370496 - 1) := by
  obtain ⟨q, m, q1, q2, g1, g2, g3⟩ := sz_q h1
  have e2 : s + 1 = q * 4503599627370496 + (m + 1) := by
    have := g3
    unfold vs at this
    rw [← q2] at this
    have h5 := Nat.eq_of_mul_eq_mul_right (p2pos q) this
    omega
  rw [e2, vs_at q (m + 1) (.inr (by omega)) (by omega), ← q2, g3, Nat.add_mul, Nat.one_mul]
theorem acc_gap {hi lo k : Nat} (hA : AccP hi lo k) (hp : hi < 9223372036854775808) : 14 * ux hi ≤ 5 * ((((2 ^ (hi / 4503599627370496 - 1) : Nat) : Int) - 2 * ux lo) * ((2 ^ k : Nat) : Int)) := by
  obtain ⟨k1, k2, sz, d, dn, up⟩ := hA
  have r2 := rv_rn (acc_bd rfl k1 k2 sz d (Nat.le_refl (mgR k (ux hi)).natAbs)).2.2.1
  rw [up] at r2
  obtain ⟨e2, b1, b2, b3, b4, b5, b6, b7⟩ := acc_marg k1 k2 sz d (t := mgR k (ux hi)) (.inl rfl)
  have hl := sz.least
  have hm := sz.most
  rw [Nat.mod_eq_of_lt hp] at hl hm
  have hn := vs_next25 hl
  have f2 : Fl 53 (ux (hi + 1)) := Fin64.fl ⟨by omega, by omega⟩
  have hg : ux (hi + 1) = ux hi + ((2 ^ (hi / 4503599627370496 - 1) : Nat) : Int) := by rw [ux_pos (by omega), ux_pos hp, hn, Int.natCast_add]
  have hP0 := p2pos (hi / 4503599627370496 - 1)
  rw [hg] at f2
  have hne := sz.ne
  have h0 : 0 ≤ ux hi := by rw [ux_pos hp]; omega
  clear hn hg
  generalize 2 ^ (hi / 4503599627370496 - 1) = G at *
  have l2 := rn_high r2 f2 (by omega)
  have hR : (0 : Int) < ((2 ^ k : Nat) : Int) := Int.ofNat_lt.2 (p2pos k)
  have hh : (((ux hi).natAbs : Nat) : Int) = ux hi := by omega
  rw [hh] at b4
  clear up r2 f2 sz d dn hl hm
  generalize rv (ux lo + mgR k (ux hi)) = b at *
  generalize mgR k (ux hi) = m at *
  have w2 : (2 * (m - e2)) * ((2 ^ k : Nat) : Int) ≤ ((G : Int) - 2 * ux lo) * ((2 ^ k : Nat) : Int) := Int.mul_le_mul_of_nonneg_right (by omega) (Int.le_of_lt hR)
  rw [Int.mul_assoc, Int.sub_mul] at w2
  generalize ((G : Int) - 2 * ux lo) * ((2 ^ k : Nat) : Int) = Y at *
  omega
theorem half_far {hi lo k t : Nat} (sz : SzF hi) (hs2 : 558446353793941504 ≤ hi % 9223372036854775808) (hsg : (9223372036854775808 ≤ hi) ↔ (9223372036854775808 ≤ lo)) (ht : t < 1024) (hlo : lo % 9223372036854775808 = (hi % 9223372036854775808 / 4503599627370496 - 1 - 52) * 4503599627370496 - t) (hlt : lo < 18446744073709551616) (hk : t = 0 ∨ k ≤ 92) : ¬ AccP hi lo k := by
  have pos : ∀ {hi lo : Nat}, SzF hi → hi < 9223372036854775808 → 558446353793941504 ≤ hi → lo = (hi / 4503599627370496 - 1 - 52) * 4503599627370496 - t → ¬ AccP hi lo k := by
    intro hi lo sz hp hl hlo hA
    have hg := acc_gap hA hp
    have k2 := hA.k2
    obtain ⟨q, m, q1, q2, g1, g2, g3⟩ := sz_q (s := hi) (by omega)
    rw [← q2] at hg hlo
    rw [ux_pos hp, g3] at hg
    have hpq : 2 ^ q = 9007199254740992 * 2 ^ (q - 53) := by rw [show 9007199254740992 = 2 ^ 53 by decide, ← Nat.pow_add]; congr 1; omega
    have hpq2 : 2 ^ (q - 53) = 2 * 2 ^ (q - 54) := by rw [← p2succ]; congr 1; omega
    have hv : ux lo = ((4503599627370496 * 2 ^ (q - 53) - t * 2 ^ (q - 54) : Nat) : Int) := by
      have hm := sz.most
      rw [Nat.mod_eq_of_lt hp] at hm
      rw [ux_pos (by omega)]
      congr 1
      by_cases h0 : t = 0
      · subst h0
        have : lo = (q - 53) * 4503599627370496 + 4503599627370496 := by omega
        rw [this, vs_at _ _ (.inr (by decide)) (by decide), Nat.zero_mul, Nat.sub_zero]
      · have : lo = (q - 54) * 4503599627370496 + (9007199254740992 - t) := by omega
        rw [this, vs_at _ _ (.inr (by omega)) (by omega), hpq2, Nat.sub_mul, ← Nat.mul_assoc]
    have hP := p2pos (q - 54)
    have hR : (0 : Int) < ((2 ^ k : Nat) : Int) := Int.ofNat_lt.2 (p2pos k)
    rw [hv, hpq, hpq2] at hg
    generalize 2 ^ (q - 54) = G at *
    have htG : t * G ≤ 1023 * G := Nat.mul_le_mul_right _ (by omega)
    have hmG : 4503599627370496 * (9007199254740992 * (2 * G)) ≤ m * (9007199254740992 * (2 * G)) := Nat.mul_le_mul_right _ g1
    have e1 : (((9007199254740992 * (2 * G) : Nat) : Int) - 2 * ((4503599627370496 * (2 * G) - t * G : Nat) : Int)) = 2 * ((t * G : Nat) : Int) := by omega
    rw [e1] at hg
    rcases hk with h0 | h0
    · subst h0
      rw [Nat.zero_mul] at hg
      simp only [Int.natCast_zero, Int.mul_zero, Int.zero_mul] at hg
      omega
    · have hk9 : ((2 ^ k : Nat) : Int) ≤ 4951760157141521099596496896 := by
        have : 2 ^ k ≤ 2 ^ 92 := p2le h0
        rw [show 2 ^ 92 = 4951760157141521099596496896 by decide] at this
        omega
      have h5 : 2 * ((t * G : Nat) : Int) * ((2 ^ k : Nat) : Int) ≤ 2 * ((1023 * G : Nat) : Int) * 4951760157141521099596496896 := Int.mul_le_mul (by omega) hk9 (Int.le_of_lt hR) (by omega)
      omega
  have hlt2 := sz.fin.lt
  intro hA
  by_cases hp : hi < 9223372036854775808
  · rw [Nat.mod_eq_of_lt hp] at hs2 hlo
    rw [Nat.mod_eq_of_lt (by omega)] at hlo
    exact pos sz hp hs2 hlo hA
  · have hF := hA.flip
    obtain ⟨f1, f2, f3⟩ := flip_ux hlt2
    have hp2 : flipS hi = hi % 9223372036854775808 := by unfold flipS; rw [if_pos (by omega)]; omega
    have hp3 : flipS lo = lo % 9223372036854775808 := by unfold flipS; rw [if_pos (by omega)]; omega
    have szF := hF.sz
    rw [hp2, hp3] at hF
    rw [hp2] at szF
    exact pos szF (by omega) hs2 hlo hF
end Go.Proofs.YthfjjadgejmnfaaDoor
