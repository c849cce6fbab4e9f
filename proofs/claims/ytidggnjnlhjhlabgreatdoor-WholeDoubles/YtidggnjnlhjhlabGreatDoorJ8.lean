import Derived.Laws.FloatArith
import Derived.Test.YtidggnjnlhjhlabGreatDoorVal
import Derived.Deep.Draws
import Derived.Test.YtidggnjnlhjhlabGreatDoorChecked
import Derived.Test.YtidggnjnlhjhlabGreatDoorMem
import Derived.Test.YtidggnjnlhjhlabGreatDoorSmall
import Derived.BigRegion
import Derived.Shelf.Spec.BitsCarry
namespace Go.Proofs.YtidggnjnlhjhlabGreatDoor
open Go.RowKit
set_option maxRecDepth 20000
set_option maxHeartbeats 0
def Fl (p : Nat) (x : Int) : Prop := ∃ q : Nat, ((2 ^ q : Nat) : Int) ∣ x ∧ x.natAbs ≤ 2 ^ (p + q)
structure Rn (p : Nat) (x s : Int) : Prop where
  fl : Fl p s
  near : ∀ z, Fl p z → (s - x).natAbs ≤ (z - x).natAbs

theorem p2pos (n : Nat) : 0 < 2 ^ n := Nat.pow_pos (by omega)
theorem p2le {a b : Nat} (h : a ≤ b) : 2 ^ a ≤ 2 ^ b := Nat.pow_le_pow_right (by omega) h
theorem p2lt {a b : Nat} (h : 2 ^ a < 2 ^ b) : a < b := Nat.lt_of_not_le fun k => by have := p2le k; omega
theorem p2succ (a : Nat) : 2 ^ (a + 1) = 2 * 2 ^ a := by rw [Nat.pow_succ, Nat.mul_comm]
theorem p2dvd {a b : Nat} (h : a ≤ b) : ((2 ^ a : Nat) : Int) ∣ ((2 ^ b : Nat) : Int) := Int.natCast_dvd_natCast.2 (Nat.pow_dvd_pow 2 h)
theorem dvd_abs {d : Nat} {x : Int} (h : (d : Int) ∣ x) : d ∣ x.natAbs := Int.ofNat_dvd_left.1 h
theorem le_of_dvd2 {a b d : Nat} (ha : d ∣ a) (hb : d ∣ b) (h : a < b) : a + d ≤ b := by
  obtain ⟨u, rfl⟩ := ha
  obtain ⟨v, rfl⟩ := hb
  have h1 : u < v := Nat.lt_of_mul_lt_mul_left h
  have h2 : d * (u + 1) ≤ d * v := Nat.mul_le_mul_left d h1
  rw [Nat.mul_add] at h2
  omega
theorem Fl.zero (p : Nat) : Fl p 0 := ⟨0, ⟨0, by omega⟩, by simp⟩
theorem Fl.neg {p : Nat} {x : Int} (h : Fl p x) : Fl p (-x) := by
  obtain ⟨q, h1, h2⟩ := h
  exact ⟨q, Int.dvd_neg.2 h1, by rw [Int.natAbs_neg]; exact h2⟩
theorem Fl.small {p : Nat} {x : Int} (h : x.natAbs ≤ 2 ^ p) : Fl p x := ⟨0, ⟨x, by simp⟩, h⟩
theorem Fl.pow (p n : Nat) : Fl p ((2 ^ n : Nat) : Int) := ⟨n, ⟨1, by simp⟩, by rw [Int.natAbs_natCast]; exact p2le (by omega)⟩
theorem Fl.dvd {p : Nat} {x : Int} (hp : 1 ≤ p) (h : Fl p x) {m : Nat} (hm : 2 ^ (p - 1 + m) ≤ x.natAbs) : ((2 ^ m : Nat) : Int) ∣ x := by
  obtain ⟨q, h1, h2⟩ := h
  rcases Nat.lt_or_ge q m with h3 | h3
  · have h4 : x.natAbs = 2 ^ (p + q) := by
      have h5 : 2 ^ (p - 1 + m) ≤ 2 ^ (p + q) := Nat.le_trans hm h2
      have h6 : p + q ≤ p - 1 + m := by omega
      have := p2le h6
      omega
    have h5 : 2 ^ m ∣ x.natAbs := by
      rw [h4]
      refine Nat.pow_dvd_pow 2 ?_
      have h6 : ¬ (p + q < p - 1 + m) := fun h7 => by
        have := Nat.pow_lt_pow_right (show 1 < 2 by omega) h7
        omega
      omega
    exact Int.ofNat_dvd_left.2 h5
  · exact Int.dvd_trans (p2dvd h3) h1
theorem place {p : Nat} (hp : 1 ≤ p) (x : Int) : ∃ m : Nat, x.natAbs < 2 ^ (p + m) ∧ (m = 0 ∨ 2 ^ (p - 1 + m) ≤ x.natAbs) := by
  by_cases h0 : x.natAbs = 0
  · exact ⟨0, by rw [h0]; exact p2pos _, .inl rfl⟩
  · have h1 : 2 ^ x.natAbs.log2 ≤ x.natAbs := Nat.log2_self_le h0
    have h2 : x.natAbs < 2 ^ (x.natAbs.log2 + 1) := Nat.lt_log2_self
    refine ⟨x.natAbs.log2 + 1 - p, Nat.lt_of_lt_of_le h2 (p2le (by omega)), ?_⟩
    by_cases h3 : x.natAbs.log2 + 1 - p = 0
    · exact .inl h3
    · refine .inr (Nat.le_trans (p2le ?_) h1)
      omega
theorem Rn.ex {p : Nat} {x s : Int} (h : Rn p x s) (hx : Fl p x) : s = x := by
  have := h.near x hx
  omega
theorem Rn.neg {p : Nat} {x s : Int} (h : Rn p x s) : Rn p (-x) (-s) := by
  refine ⟨h.fl.neg, fun z hz => ?_⟩
  have := h.near (-z) hz.neg
  omega
theorem Rn.lo {p : Nat} {x s z : Int} (h : Rn p x s) (hz : Fl p z) (hx : z ≤ x) : z ≤ s := by
  have := h.near z hz
  omega
theorem Rn.hi {p : Nat} {x s z : Int} (h : Rn p x s) (hz : Fl p z) (hx : x ≤ z) : s ≤ z := by
  have := h.near z hz
  omega
theorem Rn.err {p : Nat} {x s : Int} (h : Rn p x s) {m : Nat} (hx : x.natAbs ≤ 2 ^ (p + m)) : 2 * (s - x).natAbs ≤ 2 ^ m := by
  have hd : 0 < 2 ^ m := p2pos m
  have hN : 2 ^ (p + m) = 2 ^ p * 2 ^ m := Nat.pow_add ..
  obtain ⟨d, hde⟩ : ∃ d, d = 2 ^ m := ⟨_, rfl⟩
  obtain ⟨N, hNe⟩ : ∃ N, N = 2 ^ p := ⟨_, rfl⟩
  rw [← hde] at hd hN
  rw [← hNe] at hN
  rw [hN] at hx
  -- the multiple of d that is nearest
  obtain ⟨k, hk⟩ : ∃ k : Int, k = (2 * x + d) / (2 * d) := ⟨_, rfl⟩
  have h1 : 2 * (d : Int) * k ≤ 2 * x + d := by rw [hk]; exact Int.mul_ediv_self_le (by omega)
  have h2 : 2 * x + d < 2 * (d : Int) * k + 2 * d := by rw [hk]; exact Int.lt_mul_ediv_self_add (by omega)
  have e1 : 2 * (d : Int) * k = 2 * (d * k) := Int.mul_assoc ..
  rw [e1] at h1 h2
  have h3 : Fl p (d * k) := by
    refine ⟨m, ⟨k, by rw [hde]⟩, ?_⟩
    rw [hN]
    have h4 : k ≤ N := by
      refine Int.le_of_lt_add_one (Int.lt_of_mul_lt_mul_left (a := (d : Int)) ?_ (by omega))
      rw [Int.mul_add, Int.mul_one]
      have : (x.natAbs : Int) ≤ (N : Int) * d := by exact_mod_cast hx
      rw [Int.mul_comm] at this
      omega
    have h5 : -(N : Int) ≤ k := by
      refine Int.le_of_lt_add_one (Int.lt_of_mul_lt_mul_left (a := (d : Int)) ?_ (by omega))
      rw [Int.mul_add, Int.mul_one, Int.mul_neg]
      have : (x.natAbs : Int) ≤ (N : Int) * d := by exact_mod_cast hx
      rw [Int.mul_comm] at this
      omega
    rw [Int.natAbs_mul, Int.natAbs_natCast, Nat.mul_comm]
    exact Nat.mul_le_mul_right _ (by omega)
  have h6 := h.near _ h3
  rw [← hde]
  omega
theorem Rn.dvd {p : Nat} {x s : Int} (hp : 1 ≤ p) (h : Rn p x s) {m : Nat} (hx : 2 ^ (p - 1 + m) ≤ x.natAbs) : ((2 ^ m : Nat) : Int) ∣ s ∧ 2 ^ (p - 1 + m) ≤ s.natAbs := by
  have h1 : 2 ^ (p - 1 + m) ≤ s.natAbs := by
    rcases Int.le_total 0 x with h0 | h0
    · have := h.lo (Fl.pow p (p - 1 + m)) (by omega)
      omega
    · have := h.neg.lo (Fl.pow p (p - 1 + m)) (by omega)
      omega
  exact ⟨h.fl.dvd hp h1, h1⟩
theorem err_fl {p : Nat} {a b s : Int} (hp : 1 ≤ p) (ha : Fl p a) (hb : Fl p b) (h : Rn p (a + b) s) : Fl p (a + b - s) := by
  have key : ∀ {a b s : Int} {i j : Nat}, Fl p a → Rn p (a + b) s → ((2 ^ i : Nat) : Int) ∣ a → ((2 ^ j : Nat) : Int) ∣ b → b.natAbs ≤ 2 ^ (p + j) → j ≤ i → Fl p (a + b - s) := fun {a b s i j} ha h h1 h2 h3 hij => by
    have h4 : ((2 ^ j : Nat) : Int) ∣ a := Int.dvd_trans (p2dvd hij) h1
    have h5 : ((2 ^ j : Nat) : Int) ∣ a + b := Int.dvd_add h4 h2
    rcases Nat.lt_or_ge (2 ^ (p + j)) (a + b).natAbs with h6 | h6
    · have h7 := (h.dvd hp (m := j) (Nat.le_trans (p2le (by omega)) (Nat.le_of_lt h6))).1
      refine ⟨j, Int.dvd_sub h5 h7, ?_⟩
      have h8 := h.near a ha
      omega
    · have := h.ex ⟨j, h5, h6⟩
      rw [this, Int.sub_self]; exact Fl.zero p
  obtain ⟨i, a1, a2⟩ := ha
  obtain ⟨j, b1, b2⟩ := hb
  rcases Nat.le_total j i with hij | hij
  · exact key ⟨i, a1, a2⟩ h a1 b1 b2 hij
  · have := key (s := s) ⟨j, b1, b2⟩ (by rw [Int.add_comm]; exact h) b1 a1 a2 hij
    rw [Int.add_comm]; exact this
theorem fast_fl {p : Nat} {a b s : Int} (hp : 2 ≤ p) (ha : Fl p a) (hb : Fl p b) (h : Rn p (a + b) s) (hab : b.natAbs ≤ a.natAbs) : Fl p (s - a) := by
  obtain ⟨m, m1, m2⟩ := place (show 1 ≤ p by omega) (a + b)
  obtain ⟨k, k1, k2⟩ := place (show 1 ≤ p by omega) a
  have he := h.err (m := m) (Nat.le_of_lt m1)
  rcases m2 with m0 | m2
  · subst m0
    have : s = a + b := by simp at he; omega
    rw [this, show a + b - a = b by omega]; exact hb
  have hs := (h.dvd (by omega) m2).1
  have hka : ((2 ^ k : Nat) : Int) ∣ a := by
    rcases k2 with k0 | k2
    · subst k0; exact ⟨a, by simp⟩
    · exact ha.dvd (by omega) k2
  by_cases hm0 : m = 0
  · subst hm0
    have : s = a + b := by simp at he; omega
    rw [this, show a + b - a = b by omega]; exact hb
  obtain ⟨n, rfl⟩ : ∃ n, m = n + 1 := ⟨m - 1, by omega⟩
  have hmk : n + 1 ≤ k + 1 := by
    have h1 : 2 ^ (p - 1 + (n + 1)) < 2 ^ (p + k + 1) := by
      have := p2succ (p + k)
      omega
    have := p2lt h1
    omega
  rw [p2succ] at he
  rcases Nat.lt_or_ge k (n + 1) with h1 | h1
  · obtain rfl : n = k := by omega
    have hb2 : a.natAbs + 2 ^ n ≤ 2 ^ (p + n) := le_of_dvd2 (dvd_abs hka) (Nat.pow_dvd_pow 2 (by omega)) k1
    refine ⟨n, Int.dvd_sub (Int.dvd_trans (p2dvd (by omega)) hs) hka, ?_⟩
    omega
  · by_cases hb3 : ((2 ^ (n + 1) : Nat) : Int) ∣ b
    · have h2 : ((2 ^ (n + 1) : Nat) : Int) ∣ a := Int.dvd_trans (p2dvd h1) hka
      have := h.ex ⟨n + 1, Int.dvd_add h2 hb3, Nat.le_of_lt m1⟩
      rw [this, show a + b - a = b by omega]; exact hb
    · have h3 : b.natAbs < 2 ^ (p - 1 + (n + 1)) := Nat.lt_of_not_le fun h4 => hb3 (hb.dvd (by omega) h4)
      refine ⟨n + 1, Int.dvd_sub hs (Int.dvd_trans (p2dvd h1) hka), ?_⟩
      have h4 : 2 ^ (p + (n + 1)) = 2 * 2 ^ (p - 1 + (n + 1)) := by rw [← p2succ]; congr 1; omega
      have h5 : 2 ^ n ≤ 2 ^ (p - 1 + (n + 1)) := p2le (by omega)
      omega
theorem fast_sum {p : Nat} {a b s t e : Int} (hp : 2 ≤ p) (ha : Fl p a) (hb : Fl p b) (hab : a = 0 ∨ b.natAbs ≤ a.natAbs) (h1 : Rn p (a + b) s) (h2 : Rn p (s - a) t) (h3 : Rn p (b - t) e) : s + e = a + b := by
  have hf : Fl p (s - a) := by
    rcases hab with h | h
    · subst h
      rw [Int.zero_add] at h1
      rw [h1.ex hb, Int.sub_zero]; exact hb
    · exact fast_fl hp ha hb h1 h
  have ht := h2.ex hf
  have hx := err_fl (by omega) ha hb h1
  have he := h3.ex (by rw [ht, show b - (s - a) = a + b - s by omega]; exact hx)
  omega
theorem two_sum_a {p : Nat} {a b s b' a' da db : Int} (hp : 3 ≤ p) (ha : Fl p a) (hb : Fl p b) (h1 : Rn p (a + b) s) (h2 : Rn p (s - a) b') (h3 : Rn p (s - b') a') (h4 : Rn p (a - a') da) (h5 : Rn p (b - b') db) : a' + b' = s ∧ da + db = a + b - s := by
  have hx := err_fl (by omega) ha hb h1
  by_cases hf : Fl p (s - a)
  · have e2 := h2.ex hf
    have e3 := h3.ex (by rw [e2, show s - (s - a) = a by omega]; exact ha)
    have e4 := h4.ex (by rw [e3, e2, show a - (s - (s - a)) = 0 by omega]; exact Fl.zero p)
    have e5 := h5.ex (by rw [e2, show b - (s - a) = a + b - s by omega]; exact hx)
    omega
  have hab : a.natAbs < b.natAbs := Nat.lt_of_not_le fun h => hf (fast_fl (by omega) ha hb h1 h)
  obtain ⟨m, m1, m2⟩ := place (show 1 ≤ p by omega) (a + b)
  obtain ⟨k, k1, k2⟩ := place (show 1 ≤ p by omega) b
  have he := h1.err (m := m) (Nat.le_of_lt m1)
  have hm0 : m ≠ 0 := fun h => hf (by
    subst h
    have : s = a + b := by simp at he; omega
    rw [this, show a + b - a = b by omega]; exact hb)
  have hne : s ≠ a + b := fun h => hf (by rw [h, show a + b - a = b by omega]; exact hb)
  have m2 : 2 ^ (p - 1 + m) ≤ (a + b).natAbs := by rcases m2 with h | h; exact absurd h hm0; exact h
  have hs := (h1.dvd (by omega) m2).1
  have hkb : ((2 ^ k : Nat) : Int) ∣ b := by
    rcases k2 with k0 | k2
    · subst k0; exact ⟨b, by simp⟩
    · exact hb.dvd (by omega) k2
  have hmk : m ≤ k + 1 := by
    have h1 : 2 ^ (p - 1 + m) < 2 ^ (p + k + 1) := by
      have := p2succ (p + k)
      omega
    have := p2lt h1
    omega
  have hbk : b.natAbs + 2 ^ k ≤ 2 ^ (p + k) := le_of_dvd2 (dvd_abs hkb) (Nat.pow_dvd_pow 2 (by omega)) k1
  have hak : ¬ ((2 ^ k : Nat) : Int) ∣ a := fun h => by
    rcases Nat.lt_or_ge k m with h7 | h7
    · obtain rfl : m = k + 1 := by omega
      refine hf ⟨k, Int.dvd_sub (Int.dvd_trans (p2dvd (by omega)) hs) h, ?_⟩
      rw [p2succ] at he
      omega
    · exact hne (h1.ex ⟨m, Int.dvd_add (Int.dvd_trans (p2dvd h7) h) (Int.dvd_trans (p2dvd h7) hkb), Nat.le_of_lt m1⟩)
  have hk0 : k ≠ 0 := fun h => hak (by subst h; exact ⟨a, by simp⟩)
  have k2 : 2 ^ (p - 1 + k) ≤ b.natAbs := by rcases k2 with h | h; exact absurd h hk0; exact h
  have hal : a.natAbs < 2 ^ (p - 1 + k) := Nat.lt_of_not_le fun h => hak (ha.dvd (by omega) h)
  obtain ⟨j, rfl⟩ : ∃ j, k = j + 1 := ⟨k - 1, by omega⟩
  obtain ⟨r, rfl⟩ : ∃ r, p = r + 3 := ⟨p - 3, by omega⟩
  -- the powers that are met
  have q0 : 2 ^ (j + 1) = 2 * 2 ^ j := p2succ j
  have q1 : 2 ^ (r + 3 - 1 + (j + 1)) = 2 * 2 ^ (r + 2 + j) := by rw [← p2succ]; congr 1
  have q2 : 2 ^ (r + 3 + (j + 1)) = 4 * 2 ^ (r + 2 + j) := by
    rw [show r + 3 + (j + 1) = r + 2 + j + 1 + 1 by omega, p2succ, p2succ]; omega
  have q3 : 4 * 2 ^ j ≤ 2 ^ (r + 2 + j) := by
    rw [show r + 2 + j = r + j + 1 + 1 by omega, p2succ, p2succ]
    have : 2 ^ j ≤ 2 ^ (r + j) := p2le (by omega)
    omega
  have q4 : 2 ^ (r + 3 + j) = 2 * 2 ^ (r + 2 + j) := by rw [← p2succ]; congr 1; omega
  rw [q0] at hbk
  rw [q1] at k2 hal
  rw [q2] at hbk
  have hmj : j ≤ m := Nat.le_of_not_lt fun h => by
    -- a sum so small: a is smaller still
    have ham : ¬ ((2 ^ m : Nat) : Int) ∣ a := fun h7 => hne (h1.ex ⟨m, Int.dvd_add h7 (Int.dvd_trans (p2dvd (by omega)) hkb), Nat.le_of_lt m1⟩)
    have h8 : a.natAbs < 2 ^ (r + 3 - 1 + m) := Nat.lt_of_not_le fun h => ham (ha.dvd (by omega) h)
    have h9 : 2 ^ (r + 3 - 1 + m) ≤ 2 ^ (r + 2 + j) := p2le (by omega)
    have h10 : 2 ^ (r + 3 + m) ≤ 2 ^ (r + 2 + j) := p2le (by omega)
    omega
  have hsj : ((2 ^ j : Nat) : Int) ∣ s := Int.dvd_trans (p2dvd hmj) hs
  have he2 : 2 * (s - (a + b)).natAbs ≤ 4 * 2 ^ j := by
    have h7 : 2 ^ m ≤ 2 ^ (j + 1 + 1) := p2le (by omega)
    rw [p2succ, p2succ] at h7
    omega
  -- b'
  have hy := h2.err (m := j + 1) (by rw [q2]; omega)
  have hb' := (h2.dvd (by omega) (m := j) (by rw [show r + 3 - 1 + j = r + 2 + j by omega]; omega)).1
  rw [q0] at hy
  have hal2 : a.natAbs + 2 ^ j ≤ 2 * 2 ^ (r + 2 + j) := by
    by_cases h7 : ((2 ^ j : Nat) : Int) ∣ a
    · refine le_of_dvd2 (dvd_abs h7) ?_ hal
      rw [← q4]; exact Nat.pow_dvd_pow 2 (by omega)
    · have h8 : a.natAbs < 2 ^ (r + 3 - 1 + j) := Nat.lt_of_not_le fun h => h7 (ha.dvd (by omega) h)
      rw [show r + 3 - 1 + j = r + 2 + j by omega] at h8
      omega
  have e3 := h3.ex ⟨j, Int.dvd_sub hsj hb', by rw [q4]; omega⟩
  have hxa : Fl (r + 3) (s - a - b') := by
    have := err_fl (p := r + 3) (a := s) (b := -a) (s := b') (by omega) h1.fl ha.neg (by rw [← Int.sub_eq_add_neg]; exact h2)
    rw [← Int.sub_eq_add_neg] at this
    exact this
  have e4 := h4.ex (by rw [e3, show a - (s - b') = -(s - a - b') by omega]; exact hxa.neg)
  have e5 := h5.ex ⟨j, Int.dvd_sub (Int.dvd_trans (p2dvd (by omega)) hkb) hb', by rw [q4]; omega⟩
  omega
theorem two_sum {p : Nat} {a b s b' a' da db e : Int} (hp : 3 ≤ p) (ha : Fl p a) (hb : Fl p b) (h1 : Rn p (a + b) s) (h2 : Rn p (s - a) b') (h3 : Rn p (s - b') a') (h4 : Rn p (a - a') da) (h5 : Rn p (b - b') db) (h6 : Rn p (da + db) e) : s + e = a + b := by
  have h := (two_sum_a hp ha hb h1 h2 h3 h4 h5).2
  have := h6.ex (by rw [h]; exact err_fl (by omega) ha hb h1)
  omega
theorem Rn.little {p : Nat} {x s : Int} (hp : 1 ≤ p) (h : Rn p x s) : 2 ^ p * (x - s).natAbs ≤ s.natAbs := by
  obtain ⟨m, m1, m2⟩ := place hp x
  have he := h.err (m := m) (Nat.le_of_lt m1)
  by_cases hm0 : m = 0
  · subst hm0
    have : s = x := by simp at he; omega
    rw [this, Int.sub_self]; simp
  have m2 : 2 ^ (p - 1 + m) ≤ x.natAbs := by rcases m2 with h | h; exact absurd h hm0; exact h
  have h2 := (h.dvd hp m2).2
  obtain ⟨q, rfl⟩ : ∃ q, p = q + 1 := ⟨p - 1, by omega⟩
  have h3 : 2 ^ (q + 1) * (x - s).natAbs = 2 ^ q * (2 * (s - x).natAbs) := by
    rw [p2succ, show (x - s).natAbs = (s - x).natAbs by omega, Nat.mul_comm 2, Nat.mul_assoc]
  rw [h3]
  refine Nat.le_trans (Nat.mul_le_mul_left _ he) ?_
  rw [← Nat.pow_add]
  exact h2
end Go.Proofs.YtidggnjnlhjhlabGreatDoor
namespace Go.Proofs.YtidggnjnlhjhlabGreatDoor
set_option maxRecDepth 20000
set_option maxHeartbeats 0
theorem rn_rel {x s : Int} (h : Rn 53 x s) : 9007199254740992 * (x - s).natAbs ≤ x.natAbs := by
  obtain ⟨m, h1, h2⟩ := place (p := 53) (by decide) x
  have h3 := h.err (Nat.le_of_lt h1)
  rcases h2 with rfl | h2
  · have : (s - x).natAbs = 0 := by omega
    have : (x - s).natAbs = 0 := by omega
    omega
  · have h4 : 2 ^ (53 - 1 + m) = 4503599627370496 * 2 ^ m := by rw [Nat.pow_add]
    rw [h4] at h2
    omega
theorem rn_lit {x s : Int} (h : Rn 53 x s) : 9007199254740992 * (x - s).natAbs ≤ s.natAbs := by
  have := h.little (by decide)
  rwa [show (2 : Nat) ^ 53 = 9007199254740992 by decide] at this
theorem sterb {p : Nat} {x y : Int} (hx : Fl p x) (hy : Fl p y) (h1 : (x + y).natAbs ≤ x.natAbs) (h2 : (x + y).natAbs ≤ y.natAbs) : Fl p (x + y) := by
  obtain ⟨q, a1, a2⟩ := hx
  obtain ⟨r, b1, b2⟩ := hy
  rcases Nat.le_total q r with h | h
  · exact ⟨q, Int.dvd_add a1 (Int.dvd_trans (p2dvd h) b1), Nat.le_trans h1 a2⟩
  · exact ⟨r, Int.dvd_add (Int.dvd_trans (p2dvd h) a1) b1, Nat.le_trans h2 b2⟩
theorem left_le {a b t l s : Int} (ha : Fl 53 s) (h : Rn 53 (a + b) t) (hl : t + l = a + b) (h1 : (s + t).natAbs ≤ s.natAbs) (h2 : (s + t).natAbs ≤ t.natAbs) (h0 : s + t ≠ 0) : l.natAbs ≤ (s + t).natAbs := by
  obtain ⟨m, k1, k2⟩ := place (p := 53) (by decide) (a + b)
  have k3 := h.err (Nat.le_of_lt k1)
  have e1 : (t - (a + b)).natAbs = l.natAbs := by omega
  rw [e1] at k3
  by_cases hm : m = 0
  · subst hm
    have : l.natAbs = 0 := by omega
    omega
  have k4 := k2.resolve_left hm
  obtain ⟨d1, d2⟩ := h.dvd (by decide) k4
  obtain ⟨j, rfl⟩ : ∃ j, m = j + 1 := ⟨m - 1, by omega⟩
  have k5 : 2 ^ (53 - 1 + j) ≤ s.natAbs := by
    have h4 : 2 ^ (53 - 1 + (j + 1)) = 2 * 2 ^ (53 - 1 + j) := by rw [← Nat.add_assoc, p2succ]
    omega
  have d3 := ha.dvd (by decide) k5
  have d4 : ((2 ^ j : Nat) : Int) ∣ s + t := Int.dvd_add d3 (Int.dvd_trans (p2dvd (by omega)) d1)
  have k6 : 2 ^ j ≤ (s + t).natAbs := Nat.le_of_dvd (by omega) (dvd_abs d4)
  rw [p2succ] at k3
  omega
theorem add_bnd {S X L H K e C Z V J f : Nat} (hX : 9007199254740992 * X ≤ 3 * S) (hL : 9007199254740992 * L ≤ S) (hH : H ≤ X + K) (hK : 9007199254740992 * K ≤ X) (he : 9007199254740992 * e ≤ L + H) (hC : C ≤ L + H + e) (hZ : Z ≤ S + L) (hV : V ≤ Z + C) (hJ : 9007199254740992 * J ≤ V) (hf : 9007199254740992 * f ≤ K + J) : 81129638414606681695789005144064 * (e + f) ≤ 8 * (S - X) ∧ X ≤ S := by
  omega
theorem add_big {S X L H K e C Z V J f v : Nat} (hX : 9007199254740992 * X ≤ 3 * S) (hL : 9007199254740992 * L ≤ S) (hH : H ≤ X + K) (hK : 9007199254740992 * K ≤ X) (he : 9007199254740992 * e ≤ L + H) (hC : C ≤ L + H + e) (hZ : S ≤ Z + L) (_hZ2 : Z ≤ S + L) (hV : Z ≤ V + C) (_hV2 : V ≤ Z + C) (hJ : 9007199254740992 * J ≤ V) (hf : 9007199254740992 * f ≤ K + J) (hv : V ≤ v + J) : K + J + f ≤ v := by
  omega
theorem add_bnd2 {S K J f V : Nat} (hK : 9007199254740992 * K ≤ 3 * S) (hJ : 9007199254740992 * J ≤ S) (hf : 9007199254740992 * f ≤ K + J) (hV : S ≤ V + J) : 81129638414606681695789005144064 * f ≤ 8 * (S - K) ∧ K ≤ S ∧ K + J + f ≤ V := by
  omega
theorem big3 {x y : Int} (h : ¬ ((x + y).natAbs ≤ x.natAbs ∧ (x + y).natAbs ≤ y.natAbs)) : x.natAbs + y.natAbs ≤ 3 * (x + y).natAbs := by omega
theorem ab1 {a b c : Int} (h : a + b = c) : a.natAbs ≤ c.natAbs + b.natAbs := by omega
theorem ab2 {a b c : Int} (h : a + b = c) : c.natAbs ≤ a.natAbs + b.natAbs := by omega
theorem ab3 {a b : Int} : a.natAbs ≤ b.natAbs + (b - a).natAbs := by omega
theorem ab4 {a b c : Int} (h : a + b = c) : c - a = b := by omega
theorem ab5 {a b : Int} : (a + b).natAbs ≤ a.natAbs + b.natAbs := by omega
theorem ab6 {a b : Int} : a.natAbs ≤ (a + b).natAbs + b.natAbs := by omega
theorem form_l {x xl : Int} (h : Rn 53 (x + xl) x) : 9007199254740992 * xl.natAbs ≤ x.natAbs := by
  have := rn_lit h
  rwa [show x + xl - x = xl by omega] at this
theorem half_X {x y xl yl : Int} {S : Nat} (h3 : x.natAbs + y.natAbs ≤ 3 * S) (lx : 9007199254740992 * xl.natAbs ≤ x.natAbs) (ly : 9007199254740992 * yl.natAbs ≤ y.natAbs) : 9007199254740992 * (xl + yl).natAbs ≤ 3 * S := by
  have := ab5 (a := xl) (b := yl)
  omega
theorem fin_err {x xl y yl sh sl th tl c vh vl w : Int} (s2 : sh + sl = x + y) (t2 : th + tl = xl + yl) (v2 : vh + vl = sh + c) : vh + w - (x + xl + (y + yl)) = -((sl + th - c) + (tl + vl - w)) := by omega
theorem tot_ge {x xl y yl : Int} : (x + y).natAbs ≤ (x + xl + (y + yl)).natAbs + (xl + yl).natAbs := by omega
theorem case_a {x xl y yl sh sl th tl c vh vl w : Int} (h3 : x.natAbs + y.natAbs ≤ 3 * (x + y).natAbs) (lx : 9007199254740992 * xl.natAbs ≤ x.natAbs) (ly : 9007199254740992 * yl.natAbs ≤ y.natAbs)
    (ls : 9007199254740992 * sl.natAbs ≤ (x + y).natAbs) (s2 : sh + sl = x + y) (lt : 9007199254740992 * tl.natAbs ≤ (xl + yl).natAbs) (t2 : th + tl = xl + yl) (lc : 9007199254740992 * (sl + th - c).natAbs ≤ (sl + th).natAbs) (lv : 9007199254740992 * vl.natAbs ≤ (sh + c).natAbs) (v2 : vh + vl = sh + c) (lw : 9007199254740992 * (tl + vl - w).natAbs ≤ (tl + vl).natAbs) :
    81129638414606681695789005144064 * (vh + w - (x + xl + (y + yl))).natAbs ≤ 8 * (x + xl + (y + yl)).natAbs ∧ w.natAbs ≤ vh.natAbs := by
  have hX := half_X h3 lx ly
  have hH := ab1 t2
  have he := Nat.le_trans lc ab5
  have hC : c.natAbs ≤ sl.natAbs + th.natAbs + (sl + th - c).natAbs := Nat.le_trans ab3 (Nat.add_le_add_right ab5 _)
  have hZ := ab1 s2
  have hZ2 := ab2 s2
  have hV := ab5 (a := sh) (b := c)
  have hV2 := ab6 (a := sh) (b := c)
  have hf := Nat.le_trans lw ab5
  have hv := ab2 v2
  have k := add_bnd hX ls hH lt he hC hZ hV lv hf
  have k2 := add_big hX ls hH lt he hC hZ2 hZ hV2 hV lv hf hv
  have e1 : (vh + w - (x + xl + (y + yl))).natAbs ≤ (sl + th - c).natAbs + (tl + vl - w).natAbs := by
    rw [fin_err s2 t2 v2, Int.natAbs_neg]; exact ab5
  have e4 : w.natAbs ≤ tl.natAbs + vl.natAbs + (tl + vl - w).natAbs := Nat.le_trans ab3 (Nat.add_le_add_right ab5 _)
  exact ⟨Nat.le_trans (Nat.le_trans (Nat.mul_le_mul_left _ e1) k.1) (Nat.mul_le_mul_left _ (Nat.sub_le_of_le_add tot_ge)), Nat.le_trans e4 k2⟩
theorem b_err {x xl y yl sh c tl vh vl w : Int} (s2 : sh = x + y) (t2 : c + tl = xl + yl) (v2 : vh + vl = sh + c) : vh + w - (x + xl + (y + yl)) = -(tl + vl - w) := by omega
theorem b_tot {x xl y yl sh c tl : Int} (s2 : sh = x + y) (t2 : c + tl = xl + yl) : (sh + c).natAbs ≤ (x + xl + (y + yl)).natAbs + tl.natAbs := by omega
theorem case_b {x xl y yl sh c tl vh vl w : Int} (h3 : sh.natAbs + c.natAbs ≤ 3 * (sh + c).natAbs) (s2 : sh = x + y) (lt : 9007199254740992 * tl.natAbs ≤ c.natAbs) (t2 : c + tl = xl + yl) (lv : 9007199254740992 * vl.natAbs ≤ (sh + c).natAbs) (v2 : vh + vl = sh + c) (lw : 9007199254740992 * (tl + vl - w).natAbs ≤ (tl + vl).natAbs) :
    81129638414606681695789005144064 * (vh + w - (x + xl + (y + yl))).natAbs ≤ 8 * (x + xl + (y + yl)).natAbs ∧ w.natAbs ≤ vh.natAbs := by
  have hK : 9007199254740992 * tl.natAbs ≤ 3 * (sh + c).natAbs := Nat.le_trans lt (Nat.le_trans (Nat.le_add_left _ _) h3)
  have k := add_bnd2 hK lv (Nat.le_trans lw ab5) (ab2 v2)
  have e4 : w.natAbs ≤ tl.natAbs + vl.natAbs + (tl + vl - w).natAbs := Nat.le_trans ab3 (Nat.add_le_add_right ab5 _)
  rw [b_err s2 t2 v2, Int.natAbs_neg]
  exact ⟨Nat.le_trans k.1 (Nat.mul_le_mul_left _ (Nat.sub_le_of_le_add (b_tot s2 t2))), Nat.le_trans e4 k.2.2⟩
theorem z_err {x xl y yl sh c tl vh : Int} (s2 : sh = x + y) (t2 : c + tl = xl + yl) (v2 : vh = sh + c) : vh + tl - (x + xl + (y + yl)) = 0 := by omega
theorem add_z {a b c : Int} (h : a + b = c) (k : a = c) : b = 0 := by omega
theorem dd_add {x xl y yl sh sl th tl c vh vl w : Int} (hx : Rn 53 (x + xl) x) (hy : Rn 53 (y + yl) y) (fxl : Fl 53 xl) (fyl : Fl 53 yl)
    (s1 : Rn 53 (x + y) sh) (s2 : sh + sl = x + y) (t1 : Rn 53 (xl + yl) th) (t2 : th + tl = xl + yl) (hc : Rn 53 (sl + th) c) (v1 : Rn 53 (sh + c) vh) (v2 : vh + vl = sh + c) (hw : Rn 53 (tl + vl) w) :
    81129638414606681695789005144064 * (vh + w - (x + xl + (y + yl))).natAbs ≤ 8 * (x + xl + (y + yl)).natAbs ∧ (vh = 0 ∨ w.natAbs ≤ vh.natAbs) := by
  have ftl : Fl 53 tl := by
    have h := err_fl (by decide) fxl fyl t1
    rwa [ab4 t2] at h
  by_cases hA : (x + y).natAbs ≤ x.natAbs ∧ (x + y).natAbs ≤ y.natAbs
  · have e1 := s1.ex (sterb hx.fl hy.fl hA.1 hA.2)
    have hsl := add_z s2 e1
    have hcc : c = th := by
      have h := hc.ex (by rw [hsl, Int.zero_add]; exact t1.fl)
      rwa [hsl, Int.zero_add] at h
    subst hcc
    by_cases hB : (sh + c).natAbs ≤ sh.natAbs ∧ (sh + c).natAbs ≤ c.natAbs
    · have e2 := v1.ex (sterb s1.fl t1.fl hB.1 hB.2)
      have hvl := add_z v2 e2
      have hww : w = tl := by
        have h := hw.ex (by rw [hvl, Int.add_zero]; exact ftl)
        rwa [hvl, Int.add_zero] at h
      subst hww
      refine ⟨by rw [z_err e1 t2 e2]; simp, ?_⟩
      by_cases h0 : sh + c = 0
      · exact .inl (e2.trans h0)
      · exact .inr (by rw [e2]; exact left_le s1.fl t1 t2 hB.1 hB.2 h0)
    · have lv := rn_rel v1
      rw [ab4 v2] at lv
      have lt := rn_lit t1
      rw [ab4 t2] at lt
      have k := case_b (big3 hB) e1 lt t2 lv v2 (rn_rel hw)
      exact ⟨k.1, .inr k.2⟩
  · have ls := rn_rel s1
    rw [ab4 s2] at ls
    have lt := rn_rel t1
    rw [ab4 t2] at lt
    have lv := rn_rel v1
    rw [ab4 v2] at lv
    have k := case_a (big3 hA) (form_l hx) (form_l hy) ls s2 lt t2 (rn_rel hc) lv v2 (rn_rel hw)
    exact ⟨k.1, .inr k.2⟩
end Go.Proofs.YtidggnjnlhjhlabGreatDoor
namespace Go.Proofs.YtidggnjnlhjhlabGreatDoor
open Go.RowKit
set_option maxRecDepth 20000
set_option maxHeartbeats 0
def vs (H s : Nat) : Nat := (s - (s / H - 1) * H) * 2 ^ (s / H - 1)
theorem vs_zero (H : Nat) : vs H 0 = 0 := by unfold vs; simp
theorem vs_succ {H : Nat} (hH : 0 < H) (s : Nat) : vs H s < vs H (s + 1) := by
  have h1 := Nat.div_add_mod s H
  have h2 := Nat.mod_lt s hH
  have h3 := Nat.div_add_mod (s + 1) H
  have h4 := Nat.mod_lt (s + 1) hH
  have h5 : s / H ≤ (s + 1) / H := Nat.div_le_div_right (by omega)
  have h6 : (s + 1) / H ≤ s / H + 1 := by
    have : (s + 1) / H ≤ (s + H) / H := Nat.div_le_div_right (by omega)
    rw [Nat.add_div_right _ hH] at this
    exact this
  unfold vs
  by_cases h7 : (s + 1) / H = s / H
  · rw [h7]
    have hq : (s / H - 1) * H ≤ s := by
      rw [Nat.sub_mul, Nat.mul_comm]; omega
    have hp : 0 < 2 ^ (s / H - 1) := Nat.pow_pos (by omega)
    exact Nat.mul_lt_mul_of_pos_right (by omega) hp
  · have h8 : (s + 1) / H = s / H + 1 := by omega
    rw [h8, Nat.add_sub_cancel]
    rw [h8, Nat.mul_add, Nat.mul_one] at h3
    obtain ⟨k, hk⟩ : ∃ k, k = s / H := ⟨_, rfl⟩
    rw [← hk] at h1 h3 ⊢
    obtain ⟨y, hy⟩ : ∃ y, y = H * k := ⟨_, rfl⟩
    rw [← hy] at h1 h3
    rw [Nat.mul_comm k H, ← hy]
    by_cases h9 : k = 0
    · subst h9
      have : y = 0 := by rw [hy]; simp
      simp
      omega
    · obtain ⟨j, rfl⟩ : ∃ j, k = j + 1 := ⟨k - 1, by omega⟩
      rw [Nat.add_sub_cancel, Nat.pow_succ]
      have hj : j * H + H = y := by rw [hy, Nat.mul_comm H, Nat.add_mul, Nat.one_mul]
      have hp : 0 < 2 ^ j := Nat.pow_pos (by omega)
      have e1 : s + 1 - y = H := by omega
      rw [e1, Nat.mul_comm (2 ^ j) 2, ← Nat.mul_assoc]
      exact Nat.mul_lt_mul_of_pos_right (by omega) hp
theorem vs_mono {H : Nat} (hH : 0 < H) {s t : Nat} (h : s < t) : vs H s < vs H t := by
  induction t with
  | zero => omega
  | succ t ih =>
    rcases Nat.lt_or_ge s t with h1 | h1
    · exact Nat.lt_trans (ih h1) (vs_succ hH t)
    · rw [show s = t by omega]; exact vs_succ hH t
def gR (H : Nat) (r : Int) : Int := if r < 0 then -(vs H r.natAbs : Int) else (vs H r.natAbs : Int)
def rkS (S b : Nat) : Int := if S ≤ b then -((b % S : Nat) : Int) else ((b % S : Nat) : Int)
def svS (S H b : Nat) : Int := gR H (rkS S b)
theorem svS_eq (S H b : Nat) : svS S H b = if S ≤ b then -(vs H (b % S) : Int) else (vs H (b % S) : Int) := by
  have hz := vs_zero H
  unfold svS gR rkS
  by_cases h : S ≤ b
  · rw [if_pos h, if_pos h]
    by_cases h0 : b % S = 0
    · rw [h0, hz]; simp [hz]
    · rw [if_pos (by omega), Int.natAbs_neg, Int.natAbs_natCast]
  · rw [if_neg h, if_neg h, if_neg (by omega), Int.natAbs_natCast]
theorem dvd_far {d : Nat} {x y : Int} (hx : (d : Int) ∣ x) (hy : (d : Int) ∣ y) (h : x ≠ y) : d ≤ (x - y).natAbs := by
  have h1 : d ∣ (x - y).natAbs := Int.ofNat_dvd_left.1 (Int.dvd_sub hx hy)
  exact Nat.le_of_dvd (by omega) h1
theorem rn_mk {p L : Nat} {x s : Int} (hp : 1 ≤ p) (h1 : ((2 ^ L : Nat) : Int) ∣ s) (h2 : s.natAbs ≤ 2 ^ (p + L)) (h3 : 2 * (s - x).natAbs ≤ 2 ^ L) (h4 : L = 0 ∨ 2 ^ (p - 1 + L) ≤ x.natAbs) : Rn p x s := by
  have key : ∀ z : Int, ((2 ^ L : Nat) : Int) ∣ z → (s - x).natAbs ≤ (z - x).natAbs := fun z hz => by
    by_cases h : z = s
    · rw [h]; exact Nat.le_refl _
    · have := dvd_far hz h1 h
      omega
  refine ⟨⟨L, h1, h2⟩, fun z hz => ?_⟩
  by_cases hd : ((2 ^ L : Nat) : Int) ∣ z
  · exact key z hd
  · have hL : L ≠ 0 := fun h => hd (by subst h; exact ⟨z, by simp⟩)
    have h4 : 2 ^ (p - 1 + L) ≤ x.natAbs := by rcases h4 with h | h; exact absurd h hL; exact h
    have h5 : z.natAbs < 2 ^ (p - 1 + L) := Nat.lt_of_not_le fun h => hd (hz.dvd hp h)
    rcases Int.le_total 0 x with h0 | h0
    · have := key _ (p2dvd (show L ≤ p - 1 + L by omega))
      omega
    · have := key _ (Int.dvd_neg.2 (p2dvd (show L ≤ p - 1 + L by omega)))
      omega
def rne (n L : Nat) : Nat := n / 2 ^ L + (decide (2 ^ L < 2 * (n % 2 ^ L)) || (2 ^ L == 2 * (n % 2 ^ L) && n / 2 ^ L % 2 == 1)).toNat
theorem cut_eq (neg : Bool) (n L : Nat) (h : L ≤ n.log2 + 2) : Ieee.Toward.even.cut neg n L = rne n L := by
  unfold Ieee.Toward.cut rne
  rw [Nat.min_eq_left h, Nat.one_shiftLeft]
theorem rne_zero (n : Nat) : rne n 0 = n := by
  unfold rne
  simp [Nat.mod_one]
theorem rne_mul (n L d : Nat) : rne (n * 2 ^ d) (L + d) = rne n L := by
  have hd : 0 < 2 ^ d := p2pos d
  have h1 : n * 2 ^ d / 2 ^ (L + d) = n / 2 ^ L := by rw [Nat.pow_add]; exact Nat.mul_div_mul_right _ _ hd
  have h2 : n * 2 ^ d % 2 ^ (L + d) = n % 2 ^ L * 2 ^ d := by rw [Nat.pow_add]; exact Nat.mul_mod_mul_right _ _ _
  have h3 : decide (2 ^ (L + d) < 2 * (n % 2 ^ L * 2 ^ d)) = decide (2 ^ L < 2 * (n % 2 ^ L)) := by
    rw [← Nat.mul_assoc, Nat.pow_add]; exact decide_eq_decide.2 (Nat.mul_lt_mul_right hd)
  have h4 : (2 ^ (L + d) == 2 * (n % 2 ^ L * 2 ^ d)) = (2 ^ L == 2 * (n % 2 ^ L)) := by
    rw [← Nat.mul_assoc, Nat.pow_add, Bool.eq_iff_iff, beq_iff_eq, beq_iff_eq]; exact Nat.mul_right_cancel_iff hd
  unfold rne
  rw [h1, h2, h3, h4]
theorem rne_err (n L : Nat) : 2 * ((rne n L * 2 ^ L : Nat) - (n : Int)).natAbs ≤ 2 ^ L := by
  have h1 := Nat.div_add_mod n (2 ^ L)
  have h2 := Nat.mod_lt n (p2pos L)
  unfold rne
  rw [Nat.mul_comm] at h1
  generalize hr : n % 2 ^ L = r at *
  generalize hq : n / 2 ^ L = q at *
  generalize 2 ^ L = D at *
  by_cases h3 : D < 2 * r
  · rw [decide_eq_true h3, Bool.true_or, Bool.toNat_true, Nat.add_mul]; omega
  · rw [decide_eq_false h3, Bool.false_or]
    by_cases h4 : D = 2 * r
    · rcases Nat.mod_two_eq_zero_or_one q with h5 | h5
      · rw [h5]; simp; omega
      · rw [h5, show (D == 2 * r) = true by simp [h4]]
        simp only [beq_self_eq_true, Bool.and_self, Bool.toNat_true]
        rw [Nat.add_mul]; omega
    · have : (D == 2 * r) = false := by simp [h4]
      rw [this]; simp; omega
theorem rne_le (n L K : Nat) (h : n ≤ K * 2 ^ L) : rne n L ≤ K := by
  have h1 := rne_err n L
  refine Nat.le_of_not_lt fun h2 => ?_
  have h3 : (K + 1) * 2 ^ L ≤ rne n L * 2 ^ L := Nat.mul_le_mul_right _ h2
  rw [Nat.add_mul] at h3
  have := p2pos L
  omega
theorem le_rne (n L K : Nat) (h : K * 2 ^ L ≤ n) : K ≤ rne n L := by
  unfold rne
  have : K ≤ n / 2 ^ L := (Nat.le_div_iff_mul_le (p2pos L)).2 h
  omega
theorem log2_mul (n d : Nat) (h : n ≠ 0) : (n * 2 ^ d).log2 = n.log2 + d := by
  have h1 : 2 ^ n.log2 ≤ n := Nat.log2_self_le h
  have h2 : n < 2 ^ (n.log2 + 1) := Nat.lt_log2_self
  have hd : 0 < 2 ^ d := p2pos d
  have hz : n * 2 ^ d ≠ 0 := Nat.mul_ne_zero h (by omega)
  refine (Nat.log2_eq_iff hz).2 ⟨?_, ?_⟩
  · rw [Nat.pow_add]; exact Nat.mul_le_mul_right _ h1
  · rw [show n.log2 + d + 1 = n.log2 + 1 + d by omega, Nat.pow_add]; exact Nat.mul_lt_mul_of_pos_right h2 hd
def rg (c n : Nat) : Nat := if n = 0 then 0 else min ((n.log2 - 52 - c) * 4503599627370496 + rne n (n.log2 - 52)) 9218868437227405312
theorem nearest_rg (neg : Bool) (mag c d : Nat) (h : c = 0 ∨ c + 52 ≤ (mag * 2 ^ d).log2) :
    Ieee.double.nearest neg mag (-1074 - (c : Int) + (d : Int)) = Ieee.double.word neg (rg c (mag * 2 ^ d)) := by
  have e1 : Ieee.double.leastPlace = -1074 := by decide
  have e2 : Ieee.double.binade = 4503599627370496 := by decide
  have e3 : Ieee.double.infRung = 9218868437227405312 := by decide
  have e4 : Ieee.double.fractionBits = 52 := by decide
  have hd : 0 < 2 ^ d := p2pos d
  unfold Ieee.Format.nearest rg
  by_cases h0 : mag = 0
  · subst h0; simp
  · have hz : mag * 2 ^ d ≠ 0 := Nat.mul_ne_zero h0 (by omega)
    rw [if_neg h0, if_neg hz, e1, e2, e3, e4]
    have hl := log2_mul mag d h0
    obtain ⟨l, hle⟩ : ∃ l, l = mag.log2 := ⟨_, rfl⟩
    rw [← hle] at hl ⊢
    rw [hl] at h ⊢
    obtain ⟨L, hL⟩ : ∃ L, L = l + d - 52 := ⟨_, rfl⟩
    rw [← hL]
    have e5 : max (-1074 - (c : Int) + (d : Int) + (l : Int) - ((52 : Nat) : Int)) (-1074) = -1074 - (c : Int) + (L : Int) := by omega
    dsimp only
    rw [e5]
    have e6 : (-1074 - (c : Int) + (L : Int) - -1074).toNat = L - c := by omega
    rw [e6]
    have e7 : (-1074 - (c : Int) + (d : Int) - (-1074 - (c : Int) + (L : Int))).toNat = d - L := by omega
    have e8 : (-1074 - (c : Int) + (L : Int) - (-1074 - (c : Int) + (d : Int))).toNat = L - d := by omega
    rw [e7, e8, Nat.shiftLeft_eq]
    have e9 : Ieee.Toward.even.cut neg (mag * 2 ^ (d - L)) (L - d) = rne (mag * 2 ^ d) L := by
      rcases Nat.le_total L d with h1 | h1
      · rw [show L - d = 0 by omega, cut_eq _ _ _ (by omega), rne_zero]
        have h2 := rne_mul (mag * 2 ^ (d - L)) 0 L
        rw [Nat.zero_add, rne_zero, Nat.mul_assoc, ← Nat.pow_add, show d - L + L = d by omega] at h2
        exact h2.symm
      · rw [show d - L = 0 by omega, Nat.pow_zero, Nat.mul_one, cut_eq _ _ _ (by omega)]
        have h2 := rne_mul mag (L - d) d
        rw [show L - d + d = L by omega] at h2
        exact h2.symm
    rw [e9]

def ux (b : Nat) : Int := svS 9223372036854775808 4503599627370496 b
theorem ux_eq (b : Nat) : ux b = if 9223372036854775808 ≤ b then -(vs 4503599627370496 (b % 9223372036854775808) : Int) else (vs 4503599627370496 (b % 9223372036854775808) : Int) := svS_eq _ _ _
theorem vs_at (L k : Nat) (h : L = 0 ∨ 4503599627370496 ≤ k) (hk : k ≤ 9007199254740992) : vs 4503599627370496 (L * 4503599627370496 + k) = k * 2 ^ L := by
  unfold vs
  rcases Nat.lt_or_ge k 9007199254740992 with h1 | h1
  · have h2 : (L * 4503599627370496 + k) / 4503599627370496 - 1 = L := by omega
    rw [h2, show L * 4503599627370496 + k - L * 4503599627370496 = k by omega]
  · obtain rfl : k = 9007199254740992 := by omega
    have h2 : (L * 4503599627370496 + 9007199254740992) / 4503599627370496 - 1 = L + 1 := by omega
    rw [h2, p2succ, show L * 4503599627370496 + 9007199254740992 - (L + 1) * 4503599627370496 = 4503599627370496 by omega, ← Nat.mul_assoc]
theorem rg_rn (n : Nat) (h : rg 0 n < 9218868437227405312) : Rn 53 (n : Int) (vs 4503599627370496 (rg 0 n) : Int) := by
  unfold rg at h ⊢
  by_cases h0 : n = 0
  · subst h0
    rw [if_pos rfl]
    exact rn_mk (L := 0) (by omega) ⟨0, by simp [vs]⟩ (by simp [vs]) (by simp [vs]) (.inl rfl)
  · rw [if_neg h0] at h ⊢
    have hl : 2 ^ n.log2 ≤ n := Nat.log2_self_le h0
    have hu : n < 2 ^ (n.log2 + 1) := Nat.lt_log2_self
    rw [Nat.sub_zero] at h ⊢
    rw [Nat.min_eq_left (by omega)]
    obtain ⟨L, hL⟩ : ∃ L, L = n.log2 - 52 := ⟨_, rfl⟩
    rw [← hL]
    have hk : rne n L ≤ 9007199254740992 := by
      refine rne_le n L _ (Nat.le_of_lt (Nat.lt_of_lt_of_le hu ?_))
      rw [show 9007199254740992 = 2 ^ 53 by decide, ← Nat.pow_add]
      exact p2le (by omega)
    have hn : L = 0 ∨ 2 ^ (52 + L) ≤ n := by
      by_cases h1 : L = 0
      · exact .inl h1
      · exact .inr (Nat.le_trans (p2le (by omega)) hl)
    have hk2 : L = 0 ∨ 4503599627370496 ≤ rne n L := by
      rcases hn with h1 | h1
      · exact .inl h1
      · refine .inr (le_rne n L _ ?_)
        rw [show 4503599627370496 = 2 ^ 52 by decide, ← Nat.pow_add]; exact h1
    rw [vs_at L _ hk2 hk]
    refine rn_mk (L := L) (by omega) ⟨rne n L, by rw [Int.natCast_mul, Int.mul_comm]⟩ ?_ (rne_err n L) ?_
    · rw [Int.natAbs_natCast, Nat.pow_add]
      exact Nat.mul_le_mul_right _ hk
    · rw [Int.natAbs_natCast]; exact hn
theorem read_fin {b : Nat} (hb : b < 18446744073709551616) (hf : b % 9223372036854775808 < 9218868437227405312) :
    ∃ m q : Nat, Ieee.double.read b = .number (decide (9223372036854775808 ≤ b)) m (-1074 + (q : Int)) ∧ m * 2 ^ q = vs 4503599627370496 (b % 9223372036854775808) := by
  have e1 : Ieee.double.leastPlace = -1074 := by decide
  have e2 : Ieee.double.binade = 4503599627370496 := by decide
  have e3 : Ieee.double.infRung = 9218868437227405312 := by decide
  have e4 : Ieee.double.signWeight = 9223372036854775808 := by decide
  have hs : (b / 9223372036854775808 % 2 == 1) = decide (9223372036854775808 ≤ b) := by
    by_cases h : 9223372036854775808 ≤ b
    · rw [decide_eq_true h, beq_iff_eq]; omega
    · rw [decide_eq_false h, beq_eq_false_iff_ne]; omega
  unfold Ieee.Format.read
  rw [e1, e2, e3, e4]
  dsimp only
  rw [hs]
  generalize b % 9223372036854775808 = r at hf ⊢
  by_cases h1 : r < 4503599627370496
  · refine ⟨r, 0, by rw [if_pos h1]; rfl, ?_⟩
    unfold vs
    rw [show r / 4503599627370496 - 1 = 0 by omega]; simp
  · refine ⟨4503599627370496 + r % 4503599627370496, r / 4503599627370496 - 1, by rw [if_neg h1, if_pos hf], ?_⟩
    unfold vs
    congr 1
    omega
theorem signed_eq (neg : Bool) (m u : Nat) : Ieee.signed neg m u = if neg then -((m * 2 ^ u : Nat) : Int) else ((m * 2 ^ u : Nat) : Int) := by
  unfold Ieee.signed
  rw [Nat.shiftLeft_eq]
theorem ux_of {b m q : Nat} (h : m * 2 ^ q = vs 4503599627370496 (b % 9223372036854775808)) : ux b = Ieee.signed (decide (9223372036854775808 ≤ b)) m q := by
  rw [ux_eq, signed_eq, ← h]
  by_cases h1 : 9223372036854775808 ≤ b <;> simp [h1]
theorem signed_up (neg : Bool) (m u v : Nat) : Ieee.signed neg m u * ((2 ^ v : Nat) : Int) = Ieee.signed neg m (u + v) := by
  rw [signed_eq, signed_eq, Nat.pow_add, ← Nat.mul_assoc]
  cases neg <;> simp [Int.neg_mul]
theorem sum_fin (s t : Bool) (m n q r : Nat) (X : Int) (hX : X = Ieee.signed s m q + Ieee.signed t n r) :
    ((Ieee.Datum.number s m (-1074 + (q : Int))).sum (.number t n (-1074 + (r : Int)))).map Ieee.double.write = some (Ieee.double.word (if X = 0 then s && t else decide (X < 0)) (rg 0 X.natAbs)) := by
  obtain ⟨d, hd⟩ : ∃ d, d = min q r := ⟨_, rfl⟩
  have hb : min (-1074 + (q : Int)) (-1074 + (r : Int)) = -1074 + (d : Int) := by omega
  unfold Ieee.Datum.sum
  dsimp only
  rw [hb, show (-1074 + (q : Int) - (-1074 + (d : Int))).toNat = q - d by omega, show (-1074 + (r : Int) - (-1074 + (d : Int))).toNat = r - d by omega]
  have hT : (Ieee.signed s m (q - d) + Ieee.signed t n (r - d)) * ((2 ^ d : Nat) : Int) = X := by
    rw [Int.add_mul, signed_up, signed_up, hX, show q - d + d = q by omega, show r - d + d = r by omega]
  generalize Ieee.signed s m (q - d) + Ieee.signed t n (r - d) = T at hT ⊢
  have hp : (0 : Int) < ((2 ^ d : Nat) : Int) := Int.ofNat_lt.2 (p2pos d)
  have h0 : (T = 0) = (X = 0) := by
    rw [← hT, eq_iff_iff, Int.mul_eq_zero]
    exact ⟨fun h => .inl h, fun h => by rcases h with h | h; exact h; omega⟩
  have hn : decide (T < 0) = decide (X < 0) := by
    refine decide_eq_decide.2 ?_
    rw [← hT]
    constructor
    · intro h; exact Int.mul_neg_of_neg_of_pos h hp
    · intro h
      refine Int.lt_of_not_ge fun h1 => ?_
      have := Int.mul_nonneg h1 (Int.le_of_lt hp)
      omega
  have ha : T.natAbs * 2 ^ d = X.natAbs := by rw [← hT, Int.natAbs_mul, Int.natAbs_natCast]
  show some (Ieee.double.nearest _ T.natAbs (-1074 + (d : Int))) = _
  have := nearest_rg (if T = 0 then s && t else decide (T < 0)) T.natAbs 0 d (.inl rfl)
  rw [show (-1074 : Int) - ((0 : Nat) : Int) + (d : Int) = -1074 + (d : Int) by omega, ha] at this
  rw [this, hn]
  simp only [h0]

theorem word_facts (neg : Bool) {r : Nat} (_h : r < 9218868437227405312) : Ieee.double.word neg r < 18446744073709551616 ∧ Ieee.double.word neg r % 9223372036854775808 = r ∧ ux (Ieee.double.word neg r) = if neg then -(vs 4503599627370496 r : Int) else (vs 4503599627370496 r : Int) := by
  have e4 : Ieee.double.signWeight = 9223372036854775808 := by decide
  rw [ux_eq]
  unfold Ieee.Format.word
  rw [e4]
  cases neg
  · refine ⟨by simp; omega, by simp; omega, ?_⟩
    simp only [Bool.false_eq_true, if_false]
    rw [if_neg (by omega), Nat.mod_eq_of_lt (by omega)]
  · refine ⟨by simp; omega, by simp; omega, ?_⟩
    simp only [if_true]
    rw [if_pos (by omega), show (9223372036854775808 + r) % 9223372036854775808 = r by omega]
def MaxU : Nat := 9007199254740991 * 2 ^ 2045
theorem MaxU_eq {K : Nat} (h : K = 2045) : MaxU = 9007199254740991 * 2 ^ K := by subst h; rfl
theorem rg_fin {n : Nat} (h : n ≤ MaxU) : rg 0 n < 9218868437227405312 := by
  unfold rg
  by_cases h0 : n = 0
  · rw [if_pos h0]; omega
  · rw [if_neg h0, Nat.sub_zero]
    refine Nat.lt_of_le_of_lt (Nat.min_le_left ..) ?_
    have hl : 2 ^ n.log2 ≤ n := Nat.log2_self_le h0
    have hu : n < 2 ^ (n.log2 + 1) := Nat.lt_log2_self
    have h53 : (9007199254740992 : Nat) = 2 ^ 53 := by decide
    rcases Nat.lt_or_ge n.log2 2097 with h1 | h1
    · have hk : rne n (n.log2 - 52) ≤ 9007199254740992 := by
        refine rne_le n _ _ (Nat.le_of_lt (Nat.lt_of_lt_of_le hu ?_))
        rw [h53, ← Nat.pow_add]
        exact p2le (by omega)
      omega
    · obtain ⟨K, hK⟩ : ∃ K, K = 2045 := ⟨_, rfl⟩
      rw [MaxU_eq hK] at h
      have h2 : n.log2 < 53 + K := by
        refine p2lt (Nat.lt_of_le_of_lt hl (Nat.lt_of_le_of_lt h ?_))
        rw [Nat.pow_add, ← h53]
        exact Nat.mul_lt_mul_of_pos_right (by omega) (p2pos _)
      rw [show n.log2 - 52 = K by omega]
      have hk := rne_le n K 9007199254740991 h
      omega
structure Fin64 (b : Nat) : Prop where
  lt : b < 18446744073709551616
  fin : b % 9223372036854775808 < 9218868437227405312
theorem Fin64.fl {b : Nat} (_h : Fin64 b) : Fl 53 (ux b) := by
  have h1 : Fl 53 (vs 4503599627370496 (b % 9223372036854775808) : Int) := by
    unfold vs
    refine ⟨b % 9223372036854775808 / 4503599627370496 - 1, ⟨((b % 9223372036854775808 - (b % 9223372036854775808 / 4503599627370496 - 1) * 4503599627370496 : Nat) : Int), by rw [Int.natCast_mul, Int.mul_comm]⟩, ?_⟩
    rw [Int.natAbs_natCast, Nat.pow_add]
    refine Nat.mul_le_mul_right _ ?_
    rw [show 2 ^ 53 = 9007199254740992 by decide]
    omega
  rw [ux_eq]
  split
  · exact h1.neg
  · exact h1
structure Sm64 (X : Int) (r : Nat) : Prop where
  fin : Fin64 r
  size : r % 9223372036854775808 = rg 0 X.natAbs
  sign : X ≠ 0 → (9223372036854775808 ≤ r ↔ X < 0)
  rn : Rn 53 X (ux r)
theorem sm_word {X : Int} {neg : Bool} (h : X.natAbs ≤ MaxU) (hn : X ≠ 0 → neg = decide (X < 0)) : Sm64 X (Ieee.double.word neg (rg 0 X.natAbs)) := by
  have h1 := rg_fin h
  obtain ⟨a, b, c⟩ := word_facts neg h1
  refine ⟨⟨a, by rw [b]; exact h1⟩, b, fun h0 => ?_, ?_⟩
  · have e4 : Ieee.double.signWeight = 9223372036854775808 := by decide
    rw [hn h0]
    unfold Ieee.Format.word
    rw [e4]
    by_cases h2 : X < 0
    · simp [h2]
    · simp [h2]; omega
  · rw [c]
    have h2 := rg_rn X.natAbs h1
    by_cases h0 : X = 0
    · subst h0
      have : rg 0 (Int.natAbs 0) = 0 := rfl
      rw [this]
      have h3 : vs 4503599627370496 0 = 0 := by simp [vs]
      rw [h3]
      cases neg
      · exact ⟨Fl.zero _, fun z _ => by simp⟩
      · exact ⟨Fl.zero _, fun z _ => by simp⟩
    · rw [hn h0]
      by_cases h3 : X < 0
      · rw [decide_eq_true h3, if_pos rfl]
        have := h2.neg
        rw [show -((X.natAbs : Nat) : Int) = X by omega] at this
        exact this
      · rw [decide_eq_false h3]
        rw [show ((X.natAbs : Nat) : Int) = X by omega] at h2
        simpa using h2
theorem fl_add_fin {a b : Nat} (ha : Fin64 a) (hb : Fin64 b) (h : (ux a + ux b).natAbs ≤ MaxU) : ∃ r, floatBits .add .f64 a b = some r ∧ Sm64 (ux a + ux b) r := by
  obtain ⟨m, q, h1, h2⟩ := read_fin ha.lt ha.fin
  obtain ⟨n, t, h3, h4⟩ := read_fin hb.lt hb.fin
  have hX : ux a + ux b = Ieee.signed (decide (9223372036854775808 ≤ a)) m q + Ieee.signed (decide (9223372036854775808 ≤ b)) n t := by rw [ux_of h2, ux_of h4]
  refine ⟨_, ?_, sm_word h (neg := if ux a + ux b = 0 then decide (9223372036854775808 ≤ a) && decide (9223372036854775808 ≤ b) else decide (ux a + ux b < 0)) fun h0 => if_neg h0⟩
  show ((Ieee.double.read a).sum (Ieee.double.read b)).map Ieee.double.write = _
  rw [h1, h3]
  exact sum_fin _ _ _ _ _ _ _ hX
theorem fl_sub_fin {a b : Nat} (ha : Fin64 a) (hb : Fin64 b) (h : (ux a - ux b).natAbs ≤ MaxU) : ∃ r, floatBits .sub .f64 a b = some r ∧ Sm64 (ux a - ux b) r := by
  obtain ⟨m, q, h1, h2⟩ := read_fin ha.lt ha.fin
  obtain ⟨n, t, h3, h4⟩ := read_fin hb.lt hb.fin
  have hX : ux a - ux b = Ieee.signed (decide (9223372036854775808 ≤ a)) m q + Ieee.signed (!decide (9223372036854775808 ≤ b)) n t := by
    rw [ux_of h2, ux_of h4, signed_eq _ n, signed_eq _ n]
    cases decide (9223372036854775808 ≤ b) <;> simp <;> omega
  refine ⟨_, ?_, sm_word h (neg := if ux a - ux b = 0 then decide (9223372036854775808 ≤ a) && !decide (9223372036854775808 ≤ b) else decide (ux a - ux b < 0)) fun h0 => if_neg h0⟩
  show ((Ieee.double.read a).sum (Ieee.double.read b).opposite).map Ieee.double.write = _
  rw [h1, h3]
  exact sum_fin _ _ _ _ _ _ _ hX
theorem Rn.self {p : Nat} {x : Int} (h : Fl p x) : Rn p x x := ⟨h, fun z _ => by rw [Int.sub_self]; exact Nat.zero_le _⟩
theorem mul_dvd2 {L t : Nat} {s : Int} (h : ((2 ^ L : Nat) : Int) ∣ s) : ((2 ^ (L + t) : Nat) : Int) ∣ s * ((2 ^ t : Nat) : Int) := by
  rw [Nat.pow_add, Int.natCast_mul]; exact Int.mul_dvd_mul h (Int.dvd_refl _)
theorem abs_mul2 (x : Int) (t : Nat) : (x * ((2 ^ t : Nat) : Int)).natAbs = x.natAbs * 2 ^ t := by rw [Int.natAbs_mul, Int.natAbs_natCast]
theorem Fl.scale {p : Nat} {x : Int} (h : Fl p x) (t : Nat) : Fl p (x * ((2 ^ t : Nat) : Int)) := by
  obtain ⟨q, h1, h2⟩ := h
  exact ⟨q + t, mul_dvd2 h1, by rw [abs_mul2, ← Nat.add_assoc, Nat.pow_add]; exact Nat.mul_le_mul_right _ h2⟩
theorem Rn.scale {p : Nat} {x s : Int} (hp : 1 ≤ p) (h : Rn p x s) (t : Nat) : Rn p (x * ((2 ^ t : Nat) : Int)) (s * ((2 ^ t : Nat) : Int)) := by
  obtain ⟨m, m1, m2⟩ := place hp x
  have he := h.err (m := m) (Nat.le_of_lt m1)
  by_cases hm0 : m = 0
  · subst hm0
    have e1 : s = x := by simp at he; omega
    rw [e1]
    rw [e1] at h
    exact Rn.self (h.fl.scale t)
  have m2 : 2 ^ (p - 1 + m) ≤ x.natAbs := by rcases m2 with h | h; exact absurd h hm0; exact h
  have hs := (h.dvd hp m2).1
  have hb : s.natAbs ≤ 2 ^ (p + m) := by
    have h1 := h.hi (Fl.pow p (p + m)) (by omega)
    have h2 := h.neg.hi (Fl.pow p (p + m)) (by omega)
    omega
  refine rn_mk (L := m + t) hp (mul_dvd2 hs) ?_ ?_ (.inr ?_)
  · rw [abs_mul2, ← Nat.add_assoc, Nat.pow_add]; exact Nat.mul_le_mul_right _ hb
  · rw [← Int.sub_mul, abs_mul2, ← Nat.mul_assoc, Nat.pow_add]; exact Nat.mul_le_mul_right _ he
  · rw [abs_mul2, ← Nat.add_assoc, Nat.pow_add]; exact Nat.mul_le_mul_right _ m2
theorem pw (k e : Nat) : 2 ^ (k + e) = 2 ^ k * 2 ^ e := Nat.pow_add ..
theorem veltkamp_p {a c d h l : Int} {e : Nat} (h0 : 0 < a) (h1 : 2 ^ (52 + e) ≤ a.natAbs) (h2 : a.natAbs < 2 ^ (53 + e)) (hf : Fl 53 a) (hc : Rn 53 (134217729 * a) c) (hd : Rn 53 (c - a) d) (hh : Rn 53 (c - d) h) (hl : Rn 53 (a - h) l) :
    ((2 ^ (27 + e) : Nat) : Int) ∣ h ∧ ((2 ^ e : Nat) : Int) ∣ a ∧ (a - h).natAbs ≤ 2 ^ (26 + e) ∧ h.natAbs ≤ 2 ^ (53 + e) ∧ l = a - h ∧ h = c - d ∧ 67108864 * (a - h).natAbs < a.natAbs := by
  have ha : ((2 ^ e : Nat) : Int) ∣ a := hf.dvd (by omega) h1
  have hp := p2pos e
  -- the powers, by the unit of a
  have q26 : 2 ^ (26 + e) = 67108864 * 2 ^ e := by rw [pw]
  have q27 : 2 ^ (27 + e) = 134217728 * 2 ^ e := by rw [pw]
  have q28 : 2 ^ (28 + e) = 268435456 * 2 ^ e := by rw [pw]
  have q52 : 2 ^ (52 + e) = 4503599627370496 * 2 ^ e := by rw [pw]
  have q53 : 2 ^ (53 + e) = 9007199254740992 * 2 ^ e := by rw [pw]
  have q79 : 2 ^ (79 + e) = 604462909807314587353088 * 2 ^ e := by rw [pw]
  have q80 : 2 ^ (80 + e) = 1208925819614629174706176 * 2 ^ e := by rw [pw]
  have q81 : 2 ^ (81 + e) = 2417851639229258349412352 * 2 ^ e := by rw [pw]
  have hup : a.natAbs + 2 ^ e ≤ 2 ^ (53 + e) := le_of_dvd2 (dvd_abs ha) (Nat.pow_dvd_pow 2 (by omega)) h2
  have hlo : a.natAbs = 2 ^ (52 + e) ∨ 2 ^ (52 + e) + 2 ^ e ≤ a.natAbs := by
    rcases Nat.lt_or_ge (2 ^ (52 + e)) a.natAbs with h | h
    · exact .inr (le_of_dvd2 (Nat.pow_dvd_pow 2 (by omega)) (dvd_abs ha) h)
    · exact .inl (by omega)
  have hc1 := hc.err (m := 28 + e) (by rw [show 53 + (28 + e) = 81 + e by omega]; omega)
  have hc2 : (134217729 * a).natAbs < 2 ^ (80 + e) → 2 * (c - 134217729 * a).natAbs ≤ 2 ^ (27 + e) := fun h => hc.err (m := 27 + e) (by rw [show 53 + (27 + e) = 80 + e by omega]; omega)
  have hc3 := (hc.dvd (by omega) (m := 27 + e) (by rw [show 53 - 1 + (27 + e) = 79 + e by omega]; omega)).1
  rcases hlo with hA | hB
  · -- a power of two
    have ea : a = ((2 ^ (52 + e) : Nat) : Int) := by omega
    have e1 : c = 134217729 * a := by
      refine hc.ex ⟨52 + e, ⟨134217729, by rw [← ea, Int.mul_comm]⟩, ?_⟩
      rw [Int.natAbs_mul, show (134217729 : Int).natAbs = 134217729 from rfl, pw 53 (52 + e), ← hA]
      exact Nat.mul_le_mul_right _ (by decide)
    have e2 : d = c - a := by
      refine hd.ex ?_
      rw [show c - a = ((2 ^ (79 + e) : Nat) : Int) by omega]
      exact Fl.pow 53 _
    have e3 : h = c - d := by
      refine hh.ex ?_
      rw [show c - d = a by omega]; exact hf
    have e4 : h = a := by omega
    have e5 : l = a - h := by
      refine hl.ex ?_
      rw [e4, Int.sub_self]; exact Fl.zero 53
    refine ⟨?_, ha, by rw [e4, Int.sub_self]; exact Nat.zero_le _, by rw [e4]; omega, e5, e3, by rw [e4, Int.sub_self]; simp; omega⟩
    rw [e4, ea]; exact p2dvd (by omega)
  · have hca : 2 ^ (79 + e) ≤ (c - a).natAbs ∧ (c - a).natAbs ≤ 2 ^ (80 + e) ∧ 0 < c - a := by
      by_cases h3 : (134217729 * a).natAbs < 2 ^ (80 + e)
      · have := hc2 h3
        omega
      · omega
    have hd1 := hd.err (m := 27 + e) (by rw [show 53 + (27 + e) = 80 + e by omega]; omega)
    have hd2 := (hd.dvd (by omega) (m := 27 + e) (by rw [show 53 - 1 + (27 + e) = 79 + e by omega]; omega)).1
    have hcd : ((2 ^ (27 + e) : Nat) : Int) ∣ c - d := Int.dvd_sub hc3 hd2
    have hb : (c - d).natAbs ≤ 2 ^ (53 + e) := Nat.le_of_not_lt fun h3 => by
      have := le_of_dvd2 (Nat.pow_dvd_pow 2 (show 27 + e ≤ 53 + e by omega)) (dvd_abs hcd) h3
      omega
    have e3 : h = c - d := hh.ex ⟨27 + e, hcd, by rw [show 53 + (27 + e) = 80 + e by omega]; omega⟩
    have hdv : ((2 ^ e : Nat) : Int) ∣ a - h := by
      rw [e3]; exact Int.dvd_sub ha (Int.dvd_trans (p2dvd (by omega)) hcd)
    have e5 : l = a - h := hl.ex ⟨e, hdv, by omega⟩
    exact ⟨by rw [e3]; exact hcd, ha, by omega, by omega, e5, e3, by omega⟩
theorem veltkamp {a c d h l : Int} {e : Nat} (h1 : 2 ^ (52 + e) ≤ a.natAbs) (h2 : a.natAbs < 2 ^ (53 + e)) (hf : Fl 53 a) (hc : Rn 53 (134217729 * a) c) (hd : Rn 53 (c - a) d) (hh : Rn 53 (c - d) h) (hl : Rn 53 (a - h) l) :
    ((2 ^ (27 + e) : Nat) : Int) ∣ h ∧ ((2 ^ e : Nat) : Int) ∣ a ∧ (a - h).natAbs ≤ 2 ^ (26 + e) ∧ h.natAbs ≤ 2 ^ (53 + e) ∧ l = a - h ∧ h = c - d ∧ 67108864 * (a - h).natAbs < a.natAbs := by
  rcases Int.lt_trichotomy a 0 with h0 | h0 | h0
  · have := veltkamp_p (a := -a) (c := -c) (d := -d) (h := -h) (l := -l) (e := e) (by omega) (by omega) (by omega) hf.neg
      (by rw [Int.mul_neg]; exact hc.neg) (by rw [show -c - -a = -(c - a) by omega]; exact hd.neg) (by rw [show -c - -d = -(c - d) by omega]; exact hh.neg) (by rw [show -a - -h = -(a - h) by omega]; exact hl.neg)
    obtain ⟨k1, k2, k3, k4, k5, k6, k7⟩ := this
    exact ⟨Int.dvd_neg.1 k1, Int.dvd_neg.1 k2, by omega, by omega, by omega, by omega, by omega⟩
  · subst h0
    have := p2pos (52 + e)
    rw [Int.natAbs_zero] at h1
    omega
  · exact veltkamp_p h0 h1 h2 hf hc hd hh hl
theorem dekker {a b ah al bh bl p e1 e2 e3 e4 : Int} {i j : Nat} (a1 : 2 ^ (52 + i) ≤ a.natAbs) (a2 : a.natAbs < 2 ^ (53 + i)) (b1 : 2 ^ (52 + j) ≤ b.natAbs) (b2 : b.natAbs < 2 ^ (53 + j))
    (ea : al = a - ah) (eb : bl = b - bh) (da : ((2 ^ i : Nat) : Int) ∣ a) (db : ((2 ^ j : Nat) : Int) ∣ b) (dah : ((2 ^ (27 + i) : Nat) : Int) ∣ ah) (dbh : ((2 ^ (27 + j) : Nat) : Int) ∣ bh)
    (lal : al.natAbs ≤ 2 ^ (26 + i)) (lbl : bl.natAbs ≤ 2 ^ (26 + j)) (lah : ah.natAbs ≤ 2 ^ (53 + i)) (lbh : bh.natAbs ≤ 2 ^ (53 + j))
    (hp : Rn 53 (a * b) p) (h1 : Rn 53 (ah * bh - p) e1) (h2 : Rn 53 (e1 + ah * bl) e2) (h3 : Rn 53 (e2 + al * bh) e3) (h4 : Rn 53 (e3 + al * bl) e4) :
    p + e4 = a * b ∧ e1 = ah * bh - p ∧ e2 = e1 + ah * bl ∧ e3 = e2 + al * bh ∧ Fl 53 (ah * bh) ∧ Fl 53 (ah * bl) ∧ Fl 53 (al * bh) ∧ Fl 53 (al * bl) := by
  have dvd_mul : ∀ {x y : Int} {m n : Nat}, ((2 ^ m : Nat) : Int) ∣ x → ((2 ^ n : Nat) : Int) ∣ y → ((2 ^ (m + n) : Nat) : Int) ∣ x * y := fun hx hy => by
    rw [Nat.pow_add, Int.natCast_mul]; exact Int.mul_dvd_mul hx hy
  have le_mul : ∀ {x y : Int} {m n : Nat}, x.natAbs ≤ 2 ^ m → y.natAbs ≤ 2 ^ n → (x * y).natAbs ≤ 2 ^ (m + n) := fun hx hy => by
    rw [Int.natAbs_mul, Nat.pow_add]; exact Nat.mul_le_mul hx hy
  have dal : ((2 ^ i : Nat) : Int) ∣ al := by rw [ea]; exact Int.dvd_sub da (Int.dvd_trans (p2dvd (by omega)) dah)
  have dbl : ((2 ^ j : Nat) : Int) ∣ bl := by rw [eb]; exact Int.dvd_sub db (Int.dvd_trans (p2dvd (by omega)) dbh)
  obtain ⟨E, hE⟩ : ∃ E, E = i + j := ⟨_, rfl⟩
  have x1d := dvd_mul dah dbh
  have x2d := dvd_mul dah dbl
  have x3d := dvd_mul dal dbh
  have x4d := dvd_mul dal dbl
  have x1l := le_mul lah lbh
  have x2l := le_mul lah lbl
  have x3l := le_mul lal lbh
  have x4l := le_mul lal lbl
  have abl := le_mul (Nat.le_of_lt a2) (Nat.le_of_lt b2)
  have abg : 2 ^ (104 + E) ≤ (a * b).natAbs := by
    rw [Int.natAbs_mul, show 104 + E = 52 + i + (52 + j) by omega, Nat.pow_add]; exact Nat.mul_le_mul a1 b1
  rw [show 27 + i + (27 + j) = 54 + E by omega] at x1d
  rw [show 27 + i + j = 27 + E by omega] at x2d
  rw [show i + (27 + j) = 27 + E by omega] at x3d
  rw [← hE] at x4d
  rw [show 53 + i + (53 + j) = 106 + E by omega] at x1l abl
  rw [show 53 + i + (26 + j) = 79 + E by omega] at x2l
  rw [show 26 + i + (53 + j) = 79 + E by omega] at x3l
  rw [show 26 + i + (26 + j) = 52 + E by omega] at x4l
  have hsum : a * b = ah * bh + ah * bl + al * bh + al * bl := by
    rw [show a = ah + al by omega, show b = bh + bl by omega, Int.add_mul, Int.mul_add, Int.mul_add]; omega
  have pe := hp.err (m := 53 + E) (by rw [show 53 + (53 + E) = 106 + E by omega]; exact abl)
  have pd := (hp.dvd (by omega) (m := 52 + E) (by rw [show 53 - 1 + (52 + E) = 104 + E by omega]; exact abg)).1
  have hq := p2pos E
  have q27 : 2 ^ (27 + E) = 134217728 * 2 ^ E := by rw [pw]
  have q52 : 2 ^ (52 + E) = 4503599627370496 * 2 ^ E := by rw [pw]
  have q53 : 2 ^ (53 + E) = 9007199254740992 * 2 ^ E := by rw [pw]
  have q79 : 2 ^ (79 + E) = 604462909807314587353088 * 2 ^ E := by rw [pw]
  have q80 : 2 ^ (80 + E) = 1208925819614629174706176 * 2 ^ E := by rw [pw]
  have q105 : 2 ^ (105 + E) = 40564819207303340847894502572032 * 2 ^ E := by rw [pw]
  have f1 : Fl 53 (ah * bh) := ⟨54 + E, x1d, by rw [show 53 + (54 + E) = 107 + E by omega]; exact Nat.le_trans x1l (p2le (by omega))⟩
  have f2 : Fl 53 (ah * bl) := ⟨27 + E, x2d, by rw [show 53 + (27 + E) = 80 + E by omega]; omega⟩
  have f3 : Fl 53 (al * bh) := ⟨27 + E, x3d, by rw [show 53 + (27 + E) = 80 + E by omega]; omega⟩
  have f4 : Fl 53 (al * bl) := ⟨E, x4d, by omega⟩
  generalize ah * bh = X1 at *
  generalize ah * bl = X2 at *
  generalize al * bh = X3 at *
  generalize al * bl = X4 at *
  generalize a * b = AB at *
  have g1 : e1 = X1 - p := h1.ex ⟨52 + E, Int.dvd_sub (Int.dvd_trans (p2dvd (by omega)) x1d) pd, by rw [show 53 + (52 + E) = 105 + E by omega]; omega⟩
  have g2 : e2 = e1 + X2 := h2.ex ⟨27 + E, by rw [g1]; exact Int.dvd_add (Int.dvd_sub (Int.dvd_trans (p2dvd (by omega)) x1d) (Int.dvd_trans (p2dvd (by omega)) pd)) x2d, by rw [show 53 + (27 + E) = 80 + E by omega]; omega⟩
  have g3 : e3 = e2 + X3 := h3.ex ⟨27 + E, by rw [g2, g1]; exact Int.dvd_add (Int.dvd_add (Int.dvd_sub (Int.dvd_trans (p2dvd (by omega)) x1d) (Int.dvd_trans (p2dvd (by omega)) pd)) x2d) x3d, by rw [show 53 + (27 + E) = 80 + E by omega]; omega⟩
  have g4 : e4 = e3 + X4 := h4.ex ⟨E, by rw [g3, g2, g1]; exact Int.dvd_add (Int.dvd_add (Int.dvd_add (Int.dvd_sub (Int.dvd_trans (p2dvd (by omega)) x1d) (Int.dvd_trans (p2dvd (by omega)) pd)) (Int.dvd_trans (p2dvd (by omega)) x2d)) (Int.dvd_trans (p2dvd (by omega)) x3d)) x4d, by omega⟩
  exact ⟨by omega, g1, g2, g3, f1, f2, f3, f4⟩
abbrev Fv (b : Nat) : Value := .float .f64 b
def NanP (r : Nat) : Prop := 9218868437227405312 < r % 9223372036854775808
structure FlR (op : BinOp) (x y r : Nat) : Prop where
  lt : r < 18446744073709551616
  some : ∀ v, floatBits op .f64 x y = some v → r = v
  none : floatBits op .f64 x y = none → NanP r
theorem nan_cut (x y t : Nat) : (Question.nanBits .f64 x y).cut t < 18446744073709551616 ∧ NanP ((Question.nanBits .f64 x y).cut t) := by
  have h1 : (Question.nanBits .f64 x y).cut t = t % 2 * 2 ^ 63 + 9218868437227405312 + 1 + t / 2 % (2 ^ 52 - 1) := rfl
  have h2 : t / 2 % (2 ^ 52 - 1) < 2 ^ 52 - 1 := Nat.mod_lt _ (by decide)
  rw [h1]
  unfold NanP
  generalize t / 2 % (2 ^ 52 - 1) = u at h2 ⊢
  rw [show (2 : Nat) ^ 52 - 1 = 4503599627370495 by decide] at h2
  rw [show (2 : Nat) ^ 63 = 9223372036854775808 by decide]
  rcases Nat.mod_two_eq_zero_or_one t with h | h <;> rw [h] <;> omega
theorem fop {P : Program} (op : BinOp) (hop : op = .add ∨ op = .sub ∨ op = .mul ∨ op = .quo) (T : TypeId) (x y : Nat) (w : World) :
    ∃ r n, (binOp op T (Fv x) (Fv y)).run P w = .ok (Fv r) (w.drewN n) ∧ FlR op x y r := by
  cases h : floatBits op .f64 x y with
  | some v =>
    refine ⟨v, 0, run_float_arith w op T .f64 x y v h, ⟨?_, fun u hu => ?_, fun hu => ?_⟩⟩
    · have := floatBits_wf h
      simp [Lit.wf] at this
      exact this
    · rw [h] at hu; exact Option.some.inj hu
    · rw [h] at hu; cases hu
  | none =>
    refine ⟨(Question.nanBits .f64 x y).cut (w.tape w.drawn (.nanBits .f64 x y)), 1, ?_, ⟨?_, fun u hu => ?_, fun _ => ?_⟩⟩
    · rcases hop with rfl | rfl | rfl | rfl <;> (unfold floatBits at h; simp only at h; simp [binOp, Op.floatArith, h, Question.forced]; rfl)
    · exact (nan_cut ..).1
    · rw [h] at hu; cases hu
    · exact (nan_cut ..).2
def TSR (a b s r : Nat) : Prop := ∃ ob oa da db, FlR .add a b s ∧ FlR .sub s a ob ∧ FlR .sub s ob oa ∧ FlR .sub a oa da ∧ FlR .sub b ob db ∧ FlR .add da db r
def FSR (a b s r : Nat) : Prop := ∃ t, FlR .add a b s ∧ FlR .sub s a t ∧ FlR .sub b t r
def SPR (a h l : Nat) : Prop := ∃ c d, FlR .mul 4728779608772575232 a c ∧ FlR .sub c a d ∧ FlR .sub c d h ∧ FlR .sub a h l
def TPR (a b p e : Nat) : Prop := ∃ ah al bh bl x1 e1 x2 e2 x3 e3 x4, FlR .mul a b p ∧ SPR a ah al ∧ SPR b bh bl ∧ FlR .mul ah bh x1 ∧ FlR .sub x1 p e1 ∧ FlR .mul ah bl x2 ∧ FlR .add e1 x2 e2 ∧ FlR .mul al bh x3 ∧ FlR .add e2 x3 e3 ∧ FlR .mul al bl x4 ∧ FlR .add e3 x4 e
theorem twoSum (a b : Nat) (w : World) : Calls Tryz.prog 9 #[Fv a, Fv b] w fun e w' => ∃ s r n, e = .returned (.tuple #[Fv s, Fv r]) ∧ w' = w.drewN n ∧ TSR a b s r := by
  obtain ⟨s, n1, h1, F1⟩ := fop (P := Tryz.prog) .add (.inl rfl) 23 a b (w)
  obtain ⟨ob, n2, h2, F2⟩ := fop (P := Tryz.prog) .sub (.inr (.inl rfl)) 23 s a (w.drewN (n1))
  obtain ⟨oa, n3, h3, F3⟩ := fop (P := Tryz.prog) .sub (.inr (.inl rfl)) 23 s ob (w.drewN (n1 + n2))
  obtain ⟨da, n4, h4, F4⟩ := fop (P := Tryz.prog) .sub (.inr (.inl rfl)) 23 a oa (w.drewN (n1 + n2 + n3))
  obtain ⟨db, n5, h5, F5⟩ := fop (P := Tryz.prog) .sub (.inr (.inl rfl)) 23 b ob (w.drewN (n1 + n2 + n3 + n4))
  obtain ⟨r, n6, h6, F6⟩ := fop (P := Tryz.prog) .add (.inl rfl) 23 da db (w.drewN (n1 + n2 + n3 + n4 + n5))
  rw [World.drewN_drewN] at h2 h3 h4 h5 h6
  go_enter Tryz.func9, Tryz.ntmps9
  go_wp2_with fail
  go_ret2
  exact ⟨_, _, _, rfl, rfl, _, _, _, _, F1, F2, F3, F4, F5, F6⟩
theorem fastTwoSum (a b : Nat) (w : World) : Calls Tryz.prog 40 #[Fv a, Fv b] w fun e w' => ∃ s r n, e = .returned (.tuple #[Fv s, Fv r]) ∧ w' = w.drewN n ∧ FSR a b s r := by
  obtain ⟨s, n1, h1, F1⟩ := fop (P := Tryz.prog) .add (.inl rfl) 23 a b (w)
  obtain ⟨t, n2, h2, F2⟩ := fop (P := Tryz.prog) .sub (.inr (.inl rfl)) 23 s a (w.drewN (n1))
  obtain ⟨r, n3, h3, F3⟩ := fop (P := Tryz.prog) .sub (.inr (.inl rfl)) 23 b t (w.drewN (n1 + n2))
  rw [World.drewN_drewN] at h2 h3
  go_enter Tryz.func40, Tryz.ntmps40
  go_wp2_with fail
  go_ret2
  exact ⟨_, _, _, rfl, rfl, _, F1, F2, F3⟩
theorem splitF (a : Nat) (w : World) : Calls Tryz.prog 10 #[Fv a] w fun e w' => ∃ h l n, e = .returned (.tuple #[Fv h, Fv l]) ∧ w' = w.drewN n ∧ SPR a h l := by
  obtain ⟨c, n1, h1, F1⟩ := fop (P := Tryz.prog) .mul (.inr (.inr (.inl rfl))) 23 4728779608772575232 a (w)
  obtain ⟨d, n2, h2, F2⟩ := fop (P := Tryz.prog) .sub (.inr (.inl rfl)) 23 c a (w.drewN (n1))
  obtain ⟨h, n3, h3, F3⟩ := fop (P := Tryz.prog) .sub (.inr (.inl rfl)) 23 c d (w.drewN (n1 + n2))
  obtain ⟨l, n4, h4, F4⟩ := fop (P := Tryz.prog) .sub (.inr (.inl rfl)) 23 a h (w.drewN (n1 + n2 + n3))
  rw [World.drewN_drewN] at h2 h3 h4
  go_enter Tryz.func10, Tryz.ntmps10
  go_wp2_with fail
  go_ret2
  exact ⟨_, _, _, rfl, rfl, _, _, F1, F2, F3, F4⟩
theorem twoProd (a b : Nat) (w : World) : Calls Tryz.prog 4 #[Fv a, Fv b] w fun e w' => ∃ p r n, e = .returned (.tuple #[Fv p, Fv r]) ∧ w' = w.drewN n ∧ TPR a b p r := by
  obtain ⟨p, n1, h1, F1⟩ := fop (P := Tryz.prog) .mul (.inr (.inr (.inl rfl))) 23 a b (w)
  go_enter Tryz.func4, Tryz.ntmps4
  go_wp2_with fail
  refine (splitF _ _).mono ?_
  rintro e w' ⟨ah, al, m1, rfl, rfl, S1⟩
  go_wp2_with fail
  refine (splitF _ _).mono ?_
  rintro e w' ⟨bh, bl, m2, rfl, rfl, S2⟩
  obtain ⟨x1, n2, h2, F2⟩ := fop (P := Tryz.prog) .mul (.inr (.inr (.inl rfl))) 23 ah bh (w.drewN (n1 + m1 + m2))
  obtain ⟨e1, n3, h3, F3⟩ := fop (P := Tryz.prog) .sub (.inr (.inl rfl)) 23 x1 p (w.drewN (n1 + m1 + m2 + n2))
  obtain ⟨x2, n4, h4, F4⟩ := fop (P := Tryz.prog) .mul (.inr (.inr (.inl rfl))) 23 ah bl (w.drewN (n1 + m1 + m2 + n2 + n3))
  obtain ⟨e2, n5, h5, F5⟩ := fop (P := Tryz.prog) .add (.inl rfl) 23 e1 x2 (w.drewN (n1 + m1 + m2 + n2 + n3 + n4))
  obtain ⟨x3, n6, h6, F6⟩ := fop (P := Tryz.prog) .mul (.inr (.inr (.inl rfl))) 23 al bh (w.drewN (n1 + m1 + m2 + n2 + n3 + n4 + n5))
  obtain ⟨e3, n7, h7, F7⟩ := fop (P := Tryz.prog) .add (.inl rfl) 23 e2 x3 (w.drewN (n1 + m1 + m2 + n2 + n3 + n4 + n5 + n6))
  obtain ⟨x4, n8, h8, F8⟩ := fop (P := Tryz.prog) .mul (.inr (.inr (.inl rfl))) 23 al bl (w.drewN (n1 + m1 + m2 + n2 + n3 + n4 + n5 + n6 + n7))
  obtain ⟨r, n9, h9, F9⟩ := fop (P := Tryz.prog) .add (.inl rfl) 23 e3 x4 (w.drewN (n1 + m1 + m2 + n2 + n3 + n4 + n5 + n6 + n7 + n8))
  rw [World.drewN_drewN] at h2 h3 h4 h5 h6 h7 h8 h9
  go_wp2_with fail
  go_ret2
  exact ⟨_, _, _, rfl, rfl, _, _, _, _, _, _, _, _, _, _, _, F1, S1, S2, F2, F3, F4, F5, F6, F7, F8, F9⟩
theorem FlR.add {x y r : Nat} (h : FlR .add x y r) (hx : Fin64 x) (hy : Fin64 y) (hm : (ux x + ux y).natAbs ≤ MaxU) : Sm64 (ux x + ux y) r := by
  obtain ⟨v, h1, h2⟩ := fl_add_fin hx hy hm
  rw [h.some v h1]; exact h2
theorem FlR.sub {x y r : Nat} (h : FlR .sub x y r) (hx : Fin64 x) (hy : Fin64 y) (hm : (ux x - ux y).natAbs ≤ MaxU) : Sm64 (ux x - ux y) r := by
  obtain ⟨v, h1, h2⟩ := fl_sub_fin hx hy hm
  rw [h.some v h1]; exact h2
theorem ux_abs (b : Nat) : (ux b).natAbs = vs 4503599627370496 (b % 9223372036854775808) := by
  rw [ux_eq]; split <;> omega
theorem vs_le4 {s t : Nat} (h : s ≤ t) : vs 4503599627370496 s ≤ vs 4503599627370496 t := by
  rcases Nat.lt_or_eq_of_le h with h1 | h1
  · exact Nat.le_of_lt (vs_mono (by omega) h1)
  · rw [h1]; exact Nat.le_refl _
theorem ux_pow {b K : Nat} (h : b % 9223372036854775808 ≤ (K + 1) * 4503599627370496) : (ux b).natAbs ≤ 2 ^ (52 + K) := by
  rw [ux_abs]
  refine Nat.le_trans (vs_le4 h) (Nat.le_of_eq ?_)
  have := vs_at K 4503599627370496 (.inr (Nat.le_refl _)) (by omega)
  rw [show (K + 1) * 4503599627370496 = K * 4503599627370496 + 4503599627370496 by omega, this, Nat.pow_add, show (2 : Nat) ^ 52 = 4503599627370496 by decide]
theorem Rn.bound {p : Nat} {x s : Int} {K : Nat} (h : Rn p x s) (hx : x.natAbs ≤ 2 ^ K) : s.natAbs ≤ 2 ^ K := by
  have h1 := h.hi (Fl.pow p K) (by omega)
  have h2 := h.neg.hi (Fl.pow p K) (by omega)
  omega
theorem Rn.near1 {x s : Int} {M : Nat} (h : Rn 53 x s) (hs : s.natAbs ≤ 4 * M) : (x - s).natAbs ≤ M := by
  have h1 := h.little (by omega)
  rw [show (2 : Nat) ^ 53 = 9007199254740992 by decide] at h1
  omega
theorem max_big {K M : Nat} (hK : K = 2044) (h : M = 2 ^ (52 + K)) : 3 * M ≤ MaxU ∧ 2 ^ (53 + K) = 2 * M := by
  have h1 : 2 ^ (52 + K) = 2251799813685248 * 2 ^ (K + 1) := by
    rw [show (2251799813685248 : Nat) = 2 ^ 51 by decide, ← Nat.pow_add]
    congr 1
    omega
  have h2 : 2 ^ (53 + K) = 2 * 2 ^ (52 + K) := by rw [show 53 + K = 52 + K + 1 by omega, p2succ]
  refine ⟨?_, by rw [h2, h]⟩
  rw [MaxU_eq (show K + 1 = 2045 by omega), h, h1]
  generalize 2 ^ (K + 1) = z
  omega
theorem pow1022 {a K : Nat} (hK : K = 2044) (h : a % 9223372036854775808 ≤ 9209861237972664320) : (ux a).natAbs ≤ 2 ^ (52 + K) := ux_pow (by omega)
theorem TSR.ok {a b s r : Nat} (h : TSR a b s r) (ha : a < 18446744073709551616) (hb : b < 18446744073709551616) (ka : a % 9223372036854775808 ≤ 9209861237972664320) (kb : b % 9223372036854775808 ≤ 9209861237972664320) :
    Sm64 (ux a + ux b) s ∧ Fin64 r ∧ ux s + ux r = ux a + ux b := by
  obtain ⟨ob, oa, da, db, F1, F2, F3, F4, F5, F6⟩ := h
  have fa : Fin64 a := ⟨ha, by omega⟩
  have fb : Fin64 b := ⟨hb, by omega⟩
  obtain ⟨K, hK⟩ : ∃ K, K = 2044 := ⟨_, rfl⟩
  have ma := pow1022 hK ka
  have mb := pow1022 hK kb
  obtain ⟨M, hM⟩ : ∃ M, M = 2 ^ (52 + K) := ⟨_, rfl⟩
  obtain ⟨m3, m2⟩ := max_big hK hM
  rw [← hM] at ma mb
  have S1 := F1.add fa fb (by omega)
  have bs := S1.rn.bound (K := 53 + K) (by rw [m2]; omega)
  rw [m2] at bs
  have e1 := S1.rn.near1 (M := M) (by omega)
  have S2 := F2.sub S1.fin fa (by omega)
  have bb := S2.rn.bound (K := 53 + K) (by rw [m2]; omega)
  rw [m2] at bb
  have e2 := S2.rn.near1 (M := M) (by omega)
  have S3 := F3.sub S1.fin S2.fin (by omega)
  have ba := S3.rn.bound (K := 53 + K) (by rw [m2]; omega)
  rw [m2] at ba
  have S4 := F4.sub fa S3.fin (by omega)
  have S5 := F5.sub fb S2.fin (by omega)
  have hd := two_sum_a (by omega) fa.fl fb.fl S1.rn S2.rn S3.rn S4.rn S5.rn
  have S6 := F6.add S4.fin S5.fin (by omega)
  exact ⟨S1, S6.fin, two_sum (by omega) fa.fl fb.fl S1.rn S2.rn S3.rn S4.rn S5.rn S6.rn⟩
theorem FSR.ok {a b s r : Nat} (h : FSR a b s r) (ha : a < 18446744073709551616) (hb : b < 18446744073709551616) (ka : a % 9223372036854775808 ≤ 9209861237972664320) (kb : b % 9223372036854775808 ≤ 9209861237972664320) (hab : a % 9223372036854775808 = 0 ∨ b % 9223372036854775808 ≤ a % 9223372036854775808) :
    Sm64 (ux a + ux b) s ∧ Fin64 r ∧ ux s + ux r = ux a + ux b := by
  obtain ⟨t, F1, F2, F3⟩ := h
  have fa : Fin64 a := ⟨ha, by omega⟩
  have fb : Fin64 b := ⟨hb, by omega⟩
  obtain ⟨K, hK⟩ : ∃ K, K = 2044 := ⟨_, rfl⟩
  have ma := pow1022 hK ka
  have mb := pow1022 hK kb
  have hab : ux a = 0 ∨ (ux b).natAbs ≤ (ux a).natAbs := by
    rcases hab with h | h
    · refine .inl ?_
      have := ux_abs a
      rw [h, vs_zero] at this
      omega
    · refine .inr ?_
      rw [ux_abs, ux_abs]; exact vs_le4 h
  obtain ⟨M, hM⟩ : ∃ M, M = 2 ^ (52 + K) := ⟨_, rfl⟩
  obtain ⟨m3, m2⟩ := max_big hK hM
  rw [← hM] at ma mb
  have S1 := F1.add fa fb (by omega)
  have bs := S1.rn.bound (K := 53 + K) (by rw [m2]; omega)
  rw [m2] at bs
  have e1 := S1.rn.near1 (M := M) (by omega)
  have S2 := F2.sub S1.fin fa (by omega)
  have bb := S2.rn.bound (K := 53 + K) (by rw [m2]; omega)
  rw [m2] at bb
  have S3 := F3.sub fb S2.fin (by omega)
  exact ⟨S1, S3.fin, fast_sum (by omega) fa.fl fb.fl hab S1.rn S2.rn S3.rn⟩
theorem cut_all (neg : Bool) (n L : Nat) : Ieee.Toward.even.cut neg n L = rne n L := by
  rcases Nat.lt_or_ge (n.log2 + 2) L with h | h
  · have hu : n < 2 ^ (n.log2 + 1) := Nat.lt_log2_self
    have h1 : 2 ^ (n.log2 + 2) = 2 * 2 ^ (n.log2 + 1) := p2succ _
    have h2 : 2 ^ (n.log2 + 2) ≤ 2 ^ L := p2le (by omega)
    unfold Ieee.Toward.cut rne
    rw [Nat.min_eq_right (by omega), Nat.one_shiftLeft]
    dsimp only
    rw [Nat.div_eq_of_lt (show n < 2 ^ (n.log2 + 2) by omega), Nat.div_eq_of_lt (show n < 2 ^ L by omega), Nat.mod_eq_of_lt (show n < 2 ^ (n.log2 + 2) by omega), Nat.mod_eq_of_lt (show n < 2 ^ L by omega)]
    rw [decide_eq_false (show ¬ 2 ^ (n.log2 + 2) < 2 * n by omega), decide_eq_false (show ¬ 2 ^ L < 2 * n by omega), show (2 ^ (n.log2 + 2) == 2 * n) = false by simp; omega, show (2 ^ L == 2 * n) = false by simp; omega]
  · exact cut_eq neg n L h
def rgc (c n : Nat) : Nat := if n = 0 then 0 else min ((max (n.log2 - 52) c - c) * 4503599627370496 + rne n (max (n.log2 - 52) c)) 9218868437227405312
theorem nearest_rgc (neg : Bool) (mag c d : Nat) : Ieee.double.nearest neg mag (-1074 - (c : Int) + (d : Int)) = Ieee.double.word neg (rgc c (mag * 2 ^ d)) := by
  have e1 : Ieee.double.leastPlace = -1074 := by decide
  have e2 : Ieee.double.binade = 4503599627370496 := by decide
  have e3 : Ieee.double.infRung = 9218868437227405312 := by decide
  have e4 : Ieee.double.fractionBits = 52 := by decide
  have hd : 0 < 2 ^ d := p2pos d
  unfold Ieee.Format.nearest rgc
  by_cases h0 : mag = 0
  · subst h0; simp
  · have hz : mag * 2 ^ d ≠ 0 := Nat.mul_ne_zero h0 (by omega)
    rw [if_neg h0, if_neg hz, e1, e2, e3, e4]
    have hl := log2_mul mag d h0
    obtain ⟨l, hle⟩ : ∃ l, l = mag.log2 := ⟨_, rfl⟩
    rw [← hle] at hl ⊢
    rw [hl]
    obtain ⟨L, hL⟩ : ∃ L, L = max (l + d - 52) c := ⟨_, rfl⟩
    rw [← hL]
    have e5 : max (-1074 - (c : Int) + (d : Int) + (l : Int) - ((52 : Nat) : Int)) (-1074) = -1074 - (c : Int) + (L : Int) := by omega
    dsimp only
    rw [e5]
    have e6 : (-1074 - (c : Int) + (L : Int) - -1074).toNat = L - c := by omega
    rw [e6]
    have e7 : (-1074 - (c : Int) + (d : Int) - (-1074 - (c : Int) + (L : Int))).toNat = d - L := by omega
    have e8 : (-1074 - (c : Int) + (L : Int) - (-1074 - (c : Int) + (d : Int))).toNat = L - d := by omega
    rw [e7, e8, Nat.shiftLeft_eq, cut_all]
    have e9 : rne (mag * 2 ^ (d - L)) (L - d) = rne (mag * 2 ^ d) L := by
      rcases Nat.le_total L d with h1 | h1
      · rw [show L - d = 0 by omega, rne_zero]
        have h2 := rne_mul (mag * 2 ^ (d - L)) 0 L
        rw [Nat.zero_add, rne_zero, Nat.mul_assoc, ← Nat.pow_add, show d - L + L = d by omega] at h2
        exact h2.symm
      · rw [show d - L = 0 by omega, Nat.pow_zero, Nat.mul_one]
        have h2 := rne_mul mag (L - d) d
        rw [show L - d + d = L by omega] at h2
        exact h2.symm
    rw [e9]
theorem rgc_int (c n : Nat) : rgc c (n * 2 ^ c) = rg 0 n := by
  have hd : 0 < 2 ^ c := p2pos c
  unfold rgc rg
  by_cases h0 : n = 0
  · subst h0; simp
  · have hz : n * 2 ^ c ≠ 0 := Nat.mul_ne_zero h0 (by omega)
    rw [if_neg h0, if_neg hz, log2_mul n c h0, show max (n.log2 + c - 52) c = n.log2 - 52 + c by omega, rne_mul, Nat.add_sub_cancel, Nat.sub_zero]
theorem fmul_any {a b : Nat} (ha : Fin64 a) (hb : Fin64 b) : floatBits .mul .f64 a b = some (Ieee.double.word (decide (9223372036854775808 ≤ a) ^^ decide (9223372036854775808 ≤ b)) (rgc 1074 ((ux a).natAbs * (ux b).natAbs))) := by
  obtain ⟨m, q, h1, h2⟩ := read_fin ha.lt ha.fin
  obtain ⟨n, t, h3, h4⟩ := read_fin hb.lt hb.fin
  rw [ux_abs, ux_abs, ← h2, ← h4]
  show ((Ieee.double.read a).product (Ieee.double.read b)).map Ieee.double.write = _
  rw [h1, h3]
  show some (Ieee.double.nearest _ (m * n) (-1074 + (q : Int) + (-1074 + (t : Int)))) = _
  have := nearest_rgc (decide (9223372036854775808 ≤ a) ^^ decide (9223372036854775808 ≤ b)) (m * n) 1074 (q + t)
  rw [show (-1074 : Int) - ((1074 : Nat) : Int) + ((q + t : Nat) : Int) = -1074 + (q : Int) + (-1074 + (t : Int)) by omega] at this
  rw [this, show m * n * 2 ^ (q + t) = m * 2 ^ q * (n * 2 ^ t) by rw [Nat.pow_add, ← Nat.mul_assoc, ← Nat.mul_assoc, Nat.mul_assoc m n, Nat.mul_comm n, ← Nat.mul_assoc]]
theorem ux_neg {b : Nat} (h : ux b ≠ 0) : decide (9223372036854775808 ≤ b) = decide (ux b < 0) := by
  refine decide_eq_decide.2 ?_
  have := ux_eq b
  by_cases h1 : 9223372036854775808 ≤ b
  · rw [if_pos h1] at this; omega
  · rw [if_neg h1] at this; omega
theorem mul_sign {a b : Nat} (h : ux a * ux b ≠ 0) : (decide (9223372036854775808 ≤ a) ^^ decide (9223372036854775808 ≤ b)) = decide (ux a * ux b < 0) := by
  have ha : ux a ≠ 0 := fun k => h (by rw [k, Int.zero_mul])
  have hb : ux b ≠ 0 := fun k => h (by rw [k, Int.mul_zero])
  rw [ux_neg ha, ux_neg hb]
  generalize ux a = x at *
  generalize ux b = y at *
  rcases Int.lt_or_gt_of_ne ha with h1 | h1 <;> rcases Int.lt_or_gt_of_ne hb with h2 | h2
  · have := Int.mul_pos_of_neg_of_neg h1 h2
    simp [h1, h2]; omega
  · have := Int.mul_neg_of_neg_of_pos h1 h2
    simp [h1, Int.not_lt.2 (Int.le_of_lt h2), this]
  · have := Int.mul_neg_of_pos_of_neg h1 h2
    simp [h2, Int.not_lt.2 (Int.le_of_lt h1), this]
  · have := Int.mul_pos h1 h2
    simp [Int.not_lt.2 (Int.le_of_lt h1), Int.not_lt.2 (Int.le_of_lt h2)]; omega
theorem FlR.mul {x y r : Nat} (h : FlR .mul x y r) (hx : Fin64 x) (hy : Fin64 y) {X : Int} {c : Nat} (hc : c = 1074) (hX : ux x * ux y = X * ((2 ^ c : Nat) : Int)) (hm : X.natAbs ≤ MaxU) : Sm64 X r := by
  have h1 := fmul_any hx hy
  rw [← Int.natAbs_mul, hX, Int.natAbs_mul, Int.natAbs_natCast, ← hc, rgc_int] at h1
  rw [h.some _ h1]
  refine sm_word hm fun h0 => ?_
  have hp : (0 : Int) < ((2 ^ c : Nat) : Int) := Int.ofNat_lt.2 (p2pos c)
  have h2 : ux x * ux y ≠ 0 := by rw [hX]; exact Int.mul_ne_zero h0 (by omega)
  rw [mul_sign h2, hX]
  refine decide_eq_decide.2 ⟨fun h3 => ?_, fun h3 => Int.mul_neg_of_neg_of_pos h3 hp⟩
  refine Int.lt_of_not_ge fun h4 => ?_
  have := Int.mul_nonneg h4 (Int.le_of_lt hp)
  omega
def cutOff (off n k : Nat) : Nat := if k = n then off else off + k
theorem cutOff_lt {off n k : Nat} (h : k < n) : cutOff off n k = off + k := if_neg (by omega)
theorem cutOff_eq {off n k : Nat} (h : k = n) : cutOff off n k = off := if_pos h

theorem ret_cut {v : Value} {g o o' m m' : Nat} (h : o = o') (hm : m = m') : Ending.returned (.tuple #[v, .slice (some ⟨g, o, none⟩) m m]) = .returned (.tuple #[v, .slice (some ⟨g, o', none⟩) m' m']) := by rw [h, hm]
theorem cut_row (g off n c k : Nat) (w : World) (hnc : n ≤ c) (hk : k ≤ n) :
    Calls Tryz.prog 105 #[.slice (some ⟨g, off, none⟩) n c, .int .i64 k] w fun e w' =>
      e = .returned (.tuple #[.slice (some ⟨g, off, none⟩) k k, .slice (some ⟨g, cutOff off n k, none⟩) (n - k) (n - k)]) ∧ ∃ r, w' = w.drewN r := by
  obtain ⟨o, ho⟩ : ∃ o, o = cutOff off n k := ⟨_, rfl⟩
  rw [← ho]
  by_cases hkn : k = n
  · have HO : Hid (o = off) := ho.trans (cutOff_eq hkn)
    subst hkn
    clear ho
    go_enter Tryz.func105, Tryz.ntmps105
    go_wp2
    go_quiet (fail)
    go_wp2
    go_ret2
    exact ⟨ret_cut HO.out.symm (Nat.sub_self k).symm, _, rfl⟩
  · have HO : Hid (o = off + k) := ho.trans (cutOff_lt (by omega))
    have hlt : k < n := by omega
    clear ho
    go_enter Tryz.func105, Tryz.ntmps105
    go_wp2
    go_quiet (fail)
    go_wp2
    go_ret2
    exact ⟨ret_cut HO.out.symm rfl, _, rfl⟩
theorem order_any (b : Bool) (w : World) : Calls Tryz.prog 92 #[.bool b] w fun e w' => e = .returned (.int .i64 (if b then -1 else 1)) ∧ w' = w := by
  cases b
  · go_enter Tryz.func92, Tryz.ntmps92
    go_wp2
    go_ret
    exact ⟨rfl, rfl⟩
  · go_enter Tryz.func92, Tryz.ntmps92
    go_wp2
    go_ret
    exact ⟨rfl, rfl⟩

theorem fitted_any {g n c : Nat} {xs : List Nat} {w : World} (h : At w (some ⟨g, 0, none⟩) n c xs) :
    Calls Tryz.prog 99 #[.slice (some ⟨g, 0, none⟩) n c] w fun e w' =>
      ((trimL xs).length ≤ 8192 ∧ (∃ p' m, e = .returned (.tuple #[.slice p' m m, .int .i64 0]) ∧ m = (trimL xs).length ∧ (m ≠ 0 → p' = some ⟨g, 0, none⟩)) ∧ w' = w) ∨
      (8192 < (trimL xs).length ∧ e = .returned (.tuple #[.slice none 0 0, .int .i64 5]) ∧ w' = w) := by
  go_enter Tryz.func99, Tryz.ntmps99
  go_wp2_with (go_at_call 79; refine (trim_any h).mono ?_; rintro e w' ⟨p', m, rfl, hm, hp, rfl⟩; have HM : Hid (m = (trimL xs).length) := hm; clear hm)
  · go_ret2
    have := HM.out
    exact .inr ⟨by omega, rfl, rfl⟩
  · go_ret2
    have := HM.out
    exact .inl ⟨by omega, ⟨_, _, rfl, this, hp⟩, rfl⟩
theorem add64_ex (x y c : Nat) (hx : x < B64) (hy : y < B64) (hc : c ≤ 1) : ∃ s d, (∀ w : World, (callFunc 107 #[U x, U y, U c]).run Tryz.prog w = .ok (.value (.tuple #[U s, U d])) w) ∧ x + y + c = s + B64 * d ∧ s < B64 ∧ d ≤ 1 := by
  refine ⟨(x + y + c) % 18446744073709551616, (x + y + c) / 18446744073709551616, fun w => ?_, ?_, ?_, ?_⟩
  · rw [run_callFunc_extern Tryz.func107 (by kernel_rfl) (by kernel_rfl) (by kernel_rfl) (e := add64Entry) (by kernel_rfl), run_add64 x y c (by omega) (by omega) (by omega) (by omega)]
    simp only [Result.andThen]
    congr 5 <;> omega
  · rw [B64_eq]; omega
  · rw [B64_eq]; omega
  · rw [B64_eq] at hx hy; omega

structure AddRel (w : World) (g off n : Nat) (zs ys : List Nat) (k cy : Nat) (dk : List Nat) (wr : World) : Prop where
  wrs : Wr g off n w wr
  row : Row wr g off n dk
  hi : dk.drop k = zs.drop k
  car : cy ≤ 1
  sum : valB B64 (dk.take k) + B64 ^ k * cy = valB B64 (zs.take k) + valB B64 (ys.take k)

theorem valB_take_any (b : Nat) (xs : List Nat) (k : Nat) : valB b (xs.take (k + 1)) = valB b (xs.take k) + b ^ k * xs.getD k 0 := by
  by_cases h : k < xs.length
  · exact valB_take_succ b xs k h
  · rw [List.take_of_length_le (by omega), List.take_of_length_le (by omega), List.getD_eq_getElem?_getD, List.getElem?_eq_none (by omega)]; simp
theorem drop_set_lt (dk : List Nat) (k y : Nat) : (dk.set k y).drop (k + 1) = dk.drop (k + 1) := by
  rw [List.drop_set]; simp
theorem take_set_succ (dk : List Nat) (k y : Nat) (hk : k < dk.length) : (dk.set k y).take (k + 1) = dk.take k ++ [y] := by
  rw [take_succ_getD _ k (by simpa using hk), getD_set dk k y k hk, if_pos rfl, List.take_set]
  congr 1
  rw [List.set_eq_of_length_le (by simp; omega)]
theorem drop_succ_of_drop {dk zs : List Nat} {k : Nat} (h : dk.drop k = zs.drop k) : dk.drop (k + 1) = zs.drop (k + 1) := by
  have := congrArg (List.drop 1) h
  rw [List.drop_drop, List.drop_drop] at this
  exact this
theorem getD_of_drop {dk zs : List Nat} {k : Nat} (h : dk.drop k = zs.drop k) : dk.getD k 0 = zs.getD k 0 := by
  have := congrArg (fun l : List Nat => l[0]?) h
  simp only [List.getElem?_drop, Nat.add_zero] at this
  rw [List.getD_eq_getElem?_getD, List.getD_eq_getElem?_getD, this]

theorem AddRel.step {w : World} {g off n : Nat} {zs ys : List Nat} {k cy : Nat} {dk : List Nat} {wr : World} (h : AddRel w g off n zs ys k cy dk wr) (hk : k < n)
    {x y s d : Nat} (hx : x = dk.getD k 0) (hy : y = ys.getD k 0) (hs : x + y + cy = s + B64 * d) (hsl : s < B64) (hd : d ≤ 1) (q : Nat) :
    AddRel w g off n zs ys (k + 1) d (dk.set k s) ((wr.setCell ⟨g, off + k, none⟩ (U s)).drewN q) := by
  have hl := h.row.len
  refine ⟨(h.wrs.setCell (off + k) ⟨by omega, by omega⟩ _).drewN q, (h.row.set k s hk hsl).drewN q, ?_, hd, ?_⟩
  · rw [drop_set_lt]; exact drop_succ_of_drop h.hi
  · have hxz : x = zs.getD k 0 := hx.trans (getD_of_drop h.hi)
    rw [take_set_succ dk k s (by omega), valB_snoc, List.length_take, hl, Nat.min_eq_left (by omega), valB_take_any _ zs k, valB_take_any _ ys k, ← hxz, ← hy, Nat.pow_succ]
    have e1 := h.sum
    have e2 : B64 ^ k * (x + y + cy) = B64 ^ k * (s + B64 * d) := by rw [hs]
    rw [Nat.mul_add, Nat.mul_add, Nat.mul_add, ← Nat.mul_assoc] at e2
    omega
theorem AddRel.fin {w : World} {g off n : Nat} {zs ys : List Nat} {k cy : Nat} {dk : List Nat} {wr : World} (h : AddRel w g off n zs ys k cy dk wr) (hz : zs.length = n) (hy : ys.length ≤ k) (hk : k ≤ n) (hf : cy = 0 ∨ k = n) :
    valB B64 dk + B64 ^ n * cy = valB B64 zs + valB B64 ys := by
  have hl := h.row.len
  have e1 := h.sum
  rw [List.take_of_length_le hy] at e1
  rw [valB_split B64 dk k (by omega), valB_split B64 zs k (by omega), h.hi]
  rcases hf with rfl | rfl
  · omega
  · rw [List.drop_of_length_le (by omega)]; simp only [valB_nil]; omega

theorem ladd_any (g off n c : Nat) (zs : List Nat) (p : Option Addr) (m d : Nat) (ys : List Nat) (w : World) (hz : Row w g off n zs) (hnc : n ≤ c) (hbig : c ≤ 9223372036854775807)
    (ha : At w p m d ys) (hmn : m ≤ n) (hap : ∀ g2 off2, 0 < m → p = some ⟨g2, off2, none⟩ → g2 ≠ g ∨ off2 + m ≤ off ∨ off + n ≤ off2) :
    Calls Tryz.prog 98 #[.slice (some ⟨g, off, none⟩) n c, .slice p m d] w fun e w' =>
      ∃ cy zs', e = .returned (U cy) ∧ cy ≤ 1 ∧ Wr g off n w w' ∧ Row w' g off n zs' ∧ valB B64 zs' + B64 ^ n * cy = valB B64 zs + valB B64 ys := by
  have hl := hz.len; have al := ha.len; have acap := ha.cap; have abig := ha.big
  unfold maxLen at abig
  go_enter Tryz.func98, Tryz.ntmps98
  go_wp2_with (go_at_call 105; refine (cut_row g off n c m _ hnc hmn).mono ?_; rintro e w' ⟨rfl, r0, rfl⟩)
  go_loopw [7, 8, 19] (fun cv _ i wr => ∃ (k cy : Nat) (dk : List Nat), k ≤ m ∧ i = .int .i64 k ∧ cv = U cy ∧ AddRel w g off n zs ys k cy dk wr) (fun _ _ i _ => m - (intOf i).toNat)
  case atStart => exact ⟨0, 0, zs, Nat.zero_le _, rfl, rfl, ⟨(Wr.refl _ _ _ _).drewN _, hz.drewN _, rfl, by omega, by simp [valB]⟩⟩
  case round =>
    obtain ⟨k, cy, dk, hk, rfl, rfl, hR⟩ := hrel
    by_cases hlt : k < m
    · obtain ⟨g2, off2, rfl, hc2⟩ := ha.cells.resolve_left (by omega)
      obtain ⟨x, hx⟩ : ∃ x, x = dk.getD k 0 := ⟨_, rfl⟩
      obtain ⟨y, hy⟩ : ∃ y, y = ys.getD k 0 := ⟨_, rfl⟩
      have hcx : wr.cell? ⟨g, off + k, none⟩ = some (U x) := by rw [hx]; exact hR.row.cell k (by omega)
      have hfx : wr.frozen? ⟨g, off + k, none⟩ = false := hR.row.frozen k (by omega)
      have hcy : wr.cell? ⟨g2, off2 + k, none⟩ = some (U y) := by
        rw [hy, hR.wrs.cell g2 (off2 + k) (by have := hap g2 off2 (by omega) rfl; omega)]; exact hc2 k hlt
      obtain ⟨s, d1, hrun, hsum, hsl, hd1⟩ := add64_ex x y cy (by rw [hx]; exact hR.row.dig.getD B64_pos k) (by rw [hy]; exact ha.dig.getD B64_pos k) hR.car
      have HR : Hid (AddRel w g off n zs ys k cy dk wr) := hR
      have HX : Hid (x = dk.getD k 0) := hx
      have HY : Hid (y = ys.getD k 0) := hy
      have HS : Hid (x + y + cy = s + B64 * d1) := hsum
      clear hR hx hy hsum hc2
      go_wp2
      go_region
      go_wp2
      go_roundw
      case rel => exact ⟨k + 1, d1, dk.set k s, by omega, by go_num, rfl, HR.out.step (by omega) HX.out HY.out HS.out hsl hd1 1⟩
      case measure => simp [intOf]; omega
    · obtain rfl : k = m := by omega
      have HR : Hid (AddRel w g off n zs ys k cy dk wr) := hR
      clear hR
      go_wp2
      go_loopw [7, 9, 41] (fun cv _ i wr => ∃ (j cy : Nat) (dk : List Nat), j ≤ n - k ∧ i = .int .i64 j ∧ cv = U cy ∧ AddRel w g off n zs ys (k + j) cy dk wr) (fun _ _ i _ => n - k - (intOf i).toNat)
      case atStart => exact ⟨0, cy, dk, Nat.zero_le _, rfl, rfl, HR.out⟩
      case round =>
        clear HR
        obtain ⟨j, cy, dk, hj, rfl, rfl, hR⟩ := hrel
        by_cases hlt2 : j < n - k
        · have hco : cutOff off n k = off + k := cutOff_lt (by omega)
          obtain ⟨x, hx⟩ : ∃ x, x = dk.getD (k + j) 0 := ⟨_, rfl⟩
          have hcx : wr.cell? ⟨g, cutOff off n k + j, none⟩ = some (U x) := by rw [hx, hco, Nat.add_assoc]; exact hR.row.cell (k + j) (by omega)
          have hfx : wr.frozen? ⟨g, cutOff off n k + j, none⟩ = false := by rw [hco, Nat.add_assoc]; exact hR.row.frozen (k + j) (by omega)
          obtain ⟨s, d1, hrun0, hsum, hsl, hd1⟩ := add64_ex x 0 cy (by rw [hx]; exact hR.row.dig.getD B64_pos _) B64_pos hR.car
          have HR : Hid (AddRel w g off n zs ys (k + j) cy dk wr) := hR
          have HX : Hid (x = dk.getD (k + j) 0) := hx
          have HS : Hid (x + 0 + cy = s + B64 * d1) := hsum
          have HO : Hid (cutOff off n k = off + k) := hco
          have hrun : ∀ w : World, (callFunc 107 #[U x, .int .u64 0, U cy]).run Tryz.prog w = .ok (.value (.tuple #[U s, U d1])) w := hrun0
          clear hR hx hsum hco hrun0
          by_cases hc0 : cy = 0
          · subst hc0
            go_wp2
            go_ret
            exact ⟨0, dk, rfl, by omega, HR.out.wrs, HR.out.row, HR.out.fin hl (by omega) (by omega) (.inl rfl)⟩
          · have hc0' : ((cy : Int) == 0) = false := by simp; omega
            go_wp2
            go_roundw
            case rel =>
              refine ⟨j + 1, d1, dk.set (k + j) s, by omega, by go_num, rfl, ?_⟩
              have st := HR.out.step (by omega) HX.out (y := 0) (by rw [List.getD_eq_getElem?_getD, List.getElem?_eq_none (by omega)]; rfl) HS.out hsl hd1 0
              rw [← Nat.add_assoc off, ← HO.out] at st
              exact st
            case measure => simp [intOf]; omega
        · have hjn : k + j = n := by omega
          have HR : Hid (AddRel w g off n zs ys (k + j) cy dk wr) := hR
          have HJ : Hid (k + j = n) := hjn
          clear hR hjn
          go_wp2
          go_ret
          exact ⟨cy, dk, rfl, HR.out.car, HR.out.wrs, HR.out.row, HR.out.fin hl (by omega) (by have := HJ.out; omega) (.inr HJ.out)⟩
theorem sub64_ex (x y c : Nat) (hx : x < B64) (hy : y < B64) (hc : c ≤ 1) : ∃ s d, (∀ w : World, (callFunc 108 #[U x, U y, U c]).run Tryz.prog w = .ok (.value (.tuple #[U s, U d])) w) ∧ x + B64 * d = s + y + c ∧ s < B64 ∧ d ≤ 1 := by
  refine ⟨(x + 18446744073709551616 - y - c) % 18446744073709551616, if x < y + c then 1 else 0, fun w => ?_, ?_, ?_, ?_⟩
  · rw [run_callFunc_extern Tryz.func108 (by kernel_rfl) (by kernel_rfl) (by kernel_rfl) (e := sub64Entry) (by kernel_rfl), run_sub64 x y c hc]
    rfl
  · rw [B64_eq] at *; split <;> omega
  · rw [B64_eq]; omega
  · split <;> omega

structure SubRel (w : World) (g off n : Nat) (zs ys : List Nat) (k cy : Nat) (dk : List Nat) (wr : World) : Prop where
  wrs : Wr g off n w wr
  row : Row wr g off n dk
  hi : dk.drop k = zs.drop k
  car : cy ≤ 1
  sum : valB B64 (dk.take k) + valB B64 (ys.take k) = valB B64 (zs.take k) + B64 ^ k * cy

theorem SubRel.step {w : World} {g off n : Nat} {zs ys : List Nat} {k cy : Nat} {dk : List Nat} {wr : World} (h : SubRel w g off n zs ys k cy dk wr) (hk : k < n)
    {x y s d : Nat} (hx : x = dk.getD k 0) (hy : y = ys.getD k 0) (hs : x + B64 * d = s + y + cy) (hsl : s < B64) (hd : d ≤ 1) (q : Nat) :
    SubRel w g off n zs ys (k + 1) d (dk.set k s) ((wr.setCell ⟨g, off + k, none⟩ (U s)).drewN q) := by
  have hl := h.row.len
  refine ⟨(h.wrs.setCell (off + k) ⟨by omega, by omega⟩ _).drewN q, (h.row.set k s hk hsl).drewN q, ?_, hd, ?_⟩
  · rw [drop_set_lt]; exact drop_succ_of_drop h.hi
  · have hxz : x = zs.getD k 0 := hx.trans (getD_of_drop h.hi)
    rw [take_set_succ dk k s (by omega), valB_snoc, List.length_take, hl, Nat.min_eq_left (by omega), valB_take_any _ zs k, valB_take_any _ ys k, ← hxz, ← hy, Nat.pow_succ]
    have e1 := h.sum
    have e2 : B64 ^ k * (x + B64 * d) = B64 ^ k * (s + y + cy) := by rw [hs]
    rw [Nat.mul_add, Nat.mul_add, Nat.mul_add, ← Nat.mul_assoc] at e2
    omega
theorem SubRel.fin {w : World} {g off n : Nat} {zs ys : List Nat} {k cy : Nat} {dk : List Nat} {wr : World} (h : SubRel w g off n zs ys k cy dk wr) (hz : zs.length = n) (hy : ys.length ≤ k) (hk : k ≤ n) (hf : cy = 0 ∨ k = n) :
    valB B64 dk + valB B64 ys = valB B64 zs + B64 ^ n * cy := by
  have hl := h.row.len
  have e1 := h.sum
  rw [List.take_of_length_le hy] at e1
  rw [valB_split B64 dk k (by omega), valB_split B64 zs k (by omega), h.hi]
  rcases hf with rfl | rfl
  · omega
  · rw [List.drop_of_length_le (by omega)]; simp only [valB_nil]; omega

theorem lsub_any (g off n c : Nat) (zs : List Nat) (p : Option Addr) (m d : Nat) (ys : List Nat) (w : World) (hz : Row w g off n zs) (hnc : n ≤ c) (hbig : c ≤ 9223372036854775807)
    (ha : At w p m d ys) (hmn : m ≤ n) (hap : ∀ g2 off2, 0 < m → p = some ⟨g2, off2, none⟩ → g2 ≠ g ∨ off2 + m ≤ off ∨ off + n ≤ off2) :
    Calls Tryz.prog 100 #[.slice (some ⟨g, off, none⟩) n c, .slice p m d] w fun e w' =>
      ∃ cy zs', e = .returned (U cy) ∧ cy ≤ 1 ∧ Wr g off n w w' ∧ Row w' g off n zs' ∧ valB B64 zs' + valB B64 ys = valB B64 zs + B64 ^ n * cy := by
  have hl := hz.len; have al := ha.len; have acap := ha.cap; have abig := ha.big
  unfold maxLen at abig
  go_enter Tryz.func100, Tryz.ntmps100
  go_wp2_with (go_at_call 105; refine (cut_row g off n c m _ hnc hmn).mono ?_; rintro e w' ⟨rfl, r0, rfl⟩)
  go_loopw [7, 8, 19] (fun cv _ i wr => ∃ (k cy : Nat) (dk : List Nat), k ≤ m ∧ i = .int .i64 k ∧ cv = U cy ∧ SubRel w g off n zs ys k cy dk wr) (fun _ _ i _ => m - (intOf i).toNat)
  case atStart => exact ⟨0, 0, zs, Nat.zero_le _, rfl, rfl, ⟨(Wr.refl _ _ _ _).drewN _, hz.drewN _, rfl, by omega, by simp [valB]⟩⟩
  case round =>
    obtain ⟨k, cy, dk, hk, rfl, rfl, hR⟩ := hrel
    by_cases hlt : k < m
    · obtain ⟨g2, off2, rfl, hc2⟩ := ha.cells.resolve_left (by omega)
      obtain ⟨x, hx⟩ : ∃ x, x = dk.getD k 0 := ⟨_, rfl⟩
      obtain ⟨y, hy⟩ : ∃ y, y = ys.getD k 0 := ⟨_, rfl⟩
      have hcx : wr.cell? ⟨g, off + k, none⟩ = some (U x) := by rw [hx]; exact hR.row.cell k (by omega)
      have hfx : wr.frozen? ⟨g, off + k, none⟩ = false := hR.row.frozen k (by omega)
      have hcy : wr.cell? ⟨g2, off2 + k, none⟩ = some (U y) := by
        rw [hy, hR.wrs.cell g2 (off2 + k) (by have := hap g2 off2 (by omega) rfl; omega)]; exact hc2 k hlt
      obtain ⟨s, d1, hrun, hsum, hsl, hd1⟩ := sub64_ex x y cy (by rw [hx]; exact hR.row.dig.getD B64_pos k) (by rw [hy]; exact ha.dig.getD B64_pos k) hR.car
      have HR : Hid (SubRel w g off n zs ys k cy dk wr) := hR
      have HX : Hid (x = dk.getD k 0) := hx
      have HY : Hid (y = ys.getD k 0) := hy
      have HS : Hid (x + B64 * d1 = s + y + cy) := hsum
      clear hR hx hy hsum hc2
      go_wp2
      go_region
      go_wp2
      go_roundw
      case rel => exact ⟨k + 1, d1, dk.set k s, by omega, by go_num, rfl, HR.out.step (by omega) HX.out HY.out HS.out hsl hd1 1⟩
      case measure => simp [intOf]; omega
    · obtain rfl : k = m := by omega
      have HR : Hid (SubRel w g off n zs ys k cy dk wr) := hR
      clear hR
      go_wp2
      go_loopw [7, 9, 41] (fun cv _ i wr => ∃ (j cy : Nat) (dk : List Nat), j ≤ n - k ∧ i = .int .i64 j ∧ cv = U cy ∧ SubRel w g off n zs ys (k + j) cy dk wr) (fun _ _ i _ => n - k - (intOf i).toNat)
      case atStart => exact ⟨0, cy, dk, Nat.zero_le _, rfl, rfl, HR.out⟩
      case round =>
        clear HR
        obtain ⟨j, cy, dk, hj, rfl, rfl, hR⟩ := hrel
        by_cases hlt2 : j < n - k
        · have hco : cutOff off n k = off + k := cutOff_lt (by omega)
          obtain ⟨x, hx⟩ : ∃ x, x = dk.getD (k + j) 0 := ⟨_, rfl⟩
          have hcx : wr.cell? ⟨g, cutOff off n k + j, none⟩ = some (U x) := by rw [hx, hco, Nat.add_assoc]; exact hR.row.cell (k + j) (by omega)
          have hfx : wr.frozen? ⟨g, cutOff off n k + j, none⟩ = false := by rw [hco, Nat.add_assoc]; exact hR.row.frozen (k + j) (by omega)
          obtain ⟨s, d1, hrun0, hsum, hsl, hd1⟩ := sub64_ex x 0 cy (by rw [hx]; exact hR.row.dig.getD B64_pos _) B64_pos hR.car
          have HR : Hid (SubRel w g off n zs ys (k + j) cy dk wr) := hR
          have HX : Hid (x = dk.getD (k + j) 0) := hx
          have HS : Hid (x + B64 * d1 = s + 0 + cy) := hsum
          have HO : Hid (cutOff off n k = off + k) := hco
          have hrun : ∀ w : World, (callFunc 108 #[U x, .int .u64 0, U cy]).run Tryz.prog w = .ok (.value (.tuple #[U s, U d1])) w := hrun0
          clear hR hx hsum hco hrun0
          by_cases hc0 : cy = 0
          · subst hc0
            go_wp2
            go_ret
            exact ⟨0, dk, rfl, by omega, HR.out.wrs, HR.out.row, HR.out.fin hl (by omega) (by omega) (.inl rfl)⟩
          · have hc0' : ((cy : Int) == 0) = false := by simp; omega
            go_wp2
            go_roundw
            case rel =>
              refine ⟨j + 1, d1, dk.set (k + j) s, by omega, by go_num, rfl, ?_⟩
              have st := HR.out.step (by omega) HX.out (y := 0) (by rw [List.getD_eq_getElem?_getD, List.getElem?_eq_none (by omega)]; rfl) HS.out hsl hd1 0
              rw [← Nat.add_assoc off, ← HO.out] at st
              exact st
            case measure => simp [intOf]; omega
        · have hjn : k + j = n := by omega
          have HR : Hid (SubRel w g off n zs ys (k + j) cy dk wr) := hR
          have HJ : Hid (k + j = n) := hjn
          clear hR hjn
          go_wp2
          go_ret
          exact ⟨cy, dk, rfl, HR.out.car, HR.out.wrs, HR.out.row, HR.out.fin hl (by omega) (by have := HJ.out; omega) (.inr HJ.out)⟩
def cmpN (a b : Nat) : Int := if a < b then -1 else if a = b then 0 else 1
theorem cmpN_lt {a b : Nat} (h : a < b) : cmpN a b = -1 := if_pos h
theorem cmpN_gt {a b : Nat} (h : b < a) : cmpN a b = 1 := by unfold cmpN; rw [if_neg (by omega), if_neg (by omega)]
theorem cmpN_eq {a b : Nat} (h : a = b) : cmpN a b = 0 := by unfold cmpN; rw [if_neg (by omega), if_pos h]
theorem cmpN_neg (a b : Nat) : cmpN a b < 0 ↔ a < b := by unfold cmpN; split <;> rename_i h; · simp [h]
                                                          · split <;> simp [h]

theorem val_lt_len {xs ys : List Nat} (hx : Dig B64 xs) (ty : Top ys) (h : xs.length < ys.length) : valB B64 xs < valB B64 ys := by
  have h1 := valB_lt B64_pos hx
  have h2 := valB_pos B64_pos (show ys ≠ [] by intro e; subst e; simp at h) ty
  have h3 : B64 ^ xs.length ≤ B64 ^ (ys.length - 1) := Nat.pow_le_pow_right B64_pos (by omega)
  omega
theorem val_lt_top {xs ys : List Nat} (hx : Dig B64 xs) {n t x y : Nat} (lx : xs.length = n) (ly : ys.length = n) (ht : t < n) (hd : xs.drop (t + 1) = ys.drop (t + 1)) (ex : x = xs.getD t 0) (ey : y = ys.getD t 0) (h : x < y) : valB B64 xs < valB B64 ys := by
  have h1 := valB_lt B64_pos (hx.take t)
  rw [List.length_take, lx, Nat.min_eq_left (by omega)] at h1
  rw [valB_split B64 xs t (by omega), valB_split B64 ys t (by omega), valB_drop _ xs t (by omega), valB_drop _ ys t (by omega), hd, ← ex, ← ey]
  have h2 : B64 ^ t * (x + 1) ≤ B64 ^ t * y := Nat.mul_le_mul_left _ h
  rw [Nat.mul_add] at h2
  rw [Nat.mul_add, Nat.mul_add]
  omega
theorem drop_step {xs ys : List Nat} {n t : Nat} (lx : xs.length = n) (ly : ys.length = n) (ht : t < n) (hd : xs.drop (t + 1) = ys.drop (t + 1)) (h : xs.getD t 0 = ys.getD t 0) : xs.drop t = ys.drop t := by
  rw [drop_getD xs t (by omega), drop_getD ys t (by omega), h, hd]

theorem drewN_two (w : World) (a b : Nat) : (w.drewN a).drewN b = w.drewN (a + b) := by simp

theorem cmp_any {p q : Option Addr} {n m c d : Nat} {xs ys : List Nat} {w : World} (h : At w p n c xs) (k : At w q m d ys) :
    Calls Tryz.prog 77 #[.slice p n c, .slice q m d] w fun e w' => e = .returned (.int .i64 (cmpN (valB B64 xs) (valB B64 ys))) ∧ ∃ r, w' = w.drewN r := by
  obtain ⟨res, hres⟩ : ∃ res, res = cmpN (valB B64 xs) (valB B64 ys) := ⟨_, rfl⟩
  rw [← hres]
  have HRES : Hid (res = cmpN (valB B64 (trimL xs)) (valB B64 (trimL ys))) := by rw [valB_trimL, valB_trimL]; exact hres
  clear hres
  go_enter Tryz.func77, Tryz.ntmps77
  go_wp2_with fail
  refine (trim_any h).mono ?_
  rintro e w' ⟨p1, n1, rfl, hn1, hp1, hw⟩
  obtain rfl := hw.symm
  clear hw
  go_wp2_with fail
  refine (trim_any k).mono ?_
  rintro e w' ⟨q1, m1, rfl, hm1, hq1, hw⟩
  obtain rfl := hw.symm
  clear hw
  have A := h.trim hn1 hp1
  have K := k.trim hm1 hq1
  have tx := Top_trimL xs
  have ty := Top_trimL ys
  clear hn1 hm1 hp1 hq1 h k
  generalize trimL xs = us at *
  generalize trimL ys = vs at *
  have al := A.len; have acap := A.cap; have abig := A.big; have adig := A.dig
  have kl := K.len; have kbig := K.big; have kdig := K.dig
  unfold maxLen at abig kbig
  have HX : Hid (Top us) := tx
  have HY : Hid (Top vs) := ty
  have HU : Hid (Dig B64 us) := adig
  have HV : Hid (Dig B64 vs) := kdig
  clear tx ty adig kdig
  by_cases hlt : n1 < m1
  · have hne : ((n1 : Int) != (m1 : Int)) = true := by simp; omega
    have hr : res = -1 := HRES.out.trans (cmpN_lt (val_lt_len HU.out HY.out (by omega)))
    have HR : Hid (res = -1) := hr
    clear hr
    go_wp2_with (go_at_call 92; refine (order_any _ _).mono ?_; rintro e w' ⟨rfl, hw⟩; obtain rfl := hw.symm; clear hw)
    go_ret
    exact ⟨ret_int HR.out.symm, 0, rfl⟩
  · by_cases hgt : m1 < n1
    · have hne : ((n1 : Int) != (m1 : Int)) = true := by simp; omega
      have hr : res = 1 := HRES.out.trans (cmpN_gt (val_lt_len HV.out HX.out (by omega)))
      have HR : Hid (res = 1) := hr
      clear hr
      go_wp2_with (go_at_call 92; refine (order_any _ _).mono ?_; rintro e w' ⟨rfl, hw⟩; obtain rfl := hw.symm; clear hw)
      go_ret
      exact ⟨ret_int HR.out.symm, 0, rfl⟩
    · obtain rfl : n1 = m1 := by omega
      have hne : ((n1 : Int) != (n1 : Int)) = false := by simp
      go_wp2
      go_loopw [6, 7, 24] (fun _ _ i wr => ∃ t r : Nat, t ≤ n1 ∧ i = .int .i64 t ∧ wr = w.drewN r ∧ us.drop (n1 - t) = vs.drop (n1 - t)) (fun _ _ i _ => n1 - (intOf i).toNat)
      case atStart => exact ⟨0, 0, Nat.zero_le _, rfl, rfl, by rw [Nat.sub_zero, List.drop_of_length_le (by omega), List.drop_of_length_le (by omega)]⟩
      case round =>
        obtain ⟨t, r, ht, rfl, rfl, hd⟩ := hrel
        have HD : Hid (us.drop (n1 - t) = vs.drop (n1 - t)) := hd
        clear hd
        by_cases h1 : t < n1
        · obtain ⟨g, off, rfl, hc⟩ := A.cells.resolve_left (by omega)
          obtain ⟨g2, off2, rfl, hc2⟩ := K.cells.resolve_left (by omega)
          obtain ⟨x, hx⟩ : ∃ x, x = us.getD (n1 - 1 - t) 0 := ⟨_, rfl⟩
          obtain ⟨y, hy⟩ : ∃ y, y = vs.getD (n1 - 1 - t) 0 := ⟨_, rfl⟩
          have hcx : w.cell? ⟨g, off + (n1 - 1 - t), none⟩ = some (U x) := by rw [hx]; exact hc _ (by omega)
          have hcy : w.cell? ⟨g2, off2 + (n1 - 1 - t), none⟩ = some (U y) := by rw [hy]; exact hc2 _ (by omega)
          have HX2 : Hid (x = us.getD (n1 - 1 - t) 0) := hx
          have HY2 : Hid (y = vs.getD (n1 - 1 - t) 0) := hy
          have HD2 : Hid (us.drop (n1 - 1 - t + 1) = vs.drop (n1 - 1 - t + 1)) := by
            have e : n1 - 1 - t + 1 = n1 - t := by omega
            rw [e]; exact HD.out
          clear hx hy hc hc2 HD
          by_cases hxy : x = y
          · have hb : ((x : Int) != (y : Int)) = false := by simp; omega
            go_wp2
            go_quiet (fail)
            go_wp2
            go_roundw
            case rel =>
              refine ⟨t + 1, r + nq, by omega, by go_num, rfl, ?_⟩
              have := drop_step (t := n1 - 1 - t) al kl (by omega) HD2.out (by rw [← HX2.out, ← HY2.out]; exact hxy)
              rw [show n1 - (t + 1) = n1 - 1 - t by omega]; exact this
            case measure => simp [intOf]; omega
          · have hb : ((x : Int) != (y : Int)) = true := by simp; omega
            by_cases hl : x < y
            · have hr : res = -1 := HRES.out.trans (cmpN_lt (val_lt_top HU.out al kl (by omega) HD2.out HX2.out HY2.out hl))
              have HR : Hid (res = -1) := hr
              have hl' : (x : Int) < (y : Int) := by omega
              clear hr
              go_wp2
              go_quiet (fail)
              go_wp2
              go_quiet ((go_at_call 92; exact (order_any _ _).mono (fun e w1 h => ⟨h.1, _, h.2⟩)))
              go_wp2
              go_ret
              exact ⟨ret_int HR.out.symm, _, by first | rfl | (rw [drewN_two, drewN_two])⟩
            · have hr : res = 1 := HRES.out.trans (cmpN_gt (val_lt_top HV.out kl al (by omega) HD2.out.symm HY2.out HX2.out (by omega)))
              have HR : Hid (res = 1) := hr
              have hl' : ¬ (x : Int) < (y : Int) := by omega
              clear hr
              go_wp2
              go_quiet (fail)
              go_wp2
              go_quiet ((go_at_call 92; exact (order_any _ _).mono (fun e w1 h => ⟨h.1, _, h.2⟩)))
              go_wp2
              go_ret
              exact ⟨ret_int HR.out.symm, _, by first | rfl | (rw [drewN_two, drewN_two])⟩
        · obtain rfl : t = n1 := by omega
          have hr : res = 0 := HRES.out.trans (cmpN_eq (by have := HD.out; rw [Nat.sub_self, List.drop_zero, List.drop_zero] at this; rw [this]))
          have HR : Hid (res = 0) := hr
          clear hr
          go_wp2
          go_ret
          exact ⟨ret_int HR.out.symm, r, rfl⟩
theorem bDrewN {B : Nat} {a w : World} (h : Below B a w) (q : Nat) : Below B a (w.drewN q) := ⟨h.os, h.tape, h.output, h.size, h.block⟩

theorem dig1 {x : Nat} (h : x < B64) : Dig B64 [x] := Dig.cons h (Dig.nil _)

def LIM : Nat := B64 ^ 8192
theorem LIM_eq (k : Nat) (hk : k = 8192) : LIM = B64 ^ k := by subst hk; unfold LIM; rfl
theorem Nf.lim {xs : List Nat} {n : Nat} (h : Nf B64 xs n) : xs.length ≤ 8192 ↔ n < LIM := by
  have := h.len_le (k := 8192) B64_one
  unfold LIM; exact this

structure Own (B : Nat) (w : World) (p : Option Addr) (m : Nat) (zs : List Nat) : Prop where
  len : zs.length = m
  dig : Dig B64 zs
  mem : m = 0 ∨ ∃ g, p = some ⟨g, 0, none⟩ ∧ B ≤ g ∧ Row w g 0 m zs
theorem Own.at_ {B : Nat} {w : World} {p : Option Addr} {m : Nat} {zs : List Nat} (h : Own B w p m zs) (hm : m ≤ 8192) : At w p m m zs := by
  refine ⟨h.len, Nat.le_refl _, by unfold maxLen; omega, h.dig, ?_⟩
  rcases h.mem with h0 | ⟨g, rfl, _, hr⟩
  · exact .inl h0
  · exact .inr ⟨g, 0, rfl, hr.cell⟩
theorem Row.lt {w : World} {g off n : Nat} {xs : List Nat} (h : Row w g off n xs) (hn : 0 < n) : g < w.heap.size := World.block_lt_of_cell? w _ (h.cell 0 hn)
theorem Own.below {B : Nat} {w w' : World} {p : Option Addr} {m : Nat} {zs : List Nat} (h : Own B w p m zs) (hb : Below w.heap.size w w') : Own B w' p m zs := by
  refine ⟨h.len, h.dig, ?_⟩
  by_cases h0 : m = 0
  · exact .inl h0
  · obtain ⟨g, rfl, hg, hr⟩ := h.mem.resolve_left h0
    exact .inr ⟨g, rfl, hg, hr.below hb (hr.lt (by omega))⟩
theorem Own.mono {B B' : Nat} {w : World} {p : Option Addr} {m : Nat} {zs : List Nat} (h : Own B w p m zs) (hB : B' ≤ B) : Own B' w p m zs := by
  refine ⟨h.len, h.dig, ?_⟩
  rcases h.mem with h0 | ⟨g, hp, hg, hr⟩
  · exact .inl h0
  · exact .inr ⟨g, hp, by omega, hr⟩
theorem Row.take {w : World} {g off n : Nat} {xs : List Nat} (h : Row w g off n xs) (m : Nat) (hm : m ≤ n) : Row w g off m (xs.take m) := by
  refine ⟨by rw [List.length_take, h.len]; omega, h.dig.take m, fun j hj => ?_, fun j hj => h.frozen j (by omega)⟩
  have e : (xs.take m).getD j 0 = xs.getD j 0 := by rw [List.getD_eq_getElem?_getD, List.getD_eq_getElem?_getD, List.getElem?_take, if_pos hj]
  rw [e]; exact h.cell j (by omega)
theorem Row.own {w : World} {g n B : Nat} {xs : List Nat} (h : Row w g 0 n xs) (hB : B ≤ g) {p' : Option Addr} {m : Nat} (hm : m = (trimL xs).length) (hp : m ≠ 0 → p' = some ⟨g, 0, none⟩) : Own B w p' m (trimL xs) := by
  have hle := trimL_length_le xs
  refine ⟨hm.symm, h.dig.trimL, ?_⟩
  by_cases h0 : m = 0
  · exact .inl h0
  · have := h.take m (by have := h.len; omega)
    rw [hm, ← trimL_take, ← hm] at this
    exact .inr ⟨g, hp h0, hB, this⟩
theorem Blk.own {w : World} {g B : Nat} {xs : List Nat} (h : Blk w g xs) (hd : Dig B64 xs) (hB : B ≤ g) : Own B w (some ⟨g, 0, none⟩) xs.length xs :=
  ⟨rfl, hd, .inr ⟨g, rfl, hB, h.row hd⟩⟩
theorem Blk.at_ {w : World} {g : Nat} {xs : List Nat} (h : Blk w g xs) (hd : Dig B64 xs) {n : Nat} (hn : xs.length = n) (hb : n ≤ maxLen) : At w (some ⟨g, 0, none⟩) n n xs := by
  subst hn; exact (h.row hd).at_ (Nat.le_refl _) hb

def Ans (B : Nat) (w' : World) (e : Ending) (n : Nat) : Prop :=
  (n < LIM ∧ ∃ p m zs, e = .returned (.tuple #[.slice p m m, .int .i64 0]) ∧ Own B w' p m zs ∧ Nf B64 zs n ∧ m ≤ 8192) ∨
  (LIM ≤ n ∧ e = .returned (.tuple #[.slice none 0 0, .int .i64 5]))

theorem norm_any {p : Option Addr} {n c : Nat} {xs : List Nat} {w : World} (h : At w p n c xs) :
    Calls Tryz.prog 64 #[.slice p n c] w fun e w' => Ans w.heap.size w' e (valB B64 xs) ∧ Below w.heap.size w w' := by
  have hN := Nf.trim h.dig
  have hlim := hN.lim
  have HN : Hid (Nf B64 (trimL xs) (valB B64 xs)) := hN
  have HL : Hid ((trimL xs).length ≤ 8192 ↔ valB B64 xs < LIM) := hlim
  clear hN hlim
  go_enter Tryz.func64, Tryz.ntmps64
  go_wp2_with fail
  refine (trim_any h).mono ?_
  rintro e w' ⟨p1, m, rfl, hm, hp, hw⟩
  obtain rfl := hw.symm
  have A := h.trim hm hp
  have HM : Hid (m = (trimL xs).length) := hm
  clear hw hm hp
  by_cases hle : m ≤ 8192
  · go_wp2_with fail
    refine (copied_any A m (Nat.le_refl _) (by omega)).mono ?_
    rintro e w1 ⟨g, rfl, hg, hblk, hb⟩
    rw [Nat.sub_self, List.replicate_zero, List.append_nil] at hblk
    go_wp2_with fail
    go_ret2
    have e1 := HM.out
    refine ⟨.inl ⟨HL.out.1 (by omega), _, m, trimL xs, rfl, ?_, HN.out, hle⟩, hb⟩
    have := hblk.own HN.out.dig hg
    rw [← e1] at this; exact this
  · go_wp2_with fail
    go_ret2
    have e1 := HM.out
    refine ⟨.inr ⟨?_, rfl⟩, Below.refl _ _⟩
    have := mt HL.out.2 (by omega)
    omega

theorem form_true {p : Option Addr} {n c : Nat} {xs : List Nat} {w : World} (h : At w p n c xs) (hf : formB xs = true) :
    Calls Tryz.prog 78 #[.slice p n c] w fun e w' => e = .returned (.bool true) ∧ w' = w := by
  have := form_any h; rw [hf] at this; exact this
theorem Nf.form {xs : List Nat} {n : Nat} (h : Nf B64 xs n) (hl : xs.length ≤ 8192) : formB xs = true := (formB_iff xs).2 ⟨hl, h.top⟩
def Ap2 (v1 v2 : Value) : Prop := ∀ p1 m1 c1 p2 m2 c2 g, v1 = .slice p1 m1 c1 → v2 = .slice p2 m2 c2 → m1 ≠ 0 → m2 ≠ 0 → p1 = some ⟨g, 0, none⟩ → p2 = some ⟨g, 0, none⟩ → False
theorem Ap2.symm {v1 v2 : Value} (h : Ap2 v1 v2) : Ap2 v2 v1 := fun p1 m1 c1 p2 m2 c2 g e1 e2 h1 h2 q1 q2 => h p2 m2 c2 p1 m1 c1 g e2 e1 h2 h1 q2 q1
theorem dig_pad {xs : List Nat} (h : Dig B64 xs) (n : Nat) : Dig B64 (xs ++ List.replicate n 0) := h.append (Dig.replicate _ _ B64_pos)

theorem add_abs {P Q R A B Z cy : Nat} (hs : Z + Q * cy = A + B) (h1 : A < P) (h2 : B < R) (h3 : R ≤ P) (h5 : P * 2 ≤ Q) : Z = A + B := by
  by_cases hc : cy = 0
  · subst hc; omega
  · have h6 : Q * 1 ≤ Q * cy := Nat.mul_le_mul_left _ (by omega)
    omega
theorem add_fin {n m : Nat} {zs xs ys : List Nat} {a b cy : Nat} (hx : Nf B64 xs a) (hy : Nf B64 ys b) (hlx : xs.length = n) (hly : ys.length = m) (hmn : m ≤ n)
    (hs : valB B64 zs + B64 ^ (n + 1) * cy = valB B64 (xs ++ List.replicate (n + 1 - n) 0) + valB B64 ys) : valB B64 zs = a + b := by
  rw [valB_append_zeros, hx.val, hy.val] at hs
  have h1 := valB_lt B64_pos hx.dig
  have h2 := valB_lt B64_pos hy.dig
  rw [hx.val, hlx] at h1
  rw [hy.val, hly] at h2
  refine add_abs hs h1 h2 (Nat.pow_le_pow_right B64_pos hmn) ?_
  rw [Nat.pow_succ]; exact Nat.mul_le_mul_left _ B64_two

theorem add_ord {p q : Option Addr} {n m c d : Nat} {xs ys : List Nat} {a b : Nat} {w : World} (h : At w p n c xs) (k : At w q m d ys) (hx : Nf B64 xs a) (hy : Nf B64 ys b) (hlx : n ≤ 8192) (hly : m ≤ 8192) :
    Calls Tryz.prog 89 #[.slice p n c, .slice q m d] w fun e w' => Ans w.heap.size w' e (a + b) ∧ Below w.heap.size w w' := by
  have fx := hx.form (by rw [h.len]; exact hlx)
  have fy := hy.form (by rw [k.len]; exact hly)
  have HX : Hid (Nf B64 xs a) := hx
  have HY : Hid (Nf B64 ys b) := hy
  clear hx hy
  go_enter Tryz.func89, Tryz.ntmps89
  go_wp2_with fail
  refine (form_true h fx).mono ?_
  rintro e w' ⟨rfl, hw⟩
  obtain rfl := hw.symm
  clear hw
  go_wp2_with fail
  refine (form_true k fy).mono ?_
  rintro e w' ⟨rfl, hw⟩
  obtain rfl := hw.symm
  clear hw fx fy
  by_cases hlt : n < m
  · go_wp2_with fail
    rw [show ((m : Int) + 1) = ((m + 1 : Nat) : Int) by omega]
    refine (copied_any k (m + 1) (by omega) (by omega)).mono ?_
    rintro e w1 ⟨g, rfl, hg, hblk, hb⟩
    have hd1 := dig_pad HY.out.dig (m + 1 - m)
    have hr := hblk.row hd1
    have hl1 : (ys ++ List.replicate (m + 1 - m) 0).length = m + 1 := by rw [List.length_append, List.length_replicate, k.len]; omega
    rw [hl1] at hr
    have h1 := h.below hb
    go_wp2_with fail
    refine (ladd_any g 0 (m + 1) (m + 1) _ p n c xs _ hr (Nat.le_refl _) (by omega) h1 (by omega) (fun g2 off2 hn hp => .inl (h.fresh hg g2 off2 hn hp))).mono ?_
    rintro e w2 ⟨cy, zs, rfl, _, hwr, hrow, hsum⟩
    have A2 := hrow.at_ (Nat.le_refl _) (by unfold maxLen; omega)
    have hval := add_fin HY.out HX.out k.len h.len (by omega) hsum
    have hN := Nf.trim hrow.dig
    rw [hval] at hN
    have HV : Hid (Nf B64 (trimL zs) (b + a)) := hN
    have hb2 : Below w.heap.size w w2 := hb.trans (hwr.below hg)
    clear hsum hval hN hd1 hl1 hr hblk
    go_wp2_with fail
    refine (fitted_any A2).mono ?_
    rintro e w3 hres
    rcases hres with ⟨hle, ⟨p', m', rfl, hm', hp'⟩, hw⟩ | ⟨hgt, rfl, hw⟩
    · obtain rfl := hw.symm
      have HM : Hid (m' = (trimL zs).length) := hm'
      clear hw hm'
      go_wp2_with fail
      go_ret2
      have e1 := HM.out
      rw [Nat.add_comm a b]
      exact ⟨.inl ⟨HV.out.lim.1 hle, p', m', trimL zs, rfl, hrow.own hg e1 hp', HV.out, by omega⟩, hb2⟩
    · obtain rfl := hw.symm
      clear hw
      go_wp2_with fail
      go_ret2
      rw [Nat.add_comm a b]
      refine ⟨.inr ⟨?_, rfl⟩, hb2⟩
      have := mt HV.out.lim.2 (by omega)
      omega
  · go_wp2_with fail
    rw [show ((n : Int) + 1) = ((n + 1 : Nat) : Int) by omega]
    refine (copied_any h (n + 1) (by omega) (by omega)).mono ?_
    rintro e w1 ⟨g, rfl, hg, hblk, hb⟩
    have hd1 := dig_pad HX.out.dig (n + 1 - n)
    have hr := hblk.row hd1
    have hl1 : (xs ++ List.replicate (n + 1 - n) 0).length = n + 1 := by rw [List.length_append, List.length_replicate, h.len]; omega
    rw [hl1] at hr
    have h1 := k.below hb
    go_wp2_with fail
    refine (ladd_any g 0 (n + 1) (n + 1) _ q m d ys _ hr (Nat.le_refl _) (by omega) h1 (by omega) (fun g2 off2 hn hp => .inl (k.fresh hg g2 off2 hn hp))).mono ?_
    rintro e w2 ⟨cy, zs, rfl, _, hwr, hrow, hsum⟩
    have A2 := hrow.at_ (Nat.le_refl _) (by unfold maxLen; omega)
    have hval := add_fin HX.out HY.out h.len k.len (by omega) hsum
    have hN := Nf.trim hrow.dig
    rw [hval] at hN
    have HV : Hid (Nf B64 (trimL zs) (a + b)) := hN
    have hb2 : Below w.heap.size w w2 := hb.trans (hwr.below hg)
    clear hsum hval hN hd1 hl1 hr hblk
    go_wp2_with fail
    refine (fitted_any A2).mono ?_
    rintro e w3 hres
    rcases hres with ⟨hle, ⟨p', m', rfl, hm', hp'⟩, hw⟩ | ⟨hgt, rfl, hw⟩
    · obtain rfl := hw.symm
      have HM : Hid (m' = (trimL zs).length) := hm'
      clear hw hm'
      go_wp2_with fail
      go_ret2
      have e1 := HM.out
      exact ⟨.inl ⟨HV.out.lim.1 hle, p', m', trimL zs, rfl, hrow.own hg e1 hp', HV.out, by omega⟩, hb2⟩
    · obtain rfl := hw.symm
      clear hw
      go_wp2_with fail
      go_ret2
      refine ⟨.inr ⟨?_, rfl⟩, hb2⟩
      have := mt HV.out.lim.2 (by omega)
      omega
end Go.Proofs.YtidggnjnlhjhlabGreatDoor
