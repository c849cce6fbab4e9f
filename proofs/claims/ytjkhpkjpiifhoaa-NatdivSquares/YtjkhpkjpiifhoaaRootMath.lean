import Derived.Test.YtjkhpkjpiifhoaaShr
namespace Go.Proofs.Ytjkhpkjpiifhoaa

/-- What one step of the root needs and gives. -/
structure RootC (a h P d o last : Nat) : Prop where
  id : a + d * d = (P * h + d) * (P * h + d) + (P * o + last)
  dP : d ≤ P
  big : (P * h) * (P * h) ≤ a
  lf : P * o + last < 2 * (P * h)
  dd : d * d ≤ 2 * (P * h)
  hh : 6 ≤ h
  pp : 1 ≤ P
theorem root_core {a h l P next last d o : Nat} (ha : a = (h * h + l) * (P * P) + (P * next + last)) (hl : l ≤ 2 * h) (hn : next < P) (hla : last < P) (hd : P * l + next = d * (2 * h) + o) (ho : o < 2 * h) (hP : P ≤ 2 * h) (h6 : 6 ≤ h) : RootC a h P d o last := by
  have hdP : d ≤ P := by
    have h1 : d * (2 * h) < (P + 1) * (2 * h) := by
      have h2 : P * l ≤ P * (2 * h) := Nat.mul_le_mul_left _ hl
      rw [Nat.add_mul, Nat.one_mul]; omega
    have := Nat.lt_of_mul_lt_mul_right h1
    omega
  have hid : a + d * d = (P * h + d) * (P * h + d) + (P * o + last) := by
    have h1 : P * (P * l + next) = P * (d * (2 * h) + o) := by rw [hd]
    rw [Nat.mul_add, Nat.mul_add] at h1
    have h2 : (h * h + l) * (P * P) = (P * h) * (P * h) + P * (P * l) := by
      rw [Nat.add_mul]
      have e1 : h * h * (P * P) = P * h * (P * h) := by rw [Nat.mul_mul_mul_comm, Nat.mul_comm h P]
      have e2 : l * (P * P) = P * (P * l) := by rw [Nat.mul_comm, Nat.mul_assoc]
      omega
    have h3 : (P * h + d) * (P * h + d) = (P * h) * (P * h) + P * (d * (2 * h)) + d * d := by
      have e1 : P * (d * (2 * h)) = P * h * d + d * (P * h) := by
        rw [Nat.mul_comm 2 h, ← Nat.mul_assoc d h 2, ← Nat.mul_assoc P (d * h) 2, Nat.mul_comm d (P * h), Nat.mul_comm d h, ← Nat.mul_assoc P h d]; omega
      rw [Nat.add_mul, Nat.mul_add, Nat.mul_add]; omega
    omega
  refine ⟨hid, hdP, ?_, ?_, ?_, h6, by omega⟩
  · have e1 : h * h * (P * P) = P * h * (P * h) := by rw [Nat.mul_mul_mul_comm, Nat.mul_comm h P]
    rw [ha, Nat.add_mul]; omega
  · have h1 : P * (o + 1) ≤ P * (2 * h) := Nat.mul_le_mul_left _ ho
    rw [Nat.mul_add, Nat.mul_one, Nat.mul_left_comm] at h1
    omega
  · have h1 : d * d ≤ P * P := Nat.mul_le_mul hdP hdP
    have h2 : P * P ≤ P * (2 * h) := Nat.mul_le_mul_left _ hP
    rw [Nat.mul_left_comm] at h2
    omega
theorem RootC.le {a h P d o last : Nat} (c : RootC a h P d o last) : 6 * (P * h) ≤ a ∧ P ≤ P * h ∧ h ≤ P * h := by
  have h1 : P * 6 ≤ P * h := Nat.mul_le_mul_left _ c.hh
  have h2 : 1 * h ≤ P * h := Nat.mul_le_mul_right _ c.pp
  have h3 : 6 * (P * h) ≤ (P * h) * (P * h) := Nat.mul_le_mul_right _ (by have := c.pp; omega)
  have := c.big
  exact ⟨by omega, by omega, by omega⟩
/-- What the root's answer is, by the two ways of settle. -/
theorem RootC.fin {a h P d o last : Nat} (c : RootC a h P d o last) :
    (P * o + last < d * d → 1 ≤ P * h + d ∧ d * d ≤ P * o + last + 2 * (P * h + d) - 1) ∧
    (let S := if P * o + last < d * d then P * h + d - 1 else P * h + d
     let T := if P * o + last < d * d then P * o + last + 2 * (P * h + d) - 1 - d * d else P * o + last - d * d
     S * S ≤ a ∧ a ≤ S * S + 2 * S ∧ T = a - S * S) := by
  have h1 := c.id; have h2 := c.lf; have h3 := c.dd
  have hl := c.le
  refine ⟨fun hlt => ?_, ?_⟩
  · have hd1 : 1 ≤ d := by
      rcases Nat.eq_zero_or_pos d with e | e
      · subst e; simp at hlt
      · exact e
    exact ⟨by omega, by omega⟩
  · by_cases hlt : P * o + last < d * d
    · have hd1 : 1 ≤ d := by
        rcases Nat.eq_zero_or_pos d with e | e
        · subst e; simp at hlt
        · exact e
      simp only [if_pos hlt]
      generalize P * o + last = lf at *
      obtain ⟨S, hS⟩ : ∃ S, P * h + d = S + 1 := ⟨P * h + d - 1, by omega⟩
      rw [hS] at h1 ⊢
      have e1 : (S + 1) * (S + 1) = S * S + 2 * S + 1 := by rw [Nat.add_mul, Nat.mul_add]; omega
      rw [Nat.add_sub_cancel]
      rw [e1] at h1
      have h4 : d * d ≤ 2 * (S + 1) := by omega
      generalize d * d = dd at *
      generalize S * S = ss at *
      exact ⟨by omega, by omega, by omega⟩
    · simp only [if_neg hlt]
      generalize P * o + last = lf at *
      have h4 : lf ≤ 2 * (P * h + d) := by omega
      generalize P * h + d = S at *
      generalize d * d = dd at *
      generalize S * S = ss at *
      exact ⟨by omega, by omega, by omega⟩
/-- The half has at least k bits. -/
theorem half_big {a n k h : Nat} (hn : n = bitsN a) (hk : k = n / 4) (hn65 : 65 ≤ n) (hh : a / 2 ^ (2 * k) ≤ h * h + 2 * h) : 2 ^ k ≤ 2 * h ∧ 6 ≤ h := by
  have ha : a ≠ 0 := by intro e; subst e; rw [bitsN_zero] at hn; omega
  have h1 := bitsN_le a ha
  rw [← hn] at h1
  have h2 : 2 ^ (2 * k - 1) ≤ a / 2 ^ (2 * k) := by
    rw [Nat.le_div_iff_mul_le (Nat.two_pow_pos _), ← Nat.pow_add]
    exact Nat.le_trans (Nat.pow_le_pow_right (by decide) (by omega)) h1
  have h3 : 2 ^ (k - 1) ≤ h := by
    rcases Nat.lt_or_ge h (2 ^ (k - 1)) with e | e
    · exfalso
      have e1 : (h + 1) * (h + 1) ≤ 2 ^ (k - 1) * 2 ^ (k - 1) := Nat.mul_le_mul e e
      rw [← Nat.pow_add] at e1
      have e2 : (2:Nat) ^ (k - 1 + (k - 1)) ≤ 2 ^ (2 * k - 1) := Nat.pow_le_pow_right (by decide) (by omega)
      have e3 : (h + 1) * (h + 1) = h * h + 2 * h + 1 := by rw [Nat.add_mul, Nat.mul_add]; omega
      omega
    · exact e
  have h4 : (2:Nat) ^ 3 ≤ 2 ^ (k - 1) := Nat.pow_le_pow_right (by decide) (by omega)
  have h5 : (2:Nat) ^ k = 2 * 2 ^ (k - 1) := by rw [← Nat.pow_succ', show (k - 1).succ = k by omega]
  exact ⟨by omega, by omega⟩
theorem split_low (a k : Nat) : a = a / 2 ^ (2 * k) * (2 ^ k * 2 ^ k) + (2 ^ k * (a % 2 ^ (2 * k) / 2 ^ k) + a % 2 ^ (2 * k) % 2 ^ k) := by
  have h1 := Nat.div_add_mod a (2 ^ (2 * k))
  have h2 := Nat.div_add_mod (a % 2 ^ (2 * k)) (2 ^ k)
  rw [h2, ← Nat.pow_add, show k + k = 2 * k by omega, Nat.mul_comm]; omega
end Go.Proofs.Ytjkhpkjpiifhoaa
