import Derived.Test.YtmkglkdhnbjjhaaParts2
namespace Go.Proofs.Ytmkglkdhnbjjhaa
open Go.RowKit Go.Shelf

theorem pow64 (j : Nat) : (2 : Nat) ^ (64 * j) = B64 ^ j := by rw [Nat.pow_mul, show (2 : Nat) ^ 64 = B64 from rfl]
/-- The product in its three parts. -/
theorem join_sum (P a b : Nat) : (a % P) * (b % P) + P * ((a % P) * (b / P) + (a / P) * (b % P)) + P * (P * ((a / P) * (b / P))) = a * b := by
  have h1 := Nat.div_add_mod a P
  have h2 := Nat.div_add_mod b P
  generalize a % P = a0 at *
  generalize a / P = a1 at *
  generalize b % P = b0 at *
  generalize b / P = b1 at *
  subst h1; subst h2
  simp only [Nat.mul_add, Nat.mul_comm, Nat.mul_left_comm]
  omega
theorem cross_sum (a0 a1 b0 b1 : Nat) : (a0 + a1) * (b0 + b1) = a0 * b0 + (a0 * b1 + a1 * b0) + a1 * b1 := by
  simp only [Nat.mul_add, Nat.add_mul]; omega

/-- What the law needs of the numbers when the product is within the limit. -/
structure JoinC (P a b lo mid hi : Nat) : Prop where
  f1 : lo < LIM
  f2 : mid < LIM
  f3 : hi < LIM
  f4 : P * mid < LIM
  f5 : P * hi < LIM
  f6 : P * (P * hi) < LIM
  s1 : lo + P * mid < LIM
  s2 : lo + P * mid + P * (P * hi) = a * b
  c1 : lo + mid < LIM
  c2 : lo + mid + hi < LIM
  low : lo < P * P
theorem JoinC.mk' {P a b : Nat} (hP : 0 < P) (h : a * b < LIM) : JoinC P a b ((a % P) * (b % P)) ((a % P) * (b / P) + (a / P) * (b % P)) ((a / P) * (b / P)) := by
  have e := join_sum P a b
  have hlow : (a % P) * (b % P) < P * P := Nat.mul_lt_mul'' (Nat.mod_lt _ hP) (Nat.mod_lt _ hP)
  generalize (a % P) * (b % P) = lo at *
  generalize (a % P) * (b / P) + (a / P) * (b % P) = mid at *
  generalize (a / P) * (b / P) = hi at *
  have h1 : 1 * mid ≤ P * mid := Nat.mul_le_mul_right _ hP
  have h2 : 1 * hi ≤ P * hi := Nat.mul_le_mul_right _ hP
  have h3 : 1 * (P * hi) ≤ P * (P * hi) := Nat.mul_le_mul_right _ hP
  exact ⟨by omega, by omega, by omega, by omega, by omega, by omega, by omega, e, by omega, by omega, hlow⟩

theorem wrap_mulj (c j : Nat) (h : c * j ≤ 1048576) : IntKind.i64.wrap ((c : Int) * (j : Int)) = ((c * j : Nat) : Int) := by
  have : ((c : Int) * (j : Int)) = ((c * j : Nat) : Int) := by simp
  rw [this]
  simp [IntKind.wrap, IntKind.signed, IntKind.bits]
  omega

theorem PartsTo.ok {B : Nat} {w' : World} {e : Ending} {lo mid hi P a b : Nat} (h : PartsTo B w' e lo mid hi) (c : JoinC P a b lo mid hi) :
    ∃ p1 m1 z1 p2 m2 z2 p3 m3 z3, e = .returned (.tuple #[.slice p1 m1 m1, .slice p2 m2 m2, .slice p3 m3 m3, .int .i64 0]) ∧ Num w' p1 m1 m1 z1 lo ∧ Num w' p2 m2 m2 z2 mid ∧ Num w' p3 m3 m3 z3 hi := by
  rcases h with ⟨_, _, _, p1, m1, z1, p2, m2, z2, p3, m3, z3, he, h1, h2, h3, _⟩ | ⟨h | h | h, _⟩
  · exact ⟨p1, m1, z1, p2, m2, z2, p3, m3, z3, he, h1, h2, h3⟩
  · have := c.f1; omega
  · have := c.f2; omega
  · have := c.f3; omega
end Go.Proofs.Ytmkglkdhnbjjhaa
