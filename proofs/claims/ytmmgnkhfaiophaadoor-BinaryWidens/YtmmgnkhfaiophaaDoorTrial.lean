import Derived.Test.YtmmgnkhfaiophaaDoorSubMul
import Derived.Test.YtmmgnkhfaiophaaDoorDivEx
import Derived.Test.YtmmgnkhfaiophaaDoorLits
namespace Go.Proofs.YtmmgnkhfaiophaaDoor
open Go.RowKit Go.Shelf

theorem valB_top {xs : List Nat} {n : Nat} (hl : xs.length = n + 1) : valB B64 xs = valB B64 (xs.take n) + B64 ^ n * xs.getD n 0 := by
  have h := valB_take_succ B64 xs n (by omega)
  rw [List.take_of_length_le (by omega)] at h; exact h
theorem take_len_lt {xs : List Nat} (hd : Dig B64 xs) {n : Nat} (hn : n ≤ xs.length) : valB B64 (xs.take n) < B64 ^ n := by
  have := valB_lt B64_pos (hd.take n)
  rw [List.length_take, Nat.min_eq_left hn] at this; exact this

/-- The upper three limbs of the window and the upper two of the divisor tell a bound on the quotient. -/
theorem trial_top {P L M T V W D q : Nat} (hW : W = L + P * T) (hL : L < P) (hD : D = M + P * V) (hq : q * D ≤ W) : q * V ≤ T := by
  have h1 : P * (q * V) ≤ q * D := by rw [hD, Nat.mul_add, Nat.mul_left_comm]; exact Nat.le_add_left _ _
  have h2 : P * (q * V) < P * (T + 1) := by rw [Nat.mul_add, Nat.mul_one]; omega
  have := Nat.lt_of_mul_lt_mul_left h2
  omega
theorem trial_first {q f s w0 w1 w2 : Nat} (hw0 : w0 < B64) (h : q * (s + B64 * f) ≤ w0 + B64 * (w1 + B64 * w2)) : q * f ≤ w1 + B64 * w2 := by
  have h1 : q * (s + B64 * f) = q * s + B64 * (q * f) := by rw [Nat.mul_add, Nat.mul_left_comm]
  have h2 : B64 * (q * f) < B64 * (w1 + B64 * w2 + 1) := by rw [Nat.mul_add B64 _ 1, Nat.mul_one]; omega
  have := Nat.lt_of_mul_lt_mul_left h2
  omega
theorem trial_step {q d l f s w0 w1 w2 : Nat} (h : q * (s + B64 * f) ≤ w0 + B64 * (w1 + B64 * w2)) (hi : d * f + l = w1 + B64 * w2) (hg : l * B64 + w0 < d * s) : q < d := by
  have h1 : d * (s + B64 * f) = d * s + B64 * (d * f) := by rw [Nat.mul_add, Nat.mul_left_comm]
  have h2 : B64 * (d * f) + B64 * l = B64 * (w1 + B64 * w2) := by rw [← Nat.mul_add, hi]
  have h3 : l * B64 = B64 * l := Nat.mul_comm _ _
  have h4 : q * (s + B64 * f) < d * (s + B64 * f) := by omega
  exact Nat.lt_of_mul_lt_mul_right h4
/-- What trial needs of its two lists. -/
structure TrialC (ws ds : List Nat) (n w0 w1 w2 s f q : Nat) : Prop where
  e0 : w0 = ws.getD (n - 2) 0
  e1 : w1 = ws.getD (n - 1) 0
  e2 : w2 = ws.getD n 0
  es : s = ds.getD (n - 2) 0
  ef : f = ds.getD (n - 1) 0
  b0 : w0 < B64
  b1 : w1 < B64
  b2 : w2 < B64
  bs : s < B64
  bf : f < B64
  top : q * (s + B64 * f) ≤ w0 + B64 * (w1 + B64 * w2)
  le : w2 ≤ f
  qb : q < B64
theorem TrialC.mk' {ws ds : List Nat} {n : Nat} (hn : 2 ≤ n) (lw : ws.length = n + 1) (ld : ds.length = n) (dw : Dig B64 ws) (dd : Dig B64 ds) (hlt : valB B64 ws < B64 * valB B64 ds) :
    ∃ w0 w1 w2 s f, TrialC ws ds n w0 w1 w2 s f (valB B64 ws / valB B64 ds) := by
  obtain ⟨k, rfl⟩ : ∃ k, n = k + 2 := ⟨n - 2, by omega⟩
  have a1 := valB_top lw
  have a2 := valB_take_succ B64 ws (k + 1) (by omega)
  have a3 := valB_take_succ B64 ws k (by omega)
  have c1 := valB_top (xs := ds) (n := k + 1) (by omega)
  have c2 := valB_take_succ B64 ds k (by omega)
  have hL := take_len_lt dw (n := k) (by omega)
  have hM := take_len_lt dd (n := k) (by omega)
  have hP : 0 < B64 ^ k := Nat.pow_pos B64_pos
  have b0 := dw.getD B64_pos k; have b1 := dw.getD B64_pos (k + 1); have b2 := dw.getD B64_pos (k + 2)
  have bs := dd.getD B64_pos k; have bf := dd.getD B64_pos (k + 1)
  have hW : valB B64 ws = valB B64 (ws.take k) + B64 ^ k * (ws.getD k 0 + B64 * (ws.getD (k + 1) 0 + B64 * ws.getD (k + 2) 0)) := by
    rw [a1, a2, a3, show B64 ^ (k + 2) = B64 ^ k * B64 * B64 by rw [Nat.pow_succ, Nat.pow_succ], Nat.pow_succ]; simp only [Nat.mul_add, Nat.mul_assoc, Nat.add_assoc]
  have hD : valB B64 ds = valB B64 (ds.take k) + B64 ^ k * (ds.getD k 0 + B64 * ds.getD (k + 1) 0) := by
    rw [c1, c2, Nat.pow_succ]; simp only [Nat.mul_add, Nat.mul_assoc, Nat.add_assoc]
  refine ⟨_, _, _, _, _, rfl, rfl, rfl, rfl, rfl, b0, b1, b2, bs, bf, trial_top hW hL hD (Nat.div_mul_le_self _ _), ?_, Nat.div_lt_of_lt_mul (by rw [Nat.mul_comm]; exact hlt)⟩
  -- the top limb is at most the divisor's
  rw [hW, hD] at hlt
  show ws.getD (k + 2) 0 ≤ ds.getD (k + 1) 0
  by_cases hle : ws.getD (k + 2) 0 ≤ ds.getD (k + 1) 0
  · exact hle
  · exfalso
    have h1 : B64 * (ds.getD (k + 1) 0 + 1) ≤ B64 * ws.getD (k + 2) 0 := Nat.mul_le_mul_left _ (by omega)
    have h2 : B64 * (B64 * (ds.getD (k + 1) 0 + 1)) ≤ B64 * (B64 * ws.getD (k + 2) 0) := Nat.mul_le_mul_left _ h1
    have h3 : B64 * (ds.getD k 0 + 1 + B64 * ds.getD (k + 1) 0) ≤ B64 * (B64 * (ds.getD (k + 1) 0 + 1)) := Nat.mul_le_mul_left _ (by rw [Nat.mul_add]; omega)
    have h4 : B64 ^ k * (B64 * (ds.getD k 0 + 1 + B64 * ds.getD (k + 1) 0)) ≤ B64 ^ k * (ws.getD k 0 + B64 * (ws.getD (k + 1) 0 + B64 * ws.getD (k + 2) 0)) := Nat.mul_le_mul_left _ (by rw [Nat.mul_add B64 (ws.getD (k + 1) 0)]; omega)
    have h5 : B64 * (valB B64 (ds.take k) + B64 ^ k * (ds.getD k 0 + B64 * ds.getD (k + 1) 0)) ≤ B64 ^ k * (B64 * (ds.getD k 0 + 1 + B64 * ds.getD (k + 1) 0)) := by
      rw [Nat.mul_left_comm (B64 ^ k)]
      refine Nat.mul_le_mul_left _ ?_
      have : B64 ^ k * (ds.getD k 0 + 1 + B64 * ds.getD (k + 1) 0) = B64 ^ k * (ds.getD k 0 + B64 * ds.getD (k + 1) 0) + B64 ^ k := by
        rw [show ds.getD k 0 + 1 + B64 * ds.getD (k + 1) 0 = (ds.getD k 0 + B64 * ds.getD (k + 1) 0) + 1 by omega, Nat.mul_add, Nat.mul_one]
      omega
    omega

theorem At.cellAt {w : World} {g off n c : Nat} {xs : List Nat} (h : At w (some ⟨g, off, none⟩) n c xs) (j : Nat) (hj : j < n) : w.cell? ⟨g, off + j, none⟩ = some (U (xs.getD j 0)) := by
  obtain ⟨g', o', he, hcell⟩ := h.cells.resolve_left (by omega)
  simp only [Option.some.injEq, Addr.mk.injEq, and_true] at he
  obtain ⟨rfl, rfl⟩ := he
  exact hcell j hj

/-- The state of trial's loop. -/
structure TrialR (w1 w2 f q d l o : Nat) : Prop where
  qd : q ≤ d
  db : d < B64
  lb : l < B64
  ob : o ≤ 1
  sum : o = 0 → d * f + l = w1 + B64 * w2
theorem TrialR.down {w0 w1 w2 s f q d l o l' o' : Nat} (h : TrialR w1 w2 f q d l o) {ws ds : List Nat} {n : Nat} (c : TrialC ws ds n w0 w1 w2 s f q) (ho : o = 0) (hg : l * B64 + w0 < d * s) (ha : l + f + 0 = l' + B64 * o') (hl' : l' < B64) (ho' : o' ≤ 1) : 1 ≤ d ∧ TrialR w1 w2 f q (d - 1) l' o' := by
  have h1 := trial_step c.top (h.sum ho) hg
  have h2 := h.db
  refine ⟨by omega, by omega, by omega, hl', ho', fun h0 => ?_⟩
  subst h0
  have h3 := h.sum ho
  have h4 : d * f = (d - 1) * f + f := by rw [← Nat.succ_mul, show (d - 1).succ = d by omega]
  omega

theorem wrap_sub (n j : Nat) (h : j ≤ n) (hb : n ≤ 9223372036854775807) : IntKind.i64.wrap ((n : Int) - (j : Int)) = (n : Int) - (j : Int) := by
  simp [IntKind.wrap, IntKind.signed, IntKind.bits]
  omega

/-- A quiet callee, met after A + n draws. -/
theorem quiet_of2 {P : Program} {f : FuncId} {args : Array Value} {w : World} {A n : Nat} {v : Value}
    (h : ∀ W : World, Calls P f args W fun e w' => e = .returned v ∧ ∃ m, w' = W.drewN m) : Calls P f args (w.drewN (A + n)) fun e w'' => e = .returned v ∧ ∃ m, w'' = w.drewN (A + m) :=
  (h _).mono fun _ _ ⟨he, m, hm⟩ => ⟨he, n + m, by rw [hm, drewN_two, Nat.add_assoc]⟩
theorem quiet_of1 {P : Program} {f : FuncId} {args : Array Value} {w : World} {n : Nat} {v : Value}
    (h : ∀ W : World, Calls P f args W fun e w' => e = .returned v ∧ ∃ m, w' = W.drewN m) : Calls P f args (w.drewN n) fun e w'' => e = .returned v ∧ ∃ m, w'' = w.drewN m :=
  (h _).mono fun _ _ ⟨he, m, hm⟩ => ⟨he, n + m, by rw [hm, drewN_two]⟩

end Go.Proofs.YtmmgnkhfaiophaaDoor
