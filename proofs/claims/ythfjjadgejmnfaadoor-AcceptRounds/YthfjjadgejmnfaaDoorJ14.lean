import Derived.Test.YthfjjadgejmnfaaDoorJ13
import Derived.Laws.Externs
import Derived.Test.YthfjjadgejmnfaaDoorJ8
import Derived.Test.YthfjjadgejmnfaaDoorJ9
import Derived.Test.YthfjjadgejmnfaaDoorJ12
namespace Go.Proofs.YthfjjadgejmnfaaDoor
open Go.RowKit
set_option maxRecDepth 20000
set_option maxHeartbeats 0
theorem ordI (x y : Int) : compare x y = if x < y then .lt else if x = y then .eq else .gt := rfl
theorem ordI_mul (x y : Int) {k : Nat} (hk : 0 < k) : compare (x * (k : Int)) (y * (k : Int)) = compare x y := by
  have hk' : (0 : Int) < (k : Int) := by omega
  rw [ordI, ordI]
  have h1 : (x * (k : Int) < y * (k : Int)) ↔ x < y := ⟨fun h => Int.lt_of_mul_lt_mul_right h (Int.le_of_lt hk'), fun h => Int.mul_lt_mul_of_pos_right h hk'⟩
  have h2 : (x * (k : Int) = y * (k : Int)) ↔ x = y := ⟨fun h => Int.eq_of_mul_eq_mul_right (by omega) h, fun h => by rw [h]⟩
  simp only [h1, h2]
theorem order_fin {a b : Nat} (ha : Fin64 a) (hb : Fin64 b) : Ieee.double.order a b = some (compare (ux a) (ux b)) := by
  obtain ⟨m, q, h1, h2⟩ := read_fin ha.lt ha.fin
  obtain ⟨n, r, h3, h4⟩ := read_fin hb.lt hb.fin
  unfold Ieee.Format.order
  rw [h1, h3, ux_of h2, ux_of h4]
  unfold Ieee.Datum.order
  dsimp only
  obtain ⟨d, hd⟩ : ∃ d, d = min q r := ⟨_, rfl⟩
  have e1 : (-1074 + (q : Int) - min (-1074 + (q : Int)) (-1074 + (r : Int))).toNat = q - d := by omega
  have e2 : (-1074 + (r : Int) - min (-1074 + (q : Int)) (-1074 + (r : Int))).toNat = r - d := by omega
  rw [e1, e2, ← ordI_mul _ _ (p2pos d), signed_up, signed_up, show q - d + d = q by omega, show r - d + d = r by omega]
def InfP (r : Nat) : Prop := r % 9223372036854775808 = 9218868437227405312
theorem three64 (r : Nat) (h : r < 18446744073709551616) : Fin64 r ∨ InfP r ∨ NanP r := by
  unfold InfP NanP
  rcases Nat.lt_trichotomy (r % 9223372036854775808) 9218868437227405312 with h1 | h1 | h1
  · exact .inl ⟨h, h1⟩
  · exact .inr (.inl h1)
  · exact .inr (.inr h1)
theorem read_inf {b : Nat} (h : InfP b) : Ieee.double.read b = .infinity (b / 9223372036854775808 % 2 == 1) := by
  have e1 : Ieee.double.leastPlace = -1074 := by decide
  have e2 : Ieee.double.binade = 4503599627370496 := by decide
  have e3 : Ieee.double.infRung = 9218868437227405312 := by decide
  have e4 : Ieee.double.signWeight = 9223372036854775808 := by decide
  unfold InfP at h
  unfold Ieee.Format.read
  rw [e1, e2, e3, e4]
  dsimp only
  rw [h]
  simp
theorem read_nan {b : Nat} (h : NanP b) : ∃ s m, Ieee.double.read b = .nan s m := by
  have e2 : Ieee.double.binade = 4503599627370496 := by decide
  have e3 : Ieee.double.infRung = 9218868437227405312 := by decide
  have e4 : Ieee.double.signWeight = 9223372036854775808 := by decide
  unfold NanP at h
  unfold Ieee.Format.read
  rw [e2, e3, e4]
  dsimp only
  rw [if_neg (by omega), if_neg (by omega), if_neg (by omega)]
  exact ⟨_, _, rfl⟩
theorem order_nan {a b : Nat} (h : NanP a ∨ NanP b) : Ieee.double.order a b = none := by
  unfold Ieee.Format.order
  rcases h with h | h
  · obtain ⟨s, m, hr⟩ := read_nan h; rw [hr]; rfl
  · obtain ⟨s, m, hr⟩ := read_nan h; rw [hr]
    cases Ieee.double.read a <;> rfl
theorem order_inf {a b : Nat} (h : InfP a) (hb : Fin64 b) : Ieee.double.order a b = some .lt ∨ Ieee.double.order a b = some .gt := by
  unfold Ieee.Format.order
  obtain ⟨n, r, h3, h4⟩ := read_fin hb.lt hb.fin
  rw [read_inf h, h3]
  unfold Ieee.Datum.order
  cases (a / 9223372036854775808 % 2 == 1)
  · exact .inr rfl
  · exact .inl rfl
def rv (X : Int) : Int := if X < 0 then -(vs 4503599627370496 (rg 0 X.natAbs) : Int) else (vs 4503599627370496 (rg 0 X.natAbs) : Int)
theorem sm_word2 {X : Int} {neg : Bool} (h1 : rg 0 X.natAbs < 9218868437227405312) (hn : X ≠ 0 → neg = decide (X < 0)) : Fin64 (Ieee.double.word neg (rg 0 X.natAbs)) ∧ ux (Ieee.double.word neg (rg 0 X.natAbs)) = rv X ∧ Rn 53 X (rv X) := by
  obtain ⟨a, b, c⟩ := word_facts neg h1
  have hc : ux (Ieee.double.word neg (rg 0 X.natAbs)) = rv X := by
    rw [c]
    unfold rv
    by_cases h0 : X = 0
    · subst h0
      have h3 : vs 4503599627370496 (rg 0 (Int.natAbs 0)) = 0 := by rw [show rg 0 (Int.natAbs 0) = 0 from rfl]; simp [vs]
      rw [h3]; cases neg <;> simp
    · rw [hn h0]; by_cases h3 : X < 0 <;> simp [h3]
  refine ⟨⟨a, by rw [b]; exact h1⟩, hc, ?_⟩
  have h2 := rg_rn X.natAbs h1
  unfold rv
  by_cases h3 : X < 0
  · rw [if_pos h3]
    have := h2.neg
    rw [show -((X.natAbs : Nat) : Int) = X by omega] at this
    exact this
  · rw [if_neg h3]
    rw [show ((X.natAbs : Nat) : Int) = X by omega] at h2
    exact h2
theorem rg_top (n : Nat) : rg 0 n ≤ 9218868437227405312 := by
  unfold rg
  split
  · omega
  · exact Nat.min_le_right ..
theorem fl_add_any {a b : Nat} (ha : Fin64 a) (hb : Fin64 b) : ∃ r, floatBits .add .f64 a b = some r ∧ ((Fin64 r ∧ ux r = rv (ux a + ux b) ∧ Rn 53 (ux a + ux b) (ux r)) ∨ InfP r) ∧ (rg 0 (ux a + ux b).natAbs < 9218868437227405312 ↔ Fin64 r) := by
  obtain ⟨m, q, h1, h2⟩ := read_fin ha.lt ha.fin
  obtain ⟨n, t, h3, h4⟩ := read_fin hb.lt hb.fin
  have hX : ux a + ux b = Ieee.signed (decide (9223372036854775808 ≤ a)) m q + Ieee.signed (decide (9223372036854775808 ≤ b)) n t := by rw [ux_of h2, ux_of h4]
  refine ⟨Ieee.double.word (if ux a + ux b = 0 then decide (9223372036854775808 ≤ a) && decide (9223372036854775808 ≤ b) else decide (ux a + ux b < 0)) (rg 0 (ux a + ux b).natAbs), ?_, ?_⟩
  · show ((Ieee.double.read a).sum (Ieee.double.read b)).map Ieee.double.write = _
    rw [h1, h3]
    exact sum_fin _ _ _ _ _ _ _ hX
  · rcases Nat.lt_or_ge (rg 0 (ux a + ux b).natAbs) 9218868437227405312 with h | h
    · obtain ⟨f1, f2, f3⟩ := sm_word2 (neg := if ux a + ux b = 0 then decide (9223372036854775808 ≤ a) && decide (9223372036854775808 ≤ b) else decide (ux a + ux b < 0)) h fun h0 => if_neg h0
      exact ⟨.inl ⟨f1, f2, by rw [f2]; exact f3⟩, fun _ => f1, fun _ => h⟩
    · have h5 : rg 0 (ux a + ux b).natAbs = 9218868437227405312 := Nat.le_antisymm (rg_top _) h
      have e4 : Ieee.double.signWeight = 9223372036854775808 := by decide
      have h6 : InfP (Ieee.double.word (if ux a + ux b = 0 then decide (9223372036854775808 ≤ a) && decide (9223372036854775808 ≤ b) else decide (ux a + ux b < 0)) (rg 0 (ux a + ux b).natAbs)) := by
        rw [h5]
        unfold InfP Ieee.Format.word
        rw [e4]
        cases (if ux a + ux b = 0 then decide (9223372036854775808 ≤ a) && decide (9223372036854775808 ≤ b) else decide (ux a + ux b < 0)) <;> simp
      refine ⟨.inr h6, fun h7 => absurd h7 (by omega), fun h7 => ?_⟩
      have h8 := h7.fin
      unfold InfP at h6
      omega
theorem fl_add_not {a b : Nat} (ha : Fin64 a) (hb : ¬ Fin64 b) (hlt : b < 18446744073709551616) : floatBits .add .f64 a b = none ∨ ∃ r, floatBits .add .f64 a b = some r ∧ InfP r := by
  obtain ⟨m, q, h1, h2⟩ := read_fin ha.lt ha.fin
  rcases three64 b hlt with h | h | h
  · exact absurd h hb
  · refine .inr ?_
    have e : floatBits .add .f64 a b = ((Ieee.double.read a).sum (Ieee.double.read b)).map Ieee.double.write := rfl
    rw [e, h1, read_inf h]
    cases (b / 9223372036854775808 % 2 == 1)
    · exact ⟨_, rfl, by unfold InfP; decide⟩
    · exact ⟨_, rfl, by unfold InfP; decide⟩
  · refine .inl ?_
    have e : floatBits .add .f64 a b = ((Ieee.double.read a).sum (Ieee.double.read b)).map Ieee.double.write := rfl
    obtain ⟨s, k, hr⟩ := read_nan h
    rw [e, h1, hr]; rfl
structure DdF (h l : Nat) : Prop where
  hi : Fin64 h
  lo : Fin64 l
  fit : rg 0 (ux h + ux l).natAbs < 9218868437227405312
  eq : rv (ux h + ux l) = ux h
theorem DdF.rn {h l : Nat} (d : DdF h l) : Rn 53 (ux h + ux l) (ux h) := by
  have := (sm_word2 (neg := decide (ux h + ux l < 0)) d.fit fun _ => rfl).2.2
  rw [d.eq] at this
  exact this
theorem form_iff {h l r : Nat} (hh : Fin64 h) (hl : l < 18446744073709551616) (F : FlR .add h l r) : Ieee.double.order r h = some .eq ↔ DdF h l := by
  by_cases hf : Fin64 l
  · obtain ⟨r', e1, e2, e3⟩ := fl_add_any hh hf
    obtain rfl : r = r' := F.some _ e1
    rcases e2 with ⟨f1, f2, f3⟩ | h6
    · rw [order_fin f1 hh, f2, ordI]
      constructor
      · intro h7
        refine ⟨hh, hf, e3.2 f1, ?_⟩
        split at h7
        · cases h7
        · split at h7
          · assumption
          · cases h7
      · intro d
        rw [if_neg (by rw [d.eq]; omega), if_pos d.eq]
    · constructor
      · intro h7
        rcases order_inf h6 hh with h8 | h8 <;> rw [h8] at h7 <;> cases h7
      · intro d
        have h8 := (e3.1 d.fit).fin
        unfold InfP at h6
        omega
  · constructor
    · intro h7
      rcases fl_add_not hh hf hl with h8 | ⟨r', h8, h9⟩
      · rw [order_nan (.inl (F.none h8))] at h7; cases h7
      · obtain rfl : r = r' := F.some _ h8
        rcases order_inf h9 hh with h8 | h8 <;> rw [h8] at h7 <;> cases h7
    · intro d
      exact absurd d.lo hf
def flipS (b : Nat) : Nat := if 9223372036854775808 ≤ b then b - 9223372036854775808 else b + 9223372036854775808
theorem flip_ux {b : Nat} (hb : b < 18446744073709551616) : ux (flipS b) = -ux b ∧ flipS b < 18446744073709551616 ∧ flipS b % 9223372036854775808 = b % 9223372036854775808 := by
  rw [ux_eq, ux_eq]
  unfold flipS
  split
  · rename_i h
    rw [if_neg (by omega), show (b - 9223372036854775808) % 9223372036854775808 = b % 9223372036854775808 by omega]
    exact ⟨by omega, by omega, rfl⟩
  · rename_i h
    rw [if_pos (by omega), show (b + 9223372036854775808) % 9223372036854775808 = b % 9223372036854775808 by omega]
    exact ⟨by omega, by omega, rfl⟩
theorem rv_neg (X : Int) : rv (-X) = -rv X := by
  unfold rv
  rw [Int.natAbs_neg]
  rcases Int.lt_trichotomy X 0 with h | h | h
  · rw [if_neg (by omega), if_pos h]; omega
  · subst h
    have h3 : vs 4503599627370496 (rg 0 (Int.natAbs 0)) = 0 := by rw [show rg 0 (Int.natAbs 0) = 0 from rfl]; simp [vs]
    rw [h3]; simp
  · rw [if_pos (by omega), if_neg (by omega)]
theorem Fin64.flipS {b : Nat} (h : Fin64 b) : Fin64 (flipS b) := by
  obtain ⟨_, h2, h3⟩ := flip_ux h.lt
  exact ⟨h2, by rw [h3]; exact h.fin⟩
theorem DdF.neg {h l : Nat} (d : DdF h l) : DdF (flipS h) (flipS l) := by
  have h1 := (flip_ux d.hi.lt).1
  have h2 := (flip_ux d.lo.lt).1
  have h3 : ux (flipS h) + ux (flipS l) = -(ux h + ux l) := by rw [h1, h2]; omega
  refine ⟨d.hi.flipS, d.lo.flipS, ?_, ?_⟩
  · rw [h3, Int.natAbs_neg]; exact d.fit
  · rw [h3, rv_neg, d.eq, h1]
theorem frombits (a : Nat) (w : World) : (callFunc 12 #[U a]).run Tryd.prog w = .ok (.value (Fv a)) w := by
  rw [run_callFunc_extern Tryd.func12 (by kernel_rfl) (by kernel_rfl) (by kernel_rfl) (e := Extern.MathFloatBits.float64frombits) (by kernel_rfl)]
  rfl
theorem bitsOf (a : Nat) (w : World) : (callFunc 53 #[Fv a]).run Tryd.prog w = .ok (.value (U a)) w := by
  rw [run_callFunc_extern Tryd.func53 (by kernel_rfl) (by kernel_rfl) (by kernel_rfl) (e := Extern.MathFloatBits.float64bits) (by kernel_rfl)]
  rfl
theorem vs_max {r : Nat} (h : r < 9218868437227405312) : vs 4503599627370496 r ≤ MaxU := by
  obtain ⟨K, hK⟩ : ∃ K, K = 2045 := ⟨_, rfl⟩
  rw [MaxU_eq hK]
  unfold vs
  refine Nat.mul_le_mul (by omega) (p2le (by omega))
theorem ux_pos {r : Nat} (h : r < 9223372036854775808) : ux r = (vs 4503599627370496 r : Int) := by
  rw [ux_eq, if_neg (by omega), Nat.mod_eq_of_lt h]
theorem ux_max : ux 9218868437227405311 = (MaxU : Int) := by
  rw [ux_pos (by decide)]
  have h : vs 4503599627370496 9218868437227405311 = MaxU := by decide +kernel
  rw [h]
theorem order_max {r : Nat} (h : r < 9218868437227405312) : FloatKind.f64.format.order r 9218868437227405311 = some .lt ∨ FloatKind.f64.format.order r 9218868437227405311 = some .eq := by
  have e : FloatKind.f64.format.order r 9218868437227405311 = Ieee.double.order r 9218868437227405311 := rfl
  rw [e, order_fin ⟨by omega, by omega⟩ ⟨by decide, by decide⟩, ux_max, ux_pos (by omega), ordI]
  have := vs_max h
  rcases Nat.lt_or_eq_of_le this with h1 | h1
  · rw [if_pos (by omega)]; exact .inl rfl
  · rw [if_neg (by omega), if_pos (by omega)]; exact .inr rfl
theorem order_inf_max : FloatKind.f64.format.order 9218868437227405312 9218868437227405311 = some .gt := by decide +kernel
theorem mabs (x : Nat) (hx : x < 18446744073709551616) (w : World) : Calls Tryd.prog 51 #[Fv x] w fun en w' => en = .returned (Fv (x % 9223372036854775808)) ∧ w' = w := by
  have bo1 : ∀ w, (callFunc 53 #[Fv x]).run Tryd.prog w = .ok (.value (.int .u64 (x : Int))) w := fun w => bitsOf x w
  have br3 : bits BinOp.andNot IntKind.u64 (x : Int) 9223372036854775808 = ((x % 9223372036854775808 : Nat) : Int) := sign_andNot x 9223372036854775808 63 (by decide) (by omega) (by omega)
  generalize x % 9223372036854775808 = y at br3 ⊢
  have fb2 : ∀ w, (callFunc 12 #[.int .u64 (y : Int)]).run Tryd.prog w = .ok (.value (Fv y)) w := fun w => frombits _ w
  go_enter Tryd.func51, Tryd.ntmps51
  go_wp2_with fail
  go_ret
  exact ⟨rfl, rfl⟩
theorem isinf (x : Nat) (hx : x < 18446744073709551616) (w : World) : Calls Tryd.prog 75 #[Fv x, .int .i64 0] w fun en w' => en = .returned (.bool (decide (x % 9223372036854775808 = 9218868437227405312))) ∧ w' = w := by
  have HX := mabs x hx
  generalize hy : x % 9223372036854775808 = y at HX ⊢
  have hc : ∃ o, FloatKind.f64.format.order y 9218868437227405311 = o ∧ (o == some .gt) = decide (y = 9218868437227405312) := by
    rcases Nat.lt_trichotomy y 9218868437227405312 with h | h | h
    · have : decide (y = 9218868437227405312) = false := decide_eq_false (by omega)
      rcases order_max h with h1 | h1
      · exact ⟨_, h1, by rw [this]; rfl⟩
      · exact ⟨_, h1, by rw [this]; rfl⟩
    · subst h; exact ⟨_, order_inf_max, by simp⟩
    · have : decide (y = 9218868437227405312) = false := decide_eq_false (by omega)
      exact ⟨none, order_nan (.inl (by unfold NanP; omega)), by rw [this]; rfl⟩
  obtain ⟨o, ho, hb⟩ := hc
  rw [← hb]
  clear hb hy hx
  go_enter Tryd.func75, Tryd.ntmps75
  go_wp2_with fail
  refine (HX _).mono ?_
  rintro e v9 ⟨rfl, hw⟩
  obtain rfl := hw.symm
  clear hw
  rcases o with _ | _ | _ | _
  all_goals
    go_wp2_with fail
    go_ret
    exact ⟨by kernel_rfl, rfl⟩
theorem isnan (x : Nat) (hx : x < 18446744073709551616) (w : World) : Calls Tryd.prog 76 #[Fv x] w fun en w' => en = .returned (.bool (decide (9218868437227405312 < x % 9223372036854775808))) ∧ w' = w := by
  have hc : ∃ o, FloatKind.f64.format.order x x = o ∧ (o != some .eq) = decide (9218868437227405312 < x % 9223372036854775808) := by
    rcases three64 x hx with h | h | h
    · refine ⟨_, order_fin h h, ?_⟩
      rw [ordI, if_neg (by omega), if_pos rfl, decide_eq_false (by have := h.fin; omega)]; rfl
    · refine ⟨some .eq, ?_, ?_⟩
      · show Ieee.double.order x x = _
        unfold Ieee.Format.order
        rw [read_inf h]
        unfold Ieee.Datum.order
        cases (x / 9223372036854775808 % 2 == 1) <;> rfl
      · unfold InfP at h
        rw [decide_eq_false (by omega)]; rfl
    · refine ⟨none, order_nan (.inl h), ?_⟩
      unfold NanP at h
      rw [decide_eq_true h]; rfl
  obtain ⟨o, ho, hb⟩ := hc
  rw [← hb]
  clear hb hx
  go_enter Tryd.func76, Tryd.ntmps76
  rcases o with _ | _ | _ | _
  all_goals
    go_wp2_with fail
    go_ret
    exact ⟨by kernel_rfl, rfl⟩
def finB (x : Nat) : Bool := decide (x % 9223372036854775808 < 9218868437227405312)
theorem ddfinite (x : Nat) (hx : x < 18446744073709551616) (w : World) : Calls Tryd.prog 54 #[Fv x] w fun en w' => en = .returned (.bool (finB x)) ∧ w' = w := by
  have H1 := isinf x hx
  have H2 := isnan x hx
  unfold finB
  generalize x % 9223372036854775808 = y at H1 H2 ⊢
  rcases Nat.lt_trichotomy y 9218868437227405312 with h | h | h
  · rw [decide_eq_true h]
    rw [decide_eq_false (show ¬ y = 9218868437227405312 by omega)] at H1
    rw [decide_eq_false (show ¬ 9218868437227405312 < y by omega)] at H2
    clear h hx
    go_enter Tryd.func54, Tryd.ntmps54
    go_wp2_with fail
    refine (H1 _).mono ?_
    rintro e v9 ⟨rfl, hw⟩
    obtain rfl := hw.symm
    clear hw
    go_wp2_with fail
    refine (H2 _).mono ?_
    rintro e v9 ⟨rfl, hw⟩
    obtain rfl := hw.symm
    clear hw
    go_wp2_with fail
    go_ret
    exact ⟨rfl, rfl⟩
  · rw [decide_eq_false (show ¬ y < 9218868437227405312 by omega)]
    rw [decide_eq_true h] at H1
    clear h hx H2
    go_enter Tryd.func54, Tryd.ntmps54
    go_wp2_with fail
    refine (H1 _).mono ?_
    rintro e v9 ⟨rfl, hw⟩
    obtain rfl := hw.symm
    clear hw
    go_wp2_with fail
    go_ret
    exact ⟨rfl, rfl⟩
  · rw [decide_eq_false (show ¬ y < 9218868437227405312 by omega)]
    rw [decide_eq_false (show ¬ y = 9218868437227405312 by omega)] at H1
    rw [decide_eq_true h] at H2
    clear h hx
    go_enter Tryd.func54, Tryd.ntmps54
    go_wp2_with fail
    refine (H1 _).mono ?_
    rintro e v9 ⟨rfl, hw⟩
    obtain rfl := hw.symm
    clear hw
    go_wp2_with fail
    refine (H2 _).mono ?_
    rintro e v9 ⟨rfl, hw⟩
    obtain rfl := hw.symm
    clear hw
    go_wp2_with fail
    go_ret
    exact ⟨rfl, rfl⟩
theorem finB_iff {x : Nat} (hx : x < 18446744073709551616) : finB x = true ↔ Fin64 x := by
  unfold finB
  rw [decide_eq_true_iff]
  exact ⟨fun h => ⟨hx, h⟩, fun h => h.fin⟩
def ddB (h l : Nat) : Bool := decide (h < 18446744073709551616) && decide (l < 18446744073709551616) && finB h && finB l && decide (rg 0 (ux h + ux l).natAbs < 9218868437227405312) && decide (rv (ux h + ux l) = ux h)
theorem ddB_iff {h l : Nat} : ddB h l = true ↔ DdF h l := by
  unfold ddB finB
  simp only [Bool.and_eq_true, decide_eq_true_iff]
  exact ⟨fun ⟨⟨⟨⟨⟨h1, h2⟩, h3⟩, h4⟩, h5⟩, h6⟩ => ⟨⟨h1, h3⟩, ⟨h2, h4⟩, h5, h6⟩, fun d => ⟨⟨⟨⟨⟨d.hi.lt, d.lo.lt⟩, d.hi.fin⟩, d.lo.fin⟩, d.fit⟩, d.eq⟩⟩
theorem ddB_not {h l : Nat} (hf : finB h = false) : ddB h l = false := by
  cases hb : ddB h l with
  | false => rfl
  | true =>
    have d := ddB_iff.1 hb
    have := (finB_iff d.hi.lt).2 d.hi
    rw [hf] at this
    cases this
theorem belowDn {B : Nat} {a w : World} (h : Below B a w) (n : Nat) : Below B a (w.drewN n) := ⟨h.os, h.tape, h.output, h.size, h.block⟩
theorem ddform (h l : Nat) (hh : h < 18446744073709551616) (hl : l < 18446744073709551616) (w : World) : Calls Tryd.prog 25 #[.agg #[Fv h, Fv l]] w fun en w' => en = .returned (.bool (ddB h l)) ∧ Below w.heap.size w w' := by
  have hSF : ∀ (w : World) (a : Addr) (b : Nat), (store a (Fv b)).run Tryd.prog w = stored Tryd.prog w a (Fv b) .plain := fun w a b => run_store _ w a (Fv b) _ rfl
  have H1 := ddfinite h hh
  cases hfb : finB h with
  | false =>
    rw [ddB_not hfb]
    rw [hfb] at H1
    clear hfb
    go_enter Tryd.func25, Tryd.ntmps25
    go_wp2_with fail
    refine (H1 _).mono ?_
    rintro e v9 ⟨rfl, hw⟩
    obtain rfl := hw.symm
    clear hw
    go_wp2_with fail
    go_ret
    exact ⟨rfl, bwAlloc w _⟩
  | true =>
    rw [hfb] at H1
    have hF := (finB_iff hh).1 hfb
    obtain ⟨r, n, hr, F⟩ := fop (P := Tryd.prog) .add (.inl rfl) 40 h l (w.alloc (Obj.cells #[Fv h, Fv l] 43))
    have hfm := form_iff hF hl F
    obtain ⟨o, ho⟩ : ∃ o, FloatKind.f64.format.order r h = o := ⟨_, rfl⟩
    have hb : ddB h l = (o == some .eq) := by
      rw [Bool.eq_iff_iff, ddB_iff, ← hfm, beq_iff_eq, ← ho]; rfl
    rw [hb]
    clear hb hfm F hF hfb hh hl
    go_enter Tryd.func25, Tryd.ntmps25
    go_wp2_with fail
    refine (H1 _).mono ?_
    rintro e v9 ⟨rfl, hw⟩
    obtain rfl := hw.symm
    clear hw
    rcases o with _ | _ | _ | _
    all_goals
      go_wp2_with fail
      go_ret
      exact ⟨by kernel_rfl, belowDn (bwAlloc w _) n⟩
theorem FlR.add {x y r : Nat} (h : FlR .add x y r) (hx : Fin64 x) (hy : Fin64 y) (hm : (ux x + ux y).natAbs ≤ MaxU) : Sm64 (ux x + ux y) r := by
  obtain ⟨v, h1, h2⟩ := fl_add_fin hx hy hm
  rw [h.some v h1]; exact h2
theorem FlR.sub {x y r : Nat} (h : FlR .sub x y r) (hx : Fin64 x) (hy : Fin64 y) (hm : (ux x - ux y).natAbs ≤ MaxU) : Sm64 (ux x - ux y) r := by
  obtain ⟨v, h1, h2⟩ := fl_sub_fin hx hy hm
  rw [h.some v h1]; exact h2
theorem ux_abs (b : Nat) : (ux b).natAbs = vs 4503599627370496 (b % 9223372036854775808) := by
  rw [ux_eq]; split <;> omega
theorem vs_le4 {s t : Nat} (h : s ≤ t) : vs 4503599627370496 s ≤ vs 4503599627370496 t := by
  rcases Nat.lt_or_eq_of_le h with h1 | h1
  · exact Nat.le_of_lt (vs_mono (by omega) h1)
  · rw [h1]; exact Nat.le_refl _
theorem ux_pow {b K : Nat} (h : b % 9223372036854775808 ≤ (K + 1) * 4503599627370496) : (ux b).natAbs ≤ 2 ^ (52 + K) := by
  rw [ux_abs]
  refine Nat.le_trans (vs_le4 h) (Nat.le_of_eq ?_)
  have := vs_at K 4503599627370496 (.inr (Nat.le_refl _)) (by omega)
  rw [show (K + 1) * 4503599627370496 = K * 4503599627370496 + 4503599627370496 by omega, this, Nat.pow_add, show (2 : Nat) ^ 52 = 4503599627370496 by decide]
theorem Rn.bound {p : Nat} {x s : Int} {K : Nat} (h : Rn p x s) (hx : x.natAbs ≤ 2 ^ K) : s.natAbs ≤ 2 ^ K := by
  have h1 := h.hi (Fl.pow p K) (by omega)
  have h2 := h.neg.hi (Fl.pow p K) (by omega)
  omega
theorem Rn.near1 {x s : Int} {M : Nat} (h : Rn 53 x s) (hs : s.natAbs ≤ 4 * M) : (x - s).natAbs ≤ M := by
  have h1 := h.little (by omega)
  rw [show (2 : Nat) ^ 53 = 9007199254740992 by decide] at h1
  omega
theorem max_big {K M : Nat} (hK : K = 2044) (h : M = 2 ^ (52 + K)) : 3 * M ≤ MaxU ∧ 2 ^ (53 + K) = 2 * M := by
  have h1 : 2 ^ (52 + K) = 2251799813685248 * 2 ^ (K + 1) := by
    rw [show (2251799813685248 : Nat) = 2 ^ 51 by decide, ← Nat.pow_add]
    congr 1
    omega
  have h2 : 2 ^ (53 + K) = 2 * 2 ^ (52 + K) := by rw [show 53 + K = 52 + K + 1 by omega, p2succ]
  refine ⟨?_, by rw [h2, h]⟩
  rw [MaxU_eq (show K + 1 = 2045 by omega), h, h1]
  generalize 2 ^ (K + 1) = z
  omega
theorem pow1022 {a K : Nat} (hK : K = 2044) (h : a % 9223372036854775808 ≤ 9209861237972664320) : (ux a).natAbs ≤ 2 ^ (52 + K) := ux_pow (by omega)
theorem TSR.ok {a b s r : Nat} (h : TSR a b s r) (ha : a < 18446744073709551616) (hb : b < 18446744073709551616) (ka : a % 9223372036854775808 ≤ 9209861237972664320) (kb : b % 9223372036854775808 ≤ 9209861237972664320) :
    Sm64 (ux a + ux b) s ∧ Fin64 r ∧ ux s + ux r = ux a + ux b := by
  obtain ⟨ob, oa, da, db, F1, F2, F3, F4, F5, F6⟩ := h
  have fa : Fin64 a := ⟨ha, by omega⟩
  have fb : Fin64 b := ⟨hb, by omega⟩
  obtain ⟨K, hK⟩ : ∃ K, K = 2044 := ⟨_, rfl⟩
  have ma := pow1022 hK ka
  have mb := pow1022 hK kb
  obtain ⟨M, hM⟩ : ∃ M, M = 2 ^ (52 + K) := ⟨_, rfl⟩
  obtain ⟨m3, m2⟩ := max_big hK hM
  rw [← hM] at ma mb
  have S1 := F1.add fa fb (by omega)
  have bs := S1.rn.bound (K := 53 + K) (by rw [m2]; omega)
  rw [m2] at bs
  have e1 := S1.rn.near1 (M := M) (by omega)
  have S2 := F2.sub S1.fin fa (by omega)
  have bb := S2.rn.bound (K := 53 + K) (by rw [m2]; omega)
  rw [m2] at bb
  have e2 := S2.rn.near1 (M := M) (by omega)
  have S3 := F3.sub S1.fin S2.fin (by omega)
  have ba := S3.rn.bound (K := 53 + K) (by rw [m2]; omega)
  rw [m2] at ba
  have S4 := F4.sub fa S3.fin (by omega)
  have S5 := F5.sub fb S2.fin (by omega)
  have hd := two_sum_a (by omega) fa.fl fb.fl S1.rn S2.rn S3.rn S4.rn S5.rn
  have S6 := F6.add S4.fin S5.fin (by omega)
  exact ⟨S1, S6.fin, two_sum (by omega) fa.fl fb.fl S1.rn S2.rn S3.rn S4.rn S5.rn S6.rn⟩
theorem FSR.ok {a b s r : Nat} (h : FSR a b s r) (ha : a < 18446744073709551616) (hb : b < 18446744073709551616) (ka : a % 9223372036854775808 ≤ 9209861237972664320) (kb : b % 9223372036854775808 ≤ 9209861237972664320) (hab : a % 9223372036854775808 = 0 ∨ b % 9223372036854775808 ≤ a % 9223372036854775808) :
    Sm64 (ux a + ux b) s ∧ Fin64 r ∧ ux s + ux r = ux a + ux b := by
  obtain ⟨t, F1, F2, F3⟩ := h
  have fa : Fin64 a := ⟨ha, by omega⟩
  have fb : Fin64 b := ⟨hb, by omega⟩
  obtain ⟨K, hK⟩ : ∃ K, K = 2044 := ⟨_, rfl⟩
  have ma := pow1022 hK ka
  have mb := pow1022 hK kb
  have hab : ux a = 0 ∨ (ux b).natAbs ≤ (ux a).natAbs := by
    rcases hab with h | h
    · refine .inl ?_
      have := ux_abs a
      rw [h, vs_zero] at this
      omega
    · refine .inr ?_
      rw [ux_abs, ux_abs]; exact vs_le4 h
  obtain ⟨M, hM⟩ : ∃ M, M = 2 ^ (52 + K) := ⟨_, rfl⟩
  obtain ⟨m3, m2⟩ := max_big hK hM
  rw [← hM] at ma mb
  have S1 := F1.add fa fb (by omega)
  have bs := S1.rn.bound (K := 53 + K) (by rw [m2]; omega)
  rw [m2] at bs
  have e1 := S1.rn.near1 (M := M) (by omega)
  have S2 := F2.sub S1.fin fa (by omega)
  have bb := S2.rn.bound (K := 53 + K) (by rw [m2]; omega)
  rw [m2] at bb
  have S3 := F3.sub fb S2.fin (by omega)
  exact ⟨S1, S3.fin, fast_sum (by omega) fa.fl fb.fl hab S1.rn S2.rn S3.rn⟩
theorem cut_all (neg : Bool) (n L : Nat) : Ieee.Toward.even.cut neg n L = rne n L := by
  rcases Nat.lt_or_ge (n.log2 + 2) L with h | h
  · have hu : n < 2 ^ (n.log2 + 1) := Nat.lt_log2_self
    have h1 : 2 ^ (n.log2 + 2) = 2 * 2 ^ (n.log2 + 1) := p2succ _
    have h2 : 2 ^ (n.log2 + 2) ≤ 2 ^ L := p2le (by omega)
    unfold Ieee.Toward.cut rne
    rw [Nat.min_eq_right (by omega), Nat.one_shiftLeft]
    dsimp only
    rw [Nat.div_eq_of_lt (show n < 2 ^ (n.log2 + 2) by omega), Nat.div_eq_of_lt (show n < 2 ^ L by omega), Nat.mod_eq_of_lt (show n < 2 ^ (n.log2 + 2) by omega), Nat.mod_eq_of_lt (show n < 2 ^ L by omega)]
    rw [decide_eq_false (show ¬ 2 ^ (n.log2 + 2) < 2 * n by omega), decide_eq_false (show ¬ 2 ^ L < 2 * n by omega), show (2 ^ (n.log2 + 2) == 2 * n) = false by simp; omega, show (2 ^ L == 2 * n) = false by simp; omega]
  · exact cut_eq neg n L h
def rgc (c n : Nat) : Nat := if n = 0 then 0 else min ((max (n.log2 - 52) c - c) * 4503599627370496 + rne n (max (n.log2 - 52) c)) 9218868437227405312
theorem nearest_rgc (neg : Bool) (mag c d : Nat) : Ieee.double.nearest neg mag (-1074 - (c : Int) + (d : Int)) = Ieee.double.word neg (rgc c (mag * 2 ^ d)) := by
  have e1 : Ieee.double.leastPlace = -1074 := by decide
  have e2 : Ieee.double.binade = 4503599627370496 := by decide
  have e3 : Ieee.double.infRung = 9218868437227405312 := by decide
  have e4 : Ieee.double.fractionBits = 52 := by decide
  have hd : 0 < 2 ^ d := p2pos d
  unfold Ieee.Format.nearest rgc
  by_cases h0 : mag = 0
  · subst h0; simp
  · have hz : mag * 2 ^ d ≠ 0 := Nat.mul_ne_zero h0 (by omega)
    rw [if_neg h0, if_neg hz, e1, e2, e3, e4]
    have hl := log2_mul mag d h0
    obtain ⟨l, hle⟩ : ∃ l, l = mag.log2 := ⟨_, rfl⟩
    rw [← hle] at hl ⊢
    rw [hl]
    obtain ⟨L, hL⟩ : ∃ L, L = max (l + d - 52) c := ⟨_, rfl⟩
    rw [← hL]
    have e5 : max (-1074 - (c : Int) + (d : Int) + (l : Int) - ((52 : Nat) : Int)) (-1074) = -1074 - (c : Int) + (L : Int) := by omega
    dsimp only
    rw [e5]
    have e6 : (-1074 - (c : Int) + (L : Int) - -1074).toNat = L - c := by omega
    rw [e6]
    have e7 : (-1074 - (c : Int) + (d : Int) - (-1074 - (c : Int) + (L : Int))).toNat = d - L := by omega
    have e8 : (-1074 - (c : Int) + (L : Int) - (-1074 - (c : Int) + (d : Int))).toNat = L - d := by omega
    rw [e7, e8, Nat.shiftLeft_eq, cut_all]
    have e9 : rne (mag * 2 ^ (d - L)) (L - d) = rne (mag * 2 ^ d) L := by
      rcases Nat.le_total L d with h1 | h1
      · rw [show L - d = 0 by omega, rne_zero]
        have h2 := rne_mul (mag * 2 ^ (d - L)) 0 L
        rw [Nat.zero_add, rne_zero, Nat.mul_assoc, ← Nat.pow_add, show d - L + L = d by omega] at h2
        exact h2.symm
      · rw [show d - L = 0 by omega, Nat.pow_zero, Nat.mul_one]
        have h2 := rne_mul mag (L - d) d
        rw [show L - d + d = L by omega] at h2
        exact h2.symm
    rw [e9]
theorem rgc_int (c n : Nat) : rgc c (n * 2 ^ c) = rg 0 n := by
  have hd : 0 < 2 ^ c := p2pos c
  unfold rgc rg
  by_cases h0 : n = 0
  · subst h0; simp
  · have hz : n * 2 ^ c ≠ 0 := Nat.mul_ne_zero h0 (by omega)
    rw [if_neg h0, if_neg hz, log2_mul n c h0, show max (n.log2 + c - 52) c = n.log2 - 52 + c by omega, rne_mul, Nat.add_sub_cancel, Nat.sub_zero]
theorem fmul_any {a b : Nat} (ha : Fin64 a) (hb : Fin64 b) : floatBits .mul .f64 a b = some (Ieee.double.word (decide (9223372036854775808 ≤ a) ^^ decide (9223372036854775808 ≤ b)) (rgc 1074 ((ux a).natAbs * (ux b).natAbs))) := by
  obtain ⟨m, q, h1, h2⟩ := read_fin ha.lt ha.fin
  obtain ⟨n, t, h3, h4⟩ := read_fin hb.lt hb.fin
  rw [ux_abs, ux_abs, ← h2, ← h4]
  show ((Ieee.double.read a).product (Ieee.double.read b)).map Ieee.double.write = _
  rw [h1, h3]
  show some (Ieee.double.nearest _ (m * n) (-1074 + (q : Int) + (-1074 + (t : Int)))) = _
  have := nearest_rgc (decide (9223372036854775808 ≤ a) ^^ decide (9223372036854775808 ≤ b)) (m * n) 1074 (q + t)
  rw [show (-1074 : Int) - ((1074 : Nat) : Int) + ((q + t : Nat) : Int) = -1074 + (q : Int) + (-1074 + (t : Int)) by omega] at this
  rw [this, show m * n * 2 ^ (q + t) = m * 2 ^ q * (n * 2 ^ t) by rw [Nat.pow_add, ← Nat.mul_assoc, ← Nat.mul_assoc, Nat.mul_assoc m n, Nat.mul_comm n, ← Nat.mul_assoc]]
theorem ux_neg {b : Nat} (h : ux b ≠ 0) : decide (9223372036854775808 ≤ b) = decide (ux b < 0) := by
  refine decide_eq_decide.2 ?_
  have := ux_eq b
  by_cases h1 : 9223372036854775808 ≤ b
  · rw [if_pos h1] at this; omega
  · rw [if_neg h1] at this; omega
theorem mul_sign {a b : Nat} (h : ux a * ux b ≠ 0) : (decide (9223372036854775808 ≤ a) ^^ decide (9223372036854775808 ≤ b)) = decide (ux a * ux b < 0) := by
  have ha : ux a ≠ 0 := fun k => h (by rw [k, Int.zero_mul])
  have hb : ux b ≠ 0 := fun k => h (by rw [k, Int.mul_zero])
  rw [ux_neg ha, ux_neg hb]
  generalize ux a = x at *
  generalize ux b = y at *
  rcases Int.lt_or_gt_of_ne ha with h1 | h1 <;> rcases Int.lt_or_gt_of_ne hb with h2 | h2
  · have := Int.mul_pos_of_neg_of_neg h1 h2
    simp [h1, h2]; omega
  · have := Int.mul_neg_of_neg_of_pos h1 h2
    simp [h1, Int.not_lt.2 (Int.le_of_lt h2), this]
  · have := Int.mul_neg_of_pos_of_neg h1 h2
    simp [h2, Int.not_lt.2 (Int.le_of_lt h1), this]
  · have := Int.mul_pos h1 h2
    simp [Int.not_lt.2 (Int.le_of_lt h1), Int.not_lt.2 (Int.le_of_lt h2)]; omega
theorem FlR.mul {x y r : Nat} (h : FlR .mul x y r) (hx : Fin64 x) (hy : Fin64 y) {X : Int} {c : Nat} (hc : c = 1074) (hX : ux x * ux y = X * ((2 ^ c : Nat) : Int)) (hm : X.natAbs ≤ MaxU) : Sm64 X r := by
  have h1 := fmul_any hx hy
  rw [← Int.natAbs_mul, hX, Int.natAbs_mul, Int.natAbs_natCast, ← hc, rgc_int] at h1
  rw [h.some _ h1]
  refine sm_word hm fun h0 => ?_
  have hp : (0 : Int) < ((2 ^ c : Nat) : Int) := Int.ofNat_lt.2 (p2pos c)
  have h2 : ux x * ux y ≠ 0 := by rw [hX]; exact Int.mul_ne_zero h0 (by omega)
  rw [mul_sign h2, hX]
  refine decide_eq_decide.2 ⟨fun h3 => ?_, fun h3 => Int.mul_neg_of_neg_of_pos h3 hp⟩
  refine Int.lt_of_not_ge fun h4 => ?_
  have := Int.mul_nonneg h4 (Int.le_of_lt hp)
  omega
theorem rv_rn {X : Int} (h : X.natAbs ≤ MaxU) : Rn 53 X (rv X) := (sm_word2 (neg := decide (X < 0)) (rg_fin h) fun _ => rfl).2.2
theorem sm_rv {X : Int} {r : Nat} (h : Sm64 X r) : ux r = rv X := by
  have h1 := h.size
  have h2 := h.sign
  rw [ux_eq, h1]
  unfold rv
  by_cases h0 : X = 0
  · subst h0
    have h3 : vs 4503599627370496 (rg 0 (Int.natAbs 0)) = 0 := by rw [show rg 0 (Int.natAbs 0) = 0 from rfl]; simp [vs]
    rw [h3]; simp
  · by_cases h3 : X < 0
    · rw [if_pos h3, if_pos ((h2 h0).2 h3)]
    · rw [if_neg h3, if_neg fun h4 => h3 ((h2 h0).1 h4)]
theorem max_k {K : Nat} (hK : K = 1974) : 8 * 2 ^ K ≤ MaxU := by
  rw [MaxU_eq (K := K + 71) (by omega), Nat.pow_add, show 2 ^ 71 = 2361183241434822606848 by decide]
  have := p2pos K
  omega
theorem sz_q {s : Nat} (h1 : 553942754166571008 ≤ s) : ∃ q h, 122 ≤ q ∧ q = s / 4503599627370496 - 1 ∧ 4503599627370496 ≤ h ∧ h < 9007199254740992 ∧ vs 4503599627370496 s = h * 2 ^ q := by
  refine ⟨s / 4503599627370496 - 1, s - (s / 4503599627370496 - 1) * 4503599627370496, by omega, rfl, by omega, by omega, rfl⟩
def mgX (k : Nat) (H : Int) : Nat := 3 * H.natAbs / 2 ^ (k + 1)
def mgR (k : Nat) (H : Int) : Int := rv (mgX k H : Int)
structure SzF (hi : Nat) : Prop where
  fin : Fin64 hi
  least : 553942754166571008 ≤ hi % 9223372036854775808
  most : hi % 9223372036854775808 ≤ 8660422083433463808
theorem mgX_exact {k hi : Nat} (hk : k ≤ 100) (h : SzF hi) : mgX k (ux hi) * 2 ^ (k + 1) = 3 * (ux hi).natAbs := by
  obtain ⟨q, g, h1, _, h2, h3, h4⟩ := sz_q h.least
  unfold mgX
  rw [ux_abs, h4]
  refine Nat.div_mul_cancel ⟨3 * g * 2 ^ (q - (k + 1)), ?_⟩
  rw [Nat.mul_comm (2 ^ (k + 1)), Nat.mul_assoc (3 * g), ← Nat.pow_add, show q - (k + 1) + (k + 1) = q by omega, Nat.mul_assoc]
theorem SzF.le {hi K : Nat} (hK : K = 1974) (h : SzF hi) : (ux hi).natAbs ≤ 2 ^ K := by
  have := ux_pow (b := hi) (K := K - 52) (by have := h.most; omega)
  rw [show 52 + (K - 52) = K by omega] at this
  exact this
theorem mg_facts {k hi K : Nat} (hK : K = 1974) (hk1 : 56 ≤ k) (hk : k ≤ 100) (h : SzF hi) : 0 ≤ mgR k (ux hi) ∧ (mgR k (ux hi)).natAbs ≤ 2 ^ K ∧ mgX k (ux hi) ≤ 2 ^ K ∧ Rn 53 (mgX k (ux hi)) (mgR k (ux hi)) := by
  have h1 := mgX_exact hk h
  have h2 := h.le hK
  have h3 : mgX k (ux hi) ≤ 2 ^ K := by
    have : 2 ^ 57 ≤ 2 ^ (k + 1) := p2le (by omega)
    have h4 : mgX k (ux hi) * 2 ^ 57 ≤ 3 * (ux hi).natAbs := by rw [← h1]; exact Nat.mul_le_mul_left _ this
    rw [show 2 ^ 57 = 144115188075855872 by decide] at h4
    omega
  have h5 := max_k hK
  have h6 : Rn 53 (mgX k (ux hi)) (mgR k (ux hi)) := rv_rn (by omega)
  refine ⟨h6.lo (Fl.zero _) (by omega), h6.bound (by omega), h3, h6⟩
theorem dd_little {h l : Nat} (d : DdF h l) : 9007199254740992 * (ux l).natAbs ≤ (ux h).natAbs := by
  have := d.rn.little (by decide)
  rw [show ux h + ux l - ux h = ux l by omega] at this
  exact this
theorem lo_le {h l K : Nat} (hK : K = 1974) (d : DdF h l) (hs : SzF h) : (ux l).natAbs ≤ 2 ^ K := by
  have := dd_little d
  have := hs.le hK
  omega
structure AccP (hi lo k : Nat) : Prop where
  k1 : 56 ≤ k
  k2 : k ≤ 100
  sz : SzF hi
  dd : DdF hi lo
  dn : rv (ux hi + rv (ux lo - mgR k (ux hi))) = ux hi
  up : rv (ux hi + rv (ux lo + mgR k (ux hi))) = ux hi
theorem acc_bd {hi lo k K : Nat} (hK : K = 1974) (hk1 : 56 ≤ k) (hk : k ≤ 100) (hs : SzF hi) (d : DdF hi lo) {t : Int} (ht : t.natAbs ≤ (mgR k (ux hi)).natAbs) :
    (ux lo + t).natAbs ≤ 2 * 2 ^ K ∧ (rv (ux lo + t)).natAbs ≤ 2 * 2 ^ K ∧ (ux hi + rv (ux lo + t)).natAbs ≤ MaxU ∧ (ux lo + t).natAbs ≤ MaxU := by
  obtain ⟨m1, m2, m3, m4⟩ := mg_facts hK hk1 hk hs
  have h1 := lo_le hK d hs
  have h2 := hs.le hK
  have h3 := max_k hK
  have h4 : (ux lo + t).natAbs ≤ 2 ^ (K + 1) := by rw [p2succ]; omega
  have h5 := (rv_rn (X := ux lo + t) (by rw [p2succ] at h4; omega)).bound h4
  rw [p2succ] at h4 h5
  exact ⟨h4, h5, by omega, by omega⟩
theorem AccP.flip {hi lo k : Nat} (h : AccP hi lo k) : AccP (flipS hi) (flipS lo) k := by
  obtain ⟨k1, k2, sz, d, dn, up⟩ := h
  obtain ⟨f1, f2, f3⟩ := flip_ux sz.fin.lt
  obtain ⟨g1, g2, g3⟩ := flip_ux d.lo.lt
  have hm : mgR k (-ux hi) = mgR k (ux hi) := by unfold mgR mgX; rw [Int.natAbs_neg]
  refine ⟨k1, k2, ⟨sz.fin.flipS, by rw [f3]; exact sz.least, by rw [f3]; exact sz.most⟩, d.neg, ?_, ?_⟩
  · rw [f1, g1, hm, show -ux lo - mgR k (ux hi) = -(ux lo + mgR k (ux hi)) by omega, rv_neg, show -ux hi + -rv (ux lo + mgR k (ux hi)) = -(ux hi + rv (ux lo + mgR k (ux hi))) by omega, rv_neg, up]
  · rw [f1, g1, hm, show -ux lo + mgR k (ux hi) = -(ux lo - mgR k (ux hi)) by omega, rv_neg, show -ux hi + -rv (ux lo - mgR k (ux hi)) = -(ux hi + rv (ux lo - mgR k (ux hi))) by omega, rv_neg, dn]
def LD (k : Nat) : Nat := 4609434218613702656 - k * 4503599627370496
theorem ld_mul : ∀ j, j < 45 → floatBits .mul .f64 4607182418800017408 (LD (56 + j)) = some (LD (56 + j)) := by decide +kernel
theorem ld_or : ∀ j, j < 45 → bits BinOp.or IntKind.u64 2251799813685248 (((967 - j) * 4503599627370496 : Nat) : Int) = ((LD (56 + j) : Nat) : Int) := by decide +kernel
theorem isinf_h (w : World) : Calls Tryd.prog 75 #[Fv 4609434218613702656, .int .i64 0] w fun en w' => en = .returned (.bool false) ∧ w' = w := isinf 4609434218613702656 (by decide) w
theorem isnan_h (w : World) : Calls Tryd.prog 76 #[Fv 4609434218613702656] w fun en w' => en = .returned (.bool false) ∧ w' = w := isnan 4609434218613702656 (by decide) w
theorem norm_h (w : World) : Calls Tryd.prog 89 #[Fv 4609434218613702656] w fun en w' => en = .returned (.tuple #[Fv 4609434218613702656, .int .i64 0]) ∧ w' = w := by
  have or6 : FloatKind.f64.format.order 4609434218613702656 4503599627370496 = some Ordering.gt := by decide +kernel
  go_enter Tryd.func89, Tryd.ntmps89
  go_wp2_with fail
  refine (mabs 4609434218613702656 (by decide) _).mono ?_
  rintro e v9 ⟨rfl, hw⟩
  obtain rfl := hw.symm
  clear hw
  go_wp2_with fail
  go_ret2
  exact ⟨by kernel_rfl, rfl⟩
theorem ldexp_h (j P : Nat) (e : Int) (hj : j < 45) (he : e = -56 - (j : Int)) (hP : P = 967 - j) (w : World) : Calls Tryd.prog 74 #[Fv 4609434218613702656, .int .i64 e] w fun en w' => en = .returned (Fv (LD (56 + j))) ∧ w' = w := by
  have or7 : FloatKind.f64.format.order 4609434218613702656 0 = some Ordering.gt := by decide +kernel
  have bo8 : ∀ w, (callFunc 53 #[Fv 4609434218613702656]).run Tryd.prog w = .ok (.value (.int .u64 4609434218613702656)) w := fun w => bitsOf 4609434218613702656 w
  have fl10 : ∀ w, (binOp .mul 40 (Fv 4607182418800017408) (Fv (LD (56 + j)))).run Tryd.prog w = .ok (Fv (LD (56 + j))) w := fun w => run_float_arith w .mul 40 .f64 4607182418800017408 (LD (56 + j)) (LD (56 + j)) (ld_mul j hj)
  have br20 := ld_or j hj
  rw [← hP] at br20
  have wr14 : IntKind.u64.wrap ((P : Int) * 4503599627370496) = ((P * 4503599627370496 : Nat) : Int) := by rw [IntKind.wrap_u64]; omega
  generalize ((P * 4503599627370496 : Nat) : Int) = PP at br20 wr14
  have fb9 : ∀ w, (callFunc 12 #[.int .u64 ((LD (56 + j) : Nat) : Int)]).run Tryd.prog w = .ok (.value (Fv (LD (56 + j)))) w := fun w => frombits (LD (56 + j)) w
  generalize LD (56 + j) = Q at *
  have wr11 : IntKind.i64.wrap e = e := by simp [IntKind.wrap, IntKind.signed, IntKind.bits]; omega
  have wr12 : IntKind.i64.wrap (e + 1023) = (P : Int) := by simp [IntKind.wrap, IntKind.signed, IntKind.bits]; omega
  have wr13 : IntKind.u64.wrap (P : Int) = (P : Int) := by rw [IntKind.wrap_u64]; omega
  have br17 : bits BinOp.and IntKind.i64 (1023) (2047) = 1023 := by kernel_rfl
  have br18 : bits BinOp.andNot IntKind.u64 (4609434218613702656) (9218868437227405312) = 2251799813685248 := by kernel_rfl
  have b1 : ¬ e < -1075 := by omega
  have b2 : ¬ 1023 < e := by omega
  have b3 : ¬ e < -1022 := by omega
  clear he hP hj
  go_enter Tryd.func74, Tryd.ntmps74
  go_wp2_with fail
  refine (isinf_h _).mono ?_
  rintro e9 v9 ⟨rfl, hw⟩
  obtain rfl := hw.symm
  clear hw
  go_wp2_with fail
  refine (isnan_h _).mono ?_
  rintro e9 v9 ⟨rfl, hw⟩
  obtain rfl := hw.symm
  clear hw
  go_wp2_with fail
  refine (norm_h _).mono ?_
  rintro e9 v9 ⟨rfl, hw⟩
  obtain rfl := hw.symm
  clear hw
  go_wp2_with fail
  go_ret
  exact ⟨by kernel_rfl, rfl⟩
theorem Ldexp_h (j : Nat) (e : Int) (hj : j < 45) (he : e = -56 - (j : Int)) (w : World) : Calls Tryd.prog 50 #[Fv 4609434218613702656, .int .i64 e] w fun en w' => en = .returned (Fv (LD (56 + j))) ∧ w' = w := by
  have HL := ldexp_h j (967 - j) e hj he rfl
  clear hj he
  go_enter Tryd.func50, Tryd.ntmps50
  go_wp2_with fail
  refine (HL _).mono ?_
  rintro e9 v9 ⟨rfl, hw⟩
  obtain rfl := hw.symm
  clear hw
  go_wp2_with fail
  go_ret
  exact ⟨by kernel_rfl, rfl⟩
theorem flr_of {op : BinOp} {x y r : Nat} (h : floatBits op .f64 x y = some r) : FlR op x y r := by
  refine ⟨?_, fun v hv => ?_, fun hv => ?_⟩
  · have := floatBits_wf h
    simp [Lit.wf] at this
    exact this
  · rw [h] at hv; exact Option.some.inj hv
  · rw [h] at hv; cases hv
theorem keeps_ok (x a : Nat) (hx : Fin64 x) (ha : Fin64 a) (w : World) : Calls Tryd.prog 52 #[Fv x, Fv a] w fun en w' => en = .returned (.bool (ddB x a)) ∧ w' = w := by
  obtain ⟨r, h1, _⟩ := fl_add_any hx ha
  have hfm := form_iff hx ha.lt (flr_of h1)
  obtain ⟨o, ho⟩ : ∃ o, FloatKind.f64.format.order r x = o := ⟨_, rfl⟩
  have hb : ddB x a = (o == some .eq) := by
    rw [Bool.eq_iff_iff, ddB_iff, ← hfm, beq_iff_eq, ← ho]; rfl
  rw [hb]
  have fl1 : ∀ w, (binOp .add 40 (Fv x) (Fv a)).run Tryd.prog w = .ok (Fv r) w := fun w => run_float_arith w .add 40 .f64 x a r h1
  clear hb hfm h1 hx ha
  go_enter Tryd.func52, Tryd.ntmps52
  rcases o with _ | _ | _ | _
  all_goals
    go_wp2_with fail
    go_ret
    exact ⟨by kernel_rfl, rfl⟩
def fit25 (hi lo : Nat) (e : Int) : Bool := decide (-100 ≤ e) && decide (e ≤ -56) && decide (553942754166571008 ≤ hi % 9223372036854775808) && decide (hi % 9223372036854775808 ≤ 8660422083433463808) && ddB hi lo
theorem ord_pos {s t : Nat} (hs : s < 9218868437227405312) (ht : t < 9218868437227405312) : FloatKind.f64.format.order s t = some (if s < t then .lt else if s = t then .eq else .gt) := by
  have e : FloatKind.f64.format.order s t = Ieee.double.order s t := rfl
  rw [e, order_fin ⟨by omega, by omega⟩ ⟨by omega, by omega⟩, ux_pos (by omega), ux_pos (by omega), ordI]
  rcases Nat.lt_trichotomy s t with h | h | h
  · have := vs_mono (H := 4503599627370496) (by decide) h
    rw [if_pos (by omega), if_pos h]
  · subst h
    rw [if_neg (by omega), if_pos rfl, if_neg (by omega), if_pos rfl]
  · have := vs_mono (H := 4503599627370496) (by decide) h
    rw [if_neg (by omega), if_neg (by omega), if_neg (by omega), if_neg (by omega)]
theorem ord_fit (s : Nat) (hs : s < 9223372036854775808) : ∃ o1 o2, FloatKind.f64.format.order s 553942754166571008 = o1 ∧ FloatKind.f64.format.order s 8660422083433463808 = o2 ∧
    (((o1 = some .gt ∨ o1 = some .eq) ∧ (o2 = some .lt ∨ o2 = some .eq) ∧ 553942754166571008 ≤ s ∧ s ≤ 8660422083433463808) ∨
     ((o1 = some .gt ∨ o1 = some .eq) ∧ (o2 = some .gt) ∧ ¬ s ≤ 8660422083433463808) ∨
     ((o1 = some .lt) ∧ ¬ 553942754166571008 ≤ s) ∨ (o1 = none ∧ ¬ s ≤ 8660422083433463808)) := by
  rcases Nat.lt_trichotomy s 9218868437227405312 with h | h | h
  · refine ⟨_, _, ord_pos h (by decide), ord_pos h (by decide), ?_⟩
    rcases Nat.lt_trichotomy s 553942754166571008 with h1 | h1 | h1
    · exact .inr (.inr (.inl ⟨by rw [if_pos h1], by omega⟩))
    · subst h1; exact .inl ⟨.inr (by decide), .inl (by decide), by decide, by decide⟩
    · rcases Nat.lt_trichotomy s 8660422083433463808 with h2 | h2 | h2
      · exact .inl ⟨.inl (by rw [if_neg (by omega), if_neg (by omega)]), .inl (by rw [if_pos h2]), by omega, by omega⟩
      · subst h2; exact .inl ⟨.inl (by decide), .inr (by decide), by decide, by decide⟩
      · exact .inr (.inl ⟨.inl (by rw [if_neg (by omega), if_neg (by omega)]), by rw [if_neg (by omega), if_neg (by omega)], by omega⟩)
  · subst h
    exact ⟨some .gt, some .gt, by decide +kernel, by decide +kernel, .inr (.inl ⟨.inl rfl, rfl, by decide⟩)⟩
  · refine ⟨none, none, order_nan (.inl ?_), order_nan (.inl ?_), .inr (.inr (.inr ⟨rfl, by omega⟩))⟩
    · unfold NanP; omega
    · unfold NanP; omega
theorem fit_ok (hi lo : Nat) (hh : hi < 18446744073709551616) (hl : lo < 18446744073709551616) (e : Int) (w : World) : Calls Tryd.prog 49 #[.agg #[Fv hi, Fv lo], .int .i64 e] w fun en w' => en = .returned (.bool (fit25 hi lo e)) ∧ Below w.heap.size w w' := by
  have hSF : ∀ (w : World) (a : Addr) (b : Nat), (store a (Fv b)).run Tryd.prog w = stored Tryd.prog w a (Fv b) .plain := fun w a b => run_store _ w a (Fv b) _ rfl
  have HA := mabs hi hh
  have HF := ddform hi lo hh hl
  unfold fit25
  have hs : hi % 9223372036854775808 < 9223372036854775808 := by omega
  generalize hi % 9223372036854775808 = s at HA hs ⊢
  obtain ⟨o1, o2, ho1, ho2, hc⟩ := ord_fit s hs
  generalize ddB hi lo = D at HF ⊢
  clear hh hl hs
  by_cases c1 : -100 ≤ e
  · rw [decide_eq_true c1, Bool.true_and]
    by_cases c2 : e ≤ -56
    · rw [decide_eq_true c2, Bool.true_and]
      rcases hc with ⟨h1 | h1, h2 | h2, h3, h4⟩ | ⟨h1 | h1, h2, h4⟩ | ⟨h1, h3⟩ | ⟨h1, h4⟩
      iterate 4
        rw [decide_eq_true h3, decide_eq_true h4, Bool.true_and, Bool.true_and]
        subst h1 h2
        clear h3 h4
        go_enter Tryd.func49, Tryd.ntmps49
        go_wp2_with fail
        refine (HA _).mono ?_
        rintro e9 v9 ⟨rfl, hw⟩
        obtain rfl := hw.symm
        clear hw
        go_wp2_with fail
        refine (HF _).mono ?_
        rintro e9 v9 ⟨rfl, hw⟩
        go_wp2_with fail
        go_ret
        exact ⟨rfl, (bwAlloc w _).trans (hw.mono (bwAlloc w _).size)⟩
      iterate 2
        rw [decide_eq_false h4, Bool.and_false, Bool.false_and]
        subst h1 h2
        clear h4
        go_enter Tryd.func49, Tryd.ntmps49
        go_wp2_with fail
        refine (HA _).mono ?_
        rintro e9 v9 ⟨rfl, hw⟩
        obtain rfl := hw.symm
        clear hw
        go_wp2_with fail
        go_ret
        exact ⟨rfl, bwAlloc w _⟩
      · rw [decide_eq_false h3, Bool.false_and, Bool.false_and]
        subst h1
        clear h3
        go_enter Tryd.func49, Tryd.ntmps49
        go_wp2_with fail
        refine (HA _).mono ?_
        rintro e9 v9 ⟨rfl, hw⟩
        obtain rfl := hw.symm
        clear hw
        go_wp2_with fail
        go_ret
        exact ⟨rfl, bwAlloc w _⟩
      · rw [decide_eq_false h4, Bool.and_false, Bool.false_and]
        subst h1
        clear h4
        go_enter Tryd.func49, Tryd.ntmps49
        go_wp2_with fail
        refine (HA _).mono ?_
        rintro e9 v9 ⟨rfl, hw⟩
        obtain rfl := hw.symm
        clear hw
        go_wp2_with fail
        go_ret
        exact ⟨rfl, bwAlloc w _⟩
    · rw [decide_eq_false c2, Bool.false_and, Bool.false_and, Bool.false_and]
      clear hc
      go_enter Tryd.func49, Tryd.ntmps49
      go_wp2_with fail
      refine (HA _).mono ?_
      rintro e9 v9 ⟨rfl, hw⟩
      obtain rfl := hw.symm
      clear hw
      go_wp2_with fail
      go_ret
      exact ⟨rfl, bwAlloc w _⟩
  · rw [decide_eq_false c1, Bool.false_and, Bool.false_and, Bool.false_and, Bool.false_and]
    clear hc
    go_enter Tryd.func49, Tryd.ntmps49
    go_wp2_with fail
    refine (HA _).mono ?_
    rintro e9 v9 ⟨rfl, hw⟩
    obtain rfl := hw.symm
    clear hw
    go_wp2_with fail
    go_ret
    exact ⟨rfl, bwAlloc w _⟩
theorem ld_lt {k : Nat} (_h1 : 56 ≤ k) (_h2 : k ≤ 100) : LD k < 9218868437227405312 := by unfold LD; omega
theorem mg_run {hi k : Nat} (k1 : 56 ≤ k) (k2 : k ≤ 100) (sz : SzF hi) : ∃ M, floatBits .mul .f64 (LD k) (hi % 9223372036854775808) = some M ∧ Fin64 M ∧ ux M = mgR k (ux hi) := by
  have hL := ld_lt k1 k2
  have f1 : Fin64 (LD k) := ⟨by omega, by omega⟩
  have f2 : Fin64 (hi % 9223372036854775808) := ⟨by omega, by have := sz.most; omega⟩
  have h1 := fmul_any f1 f2
  obtain ⟨c, hc⟩ : ∃ c, c = 1074 := ⟨_, rfl⟩
  have hx := mgX_exact k2 sz
  have u1 : ux (LD k) = ((3 * 2 ^ (c - 1 - k) : Nat) : Int) := by
    rw [ux_pos (by omega)]
    have : LD k = (c - 52 - k) * 4503599627370496 + 6755399441055744 := by unfold LD; omega
    rw [this, vs_at _ _ (.inr (by decide)) (by decide), show 6755399441055744 = 3 * 2 ^ 51 by decide, Nat.mul_assoc, ← Nat.pow_add, show 51 + (c - 52 - k) = c - 1 - k by omega]
  have u2 : ux (hi % 9223372036854775808) = ((ux hi).natAbs : Int) := by
    rw [ux_pos (by omega), ux_abs]
  have hX : ux (LD k) * ux (hi % 9223372036854775808) = (mgX k (ux hi) : Int) * ((2 ^ c : Nat) : Int) := by
    rw [u1, u2, ← Int.natCast_mul, ← Int.natCast_mul]
    congr 1
    rw [Nat.mul_right_comm, ← hx, Nat.mul_assoc, ← Nat.pow_add]
    congr 2
    omega
  obtain ⟨K, hK⟩ : ∃ K, K = 1974 := ⟨_, rfl⟩
  have m3 := (mg_facts hK k1 k2 sz).2.2.1
  have hmx := max_k hK
  have hs := (flr_of h1).mul f1 f2 hc hX (by omega)
  exact ⟨_, h1, hs.fin, sm_rv hs⟩
def accB (hi lo : Nat) (e : Int) : Bool := fit25 hi lo e && (decide (rv (ux hi + rv (ux lo - mgR (-e).toNat (ux hi))) = ux hi) && decide (rv (ux hi + rv (ux lo + mgR (-e).toNat (ux hi))) = ux hi))
theorem fit25_iff {hi lo : Nat} {e : Int} : fit25 hi lo e = true ↔ ∃ k : Nat, e = -(k : Int) ∧ 56 ≤ k ∧ k ≤ 100 ∧ SzF hi ∧ DdF hi lo := by
  unfold fit25
  simp only [Bool.and_eq_true, decide_eq_true_iff, ddB_iff]
  constructor
  · rintro ⟨⟨⟨⟨h1, h2⟩, h3⟩, h4⟩, h5⟩
    exact ⟨(-e).toNat, by omega, by omega, by omega, ⟨h5.hi, h3, h4⟩, h5⟩
  · rintro ⟨k, rfl, h1, h2, h3, h4⟩
    exact ⟨⟨⟨⟨by omega, by omega⟩, h3.least⟩, h3.most⟩, h4⟩
theorem accB_iff {hi lo : Nat} {e : Int} : accB hi lo e = true ↔ ∃ k : Nat, e = -(k : Int) ∧ AccP hi lo k := by
  unfold accB
  rw [Bool.and_eq_true, Bool.and_eq_true, decide_eq_true_iff, decide_eq_true_iff, fit25_iff]
  constructor
  · rintro ⟨⟨k, rfl, h1, h2, h3, h4⟩, h5, h6⟩
    rw [show (-(-(k : Int))).toNat = k by omega] at h5 h6
    exact ⟨k, rfl, h1, h2, h3, h4, h5, h6⟩
  · rintro ⟨k, rfl, h⟩
    rw [show (-(-(k : Int))).toNat = k by omega]
    exact ⟨⟨k, rfl, h.k1, h.k2, h.sz, h.dd⟩, h.dn, h.up⟩
theorem acc_keep {hi lo k a : Nat} (k1 : 56 ≤ k) (k2 : k ≤ 100) (sz : SzF hi) (d : DdF hi lo) {t : Int} (ht : t.natAbs ≤ (mgR k (ux hi)).natAbs) (hs : Sm64 (ux lo + t) a) : ddB hi a = decide (rv (ux hi + rv (ux lo + t)) = ux hi) := by
  have h1 := sm_rv hs
  obtain ⟨_, _, c3, _⟩ := acc_bd rfl k1 k2 sz d ht
  rw [Bool.eq_iff_iff, ddB_iff, decide_eq_true_iff, ← h1]
  rw [← h1] at c3
  exact ⟨fun d => d.eq, fun h => ⟨sz.fin, hs.fin, rg_fin c3, h⟩⟩
end Go.Proofs.YthfjjadgejmnfaaDoor
namespace Go.Proofs.YthfjjadgejmnfaaDoor
open Go.RowKit Go.Shelf
set_option maxRecDepth 20000
set_option maxHeartbeats 0
theorem accept_n (hi lo : Nat) (hh : hi < 18446744073709551616) (hl : lo < 18446744073709551616) (e : Int) (w : World) (hf : fit25 hi lo e = false) :
    Calls Tryd.prog 24 #[.agg #[Fv hi, Fv lo], .int .i64 e] w fun en w' => en = .returned (.tuple #[.int .u64 0, .bool false]) ∧ Below w.heap.size w w' := by
  have hSF : ∀ (w : World) (a : Addr) (b : Nat), (store a (Fv b)).run Tryd.prog w = stored Tryd.prog w a (Fv b) .plain := fun w a b => run_store _ w a (Fv b) _ rfl
  have HF := fit_ok hi lo hh hl e
  rw [hf] at HF
  clear hf hh hl
  go_enter Tryd.func24, Tryd.ntmps24
  go_wp2_with fail
  obtain ⟨W0, hW0⟩ : ∃ W0, W0 = (w.alloc (.cells #[Fv hi, Fv lo] 43)) := ⟨_, rfl⟩
  have Xv : Hid (Box W0 (w.heap.size) (Fv hi) (Fv lo)) := by rw [hW0]; exact ⟨by go_simp, by go_simp, by go_simp, by go_simp⟩
  have hb0 : Below w.heap.size w W0 := by rw [hW0]; exact below1 w _
  rw [← hW0]
  clear hW0
  have hbw : Below w.heap.size w w := Below.refl _ _
  obtain ⟨gv, hgv⟩ : ∃ g, g = w.heap.size := ⟨_, rfl⟩
  have HGv : Hid (w.heap.size ≤ gv) := by rw [hgv]; show _ ≤ _; omega
  rw [← hgv] at Xv
  try rw [← hgv]
  clear hgv
  replace hbw := Below.on hbw hb0
  clear hb0
  refine (HF _).mono ?_
  rintro e v1 ⟨rfl, hb1⟩
  replace Xv : Hid _ := Xv.out.below hb1
  replace hbw := Below.on hbw hb1
  clear hb1
  obtain ⟨cv0, cv1, fv0, fv1⟩ := Xv.out
  have hnev := Xv.out.lt
  go_wp2_with fail
  clear cv0 cv1 fv0 fv1 hnev
  go_ret2
  exact ⟨rfl, hbw⟩
theorem accept_d (hi lo k M a : Nat) (e : Int) (w : World) (HF : ∀ w, Calls Tryd.prog 49 #[.agg #[Fv hi, Fv lo], .int .i64 e] w fun en w' => en = .returned (.bool true) ∧ Below w.heap.size w w') (HL : ∀ w, Calls Tryd.prog 50 #[Fv 4609434218613702656, .int .i64 e] w fun en w' => en = .returned (Fv k) ∧ w' = w) (hs : Nat) (HB : ∀ w, Calls Tryd.prog 51 #[Fv hi] w fun en w' => en = .returned (Fv hs) ∧ w' = w) (H1 : ∀ w, Calls Tryd.prog 52 #[Fv hi, Fv a] w fun en w' => en = .returned (.bool false) ∧ w' = w) (f1 : ∀ w, (binOp .mul 40 (Fv k) (Fv hs)).run Tryd.prog w = .ok (Fv M) w) (f2 : ∀ w, (binOp .sub 40 (Fv lo) (Fv M)).run Tryd.prog w = .ok (Fv a) w) :
    Calls Tryd.prog 24 #[.agg #[Fv hi, Fv lo], .int .i64 e] w fun en w' => en = .returned (.tuple #[.int .u64 0, .bool false]) ∧ Below w.heap.size w w' := by
  have hSF : ∀ (w : World) (a : Addr) (b : Nat), (store a (Fv b)).run Tryd.prog w = stored Tryd.prog w a (Fv b) .plain := fun w a b => run_store _ w a (Fv b) _ rfl
  have bo8 : ∀ w, (callFunc 53 #[Fv hi]).run Tryd.prog w = .ok (.value (.int .u64 (hi : Int))) w := fun w => bitsOf hi w
  go_enter Tryd.func24, Tryd.ntmps24
  go_wp2_with fail
  obtain ⟨W0, hW0⟩ : ∃ W0, W0 = (w.alloc (.cells #[Fv hi, Fv lo] 43)) := ⟨_, rfl⟩
  have Xv : Hid (Box W0 (w.heap.size) (Fv hi) (Fv lo)) := by rw [hW0]; exact ⟨by go_simp, by go_simp, by go_simp, by go_simp⟩
  have hb0 : Below w.heap.size w W0 := by rw [hW0]; exact below1 w _
  rw [← hW0]
  clear hW0
  have hbw : Below w.heap.size w w := Below.refl _ _
  obtain ⟨gv, hgv⟩ : ∃ g, g = w.heap.size := ⟨_, rfl⟩
  have HGv : Hid (w.heap.size ≤ gv) := by rw [hgv]; show _ ≤ _; omega
  rw [← hgv] at Xv
  try rw [← hgv]
  clear hgv
  replace hbw := Below.on hbw hb0
  clear hb0
  refine (HF _).mono ?_
  rintro e v1 ⟨rfl, hb1⟩
  replace Xv : Hid _ := Xv.out.below hb1
  replace hbw := Below.on hbw hb1
  clear hb1
  obtain ⟨cv0, cv1, fv0, fv1⟩ := Xv.out
  have hnev := Xv.out.lt
  go_wp2_with fail
  clear cv0 cv1 fv0 fv1 hnev
  obtain ⟨W2, hW2⟩ : ∃ W1, W1 = v1.drew := ⟨_, rfl⟩
  have hbd : Below v1.heap.size v1 W2 := by rw [hW2]; exact bDrew1 (Below.refl _ _)
  replace Xv : Hid _ := Xv.out.below hbd
  replace hbw := Below.on hbw hbd
  clear hbd
  have HJ : Hid ((fun W' : World => W'.cell? ⟨gv, 0, none⟩ = some (Fv hi)) W2) := Xv.out.c0
  refine wp_region_J (fun W' => W'.cell? ⟨gv, 0, none⟩ = some (Fv hi)) (by kernel_rfl) ?_
  rw [← hW2]
  clear hW2
  refine wpJ_tk 0 (v := ?v1x0) rfl ?hy1x0 HJ.out ?_
  case hy1x0 => (intro W' hJ; have j0 := hJ; go_simp; first | done | with_reducible rfl)
  refine wpJ_tk 2 (v := ?v2x2) rfl ?hy2x2 HJ.out ?_
  case hy2x2 => (intro W' hJ; have j0 := hJ; go_simp; first | done | with_reducible rfl)
  refine wpJ_tk 3 (v := ?v3x3) rfl ?hy3x3 HJ.out ?_
  case hy3x3 => (intro W' hJ; have j0 := hJ; go_simp; first | done | with_reducible rfl)
  refine wpJ_on 1 rfl fun KJ hK => ?_
  go_simp
  refine (HL _).mono ?_
  rintro e9 v7 ⟨rfl, hw⟩
  obtain rfl := hw.symm
  clear hw
  refine hK _ _ Xv.out.c0 ?_
  clear hK
  refine wpJ_on 4 rfl fun KJ hK => ?_
  go_simp
  refine (HB _).mono ?_
  rintro e9 v7 ⟨rfl, hw⟩
  obtain rfl := hw.symm
  clear hw
  clear HJ
  have HJ : Hid ((fun W' : World => W'.cell? ⟨gv, 0, none⟩ = some (Fv hi)) W2) := Xv.out.c0
  refine hK _ _ HJ.out ?_
  clear hK
  refine wpJ_tk 5 (v := ?v4x5) rfl ?hy4x5 HJ.out ?_
  case hy4x5 => (intro W' hJ; have j0 := hJ; go_simp; first | done | with_reducible rfl)
  refine wpJ_tk 6 (v := ?v5x6) rfl ?hy5x6 HJ.out ?_
  case hy5x6 => (intro W' hJ; have j0 := hJ; go_simp; first | done | with_reducible rfl)
  refine wpJ_done (by kernel_rfl) ?_ _
  clear HJ
  obtain ⟨cv0, cv1, fv0, fv1⟩ := Xv.out
  have hnev := Xv.out.lt
  go_wp2_with fail
  clear cv0 cv1 fv0 fv1 hnev
  refine (H1 _).mono ?_
  rintro e9 v7 ⟨rfl, hw⟩
  obtain rfl := hw.symm
  clear hw
  obtain ⟨cv0, cv1, fv0, fv1⟩ := Xv.out
  have hnev := Xv.out.lt
  go_wp2_with fail
  clear cv0 cv1 fv0 fv1 hnev
  go_ret2
  exact ⟨rfl, hbw⟩
theorem accept_u (hi lo k M a b : Nat) (e : Int) (w : World) (HF : ∀ w, Calls Tryd.prog 49 #[.agg #[Fv hi, Fv lo], .int .i64 e] w fun en w' => en = .returned (.bool true) ∧ Below w.heap.size w w') (HL : ∀ w, Calls Tryd.prog 50 #[Fv 4609434218613702656, .int .i64 e] w fun en w' => en = .returned (Fv k) ∧ w' = w) (hs : Nat) (HB : ∀ w, Calls Tryd.prog 51 #[Fv hi] w fun en w' => en = .returned (Fv hs) ∧ w' = w) (H1 : ∀ w, Calls Tryd.prog 52 #[Fv hi, Fv a] w fun en w' => en = .returned (.bool true) ∧ w' = w) (H2 : ∀ w, Calls Tryd.prog 52 #[Fv hi, Fv b] w fun en w' => en = .returned (.bool false) ∧ w' = w) (f1 : ∀ w, (binOp .mul 40 (Fv k) (Fv hs)).run Tryd.prog w = .ok (Fv M) w) (f2 : ∀ w, (binOp .sub 40 (Fv lo) (Fv M)).run Tryd.prog w = .ok (Fv a) w) (f3 : ∀ w, (binOp .add 40 (Fv lo) (Fv M)).run Tryd.prog w = .ok (Fv b) w) :
    Calls Tryd.prog 24 #[.agg #[Fv hi, Fv lo], .int .i64 e] w fun en w' => en = .returned (.tuple #[.int .u64 0, .bool false]) ∧ Below w.heap.size w w' := by
  have hSF : ∀ (w : World) (a : Addr) (b : Nat), (store a (Fv b)).run Tryd.prog w = stored Tryd.prog w a (Fv b) .plain := fun w a b => run_store _ w a (Fv b) _ rfl
  have bo8 : ∀ w, (callFunc 53 #[Fv hi]).run Tryd.prog w = .ok (.value (.int .u64 (hi : Int))) w := fun w => bitsOf hi w
  go_enter Tryd.func24, Tryd.ntmps24
  go_wp2_with fail
  obtain ⟨W0, hW0⟩ : ∃ W0, W0 = (w.alloc (.cells #[Fv hi, Fv lo] 43)) := ⟨_, rfl⟩
  have Xv : Hid (Box W0 (w.heap.size) (Fv hi) (Fv lo)) := by rw [hW0]; exact ⟨by go_simp, by go_simp, by go_simp, by go_simp⟩
  have hb0 : Below w.heap.size w W0 := by rw [hW0]; exact below1 w _
  rw [← hW0]
  clear hW0
  have hbw : Below w.heap.size w w := Below.refl _ _
  obtain ⟨gv, hgv⟩ : ∃ g, g = w.heap.size := ⟨_, rfl⟩
  have HGv : Hid (w.heap.size ≤ gv) := by rw [hgv]; show _ ≤ _; omega
  rw [← hgv] at Xv
  try rw [← hgv]
  clear hgv
  replace hbw := Below.on hbw hb0
  clear hb0
  refine (HF _).mono ?_
  rintro e v1 ⟨rfl, hb1⟩
  replace Xv : Hid _ := Xv.out.below hb1
  replace hbw := Below.on hbw hb1
  clear hb1
  obtain ⟨cv0, cv1, fv0, fv1⟩ := Xv.out
  have hnev := Xv.out.lt
  go_wp2_with fail
  clear cv0 cv1 fv0 fv1 hnev
  obtain ⟨W2, hW2⟩ : ∃ W1, W1 = v1.drew := ⟨_, rfl⟩
  have hbd : Below v1.heap.size v1 W2 := by rw [hW2]; exact bDrew1 (Below.refl _ _)
  replace Xv : Hid _ := Xv.out.below hbd
  replace hbw := Below.on hbw hbd
  clear hbd
  have HJ : Hid ((fun W' : World => W'.cell? ⟨gv, 0, none⟩ = some (Fv hi)) W2) := Xv.out.c0
  refine wp_region_J (fun W' => W'.cell? ⟨gv, 0, none⟩ = some (Fv hi)) (by kernel_rfl) ?_
  rw [← hW2]
  clear hW2
  refine wpJ_tk 0 (v := ?v6x0) rfl ?hy6x0 HJ.out ?_
  case hy6x0 => (intro W' hJ; have j0 := hJ; go_simp; first | done | with_reducible rfl)
  refine wpJ_tk 2 (v := ?v7x2) rfl ?hy7x2 HJ.out ?_
  case hy7x2 => (intro W' hJ; have j0 := hJ; go_simp; first | done | with_reducible rfl)
  refine wpJ_tk 3 (v := ?v8x3) rfl ?hy8x3 HJ.out ?_
  case hy8x3 => (intro W' hJ; have j0 := hJ; go_simp; first | done | with_reducible rfl)
  refine wpJ_on 1 rfl fun KJ hK => ?_
  go_simp
  refine (HL _).mono ?_
  rintro e9 v7 ⟨rfl, hw⟩
  obtain rfl := hw.symm
  clear hw
  refine hK _ _ Xv.out.c0 ?_
  clear hK
  refine wpJ_on 4 rfl fun KJ hK => ?_
  go_simp
  refine (HB _).mono ?_
  rintro e9 v7 ⟨rfl, hw⟩
  obtain rfl := hw.symm
  clear hw
  clear HJ
  have HJ : Hid ((fun W' : World => W'.cell? ⟨gv, 0, none⟩ = some (Fv hi)) W2) := Xv.out.c0
  refine hK _ _ HJ.out ?_
  clear hK
  refine wpJ_tk 5 (v := ?v9x5) rfl ?hy9x5 HJ.out ?_
  case hy9x5 => (intro W' hJ; have j0 := hJ; go_simp; first | done | with_reducible rfl)
  refine wpJ_tk 6 (v := ?v10x6) rfl ?hy10x6 HJ.out ?_
  case hy10x6 => (intro W' hJ; have j0 := hJ; go_simp; first | done | with_reducible rfl)
  refine wpJ_done (by kernel_rfl) ?_ _
  clear HJ
  obtain ⟨cv0, cv1, fv0, fv1⟩ := Xv.out
  have hnev := Xv.out.lt
  go_wp2_with fail
  clear cv0 cv1 fv0 fv1 hnev
  refine (H1 _).mono ?_
  rintro e9 v7 ⟨rfl, hw⟩
  obtain rfl := hw.symm
  clear hw
  obtain ⟨cv0, cv1, fv0, fv1⟩ := Xv.out
  have hnev := Xv.out.lt
  go_wp2_with fail
  clear cv0 cv1 fv0 fv1 hnev
  refine (H2 _).mono ?_
  rintro e9 v7 ⟨rfl, hw⟩
  obtain rfl := hw.symm
  clear hw
  obtain ⟨cv0, cv1, fv0, fv1⟩ := Xv.out
  have hnev := Xv.out.lt
  go_wp2_with fail
  clear cv0 cv1 fv0 fv1 hnev
  go_ret2
  exact ⟨rfl, hbw⟩
theorem accept_y (hi lo k M a b : Nat) (e : Int) (w : World) (HF : ∀ w, Calls Tryd.prog 49 #[.agg #[Fv hi, Fv lo], .int .i64 e] w fun en w' => en = .returned (.bool true) ∧ Below w.heap.size w w') (HL : ∀ w, Calls Tryd.prog 50 #[Fv 4609434218613702656, .int .i64 e] w fun en w' => en = .returned (Fv k) ∧ w' = w) (hs : Nat) (HB : ∀ w, Calls Tryd.prog 51 #[Fv hi] w fun en w' => en = .returned (Fv hs) ∧ w' = w) (H1 : ∀ w, Calls Tryd.prog 52 #[Fv hi, Fv a] w fun en w' => en = .returned (.bool true) ∧ w' = w) (H2 : ∀ w, Calls Tryd.prog 52 #[Fv hi, Fv b] w fun en w' => en = .returned (.bool true) ∧ w' = w) (f1 : ∀ w, (binOp .mul 40 (Fv k) (Fv hs)).run Tryd.prog w = .ok (Fv M) w) (f2 : ∀ w, (binOp .sub 40 (Fv lo) (Fv M)).run Tryd.prog w = .ok (Fv a) w) (f3 : ∀ w, (binOp .add 40 (Fv lo) (Fv M)).run Tryd.prog w = .ok (Fv b) w) :
    Calls Tryd.prog 24 #[.agg #[Fv hi, Fv lo], .int .i64 e] w fun en w' => en = .returned (.tuple #[.int .u64 (hi : Int), .bool true]) ∧ Below w.heap.size w w' := by
  have hSF : ∀ (w : World) (a : Addr) (b : Nat), (store a (Fv b)).run Tryd.prog w = stored Tryd.prog w a (Fv b) .plain := fun w a b => run_store _ w a (Fv b) _ rfl
  have bo8 : ∀ w, (callFunc 53 #[Fv hi]).run Tryd.prog w = .ok (.value (.int .u64 (hi : Int))) w := fun w => bitsOf hi w
  go_enter Tryd.func24, Tryd.ntmps24
  go_wp2_with fail
  obtain ⟨W0, hW0⟩ : ∃ W0, W0 = (w.alloc (.cells #[Fv hi, Fv lo] 43)) := ⟨_, rfl⟩
  have Xv : Hid (Box W0 (w.heap.size) (Fv hi) (Fv lo)) := by rw [hW0]; exact ⟨by go_simp, by go_simp, by go_simp, by go_simp⟩
  have hb0 : Below w.heap.size w W0 := by rw [hW0]; exact below1 w _
  rw [← hW0]
  clear hW0
  have hbw : Below w.heap.size w w := Below.refl _ _
  obtain ⟨gv, hgv⟩ : ∃ g, g = w.heap.size := ⟨_, rfl⟩
  have HGv : Hid (w.heap.size ≤ gv) := by rw [hgv]; show _ ≤ _; omega
  rw [← hgv] at Xv
  try rw [← hgv]
  clear hgv
  replace hbw := Below.on hbw hb0
  clear hb0
  refine (HF _).mono ?_
  rintro e v1 ⟨rfl, hb1⟩
  replace Xv : Hid _ := Xv.out.below hb1
  replace hbw := Below.on hbw hb1
  clear hb1
  obtain ⟨cv0, cv1, fv0, fv1⟩ := Xv.out
  have hnev := Xv.out.lt
  go_wp2_with fail
  clear cv0 cv1 fv0 fv1 hnev
  obtain ⟨W2, hW2⟩ : ∃ W1, W1 = v1.drew := ⟨_, rfl⟩
  have hbd : Below v1.heap.size v1 W2 := by rw [hW2]; exact bDrew1 (Below.refl _ _)
  replace Xv : Hid _ := Xv.out.below hbd
  replace hbw := Below.on hbw hbd
  clear hbd
  have HJ : Hid ((fun W' : World => W'.cell? ⟨gv, 0, none⟩ = some (Fv hi)) W2) := Xv.out.c0
  refine wp_region_J (fun W' => W'.cell? ⟨gv, 0, none⟩ = some (Fv hi)) (by kernel_rfl) ?_
  rw [← hW2]
  clear hW2
  refine wpJ_tk 0 (v := ?v11x0) rfl ?hy11x0 HJ.out ?_
  case hy11x0 => (intro W' hJ; have j0 := hJ; go_simp; first | done | with_reducible rfl)
  refine wpJ_tk 2 (v := ?v12x2) rfl ?hy12x2 HJ.out ?_
  case hy12x2 => (intro W' hJ; have j0 := hJ; go_simp; first | done | with_reducible rfl)
  refine wpJ_tk 3 (v := ?v13x3) rfl ?hy13x3 HJ.out ?_
  case hy13x3 => (intro W' hJ; have j0 := hJ; go_simp; first | done | with_reducible rfl)
  refine wpJ_on 1 rfl fun KJ hK => ?_
  go_simp
  refine (HL _).mono ?_
  rintro e9 v7 ⟨rfl, hw⟩
  obtain rfl := hw.symm
  clear hw
  refine hK _ _ Xv.out.c0 ?_
  clear hK
  refine wpJ_on 4 rfl fun KJ hK => ?_
  go_simp
  refine (HB _).mono ?_
  rintro e9 v7 ⟨rfl, hw⟩
  obtain rfl := hw.symm
  clear hw
  clear HJ
  have HJ : Hid ((fun W' : World => W'.cell? ⟨gv, 0, none⟩ = some (Fv hi)) W2) := Xv.out.c0
  refine hK _ _ HJ.out ?_
  clear hK
  refine wpJ_tk 5 (v := ?v14x5) rfl ?hy14x5 HJ.out ?_
  case hy14x5 => (intro W' hJ; have j0 := hJ; go_simp; first | done | with_reducible rfl)
  refine wpJ_tk 6 (v := ?v15x6) rfl ?hy15x6 HJ.out ?_
  case hy15x6 => (intro W' hJ; have j0 := hJ; go_simp; first | done | with_reducible rfl)
  refine wpJ_done (by kernel_rfl) ?_ _
  clear HJ
  obtain ⟨cv0, cv1, fv0, fv1⟩ := Xv.out
  have hnev := Xv.out.lt
  go_wp2_with fail
  clear cv0 cv1 fv0 fv1 hnev
  refine (H1 _).mono ?_
  rintro e9 v7 ⟨rfl, hw⟩
  obtain rfl := hw.symm
  clear hw
  obtain ⟨cv0, cv1, fv0, fv1⟩ := Xv.out
  have hnev := Xv.out.lt
  go_wp2_with fail
  clear cv0 cv1 fv0 fv1 hnev
  refine (H2 _).mono ?_
  rintro e9 v7 ⟨rfl, hw⟩
  obtain rfl := hw.symm
  clear hw
  obtain ⟨cv0, cv1, fv0, fv1⟩ := Xv.out
  have hnev := Xv.out.lt
  go_wp2_with fail
  clear cv0 cv1 fv0 fv1 hnev
  go_ret2
  exact ⟨rfl, hbw⟩
theorem accept_ok (hi lo : Nat) (hh : hi < 18446744073709551616) (hl : lo < 18446744073709551616) (e : Int) (w : World) : Calls Tryd.prog 24 #[.agg #[Fv hi, Fv lo], .int .i64 e] w fun en w' => en = .returned (.tuple #[.int .u64 ((if accB hi lo e then hi else 0 : Nat) : Int), .bool (accB hi lo e)]) ∧ Below w.heap.size w w' := by
  cases hf : fit25 hi lo e with
  | false =>
    have hA : accB hi lo e = false := by unfold accB; rw [hf, Bool.false_and]
    rw [hA]
    exact accept_n hi lo hh hl e w hf
  | true =>
    have HF := fit_ok hi lo hh hl e
    rw [hf] at HF
    obtain ⟨k, he, k1, k2, sz, d⟩ := fit25_iff.1 hf
    obtain ⟨M, hM, FM, uM⟩ := mg_run k1 k2 sz
    have t1 : (-mgR k (ux hi)).natAbs ≤ (mgR k (ux hi)).natAbs := by rw [Int.natAbs_neg]; exact Nat.le_refl _
    have a4 := (acc_bd rfl k1 k2 sz d t1).2.2.2
    have b4 := (acc_bd rfl k1 k2 sz d (Nat.le_refl (mgR k (ux hi)).natAbs)).2.2.2
    obtain ⟨a, ha, sa⟩ := fl_sub_fin d.lo FM (by rw [uM, Int.sub_eq_add_neg]; exact a4)
    obtain ⟨b, hb, sb⟩ := fl_add_fin d.lo FM (by rw [uM]; exact b4)
    rw [uM] at sa sb
    rw [Int.sub_eq_add_neg] at sa
    have ka := acc_keep k1 k2 sz d t1 sa
    have kb := acc_keep k1 k2 sz d (Nat.le_refl _) sb
    have hA : accB hi lo e = (ddB hi a && ddB hi b) := by
      unfold accB
      rw [hf, Bool.true_and, ka, kb, ← Int.sub_eq_add_neg, he, show (-(-(k : Int))).toNat = k by omega]
    rw [hA]
    have H1 := keeps_ok hi a sz.fin sa.fin
    have H2 := keeps_ok hi b sz.fin sb.fin
    have HL := Ldexp_h (k - 56) e (by omega) (by omega)
    rw [show 56 + (k - 56) = k by omega] at HL
    have HB := mabs hi hh
    have f1 : ∀ w, (binOp .mul 40 (Fv (LD k)) (Fv (hi % 9223372036854775808))).run Tryd.prog w = .ok (Fv M) w := fun w => run_float_arith w .mul 40 .f64 _ _ _ hM
    have f2 : ∀ w, (binOp .sub 40 (Fv lo) (Fv M)).run Tryd.prog w = .ok (Fv a) w := fun w => run_float_arith w .sub 40 .f64 _ _ _ ha
    have f3 : ∀ w, (binOp .add 40 (Fv lo) (Fv M)).run Tryd.prog w = .ok (Fv b) w := fun w => run_float_arith w .add 40 .f64 _ _ _ hb
    generalize ddB hi a = A at *
    generalize ddB hi b = B at *
    cases A
    · exact accept_d hi lo _ M a e w HF HL _ HB H1 f1 f2
    · cases B
      · exact accept_u hi lo _ M a b e w HF HL _ HB H1 H2 f1 f2 f3
      · exact accept_y hi lo _ M a b e w HF HL _ HB H1 H2 f1 f2 f3
def accN (hi lo : Nat) (e : Int) : Nat := if accB hi lo e then hi else 0
theorem ask_ok (hi lo : Nat) (hh : hi < 18446744073709551616) (hl : lo < 18446744073709551616) (e : Int) (w : World) : Calls Tryd.prog 10 #[U hi, U lo, .int .i64 e] w fun en w' => en = .returned (.tuple #[.int .u64 (accN hi lo e : Int), .bool (accB hi lo e)]) ∧ Below w.heap.size w w' := by
  have HA : ∀ w, Calls Tryd.prog 24 #[.agg #[Fv hi, Fv lo], .int .i64 e] w fun en w' => en = .returned (.tuple #[.int .u64 (accN hi lo e : Int), .bool (accB hi lo e)]) ∧ Below w.heap.size w w' := accept_ok hi lo hh hl e
  have h1 := fun w => frombits hi w
  have h2 := fun w => frombits lo w
  generalize accN hi lo e = R at *
  generalize accB hi lo e = B at *
  clear hh hl
  go_enter Tryd.func10, Tryd.ntmps10
  go_wp2_with fail
  refine (HA _).mono ?_
  rintro e9 v9 ⟨rfl, hw⟩
  go_wp2_with fail
  go_ret2
  exact ⟨rfl, hw⟩
theorem aw1 : accB 4607182418800017408 0 (-60) = true := by decide +kernel
theorem aw2 : accB 4607182418800017408 4368491638549381120 (-60) = false := by decide +kernel
theorem aw3 : accB 4607182418800017408 4354980839667269632 (-56) = true := by decide +kernel
theorem awake25 (w : World) : Calls Tryd.prog 5 #[] w fun en w' => en = .returned (.bool true) ∧ Below w.heap.size w w' := by
  have H1 := ask_ok 4607182418800017408 0 (by decide) (by decide) (-60)
  have H2 := ask_ok 4607182418800017408 4368491638549381120 (by decide) (by decide) (-60)
  have H3 := ask_ok 4607182418800017408 4354980839667269632 (by decide) (by decide) (-56)
  unfold accN at H1 H2 H3
  rw [aw1, if_pos rfl] at H1
  rw [aw2, if_neg (by decide)] at H2
  rw [aw3, if_pos rfl] at H3
  go_enter Tryd.func5, Tryd.ntmps5
  go_wp2_with fail
  refine (H1 _).mono ?_
  rintro e9 v1 ⟨rfl, hb1⟩
  go_wp2_with fail
  refine (H2 _).mono ?_
  rintro e9 v2 ⟨rfl, hb2⟩
  go_wp2_with fail
  refine (H3 _).mono ?_
  rintro e9 v3 ⟨rfl, hb3⟩
  go_wp2_with fail
  go_ret
  exact ⟨rfl, Below.on (Below.on hb1 hb2) hb3⟩
end Go.Proofs.YthfjjadgejmnfaaDoor
namespace Go.Proofs.YthfjjadgejmnfaaDoor
open Go.RowKit
set_option maxRecDepth 20000
set_option maxHeartbeats 0
theorem SzF.ne {hi : Nat} (h : SzF hi) : ux hi ≠ 0 := by
  obtain ⟨q, g, q1, _, g1, g2, g3⟩ := sz_q h.least
  intro h0
  have := ux_abs hi
  rw [g3, h0] at this
  have h3 : 0 < g * 2 ^ q := Nat.mul_pos (by omega) (p2pos q)
  rw [← this] at h3
  exact absurd h3 (by decide)
theorem marg {h l a m X R e : Int} (_h0 : 0 < h) (hR0 : 0 < R) (hR : R ≤ 1267650600228229401496703205376) (h1 : 2 * (X * R) = 3 * h) (hm : 0 ≤ m) (h2 : 9007199254740992 * (X - m) ≤ m) (h3 : 9007199254740992 * (m - X) ≤ m)
    (he : 0 ≤ e) (h4 : 9007199254740992 * e ≤ a) (h5 : a ≤ l + m + e) (h6 : 9007199254740992 * l ≤ h) : 14 * h ≤ 10 * (m * R - e * R) ∧ m * R + e * R ≤ 2 * h - h / 4 - 1 ∧ 0 ≤ e * R ∧ 0 ≤ m * R := by
  have g2 := Int.mul_le_mul_of_nonneg_right h2 (Int.le_of_lt hR0)
  have g3 := Int.mul_le_mul_of_nonneg_right h3 (Int.le_of_lt hR0)
  have g4 := Int.mul_le_mul_of_nonneg_right h4 (Int.le_of_lt hR0)
  have g5 := Int.mul_le_mul_of_nonneg_right h5 (Int.le_of_lt hR0)
  have g6 := Int.mul_le_mul_of_nonneg_right h6 (Int.le_of_lt hR0)
  have g7 : h * R ≤ h * 1267650600228229401496703205376 := Int.mul_le_mul_of_nonneg_left hR (by omega)
  have g8 := Int.mul_nonneg he (Int.le_of_lt hR0)
  have g9 := Int.mul_nonneg hm (Int.le_of_lt hR0)
  rw [Int.mul_assoc] at g2 g3 g4 g6
  rw [Int.sub_mul] at g2 g3
  rw [Int.add_mul, Int.add_mul] at g5
  generalize m * R = M at *
  generalize e * R = E at *
  generalize l * R = L at *
  generalize a * R = A at *
  generalize X * R = Y at *
  generalize h * R = HR at *
  omega
theorem pk_le {k : Nat} (h : k ≤ 100) : ((2 ^ k : Nat) : Int) ≤ 1267650600228229401496703205376 := by
  have : 2 ^ k ≤ 2 ^ 100 := p2le h
  rw [show 2 ^ 100 = 1267650600228229401496703205376 by decide] at this
  omega
theorem acc_marg {hi lo k : Nat} (k1 : 56 ≤ k) (k2 : k ≤ 100) (sz : SzF hi) (d : DdF hi lo) {t : Int} (ht : t = mgR k (ux hi) ∨ t = -mgR k (ux hi)) :
    ∃ e : Int, 0 ≤ e ∧ rv (ux lo + t) - (ux lo + t) ≤ e ∧ -(rv (ux lo + t) - (ux lo + t)) ≤ e ∧ 14 * ((ux hi).natAbs : Int) ≤ 10 * (mgR k (ux hi) * ((2 ^ k : Nat) : Int) - e * ((2 ^ k : Nat) : Int)) ∧ mgR k (ux hi) * ((2 ^ k : Nat) : Int) + e * ((2 ^ k : Nat) : Int) ≤ 2 * ((ux hi).natAbs : Int) - ((ux hi).natAbs : Int) / 4 - 1 ∧ 0 ≤ e * ((2 ^ k : Nat) : Int) ∧ 0 ≤ mgR k (ux hi) * ((2 ^ k : Nat) : Int) := by
  have m1 := (mg_facts rfl k1 k2 sz).1
  have m4 := (mg_facts rfl k1 k2 sz).2.2.2
  have hx := mgX_exact k2 sz
  have hne := sz.ne
  have hl := dd_little d
  have hq := m4.little (by decide)
  rw [show 2 ^ 53 = 9007199254740992 by decide] at hq
  have ht2 : t.natAbs ≤ (mgR k (ux hi)).natAbs := by rcases ht with h | h <;> rw [h] <;> first | exact Nat.le_refl _ | (rw [Int.natAbs_neg]; exact Nat.le_refl _)
  have ha := (rv_rn (acc_bd rfl k1 k2 sz d ht2).2.2.2).little (by decide)
  rw [show 2 ^ 53 = 9007199254740992 by decide] at ha
  have hp : (0 : Int) < ((2 ^ k : Nat) : Int) := Int.ofNat_lt.2 (p2pos k)
  have h1 : 2 * ((mgX k (ux hi) : Int) * ((2 ^ k : Nat) : Int)) = 3 * ((ux hi).natAbs : Int) := by
    rw [p2succ] at hx
    have h2 : mgX k (ux hi) * (2 * 2 ^ k) = 2 * (mgX k (ux hi) * 2 ^ k) := by rw [← Nat.mul_assoc, Nat.mul_comm _ 2, Nat.mul_assoc]
    rw [h2] at hx
    rw [← Int.natCast_mul]
    omega
  have hb : t.natAbs ≤ (mgR k (ux hi)).natAbs := ht2
  clear ht ht2 hx
  generalize mgX k (ux hi) = X at *
  generalize mgR k (ux hi) = m at *
  generalize rv (ux lo + t) = a at *
  generalize ux lo = L at *
  generalize ux hi = H at *
  obtain ⟨e, he⟩ : ∃ e : Nat, e = (L + t - a).natAbs := ⟨_, rfl⟩
  rw [← he] at ha
  refine ⟨(e : Int), by omega, by omega, by omega, ?_⟩
  exact marg (l := (L.natAbs : Int)) (a := (a.natAbs : Int)) (X := (X : Int)) (by omega) hp (pk_le k2) h1 m1 (by omega) (by omega) (by omega) (by omega) (by omega) (by omega)
theorem rn_high {X h g : Int} (hr : Rn 53 X h) (hg : Fl 53 g) (h1 : h < g) : 2 * X ≤ h + g := by
  have := hr.2 _ hg
  omega
theorem dv_same {x y e : Int} (h : dv x e = dv y e) : x = y := by
  refine Int.le_antisymm (Int.not_lt.1 fun h1 => ?_) (Int.not_lt.1 fun h1 => ?_)
  · have := (dv_lt_iff e).2 h1; omega
  · have := (dv_lt_iff e).2 h1; omega
theorem rn_low {X h g : Int} (hr : Rn 53 X h) (hg : Fl 53 g) (h1 : g < h) : g + h ≤ 2 * X := by
  have := hr.2 _ hg
  omega
theorem rounds_calc {g h g' L m a b e1 e2 P : Int} (c1 : 0 < h) (hP : 0 < P) (hL : 9007199254740992 * L.natAbs ≤ h.natAbs) (l1 : g + h ≤ 2 * (h + a)) (l2 : 2 * (h + b) ≤ h + g')
    (a2 : a - (L + -m) ≤ e1) (b3 : -(b - (L + m)) ≤ e2) (a4 : 14 * (h.natAbs : Int) ≤ 10 * (m * P - e1 * P)) (b4 : 14 * (h.natAbs : Int) ≤ 10 * (m * P - e2 * P)) :
    0 < h + L ∧ (g + h) * P < 2 * ((h + L) * P) - (h + L) ∧ 2 * ((h + L) * P) + (h + L) < (h + g') * P := by
  have hv : 0 < h + L := by omega
  have hh : ((h.natAbs : Nat) : Int) = h := by omega
  rw [hh] at a4 b4
  have w1 : (g + h) * P ≤ (2 * (h + L - m + e1)) * P := Int.mul_le_mul_of_nonneg_right (by omega) (Int.le_of_lt hP)
  have w2 : (2 * (h + L + m - e2)) * P ≤ (h + g') * P := Int.mul_le_mul_of_nonneg_right (by omega) (Int.le_of_lt hP)
  have hL2 : L.natAbs ≤ h.natAbs / 4 := by omega
  clear l1 l2 a2 b3 hL
  rw [Int.mul_assoc, show (h + L - m + e1) * P = (h + L) * P - m * P + e1 * P by rw [Int.add_mul, Int.sub_mul]] at w1
  rw [Int.mul_assoc, show (h + L + m - e2) * P = (h + L) * P + m * P - e2 * P by rw [Int.sub_mul, Int.add_mul]] at w2
  generalize m * P = M at *
  generalize e1 * P = E1 at *
  generalize e2 * P = E2 at *
  generalize (h + L) * P = HP at *
  generalize (g + h) * P = G at *
  generalize (h + g') * P = G' at *
  omega
theorem rounds_pos {hi lo k : Nat} (hA : AccP hi lo k) (hp : hi < 9223372036854775808) : 0 < ux hi + ux lo ∧ ((vs 4503599627370496 (hi - 1) : Int) + (vs 4503599627370496 hi : Int)) * ((2 ^ k : Nat) : Int) < 2 * ((ux hi + ux lo) * ((2 ^ k : Nat) : Int)) - (ux hi + ux lo) ∧ 2 * ((ux hi + ux lo) * ((2 ^ k : Nat) : Int)) + (ux hi + ux lo) < ((vs 4503599627370496 hi : Int) + (vs 4503599627370496 (hi + 1) : Int)) * ((2 ^ k : Nat) : Int) := by
  obtain ⟨k1, k2, sz, d, dn, up⟩ := hA
  have t1 : (-mgR k (ux hi)).natAbs ≤ (mgR k (ux hi)).natAbs := by rw [Int.natAbs_neg]; exact Nat.le_refl _
  have r1 := rv_rn (acc_bd rfl k1 k2 sz d t1).2.2.1
  have r2 := rv_rn (acc_bd rfl k1 k2 sz d (Nat.le_refl (mgR k (ux hi)).natAbs)).2.2.1
  rw [Int.sub_eq_add_neg] at dn
  rw [dn] at r1
  rw [up] at r2
  obtain ⟨e1, a1, a2, a3, a4, a5, a6, a7⟩ := acc_marg k1 k2 sz d (t := -mgR k (ux hi)) (.inr rfl)
  obtain ⟨e2, b1, b2, b3, b4, b5, b6, b7⟩ := acc_marg k1 k2 sz d (t := mgR k (ux hi)) (.inl rfl)
  have hl := dd_little d
  have hle := sz.least
  have hmo := sz.most
  rw [Nat.mod_eq_of_lt hp] at hle hmo
  have f1 : Fl 53 (ux (hi - 1)) := Fin64.fl ⟨by omega, by omega⟩
  have f2 : Fl 53 (ux (hi + 1)) := Fin64.fl ⟨by omega, by omega⟩
  rw [ux_pos (by omega)] at f1 f2
  have v1 : vs 4503599627370496 (hi - 1) < vs 4503599627370496 hi := vs_mono (by decide) (by omega)
  have v2 : vs 4503599627370496 hi < vs 4503599627370496 (hi + 1) := vs_mono (by decide) (by omega)
  have hu := ux_pos hp
  have l1 := rn_low r1 f1 (by rw [hu]; omega)
  have l2 := rn_high r2 f2 (by rw [hu]; omega)
  have hR : (0 : Int) < ((2 ^ k : Nat) : Int) := Int.ofNat_lt.2 (p2pos k)
  rw [← hu]
  exact rounds_calc (by rw [hu]; omega) hR hl l1 l2 a2 b3 a4 b4
theorem rnz_cell {H : Nat} {l : Int} {I s : Nat} {A : Int} (hH : 0 < H) (hI : s < I) (h1 : dv (hv H (s - 1) : Int) (l - 1) < A) (h2 : A < dv (hv H s : Int) (l - 1)) : RNz H l I A s := by
  have mono : ∀ {x y : Nat}, x ≤ y → dv (hv H x : Int) (l - 1) ≤ dv (hv H y : Int) (l - 1) := by
    intro x y hxy
    rcases Nat.lt_or_eq_of_le hxy with h | h
    · exact Int.le_of_lt ((dv_lt_iff _).2 (Int.ofNat_lt.2 (hv_mono hH h)))
    · rw [h]; exact Int.le_refl _
  refine ⟨by omega, fun z _ hz => ?_, fun z _ hz => ?_, fun z _ hz => ?_⟩
  · refine Nat.le_of_not_lt fun h => ?_
    have := mono (show z ≤ s - 1 by omega)
    omega
  · refine Nat.lt_of_not_le fun h => ?_
    have := mono h
    omega
  · exfalso
    rcases Nat.lt_or_ge z s with h | h
    · have := mono (show z ≤ s - 1 by omega)
      omega
    · have := mono h
      omega
theorem dv_natAbs (x e : Int) : dv (x.natAbs : Int) e = ((dv x e).natAbs : Int) := by
  unfold dv
  rw [Int.natAbs_mul, Int.natAbs_natCast, Int.natCast_mul]
theorem dv_neg_iff (x e : Int) : dv x e < 0 ↔ x < 0 := by
  have := dv_lt_iff (x := x) (y := 0) e
  rw [dv_zero] at this
  exact this
theorem hv_two {s : Nat} : (hv 4503599627370496 s : Int) = (vs 4503599627370496 s : Int) + (vs 4503599627370496 (s + 1) : Int) := by
  rw [vs_next (by decide) s]
  unfold hv
  omega
theorem rounds_all {hi lo k : Nat} (hA : AccP hi lo k) {x e t : Int} (he : -4194304 ≤ e) (ht : t.natAbs ≤ (ux hi + ux lo).natAbs) (hx : dv x e = dv (2 * ((ux hi + ux lo) * ((2 ^ k : Nat) : Int)) + t) (-1075 - (k : Int))) :
    rnp (-1074) 52 1024 9223372036854775808 9218868437227405312 x e = hi := by
  have k2 := hA.k2
  obtain ⟨V, hV⟩ : ∃ V, V = ux hi + ux lo := ⟨_, rfl⟩
  obtain ⟨P, hPd⟩ : ∃ P : Int, P = ((2 ^ k : Nat) : Int) := ⟨_, rfl⟩
  have hP : 0 < P := by rw [hPd]; exact Int.ofNat_lt.2 (p2pos k)
  have key : (V < 0 ↔ 9223372036854775808 ≤ hi) ∧ V ≠ 0 ∧ ((vs 4503599627370496 (hi % 9223372036854775808 - 1) : Int) + (vs 4503599627370496 (hi % 9223372036854775808) : Int)) * P < 2 * ((V.natAbs : Int) * P) - (V.natAbs : Int) ∧ 2 * ((V.natAbs : Int) * P) + (V.natAbs : Int) < ((vs 4503599627370496 (hi % 9223372036854775808) : Int) + (vs 4503599627370496 (hi % 9223372036854775808 + 1) : Int)) * P := by
    by_cases hp : hi < 9223372036854775808
    · obtain ⟨r1, r2, r3⟩ := rounds_pos hA hp
      rw [← hV] at r1 r2 r3
      rw [← hPd] at r2 r3
      rw [Nat.mod_eq_of_lt hp, show ((V.natAbs : Nat) : Int) = V by omega]
      exact ⟨⟨fun h => by omega, fun h => by omega⟩, by omega, r2, r3⟩
    · have hF := hA.flip
      have hlt := hA.sz.fin.lt
      obtain ⟨f1, f2, f3⟩ := flip_ux hlt
      obtain ⟨g1, _, _⟩ := flip_ux hA.dd.lo.lt
      have hp2 : flipS hi = hi % 9223372036854775808 := by unfold flipS; rw [if_pos (by omega)]; omega
      obtain ⟨r1, r2, r3⟩ := rounds_pos hF (by rw [hp2]; omega)
      rw [f1, g1, show -ux hi + -ux lo = -V by rw [hV]; omega] at r1 r2 r3
      rw [hp2, ← hPd] at r2 r3
      rw [show ((V.natAbs : Nat) : Int) = -V by omega]
      exact ⟨⟨fun _ => by omega, fun _ => by omega⟩, by omega, r2, r3⟩
  rw [← hV] at hx ht
  rw [← hPd] at hx
  clear hV
  obtain ⟨c1, c0, c2, c3⟩ := key
  obtain ⟨Y, hY⟩ : ∃ Y, Y = 2 * (V * P) + t := ⟨_, rfl⟩
  rw [← hY] at hx
  have hVP : V.natAbs ≤ (V * P).natAbs := by
    rw [Int.natAbs_mul]
    exact Nat.le_mul_of_pos_right _ (by omega)
  have hVPa : (((V * P).natAbs : Nat) : Int) = (V.natAbs : Int) * P := by
    rw [Int.natAbs_mul, Int.natCast_mul]
    congr 1
    omega
  have hsg : V * P < 0 ↔ V < 0 := by
    constructor
    · intro h
      refine Int.lt_of_not_ge fun h1 => ?_
      have := Int.mul_nonneg h1 (Int.le_of_lt hP)
      omega
    · intro h; exact Int.mul_neg_of_neg_of_pos h hP
  rw [← hVPa] at c2 c3
  have y1 : Y < 0 ↔ V < 0 := by rw [hY]; omega
  have y2 : (vs 4503599627370496 (hi % 9223372036854775808 - 1) + vs 4503599627370496 (hi % 9223372036854775808) : Int) * P < (Y.natAbs : Int) := by omega
  have y3 : (Y.natAbs : Int) < (vs 4503599627370496 (hi % 9223372036854775808) + vs 4503599627370496 (hi % 9223372036854775808 + 1) : Int) * P := by omega
  have hle := hA.sz.least
  have hmo := hA.sz.most
  have hlt := hA.sz.fin.lt
  obtain ⟨Z, _, h2, h3, _⟩ := rnp_is jn_64 x e he
  have ha : dv ((x.natAbs : Nat) : Int) e = dv ((Y.natAbs : Nat) : Int) (-1075 - (k : Int)) := by rw [dv_natAbs, hx, ← dv_natAbs]
  rw [ha] at h2
  have hend : ∀ z : Int, dv z (-1074 - 1) = dv (z * P) (-1075 - (k : Int)) := by
    intro z
    rw [hPd, ← dv_up (e := -1075 - (k : Int)) k (by omega)]
    congr 1
    omega
  have hZ : Z = hi % 9223372036854775808 := by
    refine h2.uniq (rnz_cell (by decide) (by omega) ?_ ?_)
    · rw [hend, hv_two, show hi % 9223372036854775808 - 1 + 1 = hi % 9223372036854775808 by omega]
      exact (dv_lt_iff _).2 y2
    · rw [hend, hv_two]
      exact (dv_lt_iff _).2 y3
  have hxs : x < 0 ↔ 9223372036854775808 ≤ hi := by
    rw [← dv_neg_iff x e, hx, dv_neg_iff, y1, c1]
  rw [h3, hZ]
  by_cases h : 9223372036854775808 ≤ hi
  · rw [if_pos (hxs.2 h)]; omega
  · rw [if_neg fun k => h (hxs.1 k)]; omega
end Go.Proofs.YthfjjadgejmnfaaDoor
namespace Go.Proofs.YthfjjadgejmnfaaDoor
open Go.RowKit Go.Shelf
set_option maxRecDepth 20000
set_option maxHeartbeats 0
theorem dscale_v {p : Option Addr} {m c : Nat} {w : World} {z e N : Int} {s : Bool} (h : DN w s p m c e z) (hN : z ≠ 0 → -1048576 ≤ e + N ∧ e + N ≤ 1048576) :
    Calls Tryd.prog 13 #[DV s p m c e, .int .i64 N] w fun en w' => ∃ s1 p1 m1 zo eo, en = .returned (.tuple #[DV s1 p1 m1 m1 eo, .int .i64 0]) ∧ DO w.heap.size w' s1 p1 m1 eo zo ∧ ((z = 0 ∧ zo = 0 ∧ eo = 0) ∨ (z ≠ 0 ∧ zo = z ∧ eo = e + N)) ∧ Below w.heap.size w w' := by
  by_cases hz : z = 0
  · refine (dscale_z h hz).mono ?_
    rintro en w' ⟨rfl, hb⟩
    exact ⟨_, _, _, 0, 0, rfl, DO.zero _ _, .inl ⟨hz, rfl, rfl⟩, hb⟩
  · refine (dscale h hz (hN hz)).mono ?_
    rintro en w' ⟨v, rfl, hv, hb⟩
    have hf : DFm z (e + N) := by
      rcases h.fm with ⟨h1, _⟩ | ⟨h1, _⟩
      · exact absurd h1 hz
      · exact .inr ⟨h1, hN hz⟩
    obtain ⟨s1, p1, m1, rfl, hd⟩ := DO.of hv hf
    exact ⟨s1, p1, m1, z, e + N, rfl, hd, .inr ⟨hz, rfl, rfl⟩, hb⟩
theorem vf_dd {b : Nat} (hb : Fin64 b) : ∃ zo eo, VF 9223372036854775808 4503599627370496 (-1074) b zo eo ∧ DB zo eo 128 1430 := by
  have hr := hb.fin
  obtain ⟨z1, e1, v1, v2⟩ := vf_ex jm_64.pm (b := b) hr
  refine ⟨z1, e1, v1, ?_⟩
  obtain ⟨q, hq⟩ : ∃ q, q = b % 9223372036854775808 / 4503599627370496 - 1 := ⟨_, rfl⟩
  have hmn : b % 9223372036854775808 - q * 4503599627370496 < 9007199254740992 := by omega
  have hq2 : q ≤ 2045 := by omega
  rw [← hq] at v2
  obtain ⟨y, hy⟩ : ∃ y : Int, y = (if 9223372036854775808 ≤ b then -((b % 9223372036854775808 - q * 4503599627370496 : Nat) : Int) else ((b % 9223372036854775808 - q * 4503599627370496 : Nat) : Int)) := ⟨_, rfl⟩
  rw [← hy] at v2
  have hya : y.natAbs ≤ 2 ^ 53 := by
    have : (2 : Nat) ^ 53 = 9007199254740992 := by decide
    rw [hy, this]; split <;> omega
  by_cases h0 : y = 0
  · rw [h0, dv_zero] at v2
    have := dv_eq_zero v2
    rcases v1.fm with ⟨h1, h2⟩ | ⟨h1, _⟩
    · rw [h1, h2]; exact ⟨.inl ⟨rfl, rfl⟩, by decide, by decide, by decide⟩
    · omega
  · obtain ⟨za, ea, g1, g2, _, g4, g5, g6⟩ := form_ex (z := y) (e := -1074 + (q : Int)) (L := 53) h0 (by omega) hya (by omega)
    obtain ⟨rfl, rfl⟩ := dv_inj v1.fm g1 (v2.trans g2.symm)
    have h128 : (2 : Nat) ^ 53 < 2 ^ 128 := by decide
    exact ⟨g1, by omega, by omega, by omega⟩
theorem ddnumber {b : Nat} {zo eo : Int} (hb : Fin64 b) (hv : VF 9223372036854775808 4503599627370496 (-1074) b zo eo) (w : World) (hT : Tab w) :
    Calls Tryd.prog 26 #[Fv b] w fun en w' => ∃ s p m, en = .returned (DV s p m m eo) ∧ DO w.heap.size w' s p m eo zo ∧ Below w.heap.size w w' := by
  have TB : Hid (Tab w) := hT
  have HF : Hid (Fin64 b) := hb
  have VA : Hid (VF 9223372036854775808 4503599627370496 (-1074) b zo eo) := hv
  have bo : ∀ w, (callFunc 53 #[Fv b]).run Tryd.prog w = .ok (.value (.int .u64 (b : Int))) w := fun w => bitsOf b w
  clear hT hb hv
  go_enter Tryd.func26, Tryd.ntmps26
  go_wp2_with fail
  obtain ⟨W0, hW0⟩ : ∃ W0, W0 = (w.alloc (.cells #[.bool false, .slice none 0 0, .int .i64 0] 28)) := ⟨_, rfl⟩
  have Xr : Hid (B3q W0 (w.heap.size) (.bool false) (.slice none 0 0) (.int .i64 0)) := by rw [hW0]; exact ⟨by go_simp, by go_simp, by go_simp, by go_simp, by go_simp, by go_simp⟩
  have hb0 : Below w.heap.size w W0 := by rw [hW0]; exact below1 w _
  rw [← hW0]
  clear hW0
  have hbw : Below w.heap.size w w := Below.refl _ _
  obtain ⟨gr, hgr⟩ : ∃ g, g = w.heap.size := ⟨_, rfl⟩
  have HGr : Hid (w.heap.size ≤ gr) := by rw [hgr]; show _ ≤ _; omega
  rw [← hgr] at Xr
  try rw [← hgr]
  clear hgr
  replace hbw := Below.on hbw hb0
  clear hb0
  have HR : Hid (gr < W0.heap.size) := Xr.out.lt
  refine (value_v jm_64.pm (by have := HF.out.lt; omega) HF.out.fin VA.out _ (TB.out.below hbw)).mono ?_
  rintro en v1 ⟨v, rfl, hv, hb1⟩
  obtain ⟨s1, p1, m1, rfl, hd1⟩ := DO.of hv VA.out.fm
  clear hv
  have HN1 : Hid (W0.heap.size ≤ v1.heap.size) := hb1.size
  replace Xr : Hid _ := Xr.out.below hb1
  replace hbw := Below.on hbw hb1
  clear hb1
  have D1 : Hid (DO W0.heap.size v1 s1 p1 m1 (eo) (zo)) := hd1
  clear hd1
  obtain ⟨cr0, cr1, cr2, fr0, fr1, fr2⟩ := Xr.out
  have hner : gr < v1.heap.size := World.block_lt_of_cell? v1 _ cr0
  go_wp2_with fail
  refine bodyPost_ret (v := DV s1 p1 m1 m1 eo) (by rw [results_cell1 rfl]; go_simp) rfl ⟨s1, p1, m1, rfl, ?_, ?_⟩
  · obtain ⟨zs, h1, h2, h3⟩ := D1.out.own
    exact ⟨⟨zs, (own_set3 h1 HR.out (show w.heap.size ≤ W0.heap.size from Nat.le_trans HGr.out (Nat.le_of_lt HR.out)) _ _ _).below (below1 _ _), h2, h3⟩, D1.out.sg, D1.out.fm⟩
  · exact Below.on (bSet (bSet (bSet hbw _ _ _ HGr.out) _ _ _ HGr.out) _ _ _ HGr.out) (below1 _ _)
theorem ddvalue (h l : Nat) (hf : DdF h l) (w : World) (hT : Tab w) :
    Calls Tryd.prog 11 #[.agg #[Fv h, Fv l]] w fun en w' => ∃ s p m zo eo, en = .returned (.tuple #[DV s p m m eo, .int .i64 0]) ∧ DO w.heap.size w' s p m eo zo ∧ dv zo eo = dv (ux h + ux l) (-1074) ∧ DB zo eo 2989 4419 ∧ Below w.heap.size w w' := by
  have hSF : ∀ (w : World) (a : Addr) (b : Nat), (store a (Fv b)).run Tryd.prog w = stored Tryd.prog w a (Fv b) .plain := fun w a b => run_store _ w a (Fv b) _ rfl
  have H1 := ddform h l hf.hi.lt hf.lo.lt
  rw [ddB_iff.2 hf] at H1
  have TB : Hid (Tab w) := hT
  have HF : Hid (DdF h l) := hf
  obtain ⟨z1, e1, k1, b1⟩ := vf_dd hf.hi
  obtain ⟨z2, e2, k2, b2⟩ := vf_dd hf.lo
  have VA : Hid (VF 9223372036854775808 4503599627370496 (-1074) h z1 e1 ∧ DB z1 e1 128 1430) := ⟨k1, b1⟩
  have VB : Hid (VF 9223372036854775808 4503599627370496 (-1074) l z2 e2 ∧ DB z2 e2 128 1430) := ⟨k2, b2⟩
  clear hT hf k1 b1 k2 b2
  go_enter Tryd.func11, Tryd.ntmps11
  go_wp2_with fail
  obtain ⟨W0, hW0⟩ : ∃ W0, W0 = ((w.alloc (.cells #[Fv h, Fv l] 43)).alloc (.cells #[.bool false, .slice none 0 0, .int .i64 0] 28)) := ⟨_, rfl⟩
  have Xa : Hid (Box W0 (w.heap.size) (Fv h) (Fv l)) := by rw [hW0]; exact ⟨by go_simp, by go_simp, by go_simp, by go_simp⟩
  have Xr : Hid (B3q W0 (w.heap.size + 1) (.bool false) (.slice none 0 0) (.int .i64 0)) := by rw [hW0]; exact ⟨by go_simp, by go_simp, by go_simp, by go_simp, by go_simp, by go_simp⟩
  have hb0 : Below w.heap.size w W0 := by rw [hW0]; exact below2 w _ _
  rw [← hW0]
  clear hW0
  have hbw : Below w.heap.size w w := Below.refl _ _
  obtain ⟨gr, hgr⟩ : ∃ g, g = w.heap.size + 1 := ⟨_, rfl⟩
  have HGr : Hid (w.heap.size ≤ gr) := by rw [hgr]; show _ ≤ _; omega
  rw [← hgr] at Xr
  try rw [← hgr]
  obtain ⟨ga, hga⟩ : ∃ g, g = w.heap.size := ⟨_, rfl⟩
  have HGa : Hid (w.heap.size ≤ ga) := by rw [hga]; show _ ≤ _; omega
  rw [← hga] at Xa
  try rw [← hga]
  have HGD : Hid (ga ≠ gr ∧ gr ≠ ga) := by rw [hga, hgr]; exact ⟨by omega, by omega⟩
  clear hga hgr
  replace hbw := Below.on hbw hb0
  clear hb0
  obtain ⟨hgd0, hgd1⟩ := HGD.out
  have HR : Hid (gr < W0.heap.size) := Xr.out.lt
  refine (H1 _).mono ?_
  rintro e v1 ⟨rfl, hb1⟩
  replace Xa : Hid _ := Xa.out.below hb1
  replace Xr : Hid _ := Xr.out.below hb1
  replace hbw := Below.on hbw hb1
  clear hb1
  obtain ⟨ca0, ca1, fa0, fa1⟩ := Xa.out
  have hnea := Xa.out.lt
  obtain ⟨cr0, cr1, cr2, fr0, fr1, fr2⟩ := Xr.out
  have hner : gr < v1.heap.size := World.block_lt_of_cell? v1 _ cr0
  go_wp2_with fail
  clear ca0 ca1 fa0 fa1 hnea
  clear cr0 cr1 cr2 fr0 fr1 fr2 hner
  obtain ⟨V1, hV1⟩ : ∃ W1, W1 = v1.drew := ⟨_, rfl⟩
  have hbd : Below v1.heap.size v1 V1 := by rw [hV1]; exact bDrew1 (Below.refl _ _)
  replace Xa : Hid _ := Xa.out.below hbd
  replace Xr : Hid _ := Xr.out.below hbd
  replace hbw := Below.on hbw hbd
  clear hbd
  have HJ : Hid ((fun W' : World => W'.cell? ⟨ga, 0, none⟩ = some (Fv h) ∧ W'.cell? ⟨ga, 1, none⟩ = some (Fv l)) V1) := ⟨Xa.out.c0, Xa.out.c1⟩
  refine wp_region_J (fun W' => W'.cell? ⟨ga, 0, none⟩ = some (Fv h) ∧ W'.cell? ⟨ga, 1, none⟩ = some (Fv l)) (by kernel_rfl) ?_
  rw [← hV1]
  clear hV1
  refine wpJ_tq 0 rfl HJ.out ?_
  refine wpJ_tq 1 rfl HJ.out ?_
  refine wpJ_tq 3 rfl HJ.out ?_
  refine wpJ_tq 4 rfl HJ.out ?_
  refine wpJ_on 2 rfl fun KJ hK => ?_
  go_simp
  refine (ddnumber HF.out.hi VA.out.1 _ (TB.out.below hbw)).mono ?_
  rintro en v2 ⟨s2, p2, m2, rfl, hd2, hb2⟩
  replace Xa : Hid _ := Xa.out.below hb2
  replace Xr : Hid _ := Xr.out.below hb2
  replace hbw := Below.on hbw hb2
  clear hb2
  have D2 : Hid (DO V1.heap.size v2 s2 p2 m2 (e1) (z1)) := hd2
  clear hd2
  refine hK _ _ ⟨Xa.out.c0, Xa.out.c1⟩ ?_
  clear hK
  refine wpJ_on 5 rfl fun KJ hK => ?_
  go_simp
  refine (ddnumber HF.out.lo VB.out.1 _ (TB.out.below hbw)).mono ?_
  rintro en v3 ⟨s3, p3, m3, rfl, hd3, hb3⟩
  replace Xa : Hid _ := Xa.out.below hb3
  replace Xr : Hid _ := Xr.out.below hb3
  replace D2 : Hid (DO V1.heap.size v3 s2 p2 m2 (e1) (z1)) := D2.out.below hb3
  replace hbw := Below.on hbw hb3
  clear hb3
  have D3 : Hid (DO v2.heap.size v3 s3 p3 m3 (e2) (z2)) := hd3
  clear hd3
  refine hK _ _ ⟨Xa.out.c0, Xa.out.c1⟩ ?_
  clear hK
  refine wpJ_on 6 rfl fun KJ hK => ?_
  go_simp
  have HRL : Hid (gr < v3.heap.size ∧ w.heap.size ≤ v3.heap.size) := ⟨Xr.out.lt, hbw.size⟩
  refine (dadd_b D2.out.dn D3.out.dn VA.out.2 VB.out.2 (by decide) (TB.out.below hbw)).mono ?_
  rintro en v4 ⟨v, zo, eo, rfl, hv, hB, hV, hb4⟩
  obtain ⟨s4, p4, m4, rfl, hd4⟩ := DO.of hv hB.fm
  have HV : Hid (dv zo eo = dv (ux h + ux l) (-1074)) := by rw [hV, dv_add, VA.out.1.v, VB.out.1.v]; rfl
  have HDB : Hid (DB zo eo 2989 4419) := hB
  clear hv hB hV
  replace Xa : Hid _ := Xa.out.below hb4
  replace Xr : Hid _ := Xr.out.below hb4
  replace D2 : Hid (DO V1.heap.size v4 s2 p2 m2 (e1) (z1)) := D2.out.below hb4
  replace D3 : Hid (DO v2.heap.size v4 s3 p3 m3 (e2) (z2)) := D3.out.below hb4
  replace hbw := Below.on hbw hb4
  clear hb4
  have D4 : Hid (DO v3.heap.size v4 s4 p4 m4 (eo) (zo)) := hd4
  clear hd4
  clear HJ
  have HJ : Hid ((fun W' : World => W'.cell? ⟨ga, 0, none⟩ = some (Fv h) ∧ W'.cell? ⟨ga, 1, none⟩ = some (Fv l)) v4) := ⟨Xa.out.c0, Xa.out.c1⟩
  refine hK _ _ HJ.out ?_
  clear hK
  refine wpJ_tq 7 rfl HJ.out ?_
  refine wpJ_tq 8 rfl HJ.out ?_
  obtain ⟨cr0, cr1, cr2, fr0, fr1, fr2⟩ := Xr.out
  have hner : gr < v4.heap.size := World.block_lt_of_cell? v4 _ cr0
  obtain ⟨ca0, ca1, fa0, fa1⟩ := Xa.out
  have hnea := Xa.out.lt
  obtain ⟨hgd0, hgd1⟩ := HGD.out
  refine wpJ_on 9 rfl fun KJ hK => ?_
  go_simp
  have HJ2 : Hid ((fun W' : World => W'.cell? ⟨ga, 0, none⟩ = some (Fv h) ∧ W'.cell? ⟨ga, 1, none⟩ = some (Fv l)) (((v4.setCell ⟨gr, 0, none⟩ (.bool s4)).setCell ⟨gr, 1, none⟩ (.slice p4 m4 m4)).setCell ⟨gr, 2, none⟩ (.int .i64 eo))) := ⟨by go_simp, by go_simp⟩
  refine hK _ _ HJ2.out ?_
  clear hK HJ
  have HJ := HJ2
  clear HJ2
  refine wpJ_tq 10 rfl HJ.out ?_
  refine wpJ_done (by kernel_rfl) ?_ _
  clear HJ
  go_wp2_with fail
  refine bodyPost_ret (v := .tuple #[DV s4 p4 m4 m4 eo, .int .i64 0]) (by rw [results_cell_tmp rfl]; go_simp) rfl ⟨s4, p4, m4, zo, eo, rfl, ?_, HV.out, HDB.out, ?_⟩
  · obtain ⟨zs, h1, h2, h3⟩ := D4.out.own
    exact ⟨⟨zs, own_set3 h1 HRL.out.1 HRL.out.2 _ _ _, h2, h3⟩, D4.out.sg, D4.out.fm⟩
  · exact bSet (bSet (bSet hbw _ _ _ HGr.out) _ _ _ HGr.out) _ _ _ HGr.out
theorem DN.abs {w : World} {s : Bool} {p : Option Addr} {m c : Nat} {e z : Int} (h : DN w s p m c e z) : DN w false p m c e (z.natAbs : Int) := by
  obtain ⟨xs, hx⟩ := h.zn.ex
  refine ⟨⟨⟨xs, by rw [Int.natAbs_natCast]; exact hx⟩, (decide_eq_false (by omega)).symm⟩, ?_⟩
  rcases h.fm with ⟨h1, h2⟩ | ⟨h1, h2⟩
  · exact .inl ⟨by omega, h2⟩
  · exact .inr ⟨by omega, h2⟩
theorem acc_ne {hi lo k : Nat} (hA : AccP hi lo k) : ux hi + ux lo ≠ 0 := by
  have h1 := dd_little hA.dd
  have h2 := hA.sz.ne
  omega
theorem dv_nn (z e : Int) : 0 ≤ dv ((z.natAbs : Nat) : Int) e := by
  rw [dv_natAbs]
  exact Int.natCast_nonneg _
theorem rounds_v {V : Int} (k : Nat) (hk : k ≤ 100) : dv V (-1074) = dv (2 * (V * ((2 ^ k : Nat) : Int))) (-1075 - (k : Int)) := by
  rw [show (-1074 : Int) = -1075 - (k : Int) + ((k + 1 : Nat) : Int) by omega, dv_up (e := -1075 - (k : Int)) (k + 1) (by omega)]
  congr 1
  rw [p2succ, Int.natCast_mul, ← Int.mul_assoc, Int.mul_comm V, Int.mul_assoc]
  rfl
theorem rounds_d {V zo eo : Int} (k : Nat) (hk : k ≤ 100) (hV : dv zo eo = dv V (-1074)) (h1 : -5000 ≤ eo) (h2 : eo ≤ 5000) : dv ((zo.natAbs : Nat) : Int) (eo + (-(k : Int) - 1)) = dv ((V.natAbs : Nat) : Int) (-1075 - (k : Int)) := by
  have e1 : dv ((zo.natAbs : Nat) : Int) eo = dv ((V.natAbs : Nat) : Int) (-1074) := by rw [dv_natAbs, hV, ← dv_natAbs]
  have a1 := dv_up (x := ((zo.natAbs : Nat) : Int)) (e := eo + (-(k : Int) - 1)) (k + 1) (by omega)
  have a2 := dv_up (x := ((V.natAbs : Nat) : Int)) (e := -1075 - (k : Int)) (k + 1) (by omega)
  rw [show eo + (-(k : Int) - 1) + ((k + 1 : Nat) : Int) = eo by omega] at a1
  rw [show -1075 - (k : Int) + ((k + 1 : Nat) : Int) = -1074 by omega] at a2
  rw [a1, a2] at e1
  unfold dv at e1 ⊢
  have hp : (0 : Int) < ((2 ^ (k + 1) : Nat) : Int) := Int.ofNat_lt.2 (p2pos (k + 1))
  refine Int.eq_of_mul_eq_mul_right (a := ((2 ^ (k + 1) : Nat) : Int)) (by omega) ?_
  rw [Int.mul_right_comm, e1, Int.mul_right_comm]
theorem acceptRounds_n (hi lo : Nat) (hh : hi < 18446744073709551616) (hl : lo < 18446744073709551616) (e : Int) (hA : accB hi lo e = false) (w : World) :
    Calls Tryd.prog 4 #[U hi, U lo, .int .i64 e] w fun en w' => en = .returned (.bool true) ∧ Below w.heap.size w w' := by
  have hbw : Below w.heap.size w w := Below.refl _ _
  have H1 := ask_ok hi lo hh hl e
  have hR : accN hi lo e = 0 := by unfold accN; rw [hA]; rfl
  rw [hA, hR] at H1
  clear hA hh hl hR
  go_enter Tryd.func4, Tryd.ntmps4
  go_wp2_with fail
  refine (awake25 _).mono ?_
  rintro e v1 ⟨rfl, hb1⟩
  replace hbw := Below.on hbw hb1
  clear hb1
  go_wp2_with fail
  refine (H1 _).mono ?_
  rintro e v2 ⟨rfl, hb2⟩
  replace hbw := Below.on hbw hb2
  clear hb2
  go_wp2_with fail
  go_ret
  exact ⟨rfl, hbw⟩
theorem acceptRounds_y (hi lo : Nat) (hh : hi < 18446744073709551616) (hl : lo < 18446744073709551616) (e : Int) (k : Nat) (he : e = -(k : Int)) (hP : AccP hi lo k) (w : World) (hT : Tab w) :
    Calls Tryd.prog 4 #[U hi, U lo, .int .i64 e] w fun en w' => en = .returned (.bool true) ∧ Below w.heap.size w w' := by
  have hbw : Below w.heap.size w w := Below.refl _ _
  have TB : Hid (Tab w) := hT
  have H1 := ask_ok hi lo hh hl e
  have h1 := fun w => frombits hi w
  have h2 := fun w => frombits lo w
  have hA : accB hi lo e = true := accB_iff.2 ⟨k, he, hP⟩
  have hR : accN hi lo e = hi := by unfold accN; rw [hA, if_pos rfl]
  rw [hA, hR] at H1
  have HA : Hid (AccP hi lo k ∧ e = -(k : Int)) := ⟨hP, he⟩
  have c3 : ¬ e < -100 := by have := hP.k2; omega
  have c4 : ¬ -56 < e := by have := hP.k1; omega
  obtain ⟨N, hN⟩ : ∃ N, N = e - 1 := ⟨_, rfl⟩
  have HN : Hid (N = e - 1) := hN
  have w1 : wrap64 (e - 1) = N := by simp only [wrap64]; omega
  have w2 : IntKind.i64.wrap (e - 1) = N := by simp [IntKind.wrap, IntKind.signed, IntKind.bits]; omega
  clear hA hh hl hR hT he hP hN
  go_enter Tryd.func4, Tryd.ntmps4
  go_wp2_with fail
  refine (awake25 _).mono ?_
  rintro e v1 ⟨rfl, hb1⟩
  replace hbw := Below.on hbw hb1
  clear hb1
  go_wp2_with fail
  refine (H1 _).mono ?_
  rintro e v2 ⟨rfl, hb2⟩
  replace hbw := Below.on hbw hb2
  clear hb2
  go_wp2_with fail
  refine (ddvalue hi lo HA.out.1.dd _ (TB.out.below hbw)).mono ?_
  rintro e9 v3 ⟨s3, p3, m3, zo, eo, rfl, hd3, hV, hDB, hb3⟩
  have HV : Hid (dv zo eo = dv (ux hi + ux lo) (-1074) ∧ DB zo eo 2989 4419) := ⟨hV, hDB⟩
  have hd3' := hd3.dn
  replace hbw := Below.on hbw hb3
  clear hb3
  have D3 : Hid (DN v3 s3 p3 m3 m3 (eo) (zo)) := hd3'
  clear hd3 hV hDB hd3'
  go_wp2_with fail
  have Xv0 : Hid (B3q (v3.alloc (.cells #[.bool s3, .slice p3 m3 m3, .int .i64 (eo)] 28)) v3.heap.size (.bool s3) (.slice p3 m3 m3) (.int .i64 (eo))) := B3q.new v3 _ _ _ _
  have hbn : Below v3.heap.size v3 (v3.alloc (.cells #[.bool s3, .slice p3 m3 m3, .int .i64 (eo)] 28)) := below1 v3 _
  generalize v3.alloc (.cells #[.bool s3, .slice p3 m3 m3, .int .i64 (eo)] 28) = Wv at *
  have HGv : Hid (w.heap.size ≤ v3.heap.size) := hbw.size
  replace D3 : Hid _ := D3.out.below hbn
  replace hbw := Below.on hbw hbn
  clear hbn
  generalize v3.heap.size = gv at *
  have Xv := Xv0
  clear Xv0
  obtain ⟨cv0, cv1, cv2, fv0, fv1, fv2⟩ := Xv.out
  have hnev : gv < Wv.heap.size := World.block_lt_of_cell? Wv _ cv0
  go_wp2_with fail
  clear cv0 cv1 cv2 fv0 fv1 fv2 hnev
  have HR3 : Hid (rnp (-1074) 52 1024 9223372036854775808 9218868437227405312 zo eo = hi) := rounds_all HA.out.1 (t := 0) (by have := HV.out.2.lo; omega) (Nat.zero_le _) (by rw [HV.out.1, Int.add_zero]; exact rounds_v k HA.out.1.k2)
  refine (rnearest jn_64 D3.out (TB.out.below hbw)).mono ?_
  rintro e v4 ⟨rfl, hb4⟩
  rw [HR3.out]
  replace Xv : Hid _ := Xv.out.below hb4
  replace D3 : Hid _ := D3.out.below hb4
  replace hbw := Below.on hbw hb4
  clear hb4
  obtain ⟨cv0, cv1, cv2, fv0, fv1, fv2⟩ := Xv.out
  have hnev : gv < v4.heap.size := World.block_lt_of_cell? v4 _ cv0
  go_wp2_with fail
  clear cv0 cv1 cv2 fv0 fv1 fv2 hnev
  have hz0 : zo ≠ 0 := by
    intro h0
    have h1 := HV.out.1
    rw [h0, dv_zero, ← dv_zero (-1074)] at h1
    exact acc_ne HA.out.1 (dv_same h1).symm
  refine (dscale_v D3.out (N := N) (fun _ => by have h1 := HV.out.2.lo; have h2 := HV.out.2.hi; have h3 := HN.out; have h4 := HA.out.2; have h5 := HA.out.1.k2; omega)).mono ?_
  rintro e9 v5 ⟨s5, p5, m5, z5, e5, rfl, hd5, hc5, hb5⟩
  have he5 : z5 = zo ∧ e5 = eo + N := by rcases hc5 with ⟨h1, _⟩ | ⟨_, h2, h3⟩; (exact absurd h1 hz0); exact ⟨h2, h3⟩
  obtain ⟨rfl, he5⟩ := he5
  have hd5' := hd5.dn
  replace Xv : Hid _ := Xv.out.below hb5
  replace D3 : Hid _ := D3.out.below hb5
  replace hbw := Below.on hbw hb5
  clear hb5
  have D5 : Hid (DN v5 s5 p5 m5 m5 (e5) (z5)) := hd5'
  have HE5 : Hid (e5 = eo + N) := he5
  clear hd5 hd5' hc5 he5 hz0
  obtain ⟨cv0, cv1, cv2, fv0, fv1, fv2⟩ := Xv.out
  have hnev : gv < v5.heap.size := World.block_lt_of_cell? v5 _ cv0
  go_wp2_with fail
  clear cv0 cv1 cv2 fv0 fv1 fv2 hnev
  have HDvd : Hid (gv ≠ v5.heap.size) := Nat.ne_of_lt Xv.out.lt
  have Xd0 : Hid (B3q (v5.alloc (.cells #[.bool false, .slice p5 m5 m5, .int .i64 e5] 28)) v5.heap.size (.bool false) (.slice p5 m5 m5) (.int .i64 e5)) := B3q.new v5 _ _ _ _
  have hbn : Below v5.heap.size v5 (v5.alloc (.cells #[.bool false, .slice p5 m5 m5, .int .i64 e5] 28)) := below1 v5 _
  generalize v5.alloc (.cells #[.bool false, .slice p5 m5 m5, .int .i64 e5] 28) = Wd at *
  have HGd : Hid (w.heap.size ≤ v5.heap.size) := hbw.size
  replace Xv : Hid _ := Xv.out.below hbn
  replace D3 : Hid _ := D3.out.below hbn
  replace D5 : Hid _ := D5.out.below hbn
  replace hbw := Below.on hbw hbn
  clear hbn
  generalize v5.heap.size = gd at *
  have Xd := Xd0
  clear Xd0
  have Dd' := D5.out.abs
  have DA : Hid (DN Wd false p5 m5 m5 (e5) ((z5.natAbs : Nat) : Int)) := Dd'
  clear Dd'
  clear D5
  have HBB : Hid (DB z5 eo 2989 4520 ∧ DB ((z5.natAbs : Nat) : Int) e5 2989 4520) := by
    have h := HV.out.2; have h3 := HN.out; have h4 := HA.out.2; have h5 := HA.out.1.k2; have h6 := HE5.out; have h7 := HA.out.1.k1
    exact ⟨h.mono (by omega) (by omega), ⟨DA.out.fm, by rw [Int.natAbs_natCast]; exact h.sz, by have := h.lo; omega, by have := h.hi; omega⟩⟩
  refine (dsub_b D3.out DA.out HBB.out.1 HBB.out.2 (by omega) (TB.out.below hbw)).mono ?_
  rintro e9 v6 ⟨v, z6, e6, rfl, hv, hB, hV6, hb6⟩
  obtain ⟨s6, p6, m6, rfl, hd6⟩ := hv.dn hB.fm
  have HV6 : Hid (dv z6 e6 = dv z5 eo - dv ((z5.natAbs : Nat) : Int) e5 ∧ -4194304 ≤ e6) := ⟨hV6, by have := hB.lo; omega⟩
  clear hv hB
  replace Xv : Hid _ := Xv.out.below hb6
  replace Xd : Hid _ := Xd.out.below hb6
  replace D3 : Hid _ := D3.out.below hb6
  replace DA : Hid _ := DA.out.below hb6
  replace hbw := Below.on hbw hb6
  clear hb6
  have D6 : Hid (DN v6 s6 p6 m6 m6 (e6) (z6)) := hd6
  clear hd6 hV6
  obtain ⟨cv0, cv1, cv2, fv0, fv1, fv2⟩ := Xv.out
  have hnev : gv < v6.heap.size := World.block_lt_of_cell? v6 _ cv0
  obtain ⟨cd0, cd1, cd2, fd0, fd1, fd2⟩ := Xd.out
  have hned : gd < v6.heap.size := World.block_lt_of_cell? v6 _ cd0
  go_wp2_with fail
  clear cv0 cv1 cv2 fv0 fv1 fv2 hnev
  clear cd0 cd1 cd2 fd0 fd1 fd2 hned
  have HDva : Hid (gv ≠ v6.heap.size) := Nat.ne_of_lt Xv.out.lt
  have HDda : Hid (gd ≠ v6.heap.size) := Nat.ne_of_lt Xd.out.lt
  have Xa0 : Hid (B3q (v6.alloc (.cells #[.bool s6, .slice p6 m6 m6, .int .i64 (e6)] 28)) v6.heap.size (.bool s6) (.slice p6 m6 m6) (.int .i64 (e6))) := B3q.new v6 _ _ _ _
  have hbn : Below v6.heap.size v6 (v6.alloc (.cells #[.bool s6, .slice p6 m6 m6, .int .i64 (e6)] 28)) := below1 v6 _
  generalize v6.alloc (.cells #[.bool s6, .slice p6 m6 m6, .int .i64 (e6)] 28) = Wa at *
  have HGa : Hid (w.heap.size ≤ v6.heap.size) := hbw.size
  replace Xv : Hid _ := Xv.out.below hbn
  replace Xd : Hid _ := Xd.out.below hbn
  replace D3 : Hid _ := D3.out.below hbn
  replace DA : Hid _ := DA.out.below hbn
  replace D6 : Hid _ := D6.out.below hbn
  replace hbw := Below.on hbw hbn
  clear hbn
  generalize v6.heap.size = ga at *
  have Xa := Xa0
  clear Xa0
  refine (dadd_b D3.out DA.out HBB.out.1 HBB.out.2 (by omega) (TB.out.below hbw)).mono ?_
  rintro e9 v7 ⟨v, z7, e7, rfl, hv, hB, hV7, hb7⟩
  obtain ⟨s7, p7, m7, rfl, hd7⟩ := hv.dn hB.fm
  have HV7 : Hid (dv z7 e7 = dv z5 eo + dv ((z5.natAbs : Nat) : Int) e5 ∧ -4194304 ≤ e7) := ⟨hV7, by have := hB.lo; omega⟩
  clear hv hB
  replace Xv : Hid _ := Xv.out.below hb7
  replace Xd : Hid _ := Xd.out.below hb7
  replace Xa : Hid _ := Xa.out.below hb7
  replace D3 : Hid _ := D3.out.below hb7
  replace DA : Hid _ := DA.out.below hb7
  replace D6 : Hid _ := D6.out.below hb7
  replace hbw := Below.on hbw hb7
  clear hb7
  have D7 : Hid (DN v7 s7 p7 m7 m7 (e7) (z7)) := hd7
  clear hd7 hV7
  obtain ⟨ca0, ca1, ca2, fa0, fa1, fa2⟩ := Xa.out
  have hnea : ga < v7.heap.size := World.block_lt_of_cell? v7 _ ca0
  go_wp2_with fail
  clear ca0 ca1 ca2 fa0 fa1 fa2 hnea
  have HDvc : Hid (gv ≠ v7.heap.size) := Nat.ne_of_lt Xv.out.lt
  have HDdc : Hid (gd ≠ v7.heap.size) := Nat.ne_of_lt Xd.out.lt
  have HDac : Hid (ga ≠ v7.heap.size) := Nat.ne_of_lt Xa.out.lt
  have Xc0 : Hid (B3q (v7.alloc (.cells #[.bool s7, .slice p7 m7 m7, .int .i64 (e7)] 28)) v7.heap.size (.bool s7) (.slice p7 m7 m7) (.int .i64 (e7))) := B3q.new v7 _ _ _ _
  have hbn : Below v7.heap.size v7 (v7.alloc (.cells #[.bool s7, .slice p7 m7 m7, .int .i64 (e7)] 28)) := below1 v7 _
  generalize v7.alloc (.cells #[.bool s7, .slice p7 m7 m7, .int .i64 (e7)] 28) = Wc at *
  have HGc : Hid (w.heap.size ≤ v7.heap.size) := hbw.size
  replace Xv : Hid _ := Xv.out.below hbn
  replace Xd : Hid _ := Xd.out.below hbn
  replace Xa : Hid _ := Xa.out.below hbn
  replace D3 : Hid _ := D3.out.below hbn
  replace DA : Hid _ := DA.out.below hbn
  replace D6 : Hid _ := D6.out.below hbn
  replace D7 : Hid _ := D7.out.below hbn
  replace hbw := Below.on hbw hbn
  clear hbn
  generalize v7.heap.size = gc at *
  have Xc := Xc0
  clear Xc0
  have hdd : dv ((z5.natAbs : Nat) : Int) e5 = dv (((ux hi + ux lo).natAbs : Nat) : Int) (-1075 - (k : Int)) := by
    have h := rounds_d k HA.out.1.k2 HV.out.1 (by have := HV.out.2.lo; omega) (by have := HV.out.2.hi; omega)
    rw [← h, HE5.out, HN.out, HA.out.2]
  have HDD : Hid (dv ((z5.natAbs : Nat) : Int) e5 = dv (((ux hi + ux lo).natAbs : Nat) : Int) (-1075 - (k : Int))) := hdd
  clear hdd
  have HR6 : Hid (rnp (-1074) 52 1024 9223372036854775808 9218868437227405312 z6 e6 = hi) := rounds_all HA.out.1 (t := -(((ux hi + ux lo).natAbs : Nat) : Int)) HV6.out.2 (by rw [Int.natAbs_neg, Int.natAbs_natCast]; exact Nat.le_refl _) (by rw [HV6.out.1, HDD.out, HV.out.1, rounds_v k HA.out.1.k2, dv_add, dv_neg]; rfl)
  have HR7 : Hid (rnp (-1074) 52 1024 9223372036854775808 9218868437227405312 z7 e7 = hi) := rounds_all HA.out.1 (t := (((ux hi + ux lo).natAbs : Nat) : Int)) HV7.out.2 (by rw [Int.natAbs_natCast]; exact Nat.le_refl _) (by rw [HV7.out.1, HDD.out, HV.out.1, rounds_v k HA.out.1.k2, dv_add])
  have HLE : Hid (dv z6 e6 ≤ dv z7 e7) := by have h1 := HV6.out.1; have h2 := HV7.out.1; have h3 := dv_nn z5 e5; rw [h1, h2]; show _ ≤ _; omega
  refine (smake D6.out D7.out HLE.out).mono ?_
  rintro e9 v8 ⟨s8, p8, m8, s9, p9, m9, rfl, hd8, hd9, hb8⟩
  have hd8' := hd8.dn
  have hd9' := hd9.dn
  replace Xv : Hid _ := Xv.out.below hb8
  replace Xd : Hid _ := Xd.out.below hb8
  replace Xa : Hid _ := Xa.out.below hb8
  replace Xc : Hid _ := Xc.out.below hb8
  replace D3 : Hid _ := D3.out.below hb8
  replace DA : Hid _ := DA.out.below hb8
  replace D6 : Hid _ := D6.out.below hb8
  replace D7 : Hid _ := D7.out.below hb8
  replace hbw := Below.on hbw hb8
  clear hb8
  have D8 : Hid (DN v8 s8 p8 m8 m8 (e6) (z6)) := hd8'
  have D9 : Hid (DN v8 s9 p9 m9 m9 (e7) (z7)) := hd9'
  clear hd8 hd9 hd8' hd9'
  go_wp2_with fail
  have hbs : Below v8.heap.size v8 (v8.alloc (.cells #[.bool s8, .slice p8 m8 m8, .int .i64 e6, .bool s9, .slice p9 m9 m9, .int .i64 e7] 46)) := below1 v8 _
  generalize (v8.alloc (.cells #[.bool s8, .slice p8 m8 m8, .int .i64 e6, .bool s9, .slice p9 m9 m9, .int .i64 e7] 46)) = Ws at *
  replace Xv : Hid _ := Xv.out.below hbs
  replace Xd : Hid _ := Xd.out.below hbs
  replace Xa : Hid _ := Xa.out.below hbs
  replace Xc : Hid _ := Xc.out.below hbs
  replace D3 : Hid _ := D3.out.below hbs
  replace DA : Hid _ := DA.out.below hbs
  replace D6 : Hid _ := D6.out.below hbs
  replace D7 : Hid _ := D7.out.below hbs
  replace D8 : Hid _ := D8.out.below hbs
  replace D9 : Hid _ := D9.out.below hbs
  replace hbw := Below.on hbw hbs
  clear hbs
  refine (decide_y jn_64 D8.out D9.out HLE.out (HR6.out.trans HR7.out.symm) (TB.out.below hbw)).mono ?_
  rintro e v10 ⟨rfl, hb10⟩
  rw [HR6.out]
  replace Xv : Hid _ := Xv.out.below hb10
  replace Xd : Hid _ := Xd.out.below hb10
  replace Xa : Hid _ := Xa.out.below hb10
  replace Xc : Hid _ := Xc.out.below hb10
  replace D3 : Hid _ := D3.out.below hb10
  replace DA : Hid _ := DA.out.below hb10
  replace D6 : Hid _ := D6.out.below hb10
  replace D7 : Hid _ := D7.out.below hb10
  replace D8 : Hid _ := D8.out.below hb10
  replace D9 : Hid _ := D9.out.below hb10
  replace hbw := Below.on hbw hb10
  clear hb10
  go_wp2_with fail
  go_ret
  exact ⟨by simp, hbw⟩
theorem acceptRounds_w (hi lo : Nat) (hh : hi < 18446744073709551616) (hl : lo < 18446744073709551616) (e : Int) (w : World) (hT : Tab w) :
    Calls Tryd.prog 4 #[U hi, U lo, .int .i64 e] w fun en w' => en = .returned (.bool true) ∧ Below w.heap.size w w' := by
  cases hA : accB hi lo e with
  | false => exact acceptRounds_n hi lo hh hl e hA w
  | true =>
    obtain ⟨k, he, hP⟩ := accB_iff.1 hA
    exact acceptRounds_y hi lo hh hl e k he hP w hT
end Go.Proofs.YthfjjadgejmnfaaDoor
