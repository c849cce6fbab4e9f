import Derived.Test.YtnijhlbociechaaDoorJ8
import Derived.Test.YtnijhlbociechaaDoorJ9
import Derived.BigQuiet
import Derived.Deep.LoopGhost
namespace Go.Proofs.YtnijhlbociechaaDoor
open Go.RowKit Go.Shelf
set_option maxRecDepth 20000
set_option maxHeartbeats 0
theorem vs_max {r : Nat} (h : r < 9218868437227405312) : vs 4503599627370496 r ≤ MaxU := by
  obtain ⟨K, hK⟩ : ∃ K, K = 2045 := ⟨_, rfl⟩
  rw [MaxU_eq hK]
  unfold vs
  refine Nat.mul_le_mul (by omega) (p2le (by omega))
theorem ux_pos {r : Nat} (h : r < 9223372036854775808) : ux r = (vs 4503599627370496 r : Int) := by
  rw [ux_eq, if_neg (by omega), Nat.mod_eq_of_lt h]
theorem ux_max : ux 9218868437227405311 = (MaxU : Int) := by
  rw [ux_pos (by decide)]
  have h : vs 4503599627370496 9218868437227405311 = MaxU := by decide +kernel
  rw [h]
theorem order_max {r : Nat} (h : r < 9218868437227405312) : FloatKind.f64.format.order r 9218868437227405311 = some .lt ∨ FloatKind.f64.format.order r 9218868437227405311 = some .eq := by
  have e : FloatKind.f64.format.order r 9218868437227405311 = Ieee.double.order r 9218868437227405311 := rfl
  rw [e, order_fin ⟨by omega, by omega⟩ ⟨by decide, by decide⟩, ux_max, ux_pos (by omega), ordI]
  have := vs_max h
  rcases Nat.lt_or_eq_of_le this with h1 | h1
  · rw [if_pos (by omega)]; exact .inl rfl
  · rw [if_neg (by omega), if_pos (by omega)]; exact .inr rfl
theorem order_inf_max : FloatKind.f64.format.order 9218868437227405312 9218868437227405311 = some .gt := by decide +kernel
theorem mabs (x : Nat) (hx : x < 18446744073709551616) (w : World) : Calls Tryd.prog 10 #[Fv x] w fun en w' => en = .returned (Fv (x % 9223372036854775808)) ∧ w' = w := by
  have bo1 : ∀ w, (callFunc 22 #[Fv x]).run Tryd.prog w = .ok (.value (.int .u64 (x : Int))) w := fun w => bitsOf x w
  have br3 : bits BinOp.andNot IntKind.u64 (x : Int) 9223372036854775808 = ((x % 9223372036854775808 : Nat) : Int) := sign_andNot x 9223372036854775808 63 (by decide) (by omega) (by omega)
  generalize x % 9223372036854775808 = y at br3 ⊢
  have fb2 : ∀ w, (callFunc 6 #[.int .u64 (y : Int)]).run Tryd.prog w = .ok (.value (Fv y)) w := fun w => frombits _ w
  go_enter Tryd.func10, Tryd.ntmps10
  go_wp2_with fail
  go_ret
  exact ⟨rfl, rfl⟩
theorem isinf (x : Nat) (hx : x < 18446744073709551616) (w : World) : Calls Tryd.prog 12 #[Fv x, .int .i64 0] w fun en w' => en = .returned (.bool (decide (x % 9223372036854775808 = 9218868437227405312))) ∧ w' = w := by
  have HX := mabs x hx
  generalize hy : x % 9223372036854775808 = y at HX ⊢
  have hc : ∃ o, FloatKind.f64.format.order y 9218868437227405311 = o ∧ (o == some .gt) = decide (y = 9218868437227405312) := by
    rcases Nat.lt_trichotomy y 9218868437227405312 with h | h | h
    · have : decide (y = 9218868437227405312) = false := decide_eq_false (by omega)
      rcases order_max h with h1 | h1
      · exact ⟨_, h1, by rw [this]; rfl⟩
      · exact ⟨_, h1, by rw [this]; rfl⟩
    · subst h; exact ⟨_, order_inf_max, by simp⟩
    · have : decide (y = 9218868437227405312) = false := decide_eq_false (by omega)
      exact ⟨none, order_nan (.inl (by unfold NanP; omega)), by rw [this]; rfl⟩
  obtain ⟨o, ho, hb⟩ := hc
  rw [← hb]
  clear hb hy hx
  go_enter Tryd.func12, Tryd.ntmps12
  go_wp2_with fail
  refine (HX _).mono ?_
  rintro e v9 ⟨rfl, hw⟩
  obtain rfl := hw.symm
  clear hw
  rcases o with _ | _ | _ | _
  all_goals
    go_wp2_with fail
    go_ret
    exact ⟨by kernel_rfl, rfl⟩
theorem isnan (x : Nat) (hx : x < 18446744073709551616) (w : World) : Calls Tryd.prog 11 #[Fv x] w fun en w' => en = .returned (.bool (decide (9218868437227405312 < x % 9223372036854775808))) ∧ w' = w := by
  have hc : ∃ o, FloatKind.f64.format.order x x = o ∧ (o != some .eq) = decide (9218868437227405312 < x % 9223372036854775808) := by
    rcases three64 x hx with h | h | h
    · refine ⟨_, order_fin h h, ?_⟩
      rw [ordI, if_neg (by omega), if_pos rfl, decide_eq_false (by have := h.fin; omega)]; rfl
    · refine ⟨some .eq, ?_, ?_⟩
      · show Ieee.double.order x x = _
        unfold Ieee.Format.order
        rw [read_inf h]
        unfold Ieee.Datum.order
        cases (x / 9223372036854775808 % 2 == 1) <;> rfl
      · unfold InfP at h
        rw [decide_eq_false (by omega)]; rfl
    · refine ⟨none, order_nan (.inl h), ?_⟩
      unfold NanP at h
      rw [decide_eq_true h]; rfl
  obtain ⟨o, ho, hb⟩ := hc
  rw [← hb]
  clear hb hx
  go_enter Tryd.func11, Tryd.ntmps11
  rcases o with _ | _ | _ | _
  all_goals
    go_wp2_with fail
    go_ret
    exact ⟨by kernel_rfl, rfl⟩
theorem exp_and (b E : Nat) (h : b / 4503599627370496 = E) (hE : E < 2048) : bits BinOp.and IntKind.u64 ((b : Int) / 4503599627370496) 2047 = (E : Int) := by
  have h1 : (b : Int) / 4503599627370496 = (E : Int) := by omega
  rw [h1, show (2047 : Int) = ((2047 : Nat) : Int) from rfl, bits_and_u64_nat E 2047 (by omega) (by omega), show (2047 : Nat) = 2 ^ 11 - 1 by decide, Nat.and_two_pow_sub_one_eq_mod, Nat.mod_eq_of_lt (by simpa using hE)]
theorem sign_and0 (b : Nat) (h : b < 9223372036854775808) : bits BinOp.and IntKind.u64 (b : Int) 9223372036854775808 = 0 := by
  have h1 := bits_and_u64_nat b 9223372036854775808 (by omega) (by omega)
  rw [show ((9223372036854775808 : Nat) : Int) = 9223372036854775808 from rfl] at h1
  have h2 : b &&& 9223372036854775808 = 0 := by
    apply Nat.eq_of_testBit_eq
    intro i
    rw [Nat.testBit_and, show (9223372036854775808 : Nat) = 2 ^ 63 by decide, Nat.testBit_two_pow, Nat.zero_testBit]
    by_cases hi : 63 = i
    · subst hi; rw [Nat.testBit_lt_two_pow (by simpa using h)]; rfl
    · rw [decide_eq_false hi, Bool.and_false]
  rw [h1, h2]
  rfl
theorem mround_low (b : Nat) (hb : b < 4602678819172646912) (w : World) :
    Calls Tryd.prog 13 #[Fv b] w fun en w' => en = .returned (Fv 0) ∧ w' = w := by
  have bo1 : ∀ w, (callFunc 22 #[Fv b]).run Tryd.prog w = .ok (.value (.int .u64 (b : Int))) w := fun w => bitsOf b w
  have fb1 : ∀ w, (callFunc 6 #[.int .u64 0]).run Tryd.prog w = .ok (.value (Fv 0)) w := fun w => frombits 0 w
  obtain ⟨E, hE⟩ : ∃ E, E = b / 4503599627370496 := ⟨_, rfl⟩
  have e0 := exp_and b E hE.symm (by omega)
  have e1 : decide ((E : Int) < 1023) = true := decide_eq_true (by omega)
  have e2 : ((E : Int) == 1022) = false := by simp; omega
  have e3 := sign_and0 b (by omega)
  clear hb hE
  go_enter Tryd.func13, Tryd.ntmps13
  go_wp2_with fail
  go_ret
  exact ⟨rfl, rfl⟩
theorem mround_half (b : Nat) (hb : 4602678819172646912 ≤ b) (hb2 : b < 4607182418800017408) (w : World) :
    Calls Tryd.prog 13 #[Fv b] w fun en w' => en = .returned (Fv 4607182418800017408) ∧ w' = w := by
  have bo1 : ∀ w, (callFunc 22 #[Fv b]).run Tryd.prog w = .ok (.value (.int .u64 (b : Int))) w := fun w => bitsOf b w
  have fb2 : ∀ w, (callFunc 6 #[.int .u64 4607182418800017408]).run Tryd.prog w = .ok (.value (Fv 4607182418800017408)) w := fun w => frombits 4607182418800017408 w
  have e0 := exp_and b 1022 (by omega) (by omega)
  rw [show ((1022 : Nat) : Int) = 1022 from rfl] at e0
  have e3 := sign_and0 b (by omega)
  have e4 : bits BinOp.or IntKind.u64 0 4607182418800017408 = 4607182418800017408 := by kernel_rfl
  clear hb hb2
  go_enter Tryd.func13, Tryd.ntmps13
  go_wp2_with fail
  go_ret
  exact ⟨rfl, rfl⟩
theorem mround_0 (b f j : Nat) (hf : f < 4503599627370496) (hb : b = 1023 * 4503599627370496 + f) (hj : j = (4503599627370496 + f + 2251799813685248) / 4503599627370496) (w : World) :
    Calls Tryd.prog 13 #[Fv b] w fun en w' => en = .returned (Fv (1022 * 4503599627370496 + j * 4503599627370496)) ∧ w' = w := by
  have bo1 : ∀ w, (callFunc 22 #[Fv b]).run Tryd.prog w = .ok (.value (.int .u64 (b : Int))) w := fun w => bitsOf b w
  have hR := round_pat 0 f b j (by omega) hf hb hj
  obtain ⟨R, hRe⟩ : ∃ R, R = 1022 * 4503599627370496 + j * 4503599627370496 := ⟨_, rfl⟩
  have hR2 : (b + 2251799813685248) / 4503599627370496 * 4503599627370496 = R := by rw [hRe]; exact hR.1
  have e0 := exp_and b 1023 (by omega) (by omega)
  rw [show ((1023 : Nat) : Int) = 1023 from rfl] at e0
  obtain ⟨b2, hb2⟩ : ∃ b2, b2 = b + 2251799813685248 := ⟨_, rfl⟩
  have e1 : IntKind.u64.wrap ((b : Int) + 2251799813685248) = (b2 : Int) := by rw [IntKind.wrap_u64]; omega
  have e2 : bits BinOp.andNot IntKind.u64 (b2 : Int) 4503599627370495 = (R : Int) := by
    have h1 := low_andNot b2 52 (by omega)
    rw [show ((2 ^ 52 - 1 : Nat) : Int) = 4503599627370495 from by decide, show (2 : Nat) ^ 52 = 4503599627370496 by decide, hb2, hR2] at h1
    rw [hb2]; exact h1
  have fb1 : ∀ w, (callFunc 6 #[.int .u64 (R : Int)]).run Tryd.prog w = .ok (.value (Fv R)) w := fun w => frombits R w
  rw [← hRe]
  clear hR hRe hR2 hf hb hj hb2
  go_enter Tryd.func13, Tryd.ntmps13
  go_wp2_with fail
  go_ret
  exact ⟨rfl, rfl⟩
theorem mround_1 (b f j : Nat) (hf : f < 4503599627370496) (hb : b = 1024 * 4503599627370496 + f) (hj : j = (4503599627370496 + f + 1125899906842624) / 2251799813685248) (w : World) :
    Calls Tryd.prog 13 #[Fv b] w fun en w' => en = .returned (Fv (1023 * 4503599627370496 + j * 2251799813685248)) ∧ w' = w := by
  have bo1 : ∀ w, (callFunc 22 #[Fv b]).run Tryd.prog w = .ok (.value (.int .u64 (b : Int))) w := fun w => bitsOf b w
  have hR := round_pat 1 f b j (by omega) hf hb hj
  obtain ⟨R, hRe⟩ : ∃ R, R = 1023 * 4503599627370496 + j * 2251799813685248 := ⟨_, rfl⟩
  have hR2 : (b + 1125899906842624) / 2251799813685248 * 2251799813685248 = R := by rw [hRe]; exact hR.1
  have e0 := exp_and b 1024 (by omega) (by omega)
  rw [show ((1024 : Nat) : Int) = 1024 from rfl] at e0
  obtain ⟨b2, hb2⟩ : ∃ b2, b2 = b + 1125899906842624 := ⟨_, rfl⟩
  have e1 : IntKind.u64.wrap ((b : Int) + 1125899906842624) = (b2 : Int) := by rw [IntKind.wrap_u64]; omega
  have e2 : bits BinOp.andNot IntKind.u64 (b2 : Int) 2251799813685247 = (R : Int) := by
    have h1 := low_andNot b2 51 (by omega)
    rw [show ((2 ^ 51 - 1 : Nat) : Int) = 2251799813685247 from by decide, show (2 : Nat) ^ 51 = 2251799813685248 by decide, hb2, hR2] at h1
    rw [hb2]; exact h1
  have fb1 : ∀ w, (callFunc 6 #[.int .u64 (R : Int)]).run Tryd.prog w = .ok (.value (Fv R)) w := fun w => frombits R w
  rw [← hRe]
  clear hR hRe hR2 hf hb hj hb2
  go_enter Tryd.func13, Tryd.ntmps13
  go_wp2_with fail
  go_ret
  exact ⟨rfl, rfl⟩
theorem mround_2 (b f j : Nat) (hf : f < 4503599627370496) (hb : b = 1025 * 4503599627370496 + f) (hj : j = (4503599627370496 + f + 562949953421312) / 1125899906842624) (w : World) :
    Calls Tryd.prog 13 #[Fv b] w fun en w' => en = .returned (Fv (1024 * 4503599627370496 + j * 1125899906842624)) ∧ w' = w := by
  have bo1 : ∀ w, (callFunc 22 #[Fv b]).run Tryd.prog w = .ok (.value (.int .u64 (b : Int))) w := fun w => bitsOf b w
  have hR := round_pat 2 f b j (by omega) hf hb hj
  obtain ⟨R, hRe⟩ : ∃ R, R = 1024 * 4503599627370496 + j * 1125899906842624 := ⟨_, rfl⟩
  have hR2 : (b + 562949953421312) / 1125899906842624 * 1125899906842624 = R := by rw [hRe]; exact hR.1
  have e0 := exp_and b 1025 (by omega) (by omega)
  rw [show ((1025 : Nat) : Int) = 1025 from rfl] at e0
  obtain ⟨b2, hb2⟩ : ∃ b2, b2 = b + 562949953421312 := ⟨_, rfl⟩
  have e1 : IntKind.u64.wrap ((b : Int) + 562949953421312) = (b2 : Int) := by rw [IntKind.wrap_u64]; omega
  have e2 : bits BinOp.andNot IntKind.u64 (b2 : Int) 1125899906842623 = (R : Int) := by
    have h1 := low_andNot b2 50 (by omega)
    rw [show ((2 ^ 50 - 1 : Nat) : Int) = 1125899906842623 from by decide, show (2 : Nat) ^ 50 = 1125899906842624 by decide, hb2, hR2] at h1
    rw [hb2]; exact h1
  have fb1 : ∀ w, (callFunc 6 #[.int .u64 (R : Int)]).run Tryd.prog w = .ok (.value (Fv R)) w := fun w => frombits R w
  rw [← hRe]
  clear hR hRe hR2 hf hb hj hb2
  go_enter Tryd.func13, Tryd.ntmps13
  go_wp2_with fail
  go_ret
  exact ⟨rfl, rfl⟩
theorem mround_3 (b f j : Nat) (hf : f < 4503599627370496) (hb : b = 1026 * 4503599627370496 + f) (hj : j = (4503599627370496 + f + 281474976710656) / 562949953421312) (w : World) :
    Calls Tryd.prog 13 #[Fv b] w fun en w' => en = .returned (Fv (1025 * 4503599627370496 + j * 562949953421312)) ∧ w' = w := by
  have bo1 : ∀ w, (callFunc 22 #[Fv b]).run Tryd.prog w = .ok (.value (.int .u64 (b : Int))) w := fun w => bitsOf b w
  have hR := round_pat 3 f b j (by omega) hf hb hj
  obtain ⟨R, hRe⟩ : ∃ R, R = 1025 * 4503599627370496 + j * 562949953421312 := ⟨_, rfl⟩
  have hR2 : (b + 281474976710656) / 562949953421312 * 562949953421312 = R := by rw [hRe]; exact hR.1
  have e0 := exp_and b 1026 (by omega) (by omega)
  rw [show ((1026 : Nat) : Int) = 1026 from rfl] at e0
  obtain ⟨b2, hb2⟩ : ∃ b2, b2 = b + 281474976710656 := ⟨_, rfl⟩
  have e1 : IntKind.u64.wrap ((b : Int) + 281474976710656) = (b2 : Int) := by rw [IntKind.wrap_u64]; omega
  have e2 : bits BinOp.andNot IntKind.u64 (b2 : Int) 562949953421311 = (R : Int) := by
    have h1 := low_andNot b2 49 (by omega)
    rw [show ((2 ^ 49 - 1 : Nat) : Int) = 562949953421311 from by decide, show (2 : Nat) ^ 49 = 562949953421312 by decide, hb2, hR2] at h1
    rw [hb2]; exact h1
  have fb1 : ∀ w, (callFunc 6 #[.int .u64 (R : Int)]).run Tryd.prog w = .ok (.value (Fv R)) w := fun w => frombits R w
  rw [← hRe]
  clear hR hRe hR2 hf hb hj hb2
  go_enter Tryd.func13, Tryd.ntmps13
  go_wp2_with fail
  go_ret
  exact ⟨rfl, rfl⟩
theorem mround_4 (b f j : Nat) (hf : f < 4503599627370496) (hb : b = 1027 * 4503599627370496 + f) (hj : j = (4503599627370496 + f + 140737488355328) / 281474976710656) (w : World) :
    Calls Tryd.prog 13 #[Fv b] w fun en w' => en = .returned (Fv (1026 * 4503599627370496 + j * 281474976710656)) ∧ w' = w := by
  have bo1 : ∀ w, (callFunc 22 #[Fv b]).run Tryd.prog w = .ok (.value (.int .u64 (b : Int))) w := fun w => bitsOf b w
  have hR := round_pat 4 f b j (by omega) hf hb hj
  obtain ⟨R, hRe⟩ : ∃ R, R = 1026 * 4503599627370496 + j * 281474976710656 := ⟨_, rfl⟩
  have hR2 : (b + 140737488355328) / 281474976710656 * 281474976710656 = R := by rw [hRe]; exact hR.1
  have e0 := exp_and b 1027 (by omega) (by omega)
  rw [show ((1027 : Nat) : Int) = 1027 from rfl] at e0
  obtain ⟨b2, hb2⟩ : ∃ b2, b2 = b + 140737488355328 := ⟨_, rfl⟩
  have e1 : IntKind.u64.wrap ((b : Int) + 140737488355328) = (b2 : Int) := by rw [IntKind.wrap_u64]; omega
  have e2 : bits BinOp.andNot IntKind.u64 (b2 : Int) 281474976710655 = (R : Int) := by
    have h1 := low_andNot b2 48 (by omega)
    rw [show ((2 ^ 48 - 1 : Nat) : Int) = 281474976710655 from by decide, show (2 : Nat) ^ 48 = 281474976710656 by decide, hb2, hR2] at h1
    rw [hb2]; exact h1
  have fb1 : ∀ w, (callFunc 6 #[.int .u64 (R : Int)]).run Tryd.prog w = .ok (.value (Fv R)) w := fun w => frombits R w
  rw [← hRe]
  clear hR hRe hR2 hf hb hj hb2
  go_enter Tryd.func13, Tryd.ntmps13
  go_wp2_with fail
  go_ret
  exact ⟨rfl, rfl⟩
theorem mround_5 (b f j : Nat) (hf : f < 4503599627370496) (hb : b = 1028 * 4503599627370496 + f) (hj : j = (4503599627370496 + f + 70368744177664) / 140737488355328) (w : World) :
    Calls Tryd.prog 13 #[Fv b] w fun en w' => en = .returned (Fv (1027 * 4503599627370496 + j * 140737488355328)) ∧ w' = w := by
  have bo1 : ∀ w, (callFunc 22 #[Fv b]).run Tryd.prog w = .ok (.value (.int .u64 (b : Int))) w := fun w => bitsOf b w
  have hR := round_pat 5 f b j (by omega) hf hb hj
  obtain ⟨R, hRe⟩ : ∃ R, R = 1027 * 4503599627370496 + j * 140737488355328 := ⟨_, rfl⟩
  have hR2 : (b + 70368744177664) / 140737488355328 * 140737488355328 = R := by rw [hRe]; exact hR.1
  have e0 := exp_and b 1028 (by omega) (by omega)
  rw [show ((1028 : Nat) : Int) = 1028 from rfl] at e0
  obtain ⟨b2, hb2⟩ : ∃ b2, b2 = b + 70368744177664 := ⟨_, rfl⟩
  have e1 : IntKind.u64.wrap ((b : Int) + 70368744177664) = (b2 : Int) := by rw [IntKind.wrap_u64]; omega
  have e2 : bits BinOp.andNot IntKind.u64 (b2 : Int) 140737488355327 = (R : Int) := by
    have h1 := low_andNot b2 47 (by omega)
    rw [show ((2 ^ 47 - 1 : Nat) : Int) = 140737488355327 from by decide, show (2 : Nat) ^ 47 = 140737488355328 by decide, hb2, hR2] at h1
    rw [hb2]; exact h1
  have fb1 : ∀ w, (callFunc 6 #[.int .u64 (R : Int)]).run Tryd.prog w = .ok (.value (Fv R)) w := fun w => frombits R w
  rw [← hRe]
  clear hR hRe hR2 hf hb hj hb2
  go_enter Tryd.func13, Tryd.ntmps13
  go_wp2_with fail
  go_ret
  exact ⟨rfl, rfl⟩
theorem ux_64 {K : Nat} (hK : K = 1074) : ux 4634204016564240384 = ((64 * 2 ^ K : Nat) : Int) := by
  obtain ⟨c, hc⟩ : ∃ c, c = 1028 := ⟨_, rfl⟩
  rw [ux_pos (by decide)]
  have h := vs_E c 4503599627370496 (by omega) (by omega)
  rw [show c * 4503599627370496 + 4503599627370496 = 4634204016564240384 by subst hc; rfl] at h
  rw [h]
  have e : 4503599627370496 * 2 ^ c = 64 * 2 ^ K := by
    rw [show 4503599627370496 = 2 ^ 52 by decide, show 64 = 2 ^ 6 by decide, ← Nat.pow_add, ← Nat.pow_add, show 52 + c = 6 + K by clear h; omega]
  rw [e]
theorem word_false (r : Nat) : Ieee.double.word false r = r := by unfold Ieee.Format.word; simp
theorem mul64 (s : Nat) (hs : s ≤ 4605493568939753472) : floatBits .mul .f64 4634204016564240384 s = some (rg 0 (64 * vs 4503599627370496 s)) := by
  obtain ⟨K, hK⟩ : ∃ K, K = 1074 := ⟨_, rfl⟩
  rw [fmul_any ⟨by decide, by decide⟩ ⟨by omega, by omega⟩, ux_64 hK, ux_pos (by omega), Int.natAbs_natCast, Int.natAbs_natCast, ← hK, show 64 * 2 ^ K * vs 4503599627370496 s = 64 * vs 4503599627370496 s * 2 ^ K by rw [Nat.mul_assoc, Nat.mul_comm (2 ^ K), ← Nat.mul_assoc], rgc_int, decide_eq_false (show ¬ 9223372036854775808 ≤ 4634204016564240384 by decide), decide_eq_false (show ¬ 9223372036854775808 ≤ s by omega), Bool.xor_false, word_false]
theorem order_top (s : Nat) (hs : s < 9218868437227405312) : FloatKind.f64.format.order s 4605493568939753472 = some (if s < 4605493568939753472 then .lt else if s = 4605493568939753472 then .eq else .gt) := by
  have e : FloatKind.f64.format.order s 4605493568939753472 = Ieee.double.order s 4605493568939753472 := rfl
  rw [e, order_fin ⟨by omega, by omega⟩ ⟨by decide, by decide⟩, ux_pos (by omega), ux_pos (by omega), ordI]
  rcases Nat.lt_trichotomy s 4605493568939753472 with h | h | h
  · have := vs_mono (H := 4503599627370496) (by decide) h
    rw [if_pos (by omega), if_pos h]
  · subst h; rw [if_neg (by omega), if_pos rfl, if_neg (by omega), if_pos rfl]
  · have := vs_mono (H := 4503599627370496) (by decide) h
    rw [if_neg (by omega), if_neg (by omega), if_neg (by omega), if_neg (by omega)]
theorem mround_all {K : Nat} (hK : K = 1074) (s : Nat) (hs : s ≤ 4605493568939753472) (w : World) : Calls Tryd.prog 13 #[Fv (rg 0 (64 * vs 4503599627370496 s))] w fun en w' => ∃ R, en = .returned (Fv R) ∧ w' = w ∧ floatToIntVal .f64 R .i64 = some (plcN K s : Int) := by
  by_cases h1 : s < 4575657221408423936
  · have hP : rg 0 (64 * vs 4503599627370496 s) < 4602678819172646912 := by
      by_cases h2 : s < 4503599627370496
      · have := rg_64_low h2; omega
      · rw [rg_64 (by omega) (by omega)]; omega
    refine (mround_low _ hP w).mono ?_
    rintro en w' ⟨rfl, rfl⟩
    exact ⟨0, rfl, rfl, by rw [plc_low hK h1]; decide +kernel⟩
  rw [rg_64 (by omega) (by omega)]
  by_cases h2 : s < 4580160821035794432
  · refine (mround_half _ (by omega) (by omega) w).mono ?_
    rintro en w' ⟨rfl, rfl⟩
    refine ⟨_, rfl, rfl, ?_⟩
    have hp := plc_at K 1015 0 (s - 1016 * 4503599627370496) (by omega) (by omega) rfl hK
    rw [show (1016 + 0) * 4503599627370496 + (s - 1016 * 4503599627370496) = s by omega] at hp
    rw [hp, show (4503599627370496 + (s - 1016 * 4503599627370496) + 2 ^ (52 - 0)) / 2 ^ (53 - 0) = 1 by simp only [Nat.reducePow, Nat.reduceSub]; omega]
    decide +kernel
  by_cases h3 : s < 4584664420663164928
  · obtain ⟨f, hf⟩ : ∃ f, f = s - 1017 * 4503599627370496 := ⟨_, rfl⟩
    obtain ⟨j, hj⟩ : ∃ j, j = (4503599627370496 + f + 2251799813685248) / 4503599627370496 := ⟨_, rfl⟩
    refine (mround_0 _ f j (by omega) (by omega) hj w).mono ?_
    rintro en w' ⟨rfl, rfl⟩
    refine ⟨_, rfl, rfl, ?_⟩
    have hp := plc_at K 1016 1 f (by omega) (by omega) rfl hK
    rw [show (1016 + 1) * 4503599627370496 + f = s by omega, show (4503599627370496 + f + 2 ^ (52 - 1)) / 2 ^ (53 - 1) = j by simp only [Nat.reducePow, Nat.reduceSub]; omega] at hp
    rw [hp]
    have hc := conv_all 0 (by omega) j (by omega) (by simp only [Nat.reducePow]; omega) (by simp only [Nat.reduceAdd, Nat.reducePow]; omega)
    simp only [Nat.reducePow, Nat.reduceSub, Nat.reduceAdd, Nat.reduceMul] at hc ⊢
    exact hc
  by_cases h4 : s < 4589168020290535424
  · obtain ⟨f, hf⟩ : ∃ f, f = s - 1018 * 4503599627370496 := ⟨_, rfl⟩
    obtain ⟨j, hj⟩ : ∃ j, j = (4503599627370496 + f + 1125899906842624) / 2251799813685248 := ⟨_, rfl⟩
    refine (mround_1 _ f j (by omega) (by omega) hj w).mono ?_
    rintro en w' ⟨rfl, rfl⟩
    refine ⟨_, rfl, rfl, ?_⟩
    have hp := plc_at K 1017 2 f (by omega) (by omega) rfl hK
    rw [show (1016 + 2) * 4503599627370496 + f = s by omega, show (4503599627370496 + f + 2 ^ (52 - 2)) / 2 ^ (53 - 2) = j by simp only [Nat.reducePow, Nat.reduceSub]; omega] at hp
    rw [hp]
    have hc := conv_all 1 (by omega) j (by omega) (by simp only [Nat.reducePow]; omega) (by simp only [Nat.reduceAdd, Nat.reducePow]; omega)
    simp only [Nat.reducePow, Nat.reduceSub, Nat.reduceAdd, Nat.reduceMul] at hc ⊢
    exact hc
  by_cases h5 : s < 4593671619917905920
  · obtain ⟨f, hf⟩ : ∃ f, f = s - 1019 * 4503599627370496 := ⟨_, rfl⟩
    obtain ⟨j, hj⟩ : ∃ j, j = (4503599627370496 + f + 562949953421312) / 1125899906842624 := ⟨_, rfl⟩
    refine (mround_2 _ f j (by omega) (by omega) hj w).mono ?_
    rintro en w' ⟨rfl, rfl⟩
    refine ⟨_, rfl, rfl, ?_⟩
    have hp := plc_at K 1018 3 f (by omega) (by omega) rfl hK
    rw [show (1016 + 3) * 4503599627370496 + f = s by omega, show (4503599627370496 + f + 2 ^ (52 - 3)) / 2 ^ (53 - 3) = j by simp only [Nat.reducePow, Nat.reduceSub]; omega] at hp
    rw [hp]
    have hc := conv_all 2 (by omega) j (by omega) (by simp only [Nat.reducePow]; omega) (by simp only [Nat.reduceAdd, Nat.reducePow]; omega)
    simp only [Nat.reducePow, Nat.reduceSub, Nat.reduceAdd, Nat.reduceMul] at hc ⊢
    exact hc
  by_cases h6 : s < 4598175219545276416
  · obtain ⟨f, hf⟩ : ∃ f, f = s - 1020 * 4503599627370496 := ⟨_, rfl⟩
    obtain ⟨j, hj⟩ : ∃ j, j = (4503599627370496 + f + 281474976710656) / 562949953421312 := ⟨_, rfl⟩
    refine (mround_3 _ f j (by omega) (by omega) hj w).mono ?_
    rintro en w' ⟨rfl, rfl⟩
    refine ⟨_, rfl, rfl, ?_⟩
    have hp := plc_at K 1019 4 f (by omega) (by omega) rfl hK
    rw [show (1016 + 4) * 4503599627370496 + f = s by omega, show (4503599627370496 + f + 2 ^ (52 - 4)) / 2 ^ (53 - 4) = j by simp only [Nat.reducePow, Nat.reduceSub]; omega] at hp
    rw [hp]
    have hc := conv_all 3 (by omega) j (by omega) (by simp only [Nat.reducePow]; omega) (by simp only [Nat.reduceAdd, Nat.reducePow]; omega)
    simp only [Nat.reducePow, Nat.reduceSub, Nat.reduceAdd, Nat.reduceMul] at hc ⊢
    exact hc
  by_cases h7 : s < 4602678819172646912
  · obtain ⟨f, hf⟩ : ∃ f, f = s - 1021 * 4503599627370496 := ⟨_, rfl⟩
    obtain ⟨j, hj⟩ : ∃ j, j = (4503599627370496 + f + 140737488355328) / 281474976710656 := ⟨_, rfl⟩
    refine (mround_4 _ f j (by omega) (by omega) hj w).mono ?_
    rintro en w' ⟨rfl, rfl⟩
    refine ⟨_, rfl, rfl, ?_⟩
    have hp := plc_at K 1020 5 f (by omega) (by omega) rfl hK
    rw [show (1016 + 5) * 4503599627370496 + f = s by omega, show (4503599627370496 + f + 2 ^ (52 - 5)) / 2 ^ (53 - 5) = j by simp only [Nat.reducePow, Nat.reduceSub]; omega] at hp
    rw [hp]
    have hc := conv_all 4 (by omega) j (by omega) (by simp only [Nat.reducePow]; omega) (by simp only [Nat.reduceAdd, Nat.reducePow]; omega)
    simp only [Nat.reducePow, Nat.reduceSub, Nat.reduceAdd, Nat.reduceMul] at hc ⊢
    exact hc
  · obtain ⟨f, hf⟩ : ∃ f, f = s - 1022 * 4503599627370496 := ⟨_, rfl⟩
    obtain ⟨j, hj⟩ : ∃ j, j = (4503599627370496 + f + 70368744177664) / 140737488355328 := ⟨_, rfl⟩
    refine (mround_5 _ f j (by omega) (by omega) hj w).mono ?_
    rintro en w' ⟨rfl, rfl⟩
    refine ⟨_, rfl, rfl, ?_⟩
    have hp := plc_at K 1021 6 f (by omega) (by omega) rfl hK
    rw [show (1016 + 6) * 4503599627370496 + f = s by omega, show (4503599627370496 + f + 2 ^ (52 - 6)) / 2 ^ (53 - 6) = j by simp only [Nat.reducePow, Nat.reduceSub]; omega] at hp
    rw [hp]
    have hc := conv_all 5 (by omega) j (by omega) (by simp only [Nat.reducePow]; omega) (by simp only [Nat.reduceAdd, Nat.reducePow]; omega)
    simp only [Nat.reducePow, Nat.reduceSub, Nat.reduceAdd, Nat.reduceMul] at hc ⊢
    exact hc
theorem place_c (x : Nat) (hx : x < 18446744073709551616) (hc : 9218868437227405312 ≤ x % 9223372036854775808) (w : World) :
    Calls Tryd.prog 5 #[Fv x] w fun en w' => en = .returned (.tuple #[.int .i64 0, .int .i64 6]) ∧ Below w.heap.size w w' := by
  have HA := mabs x hx
  have HN := isnan x hx
  have HI := isinf x hx
  obtain ⟨s, hs⟩ : ∃ s, s = x % 9223372036854775808 := ⟨_, rfl⟩
  rw [← hs] at HA HN HI
  have hn : ∃ n i : Bool, decide (9218868437227405312 < s) = n ∧ decide (s = 9218868437227405312) = i ∧ (n = true ∨ i = true) := ⟨_, _, rfl, rfl, by simp; omega⟩
  obtain ⟨n, i, hn1, hn2, hni⟩ := hn
  rw [hn1] at HN
  rw [hn2] at HI
  clear hs hc hn1 hn2
  go_enter Tryd.func5, Tryd.ntmps5
  go_wp2_with fail
  have hbw : Below w.heap.size w w := Below.refl _ _
  refine (HA _).mono ?_
  rintro e v9 ⟨rfl, hw⟩
  obtain rfl := hw.symm
  clear hw
  go_wp2_with fail
  refine (HN _).mono ?_
  rintro e v9 ⟨rfl, hw⟩
  obtain rfl := hw.symm
  clear hw
  cases n with
  | true =>
    go_wp2_with fail
    go_ret2
    exact ⟨rfl, hbw⟩
  | false =>
    obtain rfl : i = true := by rcases hni with h | h; (cases h); exact h
    clear hni
    go_wp2_with fail
    refine (HI _).mono ?_
    rintro e v9 ⟨rfl, hw⟩
    obtain rfl := hw.symm
    clear hw
    go_wp2_with fail
    go_ret2
    exact ⟨rfl, hbw⟩
theorem place_l (x : Nat) (hx : x < 18446744073709551616) (hc : x % 9223372036854775808 < 9218868437227405312) (hl : 4605493568939753472 < x % 9223372036854775808) (w : World) :
    Calls Tryd.prog 5 #[Fv x] w fun en w' => en = .returned (.tuple #[.int .i64 0, .int .i64 5]) ∧ Below w.heap.size w w' := by
  have HA := mabs x hx
  have HN := isnan x hx
  have HI := isinf x hx
  obtain ⟨s, hs⟩ : ∃ s, s = x % 9223372036854775808 := ⟨_, rfl⟩
  rw [← hs] at HA HN HI
  have ho := order_top s (by omega)
  rw [decide_eq_false (show ¬ 9218868437227405312 < s by omega)] at HN
  rw [decide_eq_false (show ¬ s = 9218868437227405312 by omega)] at HI
  rw [if_neg (by omega), if_neg (by omega)] at ho
  have hbw : Below w.heap.size w w := Below.refl _ _
  clear hs hc hl
  go_enter Tryd.func5, Tryd.ntmps5
  go_wp2_with fail
  refine (HA _).mono ?_
  rintro e v9 ⟨rfl, hw⟩
  obtain rfl := hw.symm
  clear hw
  go_wp2_with fail
  refine (HN _).mono ?_
  rintro e v9 ⟨rfl, hw⟩
  obtain rfl := hw.symm
  clear hw
  go_wp2_with fail
  refine (HI _).mono ?_
  rintro e v9 ⟨rfl, hw⟩
  obtain rfl := hw.symm
  clear hw
  go_wp2_with fail
  go_ret2
  exact ⟨rfl, hbw⟩
theorem place_ok {K : Nat} (hK : K = 1074) (x : Nat) (hx : x < 18446744073709551616) (hl : x % 9223372036854775808 ≤ 4605493568939753472) (w : World) :
    Calls Tryd.prog 5 #[Fv x] w fun en w' => en = .returned (.tuple #[.int .i64 (plcN K (x % 9223372036854775808) : Int), .int .i64 0]) ∧ Below w.heap.size w w' := by
  have HA := mabs x hx
  have HN := isnan x hx
  have HI := isinf x hx
  obtain ⟨s, hs⟩ : ∃ s, s = x % 9223372036854775808 := ⟨_, rfl⟩
  rw [← hs] at HA HN HI
  have ho := order_top s (by omega)
  rw [decide_eq_false (show ¬ 9218868437227405312 < s by omega)] at HN
  rw [decide_eq_false (show ¬ s = 9218868437227405312 by omega)] at HI
  have ho2 : (∃ o, FloatKind.f64.format.order s 4605493568939753472 = some o ∧ (o = .lt ∨ o = .eq)) := by
    by_cases h : s < 4605493568939753472
    · rw [if_pos h] at ho; exact ⟨_, ho, .inl rfl⟩
    · rw [if_neg h, if_pos (by omega)] at ho; exact ⟨_, ho, .inr rfl⟩
  clear ho
  obtain ⟨o, ho, hoo⟩ := ho2
  have HR := mround_all hK s (by omega)
  have hm := mul64 s (by omega)
  rw [← hs]
  obtain ⟨q, hq⟩ : ∃ q, q = plcN K s := ⟨_, rfl⟩
  rw [← hq]
  rw [← hq] at HR
  generalize rg 0 (64 * vs 4503599627370496 s) = P at HR hm
  have fm : ∀ w, (binOp .mul 28 (Fv 4634204016564240384) (Fv s)).run Tryd.prog w = .ok (Fv P) w := fun w => run_float_arith w .mul 28 .f64 4634204016564240384 s P hm
  have hbw : Below w.heap.size w w := Below.refl _ _
  clear hs hl hq hm hK
  go_enter Tryd.func5, Tryd.ntmps5
  go_wp2_with fail
  refine (HA _).mono ?_
  rintro e v9 ⟨rfl, hw⟩
  obtain rfl := hw.symm
  clear hw
  go_wp2_with fail
  refine (HN _).mono ?_
  rintro e v9 ⟨rfl, hw⟩
  obtain rfl := hw.symm
  clear hw
  go_wp2_with fail
  refine (HI _).mono ?_
  rintro e v9 ⟨rfl, hw⟩
  obtain rfl := hw.symm
  clear hw
  rcases hoo with rfl | rfl
  · go_wp2_with fail
    refine (HR _).mono ?_
    rintro e v9 ⟨R, rfl, hw, hR⟩
    obtain rfl := hw.symm
    clear hw
    have hcv : ∀ w, (convert 28 3 (Fv R)).run Tryd.prog w = .ok (.int .i64 (q : Int)) w := fun w => run_convert_float_int w 28 3 .f64 .i64 R (q : Int) (by kernel_rfl) Tryd.underlying3 hR
    go_wp2_with fail
    go_ret2
    exact ⟨rfl, hbw⟩
  · go_wp2_with fail
    refine (HR _).mono ?_
    rintro e v9 ⟨R, rfl, hw, hR⟩
    obtain rfl := hw.symm
    clear hw
    have hcv : ∀ w, (convert 28 3 (Fv R)).run Tryd.prog w = .ok (.int .i64 (q : Int)) w := fun w => run_convert_float_int w 28 3 .f64 .i64 R (q : Int) (by kernel_rfl) Tryd.underlying3 hR
    go_wp2_with fail
    go_ret2
    exact ⟨rfl, hbw⟩
theorem stF (w : World) (a : Addr) (b : Nat) : (store a (Fv b)).run Tryd.prog w = stored Tryd.prog w a (Fv b) .plain := run_store _ w a (Fv b) _ rfl
def SN : List Nat := [0, 0, 4580160454536392405, 13547579073368098678, 4584662954719242351, 13563949304181312226, 4586913746847464361, 13566418493652244858, 4589162157373738715, 13565635294520691561, 4590288195321689435, 13571915860097451659, 4591409928847315172, 4340058461531295770, 4592530015553861917, 4350074286710082760, 4593648181988224566, 13567934672008572987, 4594217887542005423, 13575801550145022373, 4594774641278281419, 4351741018788776849, 4595330026238453491, 13575806695459752374, 4595883906833248949, 4343065779550066627, 4596436147840664338, 4348722683634062205, 4596986614438977945, 4353223431030508715, 4597535172239664592, 13574744420402360258, 4598081687320204663, 13574233591919817400, 4598400622901027894, 13581162171891704500, 4598671637851060342, 4356212803758837748, 4598941432118424735, 4350852416605968391, 4599209939836720088, 4323523077633180570, 4599477095453637920, 4357271923058577069, 4599742833746965911, 4352666692703215819, 4600007089840510967, 13582162211903916717, 4600269799219937812, 13575796336720852686, 4600530897748519241, 4357413022124190944, 4600790321682794181, 13580214217610903384, 4601048007688129738, 13572214364228865741, 4601303892854183447, 13581416402800735513, 4601557914710261923, 4350934527179136935, 4601810011240572191, 13574689896800117400, 4602060120899361946, 4355214790318226842, 4602308182625945072, 13571467409308189309, 4602554135859608727, 4348745855762497699, 4602738369863522645, 13583657803099765505, 4602859148183212033, 13584816096337794294, 4602978782988901435, 4363303634146990465, 4603097245073468848, 4351425392996656264, 4603214505516095308, 4355590242459458906, 4603330535689325499, 4359101603699473614, 4603445307266056734, 13587258310203108016, 4603558792226454607, 4363824495314211675, 4603670962864793643, 13578651590041733032, 4603781791796221242, 13572694174990798784, 4603891251963443307, 13583961949702083845, 4603999316643329889, 4332702558478714268, 4604105959453439260, 13584475955338184753, 4604211154358458803, 4349496730363867543, 4604314875676561165, 4362137232034453386, 4604417098085674105, 13587040772166132762, 4604517796629662511, 13584747444859885030, 4604616946724421089, 13578607042041458003, 4604714524163876216, 13578955971649868450]
def TabSN (w : World) : Prop := ∀ j, j < 106 → w.cell? ⟨1, j, none⟩ = some (U (SN.getD j 0))
theorem TabSN.below {w w' : World} (h : TabSN w) (hb : Below w.heap.size w w') : TabSN w' := by
  intro j hj
  have h1 := h j hj
  have hl : 1 < w.heap.size := World.block_lt_of_cell? w _ h1
  exact (hb.cell (p := ⟨1, j, none⟩) hl).trans h1
def CN : List Nat := [4607182418800017408, 0, 4607181319310759071, 4360199296339566323, 4607178021111408595, 13583900207205620571, 4607172525007174047, 13580802267923385695, 4607164832339850451, 4360373087281693295, 4607154944987492207, 13577437272034865047, 4607142865363954587, 4360356363645614299, 4607128596418304433, 4354598035789022892, 4607112141634100179, 4362696058276736952, 4607093505028541395, 13570800116725065577, 4607072691151488040, 4362962654239356002, 4607049705084349686, 13586345316221922070, 4607024552438844956, 13584713310975483060, 4606997239355631511, 4354481718263263700, 4606967772502806894, 13574441066790794388, 4606936159074280607, 4358239809693653067, 4606902406788017825, 4363209716120537853, 4606866523884155164, 13568216631309222833, 4606828519122988968, 13582908836409922622, 4606788401782836611, 13583461530133150952, 4606746181657771328, 13584618491671399955, 4606701869055231132, 13584699945613158451, 4606655474793502401, 13571140830922498923, 4606607010199078750, 13586847198672795332, 4606556487103895826, 4347296784401157429, 4606503917842442716, 4363977163357160349, 4606449315248750656, 13584934786183195703, 4606392692653259782, 4359027992459594717, 4606334063879564703, 4361936029453593101, 4606273443241039662, 4351864918935878296, 4606210845537344132, 4357993302370877731, 4606146286050809694, 13574337134639884416, 4606079780542709072, 13585268877995206696, 4606011345249408245, 4355855762229825693, 4605940996878402574, 4347198757411991008, 4605868752604237902, 4348506336573684245, 4605794630064317638, 4355505676600721602, 4605718647354596837, 4362012674173089484, 4605640823025164333, 4353219448755111826, 4605561176075713999, 13584701159983126121, 4605479725950906245, 13583368851881006598, 4605396492535620884, 4361493040018204585, 4605311496150102525, 13583066472705394221, 4605224757544999671, 13578632912864623495, 4605136297896298752, 4361846053882066113, 4605046138800154310, 4355887936269445597, 4604954302267616605, 13577764333051586782, 4604860810719257935, 13577354343185313384, 4604765686979698975, 13576144875971963077, 4604668954272036472, 4360651779814366337, 4604570636212173661, 4355362127650550962, 4604470756803054778, 13572015408658218103, 4604369340428805087, 4360729798899938000]
def TabCN (w : World) : Prop := ∀ j, j < 106 → w.cell? ⟨2, j, none⟩ = some (U (CN.getD j 0))
theorem TabCN.below {w w' : World} (h : TabCN w) (hb : Below w.heap.size w w') : TabCN w' := by
  intro j hj
  have h1 := h j hj
  have hl : 2 < w.heap.size := World.block_lt_of_cell? w _ h1
  exact (hb.cell (p := ⟨2, j, none⟩) hl).trans h1
structure TabT (w : World) : Prop where
  s : TabSN w
  c : TabCN w
theorem TabT.below {w w' : World} (h : TabT w) (hb : Below w.heap.size w w') : TabT w' := ⟨h.s.below hb, h.c.below hb⟩
theorem tpair (h l : Nat) (w : World) :
    Calls Tryd.prog 21 #[.int .u64 (h : Int), .int .u64 (l : Int)] w fun en w' => en = .returned (.agg #[Fv h, Fv l]) ∧ Below w.heap.size w w' := by
  have hSF : ∀ (w : World) (a : Addr) (b : Nat), (store a (Fv b)).run Tryd.prog w = stored Tryd.prog w a (Fv b) .plain := stF
  have b1 : ∀ w, (callFunc 6 #[.int .u64 (h : Int)]).run Tryd.prog w = .ok (.value (Fv h)) w := fun w => frombits h w
  have b2 : ∀ w, (callFunc 6 #[.int .u64 (l : Int)]).run Tryd.prog w = .ok (.value (Fv l)) w := fun w => frombits l w
  go_enter Tryd.func21, Tryd.ntmps21
  go_wp2_with fail
  refine bodyPost_ret (v := .agg #[Fv h, Fv l]) (by rw [results_cell1 rfl]; go_simp) rfl ⟨rfl, below1 w _⟩
theorem results_cct {fn : Func} {p q a : Tmp} {t1 t2 : TypeId} (h : fn.results = #[.cell p t1, .cell q t2, .tmp a]) (tmps : Array Value) (P : Program) (w : World) :
    (results fn tmps).run P w = ((asAddr (tmps.getD p undef)).run P w).andThen fun x w₁ => ((loadVar t1 x).run P w₁).andThen fun v w₂ => ((asAddr (tmps.getD q undef)).run P w₂).andThen fun y w₃ => ((loadVar t2 y).run P w₃).andThen fun u w₄ => .ok (.tuple #[v, u, tmps.getD a undef]) w₄ := by
  simp only [results, h]
  simp [Sem.run_bind, Result.andThen]
theorem row_ok (j : Nat) (hj : j < 53) {a b c d : Nat} (ha : a = SN.getD (2 * j) 0) (hb : b = SN.getD (2 * j + 1) 0) (hc : c = CN.getD (2 * j) 0) (hd : d = CN.getD (2 * j + 1) 0) (w : World) (hT : TabT w) :
    Calls Tryd.prog 8 #[.int .i64 (j : Int)] w fun en w' => en = .returned (.tuple #[.agg #[Fv a, Fv b], .agg #[Fv c, Fv d], .int .i64 0]) ∧ Below w.heap.size w w' := by
  have hSF : ∀ (w : World) (a : Addr) (b : Nat), (store a (Fv b)).run Tryd.prog w = stored Tryd.prog w a (Fv b) .plain := stF
  have t1 := hT.s (2 * j) (by omega)
  have t2 := hT.s (2 * j + 1) (by omega)
  have t3 := hT.c (2 * j) (by omega)
  have t4 := hT.c (2 * j + 1) (by omega)
  rw [← ha] at t1
  rw [← hb] at t2
  rw [← hc] at t3
  rw [← hd] at t4
  obtain ⟨k0, hk0⟩ : ∃ k, k = 2 * j := ⟨_, rfl⟩
  obtain ⟨k1, hk1⟩ : ∃ k, k = 2 * j + 1 := ⟨_, rfl⟩
  rw [← hk0] at t1 t3
  rw [← hk1] at t2 t4
  have i1 : ¬ (j : Int) < 0 := by omega
  have i2 : ¬ (52 : Int) < (j : Int) := by omega
  have w0 : wrap64 (2 * (j : Int)) = (k0 : Int) := by simp only [wrap64]; omega
  have w1 : wrap64 ((k0 : Int) + 1) = (k1 : Int) := by simp only [wrap64]; omega
  have v0 : IntKind.i64.wrap (2 * (j : Int)) = (k0 : Int) := by simp [IntKind.wrap, IntKind.signed, IntKind.bits]; omega
  have v1 : IntKind.i64.wrap ((k0 : Int) + 1) = (k1 : Int) := by simp [IntKind.wrap, IntKind.signed, IntKind.bits]; omega
  have r0 : (0 : Int) ≤ (k0 : Int) := by omega
  have r1 : (k0 : Int) < 106 := by omega
  have r2 : (0 : Int) ≤ (k1 : Int) := by omega
  have r3 : (k1 : Int) < 106 := by omega
  have q1 : 1 < w.heap.size := World.block_lt_of_cell? w _ t1
  have q2 : 2 < w.heap.size := World.block_lt_of_cell? w _ t3
  have Q1 : Hid (1 < w.heap.size ∧ 2 < w.heap.size) := ⟨q1, q2⟩
  have T1 : Hid (∀ W, Below w.heap.size w W → W.cell? ⟨1, k0, none⟩ = some (U a)) := fun W h => (h.cell (p := ⟨1, k0, none⟩) q1).trans t1
  have T2 : Hid (∀ W, Below w.heap.size w W → W.cell? ⟨1, k1, none⟩ = some (U b)) := fun W h => (h.cell (p := ⟨1, k1, none⟩) q1).trans t2
  have T3 : Hid (∀ W, Below w.heap.size w W → W.cell? ⟨2, k0, none⟩ = some (U c)) := fun W h => (h.cell (p := ⟨2, k0, none⟩) q2).trans t3
  have T4 : Hid (∀ W, Below w.heap.size w W → W.cell? ⟨2, k1, none⟩ = some (U d)) := fun W h => (h.cell (p := ⟨2, k1, none⟩) q2).trans t4
  clear ha hb hc hd hk0 hk1 hj hT t1 t2 t3 t4 q1 q2
  go_enter Tryd.func8, Tryd.ntmps8
  go_wp2_with fail
  obtain ⟨W0, hW0⟩ : ∃ W0, W0 = ((w.alloc (.cells #[Fv 0, Fv 0] 34)).alloc (.cells #[Fv 0, Fv 0] 34)) := ⟨_, rfl⟩
  have Xr : Hid (Box W0 (w.heap.size) (Fv 0) (Fv 0)) := by rw [hW0]; exact ⟨by go_simp, by go_simp, by go_simp, by go_simp⟩
  have Xq : Hid (Box W0 (w.heap.size + 1) (Fv 0) (Fv 0)) := by rw [hW0]; exact ⟨by go_simp, by go_simp, by go_simp, by go_simp⟩
  have hb0 : Below w.heap.size w W0 := by rw [hW0]; exact below2 w _ _
  rw [← hW0]
  clear hW0
  have hbw : Below w.heap.size w w := Below.refl _ _
  obtain ⟨gq, hgq⟩ : ∃ g, g = w.heap.size + 1 := ⟨_, rfl⟩
  have HGq : Hid (w.heap.size ≤ gq) := by rw [hgq]; show _ ≤ _; omega
  rw [← hgq] at Xq
  try rw [← hgq]
  obtain ⟨gr, hgr⟩ : ∃ g, g = w.heap.size := ⟨_, rfl⟩
  have HGr : Hid (w.heap.size ≤ gr) := by rw [hgr]; show _ ≤ _; omega
  rw [← hgr] at Xr
  try rw [← hgr]
  have HGD : Hid (gr ≠ gq ∧ gq ≠ gr) := by rw [hgr, hgq]; exact ⟨by omega, by omega⟩
  clear hgr hgq
  replace hbw := Below.on hbw hb0
  clear hb0
  obtain ⟨V1, hV1⟩ : ∃ W1, W1 = W0.drew := ⟨_, rfl⟩
  have hbd : Below W0.heap.size W0 V1 := by rw [hV1]; exact bDrew1 (Below.refl _ _)
  replace Xr : Hid _ := Xr.out.below hbd
  replace Xq : Hid _ := Xq.out.below hbd
  replace hbw := Below.on hbw hbd
  clear hbd
  have HJ : Hid ((fun W' : World => W'.cell? ⟨1, k0, none⟩ = some (U a) ∧ W'.cell? ⟨1, k1, none⟩ = some (U b) ∧ W'.cell? ⟨2, k0, none⟩ = some (U c) ∧ W'.cell? ⟨2, k1, none⟩ = some (U d)) V1) := ⟨T1.out _ hbw, T2.out _ hbw, T3.out _ hbw, T4.out _ hbw⟩
  refine wp_region_J (fun W' => W'.cell? ⟨1, k0, none⟩ = some (U a) ∧ W'.cell? ⟨1, k1, none⟩ = some (U b) ∧ W'.cell? ⟨2, k0, none⟩ = some (U c) ∧ W'.cell? ⟨2, k1, none⟩ = some (U d)) (by kernel_rfl) ?_
  rw [← hV1]
  clear hV1
  refine wpJ_tq 0 rfl HJ.out ?_
  refine wpJ_tq 1 rfl HJ.out ?_
  refine wpJ_tq 2 rfl HJ.out ?_
  refine wpJ_tq 3 rfl HJ.out ?_
  refine wpJ_tq 4 rfl HJ.out ?_
  go_simp
  refine wpJ_tq 5 rfl HJ.out ?_
  refine wpJ_tq 6 rfl HJ.out ?_
  refine wpJ_tq 7 rfl HJ.out ?_
  refine wpJ_tq 8 rfl HJ.out ?_
  refine wpJ_tq 10 rfl HJ.out ?_
  go_simp
  refine wpJ_tq 11 rfl HJ.out ?_
  refine wpJ_tq 12 rfl HJ.out ?_
  refine wpJ_tq 13 rfl HJ.out ?_
  refine wpJ_tq 14 rfl HJ.out ?_
  refine wpJ_tq 15 rfl HJ.out ?_
  go_simp
  refine wpJ_tq 16 rfl HJ.out ?_
  refine wpJ_tq 17 rfl HJ.out ?_
  refine wpJ_tq 18 rfl HJ.out ?_
  refine wpJ_on 9 rfl fun KJ hK => ?_
  go_simp
  refine (tpair a b _).mono ?_
  rintro e v1 ⟨rfl, hb1⟩
  replace Xr : Hid _ := Xr.out.below hb1
  replace Xq : Hid _ := Xq.out.below hb1
  replace hbw := Below.on hbw hb1
  clear hb1
  refine hK _ _ ⟨T1.out _ hbw, T2.out _ hbw, T3.out _ hbw, T4.out _ hbw⟩ ?_
  clear hK
  refine wpJ_on 19 rfl fun KJ hK => ?_
  go_simp
  refine (tpair c d _).mono ?_
  rintro e v2 ⟨rfl, hb2⟩
  replace Xr : Hid _ := Xr.out.below hb2
  replace Xq : Hid _ := Xq.out.below hb2
  replace hbw := Below.on hbw hb2
  clear hb2
  refine hK _ _ ⟨T1.out _ hbw, T2.out _ hbw, T3.out _ hbw, T4.out _ hbw⟩ ?_
  clear hK
  obtain ⟨cr0, cr1, fr0, fr1⟩ := Xr.out
  have hner := Xr.out.lt
  obtain ⟨cq0, cq1, fq0, fq1⟩ := Xq.out
  have hneq := Xq.out.lt
  obtain ⟨hgd0, hgd1⟩ := HGD.out
  have z1 := T1.out _ hbw
  have z2 := T2.out _ hbw
  have z3 := T3.out _ hbw
  have z4 := T4.out _ hbw
  have hz1 : 1 ≠ gr := by have := HGr.out; have := Q1.out.1; omega
  have hz2 : 2 ≠ gr := by have := HGr.out; have := Q1.out.2; omega
  have hz3 : 1 ≠ gq := by have := HGq.out; have := Q1.out.1; omega
  have hz4 : 2 ≠ gq := by have := HGq.out; have := Q1.out.2; omega
  have hz5 := hz1.symm
  have hz6 := hz2.symm
  have hz7 := hz3.symm
  have hz8 := hz4.symm
  refine wpJ_on 20 rfl fun KJ hK => ?_
  go_simp
  have HJ2 : Hid ((fun W' : World => W'.cell? ⟨1, k0, none⟩ = some (U a) ∧ W'.cell? ⟨1, k1, none⟩ = some (U b) ∧ W'.cell? ⟨2, k0, none⟩ = some (U c) ∧ W'.cell? ⟨2, k1, none⟩ = some (U d)) ((v2.setCell ⟨gr, 0, none⟩ (Fv a)).setCell ⟨gr, 1, none⟩ (Fv b))) := ⟨by go_simp, by go_simp, by go_simp, by go_simp⟩
  refine hK _ _ HJ2.out ?_
  clear hK HJ
  have HJ := HJ2
  clear HJ2
  refine wpJ_on 21 rfl fun KJ hK => ?_
  go_simp
  have HJ2 : Hid ((fun W' : World => W'.cell? ⟨1, k0, none⟩ = some (U a) ∧ W'.cell? ⟨1, k1, none⟩ = some (U b) ∧ W'.cell? ⟨2, k0, none⟩ = some (U c) ∧ W'.cell? ⟨2, k1, none⟩ = some (U d)) ((((v2.setCell ⟨gr, 0, none⟩ (Fv a)).setCell ⟨gr, 1, none⟩ (Fv b)).setCell ⟨gq, 0, none⟩ (Fv c)).setCell ⟨gq, 1, none⟩ (Fv d))) := ⟨by go_simp, by go_simp, by go_simp, by go_simp⟩
  refine hK _ _ HJ2.out ?_
  clear hK HJ
  have HJ := HJ2
  clear HJ2
  refine wpJ_tq 22 rfl HJ.out ?_
  refine wpJ_done (by kernel_rfl) ?_ _
  clear HJ
  go_wp2_with fail
  refine bodyPost_ret (v := .tuple #[.agg #[Fv a, Fv b], .agg #[Fv c, Fv d], .int .i64 0]) (by rw [results_cct rfl]; go_simp) rfl ⟨rfl, ?_⟩
  exact bSet (bSet (bSet (bSet (hbw) _ _ _ HGr.out) _ _ _ HGr.out) _ _ _ HGq.out) _ _ _ HGq.out
theorem bwDrewN {B : Nat} {a w : World} (h : Below B a w) (r : Nat) : Below B a (w.drewN r) := ⟨h.os, h.tape, h.output, h.size, h.block⟩
theorem B5q.drewN {W : World} {g : Nat} {v0 v1 v2 v3 v4 : Value} (h : B5q W g v0 v1 v2 v3 v4) (r : Nat) : B5q (W.drewN r) g v0 v1 v2 v3 v4 := ⟨h.c0, h.c1, h.c2, h.c3, h.c4, h.f0, h.f1, h.f2, h.f3, h.f4⟩
abbrev FV (S : Nat) (P E G : Int) (I Q : Nat) : Value := .agg #[U S, .int .i64 P, .int .i64 E, .int .i64 G, U I, U Q]
structure B6q (W : World) (g : Nat) (v0 v1 v2 v3 v4 v5 : Value) : Prop where
  c0 : W.cell? ⟨g, 0, none⟩ = some v0
  c1 : W.cell? ⟨g, 1, none⟩ = some v1
  c2 : W.cell? ⟨g, 2, none⟩ = some v2
  c3 : W.cell? ⟨g, 3, none⟩ = some v3
  c4 : W.cell? ⟨g, 4, none⟩ = some v4
  c5 : W.cell? ⟨g, 5, none⟩ = some v5
  f0 : W.frozen? ⟨g, 0, none⟩ = false
  f1 : W.frozen? ⟨g, 1, none⟩ = false
  f2 : W.frozen? ⟨g, 2, none⟩ = false
  f3 : W.frozen? ⟨g, 3, none⟩ = false
  f4 : W.frozen? ⟨g, 4, none⟩ = false
  f5 : W.frozen? ⟨g, 5, none⟩ = false
theorem B6q.below {W W' : World} {g : Nat} {v0 v1 v2 v3 v4 v5 : Value} (h : B6q W g v0 v1 v2 v3 v4 v5) (hb : Below W.heap.size W W') : B6q W' g v0 v1 v2 v3 v4 v5 := by
  have hl : g < W.heap.size := World.block_lt_of_cell? W _ h.c0
  exact ⟨(hb.cell (p := ⟨g, 0, none⟩) hl).trans h.c0, (hb.cell (p := ⟨g, 1, none⟩) hl).trans h.c1, (hb.cell (p := ⟨g, 2, none⟩) hl).trans h.c2, (hb.cell (p := ⟨g, 3, none⟩) hl).trans h.c3, (hb.cell (p := ⟨g, 4, none⟩) hl).trans h.c4, (hb.cell (p := ⟨g, 5, none⟩) hl).trans h.c5, (hb.frozen (p := ⟨g, 0, none⟩) hl).trans h.f0, (hb.frozen (p := ⟨g, 1, none⟩) hl).trans h.f1, (hb.frozen (p := ⟨g, 2, none⟩) hl).trans h.f2, (hb.frozen (p := ⟨g, 3, none⟩) hl).trans h.f3, (hb.frozen (p := ⟨g, 4, none⟩) hl).trans h.f4, (hb.frozen (p := ⟨g, 5, none⟩) hl).trans h.f5⟩
theorem B6q.new (w : World) (ty : TypeId) (v0 v1 v2 v3 v4 v5 : Value) : B6q (w.alloc (.cells #[v0, v1, v2, v3, v4, v5] ty)) w.heap.size v0 v1 v2 v3 v4 v5 :=
  ⟨by go_simp, by go_simp, by go_simp, by go_simp, by go_simp, by go_simp, by go_simp, by go_simp, by go_simp, by go_simp, by go_simp, by go_simp⟩
theorem B6q.lt {W : World} {g : Nat} {v0 v1 v2 v3 v4 v5 : Value} (h : B6q W g v0 v1 v2 v3 v4 v5) : g < W.heap.size := World.block_lt_of_cell? W _ h.c0
theorem B6q.drew {W : World} {g : Nat} {v0 v1 v2 v3 v4 v5 : Value} (h : B6q W g v0 v1 v2 v3 v4 v5) : B6q W.drew g v0 v1 v2 v3 v4 v5 := ⟨h.c0, h.c1, h.c2, h.c3, h.c4, h.c5, h.f0, h.f1, h.f2, h.f3, h.f4, h.f5⟩
theorem rof_64 (w : World) : Calls Tryd.prog 23 #[.int .i64 64] w fun e w' => e = .returned (.tuple #[FV 9223372036854775808 53 (-1074) 971 9218868437227405312 9221120237041090561, .bool true]) ∧ Below w.heap.size w w' := by
  go_enter Tryd.func23, Tryd.ntmps23
  go_wp2_with fail
  refine bodyPost_ret (v := .tuple #[FV 9223372036854775808 53 (-1074) 971 9218868437227405312 9221120237041090561, .bool true]) (by rw [results_ct rfl]; go_simp) rfl ⟨rfl, ?_⟩
  exact bwAlloc w _
theorem cut_any {S I Q : Nat} {P E G : Int} (h0 : 0 < S) (hS : S ≤ 9223372036854775808) (b : Nat) (w : World) : Calls Tryd.prog 24 #[FV S P E G I Q, U b] w fun e w' => e = .returned (.tuple #[.bool (decide (S ≤ b)), U (b % S)]) ∧ Below w.heap.size w w' := by
  obtain ⟨z, hz⟩ : ∃ z, z = b % S := ⟨_, rfl⟩
  obtain ⟨s, hs⟩ : ∃ s, s = decide (S ≤ b) := ⟨_, rfl⟩
  have hzl : z < S := by rw [hz]; exact Nat.mod_lt _ h0
  have hd : (b : Int).tmod S = (z : Int) := by rw [Int.tmod_eq_emod_of_nonneg (by omega), hz]; rfl
  have hwz : IntKind.u64.wrap (z : Int) = (z : Int) := by rw [IntKind.wrap_u64]; omega
  have hs0 : ((S : Int) == 0) = false := by simp; omega
  have hs1 : ¬ S = 0 := by omega
  have hs2 : decide ((S : Int) ≤ (b : Int)) = s := by rw [hs]; by_cases h : S ≤ b <;> simp [h]
  have hs3 : decide (S ≤ b) = s := hs.symm
  rw [← hz, hs3]
  clear hz hs hzl h0 hS
  go_enter Tryd.func24, Tryd.ntmps24
  go_wp2_with fail
  go_quiet (fail)
  go_wp2_with fail
  go_ret2
  exact ⟨rfl, bwDrewN (bwAlloc w _) _⟩
structure RSubR (w : World) (g N : Nat) (xs ys : List Nat) (i ow : Nat) (ss : List Nat) (wr : World) : Prop where
  bel : Below g w wr
  own : wr.ownsRow g 74 1 (.slice (some ⟨g, 0, none⟩) i N) i (cellsV ss)
  len : ss.length = i
  dig : Dig B32 ss
  car : ow ≤ 1
  sum : valB B32 ss + valB B32 (ys.take i) = valB B32 (xs.take i) + B32 ^ i * ow
theorem rsub_step {xs ys ss : List Nat} {i ow x y lo o2 : Nat} (h : valB B32 ss + valB B32 (ys.take i) = valB B32 (xs.take i) + B32 ^ i * ow) (hl : ss.length = i) (ex : x = xs.getD i 0) (ey : y = ys.getD i 0) (hs : lo + ow + y = x + B32 * o2) :
    valB B32 (ss ++ [lo]) + valB B32 (ys.take (i + 1)) = valB B32 (xs.take (i + 1)) + B32 ^ (i + 1) * o2 := by
  rw [valB_snoc, hl, valB_take_any _ xs i, valB_take_any _ ys i, ← ex, ← ey, Nat.pow_succ]
  have e1 : B32 ^ i * (lo + ow + y) = B32 ^ i * (x + B32 * o2) := by rw [hs]
  rw [Nat.mul_add, Nat.mul_add, Nat.mul_add, ← Nat.mul_assoc] at e1
  omega
theorem RSubR.at_ {w : World} {g N : Nat} {xs ys : List Nat} {i cy : Nat} {ss : List Nat} {wr : World} (h : RSubR w g N xs ys i cy ss wr) : At32 wr (some ⟨g, 0, none⟩) i N ss := by
  rcases h.own.2 with ⟨h', _⟩ | ⟨g', cap', cur, h', hbase, hgc, hcap', hmx, hsz, htake⟩
  · simp at h'
  · simp only [Value.slice.injEq, Option.some.injEq, Addr.mk.injEq, and_true, true_and] at h'
    obtain ⟨rfl, rfl⟩ := h'
    refine ⟨h.len, hcap', hmx, h.dig, .inr ⟨g, 0, rfl, fun jj hj => ?_⟩⟩
    rw [Nat.zero_add, cell_of_row wr g jj _ _ _ hgc]
    have e1 := cellsV_get ss jj (by rw [h.len]; exact hj)
    rw [← htake, Nat.mul_one, List.getElem?_take, if_pos hj] at e1
    rw [← Array.getElem?_toList]; exact e1

theorem rsub_gt {p q : Option Addr} {n m c d : Nat} {xs ys : List Nat} {a b : Nat} {w : World} (h : At32 w p n c xs) (k : At32 w q m d ys) (hx : Nf B32 xs a) (hy : Nf B32 ys b) (hn : n ≤ 4398046511104) (hlt : b < a) :
    Calls Tryd.prog 34 #[.slice p n c, .slice q m d] w fun e w' => ∃ p' m' zs, e = .returned (.slice p' m' m') ∧ At32 w' p' m' m' zs ∧ Nf B32 zs (a - b) ∧ m' ≤ n ∧ Below w.heap.size w w' := by
  obtain ⟨i0, hi, hz0, hz1, hz2⟩ := info_parts Tryd.infoU32
  have HX : Hid (Nf B32 xs a) := hx
  have HY : Hid (Nf B32 ys b) := hy
  have HLX : Hid (xs.length = n) := h.len
  have HLY : Hid (ys.length = m) := k.len
  have HLT : Hid (b < a) := hlt
  have hmn : m ≤ n := by
    rcases Nat.lt_or_ge n m with e | e
    · exfalso
      have h1 := nf32_lt hx (K := n) (by rw [h.len]; exact Nat.le_refl _)
      have h2 := nf32_ge hy (K := n) (by rw [k.len]; exact e)
      omega
    · exact e
  have hcap := h.cap; have hbig := h.big; have kcap := k.cap; have kbig := k.big
  unfold maxLen at hbig kbig
  have HA : Hid (At32 w p n c xs) := h
  have HB : Hid (At32 w q m d ys) := k
  clear hx hy h k hlt
  go_enter Tryd.func34, Tryd.ntmps34
  go_wp2_with fail
  refine (rcmp_any HA.out HB.out HX.out HY.out).mono ?_
  rintro e w' ⟨rfl, r, rfl⟩
  rw [cmpN_gt HLT.out]
  have h := HA.out.drewN r
  have k := HB.out.drewN r
  have hb0 : Below w.heap.size w (w.drewN r) := bDrewN (Below.refl _ _) r
  clear HA HB
  generalize w.drewN r = w0 at *
  go_wp2_with (at_make; refine wpList_make_own _ rfl _ _ 43 rfl w0.heap.size 74 i0 (.int .u32 0) 1 Tryd.underlying43 hi hz0 hz1 _ _ _ n rfl rfl (by omega) (by rw [hz2]; omega) (by unfold maxLen; omega) (Nat.le_refl _) ?_; intro w1 hown hgrow)
  have hb1 : Below w0.heap.size w0 w1 := (Below.refl _ _).grown hgrow (Nat.le_refl _) (fun k hk => by simp at hk)
  have HO : Hid (RSubR w0 w0.heap.size n xs ys 0 0 [] w1) := ⟨hb1, hown, rfl, Dig.nil _, by omega, by simp [valB]⟩
  clear hown hgrow hb1
  go_loopg [5, 6, 7] n (fun gk sv ov iv wr => ∃ (i ow : Nat) (ss : List Nat), i + gk = n ∧ iv = .int .i64 i ∧ ov = U ow ∧ sv = .slice (some ⟨w0.heap.size, 0, none⟩) i n ∧ Hid (RSubR w0 w0.heap.size n xs ys i ow ss wr))
  case atStart => exact ⟨0, 0, [], by omega, rfl, rfl, rfl, HO⟩
  case round =>
    obtain ⟨i, ow, ss, hig, rfl, rfl, rfl, HR⟩ := hrel
    have how := HR.out.car
    cases gk with
    | zero =>
      obtain rfl : i = n := by omega
      have A32 := HR.out.at_
      have hv := HR.out.sum
      rw [List.take_of_length_le (l := ys) (by rw [HLY.out]; omega), List.take_of_length_le (l := xs) (by rw [HLX.out]; omega), HX.out.val, HY.out.val] at hv
      have hvl := valB_lt B32_pos HR.out.dig
      rw [HR.out.len] at hvl
      have hsv : valB B32 ss = a - b := sub_abs hv hvl how (Nat.le_of_lt HLT.out)
      have HNF : Hid (Nf B32 (trimL ss) (a - b)) := by
        have := Nf.trim HR.out.dig
        rw [hsv] at this; exact this
      have hle := trimL_length_le ss
      have HLE : Hid ((trimL ss).length ≤ i) := by have := HR.out.len; show _ ≤ _; omega
      have hbx := HR.out.bel
      have hni : ¬ (i : Int) < (i : Int) := by omega
      clear hv hle hvl hsv
      go_wp2_with fail
      refine (rnorm_any A32 (by omega)).mono ?_
      rintro e w5 ⟨g5, rfl, hg5, hblk5, hb5⟩
      have hd5 := HNF.out.dig
      generalize trimL ss = zs at *
      go_wp2_with fail
      go_ret
      exact ⟨_, _, zs, rfl, hblk5.at_ hd5 rfl (by have := HLE.out; unfold maxLen; omega), HNF.out, HLE.out, Below.on hb0 (Below.on hbx hb5)⟩
    | succ gg =>
      obtain ⟨x, hx⟩ : ∃ x, x = xs.getD i 0 := ⟨_, rfl⟩
      obtain ⟨y, hy⟩ : ∃ y, y = ys.getD i 0 := ⟨_, rfl⟩
      have hxb : x < B32 := by rw [hx]; exact HX.out.dig.getD B32_pos i
      have hyb : y < B32 := by rw [hy]; exact HY.out.dig.getD B32_pos i
      have HXE : Hid (x = xs.getD i 0) := hx
      have HYE : Hid (y = ys.getD i 0) := hy
      have hin : i < n := by omega
      obtain ⟨g, off, rfl, hc⟩ := h.cells.resolve_left (by omega)
      have hcx0 : w0.cell? ⟨g, off + i, none⟩ = some (V x) := by rw [HXE.out]; exact hc i hin
      have hcx : wr.cell? ⟨g, off + i, none⟩ = some (V x) := (HR.out.bel.cell (p := ⟨g, off + i, none⟩) (World.block_lt_of_cell? w0 _ hcx0)).trans hcx0
      have hxw : IntKind.u64.wrap (x : Int) = (x : Int) := wrap_mod _ _ (by rw [B32_eq] at hxb; omega)
      have hyw : IntKind.u64.wrap (y : Int) = (y : Int) := wrap_mod _ _ (by rw [B32_eq] at hyb; omega)
      rw [B32_eq] at hxb hyb
      have hsp : i + 1 ≤ n := by omega
      clear hc hcx0 hx hy
      by_cases hb : i < m
      · have him : i < m := hb
        obtain ⟨g2, off2, rfl, hc2⟩ := k.cells.resolve_left (by omega)
        have hcy0 : w0.cell? ⟨g2, off2 + i, none⟩ = some (V y) := by rw [HYE.out]; exact hc2 i him
        have hcy1 : wr.cell? ⟨g2, off2 + i, none⟩ = some (V y) := (HR.out.bel.cell (p := ⟨g2, off2 + i, none⟩) (World.block_lt_of_cell? w0 _ hcy0)).trans hcy0
        clear hc2 hcy0
        obtain ⟨t, et⟩ : ∃ t, t = ow + y := ⟨_, rfl⟩
        have f1 : IntKind.u64.wrap ((ow : Int) + (y : Int)) = (t : Int) := wrap_mod _ _ (by omega)
        by_cases hu : x < t
        · obtain ⟨x2, ex2⟩ : ∃ x2, x2 = x + 4294967296 := ⟨_, rfl⟩
          have f2 : IntKind.u64.wrap ((x : Int) + 4294967296) = (x2 : Int) := wrap_mod _ _ (by omega)
          obtain ⟨lo, elo⟩ : ∃ lo, lo = x2 - t := ⟨_, rfl⟩
          have f3 : IntKind.u64.wrap ((x2 : Int) - (t : Int)) = (lo : Int) := wrap_mod _ _ (by omega)
          have hui : (x : Int) < (t : Int) := by omega
          have hlob : lo < B32 := by rw [B32_eq]; omega
          have f6 : IntKind.u32.wrap (lo : Int) = (lo : Int) := wrap32 lo hlob
          have f7 : (lo : Int) % 4294967296 = (lo : Int) := by rw [B32_eq] at hlob; omega
          have HSUM : Hid (lo + ow + y = x + B32 * 1) := by show _ = _; rw [B32_eq]; omega
          have HOA : Hid ((wr.alloc (.cells #[V lo] 74)).ownsRow w0.heap.size 74 1 (.slice (some ⟨w0.heap.size, 0, none⟩) i n) i (cellsV ss)) := HR.out.own.alloc _
          clear elo ex2 et hxb hyb
          go_wp2_with (at_builtin; refine wpList_append_fits _ rfl (.tmp 46) (.tmp 51) 43 rfl w0.heap.size 74 i0 1 Tryd.underlying43 hi hz1 w0.heap.size i n (cellsV ss) rfl HOA.out ⟨wr.heap.size, 0, none⟩ 1 1 [V lo] rfl rfl (one_cell wr lo) (by intro u hu; simp at hu; subst hu; rfl) hsp ?_; intro w3 hw3 hgr3)
          have HR3 : Hid (RSubR w0 w0.heap.size n xs ys (i + 1) 1 (ss ++ [lo]) w3) := by
            have hR := HR.out
            refine ⟨(hR.bel.alloc hR.bel.size _).grown hgr3 (by have := hR.bel.size; simp; omega) (fun q hq => by simp at hq; omega), ?_, by simp [hR.len], hR.dig.append (Dig.cons hlob (Dig.nil _)), by omega, rsub_step hR.sum hR.len HXE.out HYE.out HSUM.out⟩
            have e0 : cellsV (ss ++ [lo]) = cellsV ss ++ [V lo] := by unfold cellsV; rw [List.map_append]; rfl
            rw [e0]; exact hw3
          clear hw3 hgr3
          go_roundg gg
          case measure => omega
          case rel => exact ⟨i + 1, 1, ss ++ [lo], by omega, by go_num, rfl, rfl, HR3⟩
        · obtain ⟨lo, elo⟩ : ∃ lo, lo = x - t := ⟨_, rfl⟩
          have f3 : IntKind.u64.wrap ((x : Int) - (t : Int)) = (lo : Int) := wrap_mod _ _ (by omega)
          have hui : ¬ (x : Int) < (t : Int) := by omega
          have hlob : lo < B32 := by rw [B32_eq]; omega
          have f6 : IntKind.u32.wrap (lo : Int) = (lo : Int) := wrap32 lo hlob
          have f7 : (lo : Int) % 4294967296 = (lo : Int) := by rw [B32_eq] at hlob; omega
          have HSUM : Hid (lo + ow + y = x + B32 * 0) := by show _ = _; rw [B32_eq]; omega
          have HOA : Hid ((wr.alloc (.cells #[V lo] 74)).ownsRow w0.heap.size 74 1 (.slice (some ⟨w0.heap.size, 0, none⟩) i n) i (cellsV ss)) := HR.out.own.alloc _
          clear elo et hxb hyb
          go_wp2_with (at_builtin; refine wpList_append_fits _ rfl (.tmp 46) (.tmp 51) 43 rfl w0.heap.size 74 i0 1 Tryd.underlying43 hi hz1 w0.heap.size i n (cellsV ss) rfl HOA.out ⟨wr.heap.size, 0, none⟩ 1 1 [V lo] rfl rfl (one_cell wr lo) (by intro u hu; simp at hu; subst hu; rfl) hsp ?_; intro w3 hw3 hgr3)
          have HR3 : Hid (RSubR w0 w0.heap.size n xs ys (i + 1) 0 (ss ++ [lo]) w3) := by
            have hR := HR.out
            refine ⟨(hR.bel.alloc hR.bel.size _).grown hgr3 (by have := hR.bel.size; simp; omega) (fun q hq => by simp at hq; omega), ?_, by simp [hR.len], hR.dig.append (Dig.cons hlob (Dig.nil _)), by omega, rsub_step hR.sum hR.len HXE.out HYE.out HSUM.out⟩
            have e0 : cellsV (ss ++ [lo]) = cellsV ss ++ [V lo] := by unfold cellsV; rw [List.map_append]; rfl
            rw [e0]; exact hw3
          clear hw3 hgr3
          go_roundg gg
          case measure => omega
          case rel => exact ⟨i + 1, 0, ss ++ [lo], by omega, by go_num, rfl, rfl, HR3⟩
      · have hy0 : y = 0 := by rw [HYE.out, List.getD_eq_getElem?_getD, List.getElem?_eq_none (by rw [HLY.out]; omega)]; rfl
        have HY0 : Hid (y = 0) := hy0
        clear hy0
        by_cases hu : x < ow
        · obtain ⟨x2, ex2⟩ : ∃ x2, x2 = x + 4294967296 := ⟨_, rfl⟩
          have f2 : IntKind.u64.wrap ((x : Int) + 4294967296) = (x2 : Int) := wrap_mod _ _ (by omega)
          obtain ⟨lo, elo⟩ : ∃ lo, lo = x2 - ow := ⟨_, rfl⟩
          have f3 : IntKind.u64.wrap ((x2 : Int) - (ow : Int)) = (lo : Int) := wrap_mod _ _ (by omega)
          have hui : (x : Int) < (ow : Int) := by omega
          have hlob : lo < B32 := by rw [B32_eq]; omega
          have f6 : IntKind.u32.wrap (lo : Int) = (lo : Int) := wrap32 lo hlob
          have f7 : (lo : Int) % 4294967296 = (lo : Int) := by rw [B32_eq] at hlob; omega
          have HSUM : Hid (lo + ow + y = x + B32 * 1) := by have h0 := HY0.out; show _ = _; rw [B32_eq]; omega
          have HOA : Hid ((wr.alloc (.cells #[V lo] 74)).ownsRow w0.heap.size 74 1 (.slice (some ⟨w0.heap.size, 0, none⟩) i n) i (cellsV ss)) := HR.out.own.alloc _
          clear elo ex2 hxb hyb
          go_wp2_with (at_builtin; refine wpList_append_fits _ rfl (.tmp 46) (.tmp 51) 43 rfl w0.heap.size 74 i0 1 Tryd.underlying43 hi hz1 w0.heap.size i n (cellsV ss) rfl HOA.out ⟨wr.heap.size, 0, none⟩ 1 1 [V lo] rfl rfl (one_cell wr lo) (by intro u hu; simp at hu; subst hu; rfl) hsp ?_; intro w3 hw3 hgr3)
          have HR3 : Hid (RSubR w0 w0.heap.size n xs ys (i + 1) 1 (ss ++ [lo]) w3) := by
            have hR := HR.out
            refine ⟨(hR.bel.alloc hR.bel.size _).grown hgr3 (by have := hR.bel.size; simp; omega) (fun q hq => by simp at hq; omega), ?_, by simp [hR.len], hR.dig.append (Dig.cons hlob (Dig.nil _)), by omega, rsub_step hR.sum hR.len HXE.out HYE.out HSUM.out⟩
            have e0 : cellsV (ss ++ [lo]) = cellsV ss ++ [V lo] := by unfold cellsV; rw [List.map_append]; rfl
            rw [e0]; exact hw3
          clear hw3 hgr3
          go_roundg gg
          case measure => omega
          case rel => exact ⟨i + 1, 1, ss ++ [lo], by omega, by go_num, rfl, rfl, HR3⟩
        · obtain ⟨lo, elo⟩ : ∃ lo, lo = x - ow := ⟨_, rfl⟩
          have f3 : IntKind.u64.wrap ((x : Int) - (ow : Int)) = (lo : Int) := wrap_mod _ _ (by omega)
          have hui : ¬ (x : Int) < (ow : Int) := by omega
          have hlob : lo < B32 := by rw [B32_eq]; omega
          have f6 : IntKind.u32.wrap (lo : Int) = (lo : Int) := wrap32 lo hlob
          have f7 : (lo : Int) % 4294967296 = (lo : Int) := by rw [B32_eq] at hlob; omega
          have HSUM : Hid (lo + ow + y = x + B32 * 0) := by have h0 := HY0.out; show _ = _; rw [B32_eq]; omega
          have HOA : Hid ((wr.alloc (.cells #[V lo] 74)).ownsRow w0.heap.size 74 1 (.slice (some ⟨w0.heap.size, 0, none⟩) i n) i (cellsV ss)) := HR.out.own.alloc _
          clear elo hxb hyb
          go_wp2_with (at_builtin; refine wpList_append_fits _ rfl (.tmp 46) (.tmp 51) 43 rfl w0.heap.size 74 i0 1 Tryd.underlying43 hi hz1 w0.heap.size i n (cellsV ss) rfl HOA.out ⟨wr.heap.size, 0, none⟩ 1 1 [V lo] rfl rfl (one_cell wr lo) (by intro u hu; simp at hu; subst hu; rfl) hsp ?_; intro w3 hw3 hgr3)
          have HR3 : Hid (RSubR w0 w0.heap.size n xs ys (i + 1) 0 (ss ++ [lo]) w3) := by
            have hR := HR.out
            refine ⟨(hR.bel.alloc hR.bel.size _).grown hgr3 (by have := hR.bel.size; simp; omega) (fun q hq => by simp at hq; omega), ?_, by simp [hR.len], hR.dig.append (Dig.cons hlob (Dig.nil _)), by omega, rsub_step hR.sum hR.len HXE.out HYE.out HSUM.out⟩
            have e0 : cellsV (ss ++ [lo]) = cellsV ss ++ [V lo] := by unfold cellsV; rw [List.map_append]; rfl
            rw [e0]; exact hw3
          clear hw3 hgr3
          go_roundg gg
          case measure => omega
          case rel => exact ⟨i + 1, 0, ss ++ [lo], by omega, by go_num, rfl, rfl, HR3⟩

theorem lit_at32q (w : World) (x y : Nat) (hx : x < B32) (hy : y < B32) : At32 (w.alloc (.cells #[V x, V y] 74)) (some ⟨w.heap.size, 0, none⟩) 2 2 [x, y] := by
  refine ⟨rfl, Nat.le_refl _, by decide, ?_, .inr ⟨w.heap.size, 0, rfl, ?_⟩⟩
  · intro z hz
    simp at hz
    rcases hz with rfl | rfl <;> assumption
  · intro j hj
    match j, hj with
    | 0, _ => exact World.cell?_alloc_new ..
    | 1, _ => exact World.cell?_alloc_new ..
theorem nf32_nilq : Nf B32 [] 0 := ⟨Dig.nil _, by intro x hx; simp at hx, rfl⟩
theorem rword0 (w : World) : Calls Tryd.prog 26 #[.int .u64 0] w fun e w' => ∃ g, e = .returned (.slice (some ⟨g, 0, none⟩) 0 0) ∧ Below w.heap.size w w' := by
  go_enter Tryd.func26, Tryd.ntmps26
  go_wp2_with fail
  refine (rnorm_any (lit_at32q w 0 0 (by decide) (by decide)) (by omega)).mono ?_
  rw [show trimL [0, 0] = [] from by decide]
  rintro e w1 ⟨g, rfl, hg, hb, hbl⟩
  have hbw := Below.on (below1 w _) hbl
  clear hb hbl
  go_wp2_with fail
  go_ret
  exact ⟨g, rfl, hbw⟩
theorem rsub_any {p q : Option Addr} {n m c d : Nat} {xs ys : List Nat} {a b : Nat} {w : World} (h : At32 w p n c xs) (k : At32 w q m d ys) (hx : Nf B32 xs a) (hy : Nf B32 ys b) (hn : n ≤ 4398046511104) (hle : b ≤ a) :
    Calls Tryd.prog 34 #[.slice p n c, .slice q m d] w fun e w' => ∃ p' m' zs, e = .returned (.slice p' m' m') ∧ At32 w' p' m' m' zs ∧ Nf B32 zs (a - b) ∧ m' ≤ n ∧ Below w.heap.size w w' := by
  rcases Nat.lt_or_ge b a with hlt | hge
  · exact rsub_gt h k hx hy hn hlt
  · have HE : Hid (a = b) := Nat.le_antisymm hge hle
    have HA : Hid (At32 w p n c xs) := h
    have HB : Hid (At32 w q m d ys) := k
    have HX : Hid (Nf B32 xs a) := hx
    have HY : Hid (Nf B32 ys b) := hy
    clear h k hx hy hle hge
    go_enter Tryd.func34, Tryd.ntmps34
    go_wp2_with fail
    refine (rcmp_any HA.out HB.out HX.out HY.out).mono ?_
    rintro e w' ⟨rfl, r, rfl⟩
    rw [cmpN_eq HE.out]
    have hb0 : Below w.heap.size w (w.drewN r) := bDrewN (Below.refl _ _) r
    generalize w.drewN r = w0 at *
    go_wp2_with fail
    refine (rword0 w0).mono ?_
    rintro e w1 ⟨g, rfl, hb1⟩
    have hbw := Below.on hb0 hb1
    clear hb1 hb0
    go_wp2_with fail
    go_ret
    exact ⟨_, 0, [], rfl, At32.empty _ _ 0 (by decide), by rw [HE.out, Nat.sub_self]; exact nf32_nilq, by omega, hbw⟩
structure ZR (w : World) (s : Bool) (p : Option Addr) (m : Nat) (z : Int) : Prop where
  ex : ∃ zs, At32 w p m m zs ∧ Nf B32 zs z.natAbs
  sg : s = decide (z < 0)
theorem ZR.below {w w' : World} {s : Bool} {p : Option Addr} {m : Nat} {z : Int} (h : ZR w s p m z) (hb : Below w.heap.size w w') : ZR w' s p m z := by
  obtain ⟨zs, hA, hN⟩ := h.ex
  exact ⟨⟨zs, hA.below hb, hN⟩, h.sg⟩
theorem ZR.cast {w : World} {s : Bool} {p : Option Addr} {m : Nat} {z z' : Int} (h : ZR w s p m z) (e : z = z') : ZR w s p m z' := e ▸ h
theorem ZR.zero {w : World} {s : Bool} {p : Option Addr} {m : Nat} {z : Int} (h : ZR w s p m z) : m = 0 ↔ z = 0 := by
  obtain ⟨zs, hA, hN⟩ := h.ex
  have h1 := hN.zero_iff B32_one
  have h2 := hA.len
  constructor
  · intro e
    have := h1.1 (List.eq_nil_of_length_eq_zero (by omega))
    omega
  · intro e
    have := h1.2 (by omega)
    rw [← h2, this]; rfl
theorem ZR.iv {w : World} {s : Bool} {p : Option Addr} {m : Nat} {z : Int} (h : ZR w s p m z) : Go.Proofs.YtnijhlbociechaaDoor.iv s z.natAbs = z := by rw [h.sg]; exact iv_abs z
def GotR (B : Nat) (w' : World) (v : Value) (z : Int) (L : Nat) : Prop := ∃ s g m, v = .agg #[.bool s, .slice (some ⟨g, 0, none⟩) m m] ∧ B ≤ g ∧ ZR w' s (some ⟨g, 0, none⟩) m z ∧ m ≤ L
theorem ZR.set {w : World} {s : Bool} {g m : Nat} {z : Int} (h : ZR w s (some ⟨g, 0, none⟩) m z) (g2 o2 : Nat) (v : Value) (hne : g ≠ g2) : ZR (w.setCell ⟨g2, o2, none⟩ v) s (some ⟨g, 0, none⟩) m z := by
  obtain ⟨zs, hA, hN⟩ := h.ex
  exact ⟨⟨zs, hA.setOther g2 o2 v hne, hN⟩, h.sg⟩
theorem rmk_any {p : Option Addr} {n c : Nat} {xs : List Nat} {a : Nat} {w : World} (s : Bool) (h : At32 w p n c xs) (hx : Nf B32 xs a) (hn : n ≤ 35184372088832) :
    Calls Tryd.prog 19 #[.bool s, .slice p n c] w fun e w' => ∃ v, e = .returned v ∧ GotR w.heap.size w' v (iv s a) n ∧ Below w.heap.size w w' := by
  refine (mk04 s h hn).mono ?_
  rintro e w1 ⟨g, m, hm, rfl, hg, hA, hb⟩
  rw [trimL_of_Top hx.top] at hm hA
  have hl := h.len
  refine ⟨_, rfl, ⟨_, g, m, rfl, hg, ⟨⟨xs, hA, by rw [iv_natAbs]; exact hx⟩, ?_⟩, by omega⟩, hb⟩
  rw [iv_lt]
  have : decide (0 < m) = decide (0 < a) := by
    refine decide_eq_decide.2 ?_
    have h1 := hx.zero_iff B32_one
    constructor
    · intro h0
      rcases Nat.eq_zero_or_pos a with e | e
      · have := h1.2 e; rw [this] at hm; simp at hm; omega
      · exact e
    · intro h0
      rcases Nat.eq_zero_or_pos m with e | e
      · have := h1.1 (List.eq_nil_of_length_eq_zero (by omega)); omega
      · exact e
  rw [this]
theorem rflip_any {p : Option Addr} {m : Nat} {w : World} {z : Int} (s : Bool) (h : ZR w s p m z) (hm : m ≤ 100000) :
    Calls Tryd.prog 39 #[.agg #[.bool s, .slice p m m]] w fun e w' => ∃ v, e = .returned v ∧ GotR w.heap.size w' v (-z) m ∧ Below w.heap.size w w' := by
  have HA : Hid (ZR w s p m z) := h
  have HM : Hid (m ≤ 100000) := hm
  clear h hm
  go_enter Tryd.func39, Tryd.ntmps39
  go_wp2_with fail
  obtain ⟨W0, hW0⟩ : ∃ W0, W0 = ((w.alloc (.cells #[.bool s, .slice p m m] 45)).alloc (.cells #[.bool false, .slice none 0 0] 45)) := ⟨_, rfl⟩
  have Xa : Hid (Box W0 (w.heap.size) (.bool s) (.slice p m m)) := by rw [hW0]; exact ⟨by go_simp, by go_simp, by go_simp, by go_simp⟩
  have Xr : Hid (Box W0 (w.heap.size + 1) (.bool false) (.slice none 0 0)) := by rw [hW0]; exact ⟨by go_simp, by go_simp, by go_simp, by go_simp⟩
  have hb0 : Below w.heap.size w W0 := by rw [hW0]; exact below2 w _ _
  rw [← hW0]
  clear hW0
  have hbw : Below w.heap.size w w := Below.refl _ _
  obtain ⟨gr, hgr⟩ : ∃ g, g = w.heap.size + 1 := ⟨_, rfl⟩
  have HGr : Hid (w.heap.size ≤ gr) := by rw [hgr]; show _ ≤ _; omega
  rw [← hgr] at Xr
  try rw [← hgr]
  obtain ⟨ga, hga⟩ : ∃ g, g = w.heap.size := ⟨_, rfl⟩
  have HGa : Hid (w.heap.size ≤ ga) := by rw [hga]; show _ ≤ _; omega
  rw [← hga] at Xa
  try rw [← hga]
  have HGD : Hid (ga ≠ gr ∧ gr ≠ ga) := by rw [hga, hgr]; exact ⟨by omega, by omega⟩
  clear hga hgr
  replace HA : Hid _ := HA.out.below hb0
  replace hbw := Below.on hbw hb0
  clear hb0
  obtain ⟨zs, hA, hN⟩ := HA.out.ex
  have HRL : Hid (gr < W0.heap.size) := Xr.out.lt
  have hiv : iv (!s) z.natAbs = -z := by rw [iv_not, HA.out.iv]
  refine (rmk_any (!s) hA hN (by have := HM.out; omega)).mono ?_
  rintro e w1 ⟨v, rfl, hv, hb1⟩
  rw [hiv] at hv
  obtain ⟨s1, g1, m1, rfl, hg1, hz1, hl1⟩ := hv
  clear hA hN hiv
  have HGE : Hid (W0.heap.size ≤ g1 ∧ w.heap.size ≤ W0.heap.size) := ⟨hg1, hbw.size⟩
  replace Xa : Hid _ := Xa.out.below hb1
  replace Xr : Hid _ := Xr.out.below hb1
  replace HA : Hid _ := HA.out.below hb1
  replace hbw := Below.on hbw hb1
  clear hb1
  have ZA : Hid (ZR w1 s1 (some ⟨g1, 0, none⟩) m1 (-z)) := hz1
  have HL : Hid (m1 ≤ m) := hl1
  clear hg1 hz1 hl1
  obtain ⟨cr0, cr1, fr0, fr1⟩ := Xr.out
  have hner := Xr.out.lt
  go_wp2_with fail
  refine bodyPost_ret (v := .agg #[.bool s1, .slice (some ⟨g1, 0, none⟩) m1 m1]) (by rw [results_cell1 rfl]; go_simp) rfl ⟨_, rfl, ⟨s1, g1, m1, rfl, ?_, ?_, HL.out⟩, ?_⟩
  · exact Nat.le_trans HGE.out.2 HGE.out.1
  · have := HGE.out.1; have := HRL.out
    exact (ZA.out.set _ _ _ (by omega)).set _ _ _ (by omega)
  · exact bSet (bSet hbw _ _ _ HGr.out) _ _ _ HGr.out
theorem iv_sums {s t : Bool} {x y : Int} (h1 : s = decide (x < 0)) (h2 : t = decide (y < 0)) (h3 : s = t) : iv s (x.natAbs + y.natAbs) = x + y := by
  rw [h3] at h1 ⊢
  cases t
  · have a := of_decide_eq_false h1.symm; have b := of_decide_eq_false h2.symm; rw [iv_f]; omega
  · have a := of_decide_eq_true h1.symm; have b := of_decide_eq_true h2.symm; rw [iv_t]; omega
theorem iv_sumg {s t : Bool} {x y : Int} (h1 : s = decide (x < 0)) (h2 : t = decide (y < 0)) (h3 : s ≠ t) (h4 : y.natAbs ≤ x.natAbs) : iv s (x.natAbs - y.natAbs) = x + y := by
  cases s <;> cases t
  · exact absurd rfl h3
  · have a := of_decide_eq_false h1.symm; have b := of_decide_eq_true h2.symm; rw [iv_f]; omega
  · have a := of_decide_eq_true h1.symm; have b := of_decide_eq_false h2.symm; rw [iv_t]; omega
  · exact absurd rfl h3
theorem iv_suml {s t : Bool} {x y : Int} (h1 : s = decide (x < 0)) (h2 : t = decide (y < 0)) (h3 : s ≠ t) (h4 : x.natAbs < y.natAbs) : iv t (y.natAbs - x.natAbs) = x + y := by
  cases s <;> cases t
  · exact absurd rfl h3
  · have a := of_decide_eq_false h1.symm; have b := of_decide_eq_true h2.symm; rw [iv_t]; omega
  · have a := of_decide_eq_true h1.symm; have b := of_decide_eq_false h2.symm; rw [iv_f]; omega
  · exact absurd rfl h3
theorem sum_len32 {xs ys zs : List Nat} {a b m n : Nat} (hx : Nf B32 xs a) (hy : Nf B32 ys b) (lx : xs.length = m) (ly : ys.length = n) (hz : Nf B32 zs (a + b)) : zs.length ≤ max m n + 1 := by
  refine (hz.len_le B32_one).2 ?_
  have h1 := (hx.len_le B32_one (k := max m n)).1 (by omega)
  have h2 := (hy.len_le B32_one (k := max m n)).1 (by omega)
  rw [Nat.pow_succ]
  have : B32 ^ (max m n) * 2 ≤ B32 ^ (max m n) * B32 := Nat.mul_le_mul_left _ (by rw [B32_eq]; omega)
  omega
theorem radd04_s {p q : Option Addr} {m n : Nat} {w : World} {x y : Int} (s t : Bool) (h : ZR w s p m x) (k : ZR w t q n y) (hm : m ≤ 50000) (hn : n ≤ 50000) (hst : s = t) :
    Calls Tryd.prog 17 #[.agg #[.bool s, .slice p m m], .agg #[.bool t, .slice q n n]] w fun e w' => ∃ v, e = .returned v ∧ GotR w.heap.size w' v (x + y) (max m n + 1) ∧ Below w.heap.size w w' := by
  have HA : Hid (ZR w s p m x) := h
  have HB : Hid (ZR w t q n y) := k
  have HM : Hid (m ≤ 50000 ∧ n ≤ 50000) := ⟨hm, hn⟩
  clear h k hm hn
  have hse : (s == t) = true := by simpa using hst
  have HST : Hid (s = t) := hst
  clear hst
  go_enter Tryd.func17, Tryd.ntmps17
  go_wp2_with fail
  obtain ⟨W0, hW0⟩ : ∃ W0, W0 = (((w.alloc (.cells #[.bool s, .slice p m m] 45)).alloc (.cells #[.bool t, .slice q n n] 45)).alloc (.cells #[.bool false, .slice none 0 0] 45)) := ⟨_, rfl⟩
  have Xa : Hid (Box W0 (w.heap.size) (.bool s) (.slice p m m)) := by rw [hW0]; exact ⟨by go_simp, by go_simp, by go_simp, by go_simp⟩
  have Xb : Hid (Box W0 (w.heap.size + 1) (.bool t) (.slice q n n)) := by rw [hW0]; exact ⟨by go_simp, by go_simp, by go_simp, by go_simp⟩
  have Xr : Hid (Box W0 (w.heap.size + 1 + 1) (.bool false) (.slice none 0 0)) := by rw [hW0]; exact ⟨by go_simp, by go_simp, by go_simp, by go_simp⟩
  have hb0 : Below w.heap.size w W0 := by rw [hW0]; exact below3 w _ _ _
  rw [← hW0]
  clear hW0
  have hbw : Below w.heap.size w w := Below.refl _ _
  obtain ⟨gr, hgr⟩ : ∃ g, g = w.heap.size + 1 + 1 := ⟨_, rfl⟩
  have HGr : Hid (w.heap.size ≤ gr) := by rw [hgr]; show _ ≤ _; omega
  rw [← hgr] at Xr
  try rw [← hgr]
  obtain ⟨gb, hgb⟩ : ∃ g, g = w.heap.size + 1 := ⟨_, rfl⟩
  have HGb : Hid (w.heap.size ≤ gb) := by rw [hgb]; show _ ≤ _; omega
  rw [← hgb] at Xb
  try rw [← hgb]
  obtain ⟨ga, hga⟩ : ∃ g, g = w.heap.size := ⟨_, rfl⟩
  have HGa : Hid (w.heap.size ≤ ga) := by rw [hga]; show _ ≤ _; omega
  rw [← hga] at Xa
  try rw [← hga]
  have HGD : Hid (ga ≠ gb ∧ ga ≠ gr ∧ gb ≠ ga ∧ gb ≠ gr ∧ gr ≠ ga ∧ gr ≠ gb) := by rw [hga, hgb, hgr]; exact ⟨by omega, by omega, by omega, by omega, by omega, by omega⟩
  clear hga hgb hgr
  replace HA : Hid _ := HA.out.below hb0
  replace HB : Hid _ := HB.out.below hb0
  replace hbw := Below.on hbw hb0
  clear hb0
  obtain ⟨xs, hAx, hNx⟩ := HA.out.ex
  obtain ⟨ys, hAy, hNy⟩ := HB.out.ex
  have HNX : Hid (Nf B32 xs x.natAbs ∧ Nf B32 ys y.natAbs) := ⟨hNx, hNy⟩
  clear hNx hNy
  have AX : Hid (At32 W0 p m m xs) := hAx
  have AY : Hid (At32 W0 q n n ys) := hAy
  clear hAx hAy
  have HZV : Hid (iv s (x.natAbs + y.natAbs) = x + y) := by have h1 := HA.out.sg; have h2 := HB.out.sg; have h3 := HST.out; exact iv_sums h1 h2 h3
  obtain ⟨W1, hW1⟩ : ∃ W1, W1 = W0.drew := ⟨_, rfl⟩
  have hbd : Below W0.heap.size W0 W1 := by rw [hW1]; exact bDrew1 (Below.refl _ _)
  replace Xa : Hid _ := Xa.out.below hbd
  replace Xb : Hid _ := Xb.out.below hbd
  replace Xr : Hid _ := Xr.out.below hbd
  replace HA : Hid _ := HA.out.below hbd
  replace HB : Hid _ := HB.out.below hbd
  replace AX : Hid _ := AX.out.below hbd
  replace AY : Hid _ := AY.out.below hbd
  replace hbw := Below.on hbw hbd
  clear hbd
  have HJ : Hid ((fun W' : World => W'.cell? ⟨ga, 0, none⟩ = some (.bool s) ∧ W'.cell? ⟨ga, 1, none⟩ = some (.slice p m m) ∧ W'.cell? ⟨gb, 0, none⟩ = some (.bool t) ∧ W'.cell? ⟨gb, 1, none⟩ = some (.slice q n n)) W1) := ⟨Xa.out.c0, Xa.out.c1, Xb.out.c0, Xb.out.c1⟩
  refine wp_region_J (fun W' => W'.cell? ⟨ga, 0, none⟩ = some (.bool s) ∧ W'.cell? ⟨ga, 1, none⟩ = some (.slice p m m) ∧ W'.cell? ⟨gb, 0, none⟩ = some (.bool t) ∧ W'.cell? ⟨gb, 1, none⟩ = some (.slice q n n)) (by kernel_rfl) ?_
  rw [← hW1]
  clear hW1
  refine wpJ_tq 0 rfl HJ.out ?_
  refine wpJ_tq 1 rfl HJ.out ?_
  refine wpJ_tq 2 rfl HJ.out ?_
  refine wpJ_tq 3 rfl HJ.out ?_
  refine wpJ_tq 4 rfl HJ.out ?_
  refine wpJ_tq 5 rfl HJ.out ?_
  refine wpJ_on 6 rfl fun KJ hK => ?_
  go_simp
  refine (radd_any AX.out AY.out HNX.out.1 HNX.out.2 (by have := HM.out; omega) (by have := HM.out; omega)).mono ?_
  rintro e w2 ⟨p2, m2, z2, rfl, hA2, hN2, hb2⟩
  have hl2 : m2 ≤ max m n + 1 := by rw [← hA2.len]; exact sum_len32 HNX.out.1 HNX.out.2 AX.out.len AY.out.len hN2
  replace Xa : Hid _ := Xa.out.below hb2
  replace Xb : Hid _ := Xb.out.below hb2
  replace Xr : Hid _ := Xr.out.below hb2
  replace HA : Hid _ := HA.out.below hb2
  replace HB : Hid _ := HB.out.below hb2
  replace AX : Hid _ := AX.out.below hb2
  replace AY : Hid _ := AY.out.below hb2
  replace hbw := Below.on hbw hb2
  clear hb2
  have A2 : Hid (At32 w2 p2 m2 m2 z2) := hA2
  have N2 : Hid (Nf B32 z2 (x.natAbs + y.natAbs)) := hN2
  have HLL : Hid (m2 ≤ max m n + 1) := hl2
  have HRL : Hid (gr < w2.heap.size) := Xr.out.lt
  have HBS : Hid (w.heap.size ≤ w2.heap.size) := hbw.size
  clear hA2 hN2 hl2
  refine hK _ _ ⟨Xa.out.c0, Xa.out.c1, Xb.out.c0, Xb.out.c1⟩ ?_
  clear hK
  refine wpJ_on 7 rfl fun KJ hK => ?_
  go_simp
  refine (rmk_any s A2.out N2.out (by have := HLL.out; have := HM.out; omega)).mono ?_
  rintro e w3 ⟨v, rfl, hv, hb3⟩
  rw [HZV.out] at hv
  replace Xa : Hid _ := Xa.out.below hb3
  replace Xb : Hid _ := Xb.out.below hb3
  replace Xr : Hid _ := Xr.out.below hb3
  replace HA : Hid _ := HA.out.below hb3
  replace HB : Hid _ := HB.out.below hb3
  replace AX : Hid _ := AX.out.below hb3
  replace AY : Hid _ := AY.out.below hb3
  replace A2 : Hid _ := A2.out.below hb3
  replace hbw := Below.on hbw hb3
  clear hb3
  obtain ⟨s9, g9, m9, rfl, hg9, hz9, hl9⟩ := hv
  have ZA : Hid (ZR w3 s9 (some ⟨g9, 0, none⟩) m9 (x + y)) := hz9
  have HL : Hid (m9 ≤ max m n + 1) := by have := hl9; have := HLL.out; show m9 ≤ _; omega
  have HGE : Hid (gr < g9) := Nat.lt_of_lt_of_le HRL.out hg9
  have HGB : Hid (w.heap.size ≤ g9) := Nat.le_trans HBS.out hg9
  clear hg9 hz9 hl9
  refine hK _ _ ⟨Xa.out.c0, Xa.out.c1, Xb.out.c0, Xb.out.c1⟩ ?_
  clear hK
  obtain ⟨cr0, cr1, fr0, fr1⟩ := Xr.out
  have hner := Xr.out.lt
  obtain ⟨ca0, ca1, fa0, fa1⟩ := Xa.out
  have hnea := Xa.out.lt
  obtain ⟨cb0, cb1, fb0, fb1⟩ := Xb.out
  have hneb := Xb.out.lt
  obtain ⟨hgd0, hgd1, hgd2, hgd3, hgd4, hgd5⟩ := HGD.out
  refine wpJ_on 8 rfl fun KJ hK => ?_
  go_simp
  have HJ2 : Hid ((fun W' : World => W'.cell? ⟨ga, 0, none⟩ = some (.bool s) ∧ W'.cell? ⟨ga, 1, none⟩ = some (.slice p m m) ∧ W'.cell? ⟨gb, 0, none⟩ = some (.bool t) ∧ W'.cell? ⟨gb, 1, none⟩ = some (.slice q n n)) ((w3.setCell ⟨gr, 0, none⟩ (.bool s9)).setCell ⟨gr, 1, none⟩ (.slice (some ⟨g9, 0, none⟩) m9 m9))) := ⟨by go_simp, by go_simp, by go_simp, by go_simp⟩
  refine hK _ _ HJ2.out ?_
  clear hK HJ
  have HJ := HJ2
  clear HJ2
  refine wpJ_done (by kernel_rfl) ?_ _
  clear HJ
  go_wp2_with fail
  refine bodyPost_ret (v := .agg #[.bool s9, .slice (some ⟨g9, 0, none⟩) m9 m9]) (by rw [results_cell1 rfl]; go_simp) rfl ⟨_, rfl, ⟨s9, g9, m9, rfl, HGB.out, ?_, HL.out⟩, ?_⟩
  · have := HGE.out
    exact (ZA.out.set _ _ _ (by omega)).set _ _ _ (by omega)
  · exact bSet (bSet hbw _ _ _ HGr.out) _ _ _ HGr.out
theorem radd04_g {p q : Option Addr} {m n : Nat} {w : World} {x y : Int} (s t : Bool) (h : ZR w s p m x) (k : ZR w t q n y) (hm : m ≤ 50000) (hn : n ≤ 50000) (hst : s ≠ t) (hcm : y.natAbs ≤ x.natAbs) :
    Calls Tryd.prog 17 #[.agg #[.bool s, .slice p m m], .agg #[.bool t, .slice q n n]] w fun e w' => ∃ v, e = .returned v ∧ GotR w.heap.size w' v (x + y) (max m n + 1) ∧ Below w.heap.size w w' := by
  have HA : Hid (ZR w s p m x) := h
  have HB : Hid (ZR w t q n y) := k
  have HM : Hid (m ≤ 50000 ∧ n ≤ 50000) := ⟨hm, hn⟩
  clear h k hm hn
  have hse : (s == t) = false := by simpa using hst
  have HST : Hid (s ≠ t) := hst
  have HCM : Hid (y.natAbs ≤ x.natAbs) := hcm
  clear hst hcm
  go_enter Tryd.func17, Tryd.ntmps17
  go_wp2_with fail
  obtain ⟨W0, hW0⟩ : ∃ W0, W0 = (((w.alloc (.cells #[.bool s, .slice p m m] 45)).alloc (.cells #[.bool t, .slice q n n] 45)).alloc (.cells #[.bool false, .slice none 0 0] 45)) := ⟨_, rfl⟩
  have Xa : Hid (Box W0 (w.heap.size) (.bool s) (.slice p m m)) := by rw [hW0]; exact ⟨by go_simp, by go_simp, by go_simp, by go_simp⟩
  have Xb : Hid (Box W0 (w.heap.size + 1) (.bool t) (.slice q n n)) := by rw [hW0]; exact ⟨by go_simp, by go_simp, by go_simp, by go_simp⟩
  have Xr : Hid (Box W0 (w.heap.size + 1 + 1) (.bool false) (.slice none 0 0)) := by rw [hW0]; exact ⟨by go_simp, by go_simp, by go_simp, by go_simp⟩
  have hb0 : Below w.heap.size w W0 := by rw [hW0]; exact below3 w _ _ _
  rw [← hW0]
  clear hW0
  have hbw : Below w.heap.size w w := Below.refl _ _
  obtain ⟨gr, hgr⟩ : ∃ g, g = w.heap.size + 1 + 1 := ⟨_, rfl⟩
  have HGr : Hid (w.heap.size ≤ gr) := by rw [hgr]; show _ ≤ _; omega
  rw [← hgr] at Xr
  try rw [← hgr]
  obtain ⟨gb, hgb⟩ : ∃ g, g = w.heap.size + 1 := ⟨_, rfl⟩
  have HGb : Hid (w.heap.size ≤ gb) := by rw [hgb]; show _ ≤ _; omega
  rw [← hgb] at Xb
  try rw [← hgb]
  obtain ⟨ga, hga⟩ : ∃ g, g = w.heap.size := ⟨_, rfl⟩
  have HGa : Hid (w.heap.size ≤ ga) := by rw [hga]; show _ ≤ _; omega
  rw [← hga] at Xa
  try rw [← hga]
  have HGD : Hid (ga ≠ gb ∧ ga ≠ gr ∧ gb ≠ ga ∧ gb ≠ gr ∧ gr ≠ ga ∧ gr ≠ gb) := by rw [hga, hgb, hgr]; exact ⟨by omega, by omega, by omega, by omega, by omega, by omega⟩
  clear hga hgb hgr
  replace HA : Hid _ := HA.out.below hb0
  replace HB : Hid _ := HB.out.below hb0
  replace hbw := Below.on hbw hb0
  clear hb0
  obtain ⟨xs, hAx, hNx⟩ := HA.out.ex
  obtain ⟨ys, hAy, hNy⟩ := HB.out.ex
  have HNX : Hid (Nf B32 xs x.natAbs ∧ Nf B32 ys y.natAbs) := ⟨hNx, hNy⟩
  clear hNx hNy
  have AX : Hid (At32 W0 p m m xs) := hAx
  have AY : Hid (At32 W0 q n n ys) := hAy
  clear hAx hAy
  have HZV : Hid (iv s (x.natAbs - y.natAbs) = x + y) := by have h1 := HA.out.sg; have h2 := HB.out.sg; have h3 := HST.out; exact iv_sumg h1 h2 h3 HCM.out
  obtain ⟨cm, hcm⟩ : ∃ cm, cm = cmpN x.natAbs y.natAbs := ⟨_, rfl⟩
  have HCQ : Hid (cm = cmpN x.natAbs y.natAbs) := hcm
  have hcc : decide (0 ≤ cm) = true := decide_eq_true (by rw [hcm]; have := HCM.out; unfold cmpN; split <;> (try split) <;> omega)
  clear hcm
  refine (rcmp_any AX.out AY.out HNX.out.1 HNX.out.2).mono ?_
  rintro e w9 ⟨rfl, rd, rfl⟩
  rw [← HCQ.out]
  have hbr := bDrewN (Below.refl W0.heap.size W0) rd
  generalize W0.drewN rd = W9 at *
  replace Xa : Hid _ := Xa.out.below hbr
  replace Xb : Hid _ := Xb.out.below hbr
  replace Xr : Hid _ := Xr.out.below hbr
  replace HA : Hid _ := HA.out.below hbr
  replace HB : Hid _ := HB.out.below hbr
  replace AX : Hid _ := AX.out.below hbr
  replace AY : Hid _ := AY.out.below hbr
  replace hbw := Below.on hbw hbr
  clear hbr
  obtain ⟨ca0, ca1, fa0, fa1⟩ := Xa.out
  have hnea := Xa.out.lt
  obtain ⟨cb0, cb1, fb0, fb1⟩ := Xb.out
  have hneb := Xb.out.lt
  go_wp2_with fail
  clear ca0 ca1 fa0 fa1 hnea
  clear cb0 cb1 fb0 fb1 hneb
  clear hcc
  obtain ⟨W1, hW1⟩ : ∃ W1, W1 = W9.drew := ⟨_, rfl⟩
  have hbd : Below W9.heap.size W9 W1 := by rw [hW1]; exact bDrew1 (Below.refl _ _)
  replace Xa : Hid _ := Xa.out.below hbd
  replace Xb : Hid _ := Xb.out.below hbd
  replace Xr : Hid _ := Xr.out.below hbd
  replace HA : Hid _ := HA.out.below hbd
  replace HB : Hid _ := HB.out.below hbd
  replace AX : Hid _ := AX.out.below hbd
  replace AY : Hid _ := AY.out.below hbd
  replace hbw := Below.on hbw hbd
  clear hbd
  have HJ : Hid ((fun W' : World => W'.cell? ⟨ga, 0, none⟩ = some (.bool s) ∧ W'.cell? ⟨ga, 1, none⟩ = some (.slice p m m) ∧ W'.cell? ⟨gb, 0, none⟩ = some (.bool t) ∧ W'.cell? ⟨gb, 1, none⟩ = some (.slice q n n)) W1) := ⟨Xa.out.c0, Xa.out.c1, Xb.out.c0, Xb.out.c1⟩
  refine wp_region_J (fun W' => W'.cell? ⟨ga, 0, none⟩ = some (.bool s) ∧ W'.cell? ⟨ga, 1, none⟩ = some (.slice p m m) ∧ W'.cell? ⟨gb, 0, none⟩ = some (.bool t) ∧ W'.cell? ⟨gb, 1, none⟩ = some (.slice q n n)) (by kernel_rfl) ?_
  rw [← hW1]
  clear hW1
  refine wpJ_tq 0 rfl HJ.out ?_
  refine wpJ_tq 1 rfl HJ.out ?_
  refine wpJ_tq 2 rfl HJ.out ?_
  refine wpJ_tq 3 rfl HJ.out ?_
  refine wpJ_tq 4 rfl HJ.out ?_
  refine wpJ_tq 5 rfl HJ.out ?_
  refine wpJ_on 6 rfl fun KJ hK => ?_
  go_simp
  refine (rsub_any AX.out AY.out HNX.out.1 HNX.out.2 (by have := HM.out; omega) HCM.out).mono ?_
  rintro e w2 ⟨p2, m2, z2, rfl, hA2, hN2, hl2q, hb2⟩
  have hl2 : m2 ≤ max m n + 1 := by omega
  clear hl2q
  replace Xa : Hid _ := Xa.out.below hb2
  replace Xb : Hid _ := Xb.out.below hb2
  replace Xr : Hid _ := Xr.out.below hb2
  replace HA : Hid _ := HA.out.below hb2
  replace HB : Hid _ := HB.out.below hb2
  replace AX : Hid _ := AX.out.below hb2
  replace AY : Hid _ := AY.out.below hb2
  replace hbw := Below.on hbw hb2
  clear hb2
  have A2 : Hid (At32 w2 p2 m2 m2 z2) := hA2
  have N2 : Hid (Nf B32 z2 (x.natAbs - y.natAbs)) := hN2
  have HLL : Hid (m2 ≤ max m n + 1) := hl2
  have HRL : Hid (gr < w2.heap.size) := Xr.out.lt
  have HBS : Hid (w.heap.size ≤ w2.heap.size) := hbw.size
  clear hA2 hN2 hl2
  refine hK _ _ ⟨Xa.out.c0, Xa.out.c1, Xb.out.c0, Xb.out.c1⟩ ?_
  clear hK
  refine wpJ_on 7 rfl fun KJ hK => ?_
  go_simp
  refine (rmk_any s A2.out N2.out (by have := HLL.out; have := HM.out; omega)).mono ?_
  rintro e w3 ⟨v, rfl, hv, hb3⟩
  rw [HZV.out] at hv
  replace Xa : Hid _ := Xa.out.below hb3
  replace Xb : Hid _ := Xb.out.below hb3
  replace Xr : Hid _ := Xr.out.below hb3
  replace HA : Hid _ := HA.out.below hb3
  replace HB : Hid _ := HB.out.below hb3
  replace AX : Hid _ := AX.out.below hb3
  replace AY : Hid _ := AY.out.below hb3
  replace A2 : Hid _ := A2.out.below hb3
  replace hbw := Below.on hbw hb3
  clear hb3
  obtain ⟨s9, g9, m9, rfl, hg9, hz9, hl9⟩ := hv
  have ZA : Hid (ZR w3 s9 (some ⟨g9, 0, none⟩) m9 (x + y)) := hz9
  have HL : Hid (m9 ≤ max m n + 1) := by have := hl9; have := HLL.out; show m9 ≤ _; omega
  have HGE : Hid (gr < g9) := Nat.lt_of_lt_of_le HRL.out hg9
  have HGB : Hid (w.heap.size ≤ g9) := Nat.le_trans HBS.out hg9
  clear hg9 hz9 hl9
  refine hK _ _ ⟨Xa.out.c0, Xa.out.c1, Xb.out.c0, Xb.out.c1⟩ ?_
  clear hK
  obtain ⟨cr0, cr1, fr0, fr1⟩ := Xr.out
  have hner := Xr.out.lt
  obtain ⟨ca0, ca1, fa0, fa1⟩ := Xa.out
  have hnea := Xa.out.lt
  obtain ⟨cb0, cb1, fb0, fb1⟩ := Xb.out
  have hneb := Xb.out.lt
  obtain ⟨hgd0, hgd1, hgd2, hgd3, hgd4, hgd5⟩ := HGD.out
  refine wpJ_on 8 rfl fun KJ hK => ?_
  go_simp
  have HJ2 : Hid ((fun W' : World => W'.cell? ⟨ga, 0, none⟩ = some (.bool s) ∧ W'.cell? ⟨ga, 1, none⟩ = some (.slice p m m) ∧ W'.cell? ⟨gb, 0, none⟩ = some (.bool t) ∧ W'.cell? ⟨gb, 1, none⟩ = some (.slice q n n)) ((w3.setCell ⟨gr, 0, none⟩ (.bool s9)).setCell ⟨gr, 1, none⟩ (.slice (some ⟨g9, 0, none⟩) m9 m9))) := ⟨by go_simp, by go_simp, by go_simp, by go_simp⟩
  refine hK _ _ HJ2.out ?_
  clear hK HJ
  have HJ := HJ2
  clear HJ2
  refine wpJ_done (by kernel_rfl) ?_ _
  clear HJ
  go_wp2_with fail
  refine bodyPost_ret (v := .agg #[.bool s9, .slice (some ⟨g9, 0, none⟩) m9 m9]) (by rw [results_cell1 rfl]; go_simp) rfl ⟨_, rfl, ⟨s9, g9, m9, rfl, HGB.out, ?_, HL.out⟩, ?_⟩
  · have := HGE.out
    exact (ZA.out.set _ _ _ (by omega)).set _ _ _ (by omega)
  · exact bSet (bSet hbw _ _ _ HGr.out) _ _ _ HGr.out
theorem radd04_l {p q : Option Addr} {m n : Nat} {w : World} {x y : Int} (s t : Bool) (h : ZR w s p m x) (k : ZR w t q n y) (hm : m ≤ 50000) (hn : n ≤ 50000) (hst : s ≠ t) (hcm : x.natAbs < y.natAbs) :
    Calls Tryd.prog 17 #[.agg #[.bool s, .slice p m m], .agg #[.bool t, .slice q n n]] w fun e w' => ∃ v, e = .returned v ∧ GotR w.heap.size w' v (x + y) (max m n + 1) ∧ Below w.heap.size w w' := by
  have HA : Hid (ZR w s p m x) := h
  have HB : Hid (ZR w t q n y) := k
  have HM : Hid (m ≤ 50000 ∧ n ≤ 50000) := ⟨hm, hn⟩
  clear h k hm hn
  have hse : (s == t) = false := by simpa using hst
  have HST : Hid (s ≠ t) := hst
  have HCM : Hid (x.natAbs < y.natAbs) := hcm
  clear hst hcm
  go_enter Tryd.func17, Tryd.ntmps17
  go_wp2_with fail
  obtain ⟨W0, hW0⟩ : ∃ W0, W0 = (((w.alloc (.cells #[.bool s, .slice p m m] 45)).alloc (.cells #[.bool t, .slice q n n] 45)).alloc (.cells #[.bool false, .slice none 0 0] 45)) := ⟨_, rfl⟩
  have Xa : Hid (Box W0 (w.heap.size) (.bool s) (.slice p m m)) := by rw [hW0]; exact ⟨by go_simp, by go_simp, by go_simp, by go_simp⟩
  have Xb : Hid (Box W0 (w.heap.size + 1) (.bool t) (.slice q n n)) := by rw [hW0]; exact ⟨by go_simp, by go_simp, by go_simp, by go_simp⟩
  have Xr : Hid (Box W0 (w.heap.size + 1 + 1) (.bool false) (.slice none 0 0)) := by rw [hW0]; exact ⟨by go_simp, by go_simp, by go_simp, by go_simp⟩
  have hb0 : Below w.heap.size w W0 := by rw [hW0]; exact below3 w _ _ _
  rw [← hW0]
  clear hW0
  have hbw : Below w.heap.size w w := Below.refl _ _
  obtain ⟨gr, hgr⟩ : ∃ g, g = w.heap.size + 1 + 1 := ⟨_, rfl⟩
  have HGr : Hid (w.heap.size ≤ gr) := by rw [hgr]; show _ ≤ _; omega
  rw [← hgr] at Xr
  try rw [← hgr]
  obtain ⟨gb, hgb⟩ : ∃ g, g = w.heap.size + 1 := ⟨_, rfl⟩
  have HGb : Hid (w.heap.size ≤ gb) := by rw [hgb]; show _ ≤ _; omega
  rw [← hgb] at Xb
  try rw [← hgb]
  obtain ⟨ga, hga⟩ : ∃ g, g = w.heap.size := ⟨_, rfl⟩
  have HGa : Hid (w.heap.size ≤ ga) := by rw [hga]; show _ ≤ _; omega
  rw [← hga] at Xa
  try rw [← hga]
  have HGD : Hid (ga ≠ gb ∧ ga ≠ gr ∧ gb ≠ ga ∧ gb ≠ gr ∧ gr ≠ ga ∧ gr ≠ gb) := by rw [hga, hgb, hgr]; exact ⟨by omega, by omega, by omega, by omega, by omega, by omega⟩
  clear hga hgb hgr
  replace HA : Hid _ := HA.out.below hb0
  replace HB : Hid _ := HB.out.below hb0
  replace hbw := Below.on hbw hb0
  clear hb0
  obtain ⟨xs, hAx, hNx⟩ := HA.out.ex
  obtain ⟨ys, hAy, hNy⟩ := HB.out.ex
  have HNX : Hid (Nf B32 xs x.natAbs ∧ Nf B32 ys y.natAbs) := ⟨hNx, hNy⟩
  clear hNx hNy
  have AX : Hid (At32 W0 p m m xs) := hAx
  have AY : Hid (At32 W0 q n n ys) := hAy
  clear hAx hAy
  have HZV : Hid (iv t (y.natAbs - x.natAbs) = x + y) := by have h1 := HA.out.sg; have h2 := HB.out.sg; have h3 := HST.out; exact iv_suml h1 h2 h3 HCM.out
  obtain ⟨cm, hcm⟩ : ∃ cm, cm = cmpN x.natAbs y.natAbs := ⟨_, rfl⟩
  have HCQ : Hid (cm = cmpN x.natAbs y.natAbs) := hcm
  have hcc : decide (0 ≤ cm) = false := decide_eq_false (by rw [hcm, cmpN_lt HCM.out]; omega)
  clear hcm
  refine (rcmp_any AX.out AY.out HNX.out.1 HNX.out.2).mono ?_
  rintro e w9 ⟨rfl, rd, rfl⟩
  rw [← HCQ.out]
  have hbr := bDrewN (Below.refl W0.heap.size W0) rd
  generalize W0.drewN rd = W9 at *
  replace Xa : Hid _ := Xa.out.below hbr
  replace Xb : Hid _ := Xb.out.below hbr
  replace Xr : Hid _ := Xr.out.below hbr
  replace HA : Hid _ := HA.out.below hbr
  replace HB : Hid _ := HB.out.below hbr
  replace AX : Hid _ := AX.out.below hbr
  replace AY : Hid _ := AY.out.below hbr
  replace hbw := Below.on hbw hbr
  clear hbr
  obtain ⟨ca0, ca1, fa0, fa1⟩ := Xa.out
  have hnea := Xa.out.lt
  obtain ⟨cb0, cb1, fb0, fb1⟩ := Xb.out
  have hneb := Xb.out.lt
  go_wp2_with fail
  clear ca0 ca1 fa0 fa1 hnea
  clear cb0 cb1 fb0 fb1 hneb
  clear hcc
  obtain ⟨W1, hW1⟩ : ∃ W1, W1 = W9.drew := ⟨_, rfl⟩
  have hbd : Below W9.heap.size W9 W1 := by rw [hW1]; exact bDrew1 (Below.refl _ _)
  replace Xa : Hid _ := Xa.out.below hbd
  replace Xb : Hid _ := Xb.out.below hbd
  replace Xr : Hid _ := Xr.out.below hbd
  replace HA : Hid _ := HA.out.below hbd
  replace HB : Hid _ := HB.out.below hbd
  replace AX : Hid _ := AX.out.below hbd
  replace AY : Hid _ := AY.out.below hbd
  replace hbw := Below.on hbw hbd
  clear hbd
  have HJ : Hid ((fun W' : World => W'.cell? ⟨ga, 0, none⟩ = some (.bool s) ∧ W'.cell? ⟨ga, 1, none⟩ = some (.slice p m m) ∧ W'.cell? ⟨gb, 0, none⟩ = some (.bool t) ∧ W'.cell? ⟨gb, 1, none⟩ = some (.slice q n n)) W1) := ⟨Xa.out.c0, Xa.out.c1, Xb.out.c0, Xb.out.c1⟩
  refine wp_region_J (fun W' => W'.cell? ⟨ga, 0, none⟩ = some (.bool s) ∧ W'.cell? ⟨ga, 1, none⟩ = some (.slice p m m) ∧ W'.cell? ⟨gb, 0, none⟩ = some (.bool t) ∧ W'.cell? ⟨gb, 1, none⟩ = some (.slice q n n)) (by kernel_rfl) ?_
  rw [← hW1]
  clear hW1
  refine wpJ_tq 0 rfl HJ.out ?_
  refine wpJ_tq 1 rfl HJ.out ?_
  refine wpJ_tq 2 rfl HJ.out ?_
  refine wpJ_tq 3 rfl HJ.out ?_
  refine wpJ_tq 4 rfl HJ.out ?_
  refine wpJ_tq 5 rfl HJ.out ?_
  refine wpJ_on 6 rfl fun KJ hK => ?_
  go_simp
  refine (rsub_any AY.out AX.out HNX.out.2 HNX.out.1 (by have := HM.out; omega) (Nat.le_of_lt HCM.out)).mono ?_
  rintro e w2 ⟨p2, m2, z2, rfl, hA2, hN2, hl2q, hb2⟩
  have hl2 : m2 ≤ max m n + 1 := by omega
  clear hl2q
  replace Xa : Hid _ := Xa.out.below hb2
  replace Xb : Hid _ := Xb.out.below hb2
  replace Xr : Hid _ := Xr.out.below hb2
  replace HA : Hid _ := HA.out.below hb2
  replace HB : Hid _ := HB.out.below hb2
  replace AX : Hid _ := AX.out.below hb2
  replace AY : Hid _ := AY.out.below hb2
  replace hbw := Below.on hbw hb2
  clear hb2
  have A2 : Hid (At32 w2 p2 m2 m2 z2) := hA2
  have N2 : Hid (Nf B32 z2 (y.natAbs - x.natAbs)) := hN2
  have HLL : Hid (m2 ≤ max m n + 1) := hl2
  have HRL : Hid (gr < w2.heap.size) := Xr.out.lt
  have HBS : Hid (w.heap.size ≤ w2.heap.size) := hbw.size
  clear hA2 hN2 hl2
  refine hK _ _ ⟨Xa.out.c0, Xa.out.c1, Xb.out.c0, Xb.out.c1⟩ ?_
  clear hK
  refine wpJ_on 7 rfl fun KJ hK => ?_
  go_simp
  refine (rmk_any t A2.out N2.out (by have := HLL.out; have := HM.out; omega)).mono ?_
  rintro e w3 ⟨v, rfl, hv, hb3⟩
  rw [HZV.out] at hv
  replace Xa : Hid _ := Xa.out.below hb3
  replace Xb : Hid _ := Xb.out.below hb3
  replace Xr : Hid _ := Xr.out.below hb3
  replace HA : Hid _ := HA.out.below hb3
  replace HB : Hid _ := HB.out.below hb3
  replace AX : Hid _ := AX.out.below hb3
  replace AY : Hid _ := AY.out.below hb3
  replace A2 : Hid _ := A2.out.below hb3
  replace hbw := Below.on hbw hb3
  clear hb3
  obtain ⟨s9, g9, m9, rfl, hg9, hz9, hl9⟩ := hv
  have ZA : Hid (ZR w3 s9 (some ⟨g9, 0, none⟩) m9 (x + y)) := hz9
  have HL : Hid (m9 ≤ max m n + 1) := by have := hl9; have := HLL.out; show m9 ≤ _; omega
  have HGE : Hid (gr < g9) := Nat.lt_of_lt_of_le HRL.out hg9
  have HGB : Hid (w.heap.size ≤ g9) := Nat.le_trans HBS.out hg9
  clear hg9 hz9 hl9
  refine hK _ _ ⟨Xa.out.c0, Xa.out.c1, Xb.out.c0, Xb.out.c1⟩ ?_
  clear hK
  obtain ⟨cr0, cr1, fr0, fr1⟩ := Xr.out
  have hner := Xr.out.lt
  obtain ⟨ca0, ca1, fa0, fa1⟩ := Xa.out
  have hnea := Xa.out.lt
  obtain ⟨cb0, cb1, fb0, fb1⟩ := Xb.out
  have hneb := Xb.out.lt
  obtain ⟨hgd0, hgd1, hgd2, hgd3, hgd4, hgd5⟩ := HGD.out
  refine wpJ_on 8 rfl fun KJ hK => ?_
  go_simp
  have HJ2 : Hid ((fun W' : World => W'.cell? ⟨ga, 0, none⟩ = some (.bool s) ∧ W'.cell? ⟨ga, 1, none⟩ = some (.slice p m m) ∧ W'.cell? ⟨gb, 0, none⟩ = some (.bool t) ∧ W'.cell? ⟨gb, 1, none⟩ = some (.slice q n n)) ((w3.setCell ⟨gr, 0, none⟩ (.bool s9)).setCell ⟨gr, 1, none⟩ (.slice (some ⟨g9, 0, none⟩) m9 m9))) := ⟨by go_simp, by go_simp, by go_simp, by go_simp⟩
  refine hK _ _ HJ2.out ?_
  clear hK HJ
  have HJ := HJ2
  clear HJ2
  refine wpJ_done (by kernel_rfl) ?_ _
  clear HJ
  go_wp2_with fail
  refine bodyPost_ret (v := .agg #[.bool s9, .slice (some ⟨g9, 0, none⟩) m9 m9]) (by rw [results_cell1 rfl]; go_simp) rfl ⟨_, rfl, ⟨s9, g9, m9, rfl, HGB.out, ?_, HL.out⟩, ?_⟩
  · have := HGE.out
    exact (ZA.out.set _ _ _ (by omega)).set _ _ _ (by omega)
  · exact bSet (bSet hbw _ _ _ HGr.out) _ _ _ HGr.out
theorem radd04 {p q : Option Addr} {m n : Nat} {w : World} {x y : Int} (s t : Bool) (h : ZR w s p m x) (k : ZR w t q n y) (hm : m ≤ 50000) (hn : n ≤ 50000) : Calls Tryd.prog 17 #[.agg #[.bool s, .slice p m m], .agg #[.bool t, .slice q n n]] w fun e w' => ∃ v, e = .returned v ∧ GotR w.heap.size w' v (x + y) (max m n + 1) ∧ Below w.heap.size w w' := by
  by_cases hst : s = t
  · exact radd04_s s t h k hm hn hst
  · rcases Nat.lt_or_ge x.natAbs y.natAbs with hl | hl
    · exact radd04_l s t h k hm hn hst hl
    · exact radd04_g s t h k hm hn hst hl
theorem rsub04 {p q : Option Addr} {m n : Nat} {w : World} {x y : Int} (s t : Bool) (h : ZR w s p m x) (k : ZR w t q n y) (hm : m ≤ 50000) (hn : n ≤ 50000) :
    Calls Tryd.prog 30 #[.agg #[.bool s, .slice p m m], .agg #[.bool t, .slice q n n]] w fun e w' => ∃ v, e = .returned v ∧ GotR w.heap.size w' v (x - y) (max m n + 1) ∧ Below w.heap.size w w' := by
  have HA : Hid (ZR w s p m x) := h
  have HB : Hid (ZR w t q n y) := k
  have HM : Hid (m ≤ 50000 ∧ n ≤ 50000) := ⟨hm, hn⟩
  clear h k hm hn
  go_enter Tryd.func30, Tryd.ntmps30
  go_wp2_with fail
  obtain ⟨W0, hW0⟩ : ∃ W0, W0 = (((w.alloc (.cells #[.bool s, .slice p m m] 45)).alloc (.cells #[.bool t, .slice q n n] 45)).alloc (.cells #[.bool false, .slice none 0 0] 45)) := ⟨_, rfl⟩
  have Xa : Hid (Box W0 (w.heap.size) (.bool s) (.slice p m m)) := by rw [hW0]; exact ⟨by go_simp, by go_simp, by go_simp, by go_simp⟩
  have Xb : Hid (Box W0 (w.heap.size + 1) (.bool t) (.slice q n n)) := by rw [hW0]; exact ⟨by go_simp, by go_simp, by go_simp, by go_simp⟩
  have Xr : Hid (Box W0 (w.heap.size + 1 + 1) (.bool false) (.slice none 0 0)) := by rw [hW0]; exact ⟨by go_simp, by go_simp, by go_simp, by go_simp⟩
  have hb0 : Below w.heap.size w W0 := by rw [hW0]; exact below3 w _ _ _
  rw [← hW0]
  clear hW0
  have hbw : Below w.heap.size w w := Below.refl _ _
  obtain ⟨gr, hgr⟩ : ∃ g, g = w.heap.size + 1 + 1 := ⟨_, rfl⟩
  have HGr : Hid (w.heap.size ≤ gr) := by rw [hgr]; show _ ≤ _; omega
  rw [← hgr] at Xr
  try rw [← hgr]
  obtain ⟨gb, hgb⟩ : ∃ g, g = w.heap.size + 1 := ⟨_, rfl⟩
  have HGb : Hid (w.heap.size ≤ gb) := by rw [hgb]; show _ ≤ _; omega
  rw [← hgb] at Xb
  try rw [← hgb]
  obtain ⟨ga, hga⟩ : ∃ g, g = w.heap.size := ⟨_, rfl⟩
  have HGa : Hid (w.heap.size ≤ ga) := by rw [hga]; show _ ≤ _; omega
  rw [← hga] at Xa
  try rw [← hga]
  have HGD : Hid (ga ≠ gb ∧ ga ≠ gr ∧ gb ≠ ga ∧ gb ≠ gr ∧ gr ≠ ga ∧ gr ≠ gb) := by rw [hga, hgb, hgr]; exact ⟨by omega, by omega, by omega, by omega, by omega, by omega⟩
  clear hga hgb hgr
  replace HA : Hid _ := HA.out.below hb0
  replace HB : Hid _ := HB.out.below hb0
  replace hbw := Below.on hbw hb0
  clear hb0
  obtain ⟨W1, hW1⟩ : ∃ W1, W1 = W0.drew := ⟨_, rfl⟩
  have hbd : Below W0.heap.size W0 W1 := by rw [hW1]; exact bDrew1 (Below.refl _ _)
  replace Xa : Hid _ := Xa.out.below hbd
  replace Xb : Hid _ := Xb.out.below hbd
  replace Xr : Hid _ := Xr.out.below hbd
  replace HA : Hid _ := HA.out.below hbd
  replace HB : Hid _ := HB.out.below hbd
  replace hbw := Below.on hbw hbd
  clear hbd
  have HJ : Hid ((fun W' : World => W'.cell? ⟨ga, 0, none⟩ = some (.bool s) ∧ W'.cell? ⟨ga, 1, none⟩ = some (.slice p m m) ∧ W'.cell? ⟨gb, 0, none⟩ = some (.bool t) ∧ W'.cell? ⟨gb, 1, none⟩ = some (.slice q n n)) W1) := ⟨Xa.out.c0, Xa.out.c1, Xb.out.c0, Xb.out.c1⟩
  refine wp_region_J (fun W' => W'.cell? ⟨ga, 0, none⟩ = some (.bool s) ∧ W'.cell? ⟨ga, 1, none⟩ = some (.slice p m m) ∧ W'.cell? ⟨gb, 0, none⟩ = some (.bool t) ∧ W'.cell? ⟨gb, 1, none⟩ = some (.slice q n n)) (by kernel_rfl) ?_
  rw [← hW1]
  clear hW1
  refine wpJ_tq 0 rfl HJ.out ?_
  refine wpJ_tq 1 rfl HJ.out ?_
  refine wpJ_on 2 rfl fun KJ hK => ?_
  go_simp
  refine (rflip_any t HB.out (by have := HM.out; omega)).mono ?_
  rintro e w2 ⟨v, rfl, hv, hb2⟩
  obtain ⟨s2, g2, m2, rfl, hg2, hz2, hl2⟩ := hv
  replace Xa : Hid _ := Xa.out.below hb2
  replace Xb : Hid _ := Xb.out.below hb2
  replace Xr : Hid _ := Xr.out.below hb2
  replace HA : Hid _ := HA.out.below hb2
  replace HB : Hid _ := HB.out.below hb2
  replace hbw := Below.on hbw hb2
  clear hb2
  have ZB : Hid (ZR w2 s2 (some ⟨g2, 0, none⟩) m2 (-y)) := hz2
  have HL2 : Hid (m2 ≤ n) := hl2
  have HRL : Hid (gr < w2.heap.size) := Xr.out.lt
  have HBS : Hid (w.heap.size ≤ w2.heap.size) := hbw.size
  clear hg2 hz2 hl2
  refine hK _ _ ⟨Xa.out.c0, Xa.out.c1, Xb.out.c0, Xb.out.c1⟩ ?_
  clear hK
  refine wpJ_on 3 rfl fun KJ hK => ?_
  go_simp
  refine (radd04 s s2 HA.out ZB.out HM.out.1 (Nat.le_trans HL2.out HM.out.2)).mono ?_
  rintro e w3 ⟨v, rfl, hv, hb3⟩
  rw [← Int.sub_eq_add_neg] at hv
  replace Xa : Hid _ := Xa.out.below hb3
  replace Xb : Hid _ := Xb.out.below hb3
  replace Xr : Hid _ := Xr.out.below hb3
  replace HA : Hid _ := HA.out.below hb3
  replace HB : Hid _ := HB.out.below hb3
  replace ZB : Hid _ := ZB.out.below hb3
  replace hbw := Below.on hbw hb3
  clear hb3
  have HLL : Hid (max m m2 + 1 ≤ max m n + 1) := by have := HL2.out; show _ ≤ _; omega
  obtain ⟨s9, g9, m9, rfl, hg9, hz9, hl9⟩ := hv
  have ZA : Hid (ZR w3 s9 (some ⟨g9, 0, none⟩) m9 (x - y)) := hz9
  have HL : Hid (m9 ≤ max m n + 1) := by have := hl9; have := HLL.out; show m9 ≤ _; omega
  have HGE : Hid (gr < g9) := Nat.lt_of_lt_of_le HRL.out hg9
  have HGB : Hid (w.heap.size ≤ g9) := Nat.le_trans HBS.out hg9
  clear hg9 hz9 hl9
  refine hK _ _ ⟨Xa.out.c0, Xa.out.c1, Xb.out.c0, Xb.out.c1⟩ ?_
  clear hK
  obtain ⟨cr0, cr1, fr0, fr1⟩ := Xr.out
  have hner := Xr.out.lt
  obtain ⟨ca0, ca1, fa0, fa1⟩ := Xa.out
  have hnea := Xa.out.lt
  obtain ⟨cb0, cb1, fb0, fb1⟩ := Xb.out
  have hneb := Xb.out.lt
  obtain ⟨hgd0, hgd1, hgd2, hgd3, hgd4, hgd5⟩ := HGD.out
  refine wpJ_on 4 rfl fun KJ hK => ?_
  go_simp
  have HJ2 : Hid ((fun W' : World => W'.cell? ⟨ga, 0, none⟩ = some (.bool s) ∧ W'.cell? ⟨ga, 1, none⟩ = some (.slice p m m) ∧ W'.cell? ⟨gb, 0, none⟩ = some (.bool t) ∧ W'.cell? ⟨gb, 1, none⟩ = some (.slice q n n)) ((w3.setCell ⟨gr, 0, none⟩ (.bool s9)).setCell ⟨gr, 1, none⟩ (.slice (some ⟨g9, 0, none⟩) m9 m9))) := ⟨by go_simp, by go_simp, by go_simp, by go_simp⟩
  refine hK _ _ HJ2.out ?_
  clear hK HJ
  have HJ := HJ2
  clear HJ2
  refine wpJ_done (by kernel_rfl) ?_ _
  clear HJ
  go_wp2_with fail
  refine bodyPost_ret (v := .agg #[.bool s9, .slice (some ⟨g9, 0, none⟩) m9 m9]) (by rw [results_cell1 rfl]; go_simp) rfl ⟨_, rfl, ⟨s9, g9, m9, rfl, HGB.out, ?_, HL.out⟩, ?_⟩
  · have := HGE.out
    exact (ZA.out.set _ _ _ (by omega)).set _ _ _ (by omega)
  · exact bSet (bSet hbw _ _ _ HGr.out) _ _ _ HGr.out
def NewAt (B : Nat) (w : World) (p : Option Addr) (m c : Nat) (us : List Nat) : Prop := At w p m c us ∧ (m = 0 ∨ ∃ g, p = some ⟨g, 0, none⟩ ∧ B ≤ g)
theorem NewAt.below {B : Nat} {w w' : World} {p : Option Addr} {m c : Nat} {us : List Nat} (h : NewAt B w p m c us) (hb : Below w.heap.size w w') : NewAt B w' p m c us := ⟨h.1.below hb, h.2⟩
theorem NewAt.mono {B B' : Nat} {w : World} {p : Option Addr} {m c : Nat} {us : List Nat} (h : NewAt B w p m c us) (hB : B' ≤ B) : NewAt B' w p m c us :=
  ⟨h.1, h.2.imp id (fun ⟨g, e, k⟩ => ⟨g, e, Nat.le_trans hB k⟩)⟩
theorem NewAt.set {B : Nat} {w : World} {p : Option Addr} {m c : Nat} {us : List Nat} (h : NewAt B w p m c us) {r : Nat} (hr : r < B) (o : Nat) (v : Value) : NewAt B (w.setCell ⟨r, o, none⟩ v) p m c us := by
  refine ⟨?_, h.2⟩
  rcases h.2 with h0 | ⟨g, rfl, hg⟩
  · subst h0
    obtain rfl : us = [] := List.eq_nil_of_length_eq_zero h.1.len
    exact At.empty _ _ _ h.1.big
  · exact h.1.setOther _ _ _ (by omega)
def DocZ (z : Int) (s : Bool) (us : List Nat) (er : Int) : Prop :=
  (z.natAbs < LIM ∧ s = decide (z < 0) ∧ Nf B64 us z.natAbs ∧ er = 0) ∨ (LIM ≤ z.natAbs ∧ s = false ∧ us = [] ∧ er = 5)
theorem DocZ.inj {z : Int} {s s' : Bool} {us us' : List Nat} {er er' : Int} (h : DocZ z s us er) (k : DocZ z s' us' er') : s = s' ∧ us = us' ∧ er = er' := by
  rcases h with ⟨h0, rfl, h1, rfl⟩ | ⟨h0, rfl, rfl, rfl⟩ <;> rcases k with ⟨k0, rfl, k1, rfl⟩ | ⟨k0, rfl, rfl, rfl⟩
  · exact ⟨rfl, h1.inj B64_one k1, rfl⟩
  · omega
  · omega
  · exact ⟨rfl, rfl, rfl⟩
def formZ (s : Bool) (xs : List Nat) : Bool := formB xs && !(s && decide (xs = []))
def OneZ (r : Int → Int) (sx : Bool) (xs : List Nat) (s : Bool) (us : List Nat) (er : Int) : Prop :=
  (formZ sx xs = false ∧ s = false ∧ us = [] ∧ er = 2) ∨ (formZ sx xs = true ∧ DocZ (r (iv sx (valB B64 xs))) s us er)
def TwoZ (r : Int → Int → Int) (sx : Bool) (xs : List Nat) (sy : Bool) (ys : List Nat) (s : Bool) (us : List Nat) (er : Int) : Prop :=
  ((formZ sx xs && formZ sy ys) = false ∧ s = false ∧ us = [] ∧ er = 2) ∨ ((formZ sx xs && formZ sy ys) = true ∧ DocZ (r (iv sx (valB B64 xs)) (iv sy (valB B64 ys))) s us er)
theorem OneZ.inj {r : Int → Int} {sx : Bool} {xs : List Nat} {s s' : Bool} {us us' : List Nat} {er er' : Int} (h : OneZ r sx xs s us er) (k : OneZ r sx xs s' us' er') : s = s' ∧ us = us' ∧ er = er' := by
  rcases h with ⟨h0, rfl, rfl, rfl⟩ | ⟨h0, h1⟩ <;> rcases k with ⟨k0, rfl, rfl, rfl⟩ | ⟨k0, k1⟩
  · exact ⟨rfl, rfl, rfl⟩
  · rw [h0] at k0; cases k0
  · rw [h0] at k0; cases k0
  · exact h1.inj k1
theorem TwoZ.inj {r : Int → Int → Int} {sx sy : Bool} {xs ys : List Nat} {s s' : Bool} {us us' : List Nat} {er er' : Int} (h : TwoZ r sx xs sy ys s us er) (k : TwoZ r sx xs sy ys s' us' er') : s = s' ∧ us = us' ∧ er = er' := by
  rcases h with ⟨h0, rfl, rfl, rfl⟩ | ⟨h0, h1⟩ <;> rcases k with ⟨k0, rfl, rfl, rfl⟩ | ⟨k0, k1⟩
  · exact ⟨rfl, rfl, rfl⟩
  · rw [h0] at k0; cases k0
  · rw [h0] at k0; cases k0
  · exact h1.inj k1
def OffR (g m g2 : Nat) : Prop := m = 0 ∨ g ≠ g2
theorem ZR.off_new {w : World} {s : Bool} {g m : Nat} {z : Int} (h : ZR w s (some ⟨g, 0, none⟩) m z) : OffR g m w.heap.size := by
  obtain ⟨zs, hA, _⟩ := h.ex
  rcases Nat.eq_zero_or_pos m with e | e
  · exact .inl e
  · rcases hA.cells with h0 | ⟨g', off, he, hc⟩
    · exact .inl h0
    · have h1 := World.block_lt_of_cell? w _ (hc 0 e)
      have h2 : g = g' := by have := Option.some.inj he; simpa using congrArg Addr.block this
      exact .inr (by subst h2; exact Nat.ne_of_lt h1)
theorem ZR.setOff {w : World} {s : Bool} {g m : Nat} {z : Int} (h : ZR w s (some ⟨g, 0, none⟩) m z) {g2 : Nat} (hf : OffR g m g2) (o2 : Nat) (v : Value) : ZR (w.setCell ⟨g2, o2, none⟩ v) s (some ⟨g, 0, none⟩) m z := by
  rcases hf with h0 | h0
  · subst h0
    obtain ⟨zs, hA, hN⟩ := h.ex
    obtain rfl : zs = [] := List.eq_nil_of_length_eq_zero hA.len
    exact ⟨⟨[], At32.empty _ _ _ (by decide), hN⟩, h.sg⟩
  · exact h.set g2 o2 v h0
theorem divsmall_abs {L x d B V W q r : Nat} (h : V * d + L = W) (hq : L * B + x = q * d + r) : (q + B * V) * d + r = x + B * W := by
  rw [← h, Nat.add_mul, Nat.mul_add]
  have e : B * V * d = B * (V * d) := by rw [Nat.mul_assoc]
  rw [e]
  have e2 : B * L = L * B := Nat.mul_comm _ _
  omega
theorem drop_set_self (qs : List Nat) (j y : Nat) (h : j < qs.length) : (qs.set j y).drop j = y :: qs.drop (j + 1) := by
  rw [List.drop_eq_getElem_cons (by simpa using h), List.getElem_set_self, List.drop_set_of_lt (by omega)]

theorem bSet0 {B : Nat} {a w : World} (h : Below B a w) (g o : Nat) (v : Value) (hB : B ≤ g) : Below B a (w.setCell ⟨g, o, none⟩ v) :=
  h.trans ((Wr.refl g o 1 w).setCell o ⟨by omega, by omega⟩ v |>.below hB)
structure DSm (w : World) (g n d : Nat) (xs : List Nat) (k L : Nat) (qs : List Nat) (wr : World) : Prop where
  bel : Below w.heap.size w wr
  row : Row32 wr g 0 n qs
  lt : L < d
  val : valB B32 (qs.drop k) * d + L = valB B32 (xs.drop k)

theorem rdivsmall {p : Option Addr} {n c : Nat} {xs : List Nat} {w : World} (h : At32 w p n c xs) (hn : n ≤ 1099511627776) (d : Nat) (hd : 1 ≤ d) (hdb : d < B32) :
    Calls Tryd.prog 38 #[.slice p n c, .int .u32 d] w fun e w' => ∃ p' m' zs r, e = .returned (.tuple #[.slice p' m' m', .int .u32 r]) ∧ At32 w' p' m' m' zs ∧ Nf B32 zs (valB B32 xs / d) ∧ m' ≤ n ∧ Below w.heap.size w w' := by
  obtain ⟨i0, hi, hz0, hz1, hz2⟩ := info_parts Tryd.infoU32
  have HLX : Hid (xs.length = n) := h.len
  have hcap := h.cap; have hbig := h.big
  unfold maxLen at hbig
  have hd0 : ((d : Int) == 0) = false := by simp; omega
  have HDB : Hid (1 ≤ d ∧ d < B32) := ⟨hd, hdb⟩
  have hdw : IntKind.u64.wrap (d : Int) = (d : Int) := wrap_mod _ _ (by rw [B32_eq] at hdb; omega)
  clear hdb
  go_enter Tryd.func38, Tryd.ntmps38
  go_wp2_with (at_make; refine wpList_make_full _ rfl _ _ 43 rfl w.heap.size 74 i0 (.int .u32 0) 1 Tryd.underlying43 hi hz0 hz1 _ _ _ _ n rfl rfl (by omega) (by omega) (by rw [hz2]; omega) (by unfold maxLen; omega) (Nat.le_refl _) ?_; intro w1 hown hgrow; have hb := made_blk32 hown hgrow; clear hown hgrow)
  have HO : Hid (DSm w w.heap.size n d xs n 0 (List.replicate n 0) w1) := by
    have hr := hb.1.row (Dig.replicate B32 n B32_pos)
    rw [List.length_replicate] at hr
    refine ⟨hb.2, hr, by omega, ?_⟩
    rw [List.drop_of_length_le (by rw [List.length_replicate]; exact Nat.le_refl _), List.drop_of_length_le (by rw [HLX.out]; exact Nat.le_refl _)]
    simp [valB]
  clear hb
  go_loopg [7, 8] n (fun gk lv iv wr => ∃ (L : Nat) (z : Int) (qs : List Nat), lv = U L ∧ iv = .int .i64 z ∧ z = (gk : Int) - 1 ∧ gk ≤ n ∧ Hid (DSm w w.heap.size n d xs gk L qs wr))
  case atStart => exact ⟨0, (n : Int) - 1, _, rfl, rfl, rfl, Nat.le_refl _, HO⟩
  case round =>
    obtain ⟨L, z, qs, rfl, rfl, hz, hgn, HR⟩ := hrel
    cases gk with
    | zero =>
      obtain rfl : z = -1 := by omega
      have hR := HR.out
      have A32 : At32 wr (some ⟨w.heap.size, 0, none⟩) n n qs := hR.row.at_ (Nat.le_refl _) (by unfold maxLen; omega)
      have hv := hR.val
      rw [List.drop_zero, List.drop_zero] at hv
      have HV : Hid (valB B32 qs = valB B32 xs / d) := by
        show _ = _
        have h1 := hR.lt
        rw [← hv, Nat.mul_comm, Nat.mul_add_div (by omega), Nat.div_eq_of_lt h1, Nat.add_zero]
      have HNF : Hid (Nf B32 (trimL qs) (valB B32 xs / d)) := by
        have := Nf.trim hR.row.dig
        rw [HV.out] at this; exact this
      have hle := trimL_length_le qs
      have HLE : Hid ((trimL qs).length ≤ n) := by have := hR.row.len; show _ ≤ _; omega
      have hLw : IntKind.u32.wrap (L : Int) = (L : Int) := wrap32 L (by have := hR.lt; have := HDB.out.2; omega)
      have hbx := hR.bel
      clear hR hv hle hz HR
      go_wp2_with fail
      refine (rnorm_any A32 (by omega)).mono ?_
      rintro e w5 ⟨g5, rfl, hg5, hblk5, hb5⟩
      have hd5 := HNF.out.dig
      generalize trimL qs = us at *
      go_wp2_with fail
      go_ret2
      exact ⟨_, _, us, _, rfl, hblk5.at_ hd5 rfl (by have := HLE.out; unfold maxLen; omega), HNF.out, HLE.out, Below.on hbx hb5⟩
    | succ j =>
      obtain rfl : z = (j : Int) := by omega
      obtain ⟨g, off, rfl, hc⟩ := h.cells.resolve_left (by omega)
      obtain ⟨x, hx⟩ : ∃ x, x = xs.getD j 0 := ⟨_, rfl⟩
      have hcx0 : w.cell? ⟨g, off + j, none⟩ = some (V x) := by rw [hx]; exact hc j (by omega)
      have hcx : wr.cell? ⟨g, off + j, none⟩ = some (V x) := (HR.out.bel.cell (p := ⟨g, off + j, none⟩) (World.block_lt_of_cell? w _ hcx0)).trans hcx0
      have hxb : x < B32 := by rw [hx]; exact h.dig.getD B32_pos j
      have hjn : j < n := by omega
      have hct : wr.cell? ⟨w.heap.size, j, none⟩ = some (V (qs.getD j 0)) := by
        have := HR.out.row.cell j hjn
        rw [Nat.zero_add] at this; exact this
      have hft : wr.frozen? ⟨w.heap.size, j, none⟩ = false := by
        have := HR.out.row.frozen j hjn
        rw [Nat.zero_add] at this; exact this
      have hL := HR.out.lt
      have hdB := HDB.out.2
      rw [B32_eq] at hdB hxb
      obtain ⟨T, hT⟩ : ∃ T, T = L * 4294967296 + x := ⟨_, rfl⟩
      obtain ⟨lh, hlh⟩ : ∃ lh, lh = L * 4294967296 := ⟨_, rfl⟩
      have f1 : IntKind.u64.wrap ((L : Int) * 4294967296) = (lh : Int) := wrap_mod _ _ (by omega)
      have f2 : IntKind.u64.wrap ((lh : Int) + (x : Int)) = (T : Int) := wrap_mod _ _ (by omega)
      have fx : IntKind.u64.wrap (x : Int) = (x : Int) := wrap_mod _ _ (by omega)
      obtain ⟨Q, hQ⟩ : ∃ Q, Q = T / d := ⟨_, rfl⟩
      obtain ⟨R, hRr⟩ : ∃ R, R = T % d := ⟨_, rfl⟩
      have q1 : (T : Int).tdiv (d : Int) = (Q : Int) := by rw [hQ, Int.tdiv_eq_ediv_of_nonneg (Int.natCast_nonneg T)]; norm_cast
      have q2 : (T : Int) / (d : Int) = (Q : Int) := by rw [hQ]; norm_cast
      have r1 : (T : Int).tmod (d : Int) = (R : Int) := by rw [hRr, Int.tmod_eq_emod_of_nonneg (Int.natCast_nonneg T)]; norm_cast
      have r2 : (T : Int) % (d : Int) = (R : Int) := by rw [hRr]; norm_cast
      have hRd : R < d := by rw [hRr]; exact Nat.mod_lt _ hd
      have hQB : Q < B32 := by
        rw [hQ, B32_eq]
        refine Nat.div_lt_of_lt_mul ?_
        have : L * 4294967296 + 4294967296 ≤ d * 4294967296 := by
          have := Nat.mul_le_mul_right 4294967296 (show L + 1 ≤ d by omega)
          rw [Nat.add_mul] at this; omega
        omega
      have fq : IntKind.u32.wrap (Q : Int) = (Q : Int) := wrap32 Q hQB
      have fq2 : IntKind.u64.wrap (Q : Int) = (Q : Int) := wrap_mod _ _ (by rw [B32_eq] at hQB; omega)
      have fq3 : (Q : Int) % 4294967296 = (Q : Int) := by rw [B32_eq] at hQB; omega
      have hQR : L * B32 + x = Q * d + R := by rw [B32_eq, ← hT, hQ, hRr, Nat.mul_comm]; exact (Nat.div_add_mod T d).symm
      have HS : Hid (DSm w w.heap.size n d xs j R (qs.set j Q) (wr.setCell ⟨w.heap.size, j, none⟩ (V Q))) := by
        have hR := HR.out
        have hs := hR.row.set j Q hjn hQB
        rw [Nat.zero_add] at hs
        refine ⟨bSet0 hR.bel _ _ _ (Nat.le_refl _), hs, hRd, ?_⟩
        rw [drop_set_self qs j Q (by rw [hR.row.len]; exact hjn), valB_cons, valB_drop B32 xs j (by rw [HLX.out]; exact hjn), ← hx]
        exact divsmall_abs hR.val hQR
      clear hz HR hc hx hcx0 hQ hRr hT hlh hQR hL hdB hxb hRd hQB
      go_wp2_with fail
      go_roundg j
      case measure => omega
      case rel => exact ⟨R, (j : Int) - 1, qs.set j Q, rfl, rfl, rfl, by omega, HS⟩
end Go.Proofs.YtnijhlbociechaaDoor
