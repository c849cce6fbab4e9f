import Derived.Test.YtabmdpfmlnnpnaaDoorJ8
import Derived.Test.YtabmdpfmlnnpnaaDoorJ11
import Derived.Test.YtabmdpfmlnnpnaaDoorJ10
import Derived.Test.YtabmdpfmlnnpnaaDoorJ9
import Derived.Deep.DeepCutAuto
import Derived.BigQuiet
namespace Go.Proofs.YtabmdpfmlnnpnaaDoor
open Go.RowKit Go.Shelf
set_option maxRecDepth 20000
set_option maxHeartbeats 0
theorem exp_and (b E : Nat) (h : b / 4503599627370496 = E) (hE : E < 2048) : bits BinOp.and IntKind.u64 ((b : Int) / 4503599627370496) 2047 = (E : Int) := by
  have h1 : (b : Int) / 4503599627370496 = (E : Int) := by omega
  rw [h1, show (2047 : Int) = ((2047 : Nat) : Int) from rfl, bits_and_u64_nat E 2047 (by omega) (by omega), show (2047 : Nat) = 2 ^ 11 - 1 by decide, Nat.and_two_pow_sub_one_eq_mod, Nat.mod_eq_of_lt (by simpa using hE)]
theorem sign_and0 (b : Nat) (h : b < 9223372036854775808) : bits BinOp.and IntKind.u64 (b : Int) 9223372036854775808 = 0 := by
  have h1 := bits_and_u64_nat b 9223372036854775808 (by omega) (by omega)
  rw [show ((9223372036854775808 : Nat) : Int) = 9223372036854775808 from rfl] at h1
  have h2 : b &&& 9223372036854775808 = 0 := by
    apply Nat.eq_of_testBit_eq
    intro i
    rw [Nat.testBit_and, show (9223372036854775808 : Nat) = 2 ^ 63 by decide, Nat.testBit_two_pow, Nat.zero_testBit]
    by_cases hi : 63 = i
    · subst hi; rw [Nat.testBit_lt_two_pow (by simpa using h)]; rfl
    · rw [decide_eq_false hi, Bool.and_false]
  rw [h1, h2]
  rfl
theorem mround_low (b : Nat) (hb : b < 4602678819172646912) (w : World) :
    Calls Tryd.prog 23 #[Fv b] w fun en w' => en = .returned (Fv 0) ∧ w' = w := by
  have bo1 : ∀ w, (callFunc 27 #[Fv b]).run Tryd.prog w = .ok (.value (.int .u64 (b : Int))) w := fun w => bitsOf b w
  have fb1 : ∀ w, (callFunc 6 #[.int .u64 0]).run Tryd.prog w = .ok (.value (Fv 0)) w := fun w => frombits 0 w
  obtain ⟨E, hE⟩ : ∃ E, E = b / 4503599627370496 := ⟨_, rfl⟩
  have e0 := exp_and b E hE.symm (by omega)
  have e1 : decide ((E : Int) < 1023) = true := decide_eq_true (by omega)
  have e2 : ((E : Int) == 1022) = false := by simp; omega
  have e3 := sign_and0 b (by omega)
  clear hb hE
  go_enter Tryd.func23, Tryd.ntmps23
  go_wp2_with fail
  go_ret
  exact ⟨rfl, rfl⟩
theorem mround_half (b : Nat) (hb : 4602678819172646912 ≤ b) (hb2 : b < 4607182418800017408) (w : World) :
    Calls Tryd.prog 23 #[Fv b] w fun en w' => en = .returned (Fv 4607182418800017408) ∧ w' = w := by
  have bo1 : ∀ w, (callFunc 27 #[Fv b]).run Tryd.prog w = .ok (.value (.int .u64 (b : Int))) w := fun w => bitsOf b w
  have fb2 : ∀ w, (callFunc 6 #[.int .u64 4607182418800017408]).run Tryd.prog w = .ok (.value (Fv 4607182418800017408)) w := fun w => frombits 4607182418800017408 w
  have e0 := exp_and b 1022 (by omega) (by omega)
  rw [show ((1022 : Nat) : Int) = 1022 from rfl] at e0
  have e3 := sign_and0 b (by omega)
  have e4 : bits BinOp.or IntKind.u64 0 4607182418800017408 = 4607182418800017408 := by kernel_rfl
  clear hb hb2
  go_enter Tryd.func23, Tryd.ntmps23
  go_wp2_with fail
  go_ret
  exact ⟨rfl, rfl⟩
theorem mround_0 (b f j : Nat) (hf : f < 4503599627370496) (hb : b = 1023 * 4503599627370496 + f) (hj : j = (4503599627370496 + f + 2251799813685248) / 4503599627370496) (w : World) :
    Calls Tryd.prog 23 #[Fv b] w fun en w' => en = .returned (Fv (1022 * 4503599627370496 + j * 4503599627370496)) ∧ w' = w := by
  have bo1 : ∀ w, (callFunc 27 #[Fv b]).run Tryd.prog w = .ok (.value (.int .u64 (b : Int))) w := fun w => bitsOf b w
  have hR := round_pat 0 f b j (by omega) hf hb hj
  obtain ⟨R, hRe⟩ : ∃ R, R = 1022 * 4503599627370496 + j * 4503599627370496 := ⟨_, rfl⟩
  have hR2 : (b + 2251799813685248) / 4503599627370496 * 4503599627370496 = R := by rw [hRe]; exact hR.1
  have e0 := exp_and b 1023 (by omega) (by omega)
  rw [show ((1023 : Nat) : Int) = 1023 from rfl] at e0
  obtain ⟨b2, hb2⟩ : ∃ b2, b2 = b + 2251799813685248 := ⟨_, rfl⟩
  have e1 : IntKind.u64.wrap ((b : Int) + 2251799813685248) = (b2 : Int) := by rw [IntKind.wrap_u64]; omega
  have e2 : bits BinOp.andNot IntKind.u64 (b2 : Int) 4503599627370495 = (R : Int) := by
    have h1 := low_andNot b2 52 (by omega)
    rw [show ((2 ^ 52 - 1 : Nat) : Int) = 4503599627370495 from by decide, show (2 : Nat) ^ 52 = 4503599627370496 by decide, hb2, hR2] at h1
    rw [hb2]; exact h1
  have fb1 : ∀ w, (callFunc 6 #[.int .u64 (R : Int)]).run Tryd.prog w = .ok (.value (Fv R)) w := fun w => frombits R w
  rw [← hRe]
  clear hR hRe hR2 hf hb hj hb2
  go_enter Tryd.func23, Tryd.ntmps23
  go_wp2_with fail
  go_ret
  exact ⟨rfl, rfl⟩
theorem mround_1 (b f j : Nat) (hf : f < 4503599627370496) (hb : b = 1024 * 4503599627370496 + f) (hj : j = (4503599627370496 + f + 1125899906842624) / 2251799813685248) (w : World) :
    Calls Tryd.prog 23 #[Fv b] w fun en w' => en = .returned (Fv (1023 * 4503599627370496 + j * 2251799813685248)) ∧ w' = w := by
  have bo1 : ∀ w, (callFunc 27 #[Fv b]).run Tryd.prog w = .ok (.value (.int .u64 (b : Int))) w := fun w => bitsOf b w
  have hR := round_pat 1 f b j (by omega) hf hb hj
  obtain ⟨R, hRe⟩ : ∃ R, R = 1023 * 4503599627370496 + j * 2251799813685248 := ⟨_, rfl⟩
  have hR2 : (b + 1125899906842624) / 2251799813685248 * 2251799813685248 = R := by rw [hRe]; exact hR.1
  have e0 := exp_and b 1024 (by omega) (by omega)
  rw [show ((1024 : Nat) : Int) = 1024 from rfl] at e0
  obtain ⟨b2, hb2⟩ : ∃ b2, b2 = b + 1125899906842624 := ⟨_, rfl⟩
  have e1 : IntKind.u64.wrap ((b : Int) + 1125899906842624) = (b2 : Int) := by rw [IntKind.wrap_u64]; omega
  have e2 : bits BinOp.andNot IntKind.u64 (b2 : Int) 2251799813685247 = (R : Int) := by
    have h1 := low_andNot b2 51 (by omega)
    rw [show ((2 ^ 51 - 1 : Nat) : Int) = 2251799813685247 from by decide, show (2 : Nat) ^ 51 = 2251799813685248 by decide, hb2, hR2] at h1
    rw [hb2]; exact h1
  have fb1 : ∀ w, (callFunc 6 #[.int .u64 (R : Int)]).run Tryd.prog w = .ok (.value (Fv R)) w := fun w => frombits R w
  rw [← hRe]
  clear hR hRe hR2 hf hb hj hb2
  go_enter Tryd.func23, Tryd.ntmps23
  go_wp2_with fail
  go_ret
  exact ⟨rfl, rfl⟩
theorem mround_2 (b f j : Nat) (hf : f < 4503599627370496) (hb : b = 1025 * 4503599627370496 + f) (hj : j = (4503599627370496 + f + 562949953421312) / 1125899906842624) (w : World) :
    Calls Tryd.prog 23 #[Fv b] w fun en w' => en = .returned (Fv (1024 * 4503599627370496 + j * 1125899906842624)) ∧ w' = w := by
  have bo1 : ∀ w, (callFunc 27 #[Fv b]).run Tryd.prog w = .ok (.value (.int .u64 (b : Int))) w := fun w => bitsOf b w
  have hR := round_pat 2 f b j (by omega) hf hb hj
  obtain ⟨R, hRe⟩ : ∃ R, R = 1024 * 4503599627370496 + j * 1125899906842624 := ⟨_, rfl⟩
  have hR2 : (b + 562949953421312) / 1125899906842624 * 1125899906842624 = R := by rw [hRe]; exact hR.1
  have e0 := exp_and b 1025 (by omega) (by omega)
  rw [show ((1025 : Nat) : Int) = 1025 from rfl] at e0
  obtain ⟨b2, hb2⟩ : ∃ b2, b2 = b + 562949953421312 := ⟨_, rfl⟩
  have e1 : IntKind.u64.wrap ((b : Int) + 562949953421312) = (b2 : Int) := by rw [IntKind.wrap_u64]; omega
  have e2 : bits BinOp.andNot IntKind.u64 (b2 : Int) 1125899906842623 = (R : Int) := by
    have h1 := low_andNot b2 50 (by omega)
    rw [show ((2 ^ 50 - 1 : Nat) : Int) = 1125899906842623 from by decide, show (2 : Nat) ^ 50 = 1125899906842624 by decide, hb2, hR2] at h1
    rw [hb2]; exact h1
  have fb1 : ∀ w, (callFunc 6 #[.int .u64 (R : Int)]).run Tryd.prog w = .ok (.value (Fv R)) w := fun w => frombits R w
  rw [← hRe]
  clear hR hRe hR2 hf hb hj hb2
  go_enter Tryd.func23, Tryd.ntmps23
  go_wp2_with fail
  go_ret
  exact ⟨rfl, rfl⟩
theorem mround_3 (b f j : Nat) (hf : f < 4503599627370496) (hb : b = 1026 * 4503599627370496 + f) (hj : j = (4503599627370496 + f + 281474976710656) / 562949953421312) (w : World) :
    Calls Tryd.prog 23 #[Fv b] w fun en w' => en = .returned (Fv (1025 * 4503599627370496 + j * 562949953421312)) ∧ w' = w := by
  have bo1 : ∀ w, (callFunc 27 #[Fv b]).run Tryd.prog w = .ok (.value (.int .u64 (b : Int))) w := fun w => bitsOf b w
  have hR := round_pat 3 f b j (by omega) hf hb hj
  obtain ⟨R, hRe⟩ : ∃ R, R = 1025 * 4503599627370496 + j * 562949953421312 := ⟨_, rfl⟩
  have hR2 : (b + 281474976710656) / 562949953421312 * 562949953421312 = R := by rw [hRe]; exact hR.1
  have e0 := exp_and b 1026 (by omega) (by omega)
  rw [show ((1026 : Nat) : Int) = 1026 from rfl] at e0
  obtain ⟨b2, hb2⟩ : ∃ b2, b2 = b + 281474976710656 := ⟨_, rfl⟩
  have e1 : IntKind.u64.wrap ((b : Int) + 281474976710656) = (b2 : Int) := by rw [IntKind.wrap_u64]; omega
  have e2 : bits BinOp.andNot IntKind.u64 (b2 : Int) 562949953421311 = (R : Int) := by
    have h1 := low_andNot b2 49 (by omega)
    rw [show ((2 ^ 49 - 1 : Nat) : Int) = 562949953421311 from by decide, show (2 : Nat) ^ 49 = 562949953421312 by decide, hb2, hR2] at h1
    rw [hb2]; exact h1
  have fb1 : ∀ w, (callFunc 6 #[.int .u64 (R : Int)]).run Tryd.prog w = .ok (.value (Fv R)) w := fun w => frombits R w
  rw [← hRe]
  clear hR hRe hR2 hf hb hj hb2
  go_enter Tryd.func23, Tryd.ntmps23
  go_wp2_with fail
  go_ret
  exact ⟨rfl, rfl⟩
theorem mround_4 (b f j : Nat) (hf : f < 4503599627370496) (hb : b = 1027 * 4503599627370496 + f) (hj : j = (4503599627370496 + f + 140737488355328) / 281474976710656) (w : World) :
    Calls Tryd.prog 23 #[Fv b] w fun en w' => en = .returned (Fv (1026 * 4503599627370496 + j * 281474976710656)) ∧ w' = w := by
  have bo1 : ∀ w, (callFunc 27 #[Fv b]).run Tryd.prog w = .ok (.value (.int .u64 (b : Int))) w := fun w => bitsOf b w
  have hR := round_pat 4 f b j (by omega) hf hb hj
  obtain ⟨R, hRe⟩ : ∃ R, R = 1026 * 4503599627370496 + j * 281474976710656 := ⟨_, rfl⟩
  have hR2 : (b + 140737488355328) / 281474976710656 * 281474976710656 = R := by rw [hRe]; exact hR.1
  have e0 := exp_and b 1027 (by omega) (by omega)
  rw [show ((1027 : Nat) : Int) = 1027 from rfl] at e0
  obtain ⟨b2, hb2⟩ : ∃ b2, b2 = b + 140737488355328 := ⟨_, rfl⟩
  have e1 : IntKind.u64.wrap ((b : Int) + 140737488355328) = (b2 : Int) := by rw [IntKind.wrap_u64]; omega
  have e2 : bits BinOp.andNot IntKind.u64 (b2 : Int) 281474976710655 = (R : Int) := by
    have h1 := low_andNot b2 48 (by omega)
    rw [show ((2 ^ 48 - 1 : Nat) : Int) = 281474976710655 from by decide, show (2 : Nat) ^ 48 = 281474976710656 by decide, hb2, hR2] at h1
    rw [hb2]; exact h1
  have fb1 : ∀ w, (callFunc 6 #[.int .u64 (R : Int)]).run Tryd.prog w = .ok (.value (Fv R)) w := fun w => frombits R w
  rw [← hRe]
  clear hR hRe hR2 hf hb hj hb2
  go_enter Tryd.func23, Tryd.ntmps23
  go_wp2_with fail
  go_ret
  exact ⟨rfl, rfl⟩
theorem mround_5 (b f j : Nat) (hf : f < 4503599627370496) (hb : b = 1028 * 4503599627370496 + f) (hj : j = (4503599627370496 + f + 70368744177664) / 140737488355328) (w : World) :
    Calls Tryd.prog 23 #[Fv b] w fun en w' => en = .returned (Fv (1027 * 4503599627370496 + j * 140737488355328)) ∧ w' = w := by
  have bo1 : ∀ w, (callFunc 27 #[Fv b]).run Tryd.prog w = .ok (.value (.int .u64 (b : Int))) w := fun w => bitsOf b w
  have hR := round_pat 5 f b j (by omega) hf hb hj
  obtain ⟨R, hRe⟩ : ∃ R, R = 1027 * 4503599627370496 + j * 140737488355328 := ⟨_, rfl⟩
  have hR2 : (b + 70368744177664) / 140737488355328 * 140737488355328 = R := by rw [hRe]; exact hR.1
  have e0 := exp_and b 1028 (by omega) (by omega)
  rw [show ((1028 : Nat) : Int) = 1028 from rfl] at e0
  obtain ⟨b2, hb2⟩ : ∃ b2, b2 = b + 70368744177664 := ⟨_, rfl⟩
  have e1 : IntKind.u64.wrap ((b : Int) + 70368744177664) = (b2 : Int) := by rw [IntKind.wrap_u64]; omega
  have e2 : bits BinOp.andNot IntKind.u64 (b2 : Int) 140737488355327 = (R : Int) := by
    have h1 := low_andNot b2 47 (by omega)
    rw [show ((2 ^ 47 - 1 : Nat) : Int) = 140737488355327 from by decide, show (2 : Nat) ^ 47 = 140737488355328 by decide, hb2, hR2] at h1
    rw [hb2]; exact h1
  have fb1 : ∀ w, (callFunc 6 #[.int .u64 (R : Int)]).run Tryd.prog w = .ok (.value (Fv R)) w := fun w => frombits R w
  rw [← hRe]
  clear hR hRe hR2 hf hb hj hb2
  go_enter Tryd.func23, Tryd.ntmps23
  go_wp2_with fail
  go_ret
  exact ⟨rfl, rfl⟩
theorem ux_64 {K : Nat} (hK : K = 1074) : ux 4634204016564240384 = ((64 * 2 ^ K : Nat) : Int) := by
  obtain ⟨c, hc⟩ : ∃ c, c = 1028 := ⟨_, rfl⟩
  rw [ux_pos (by decide)]
  have h := vs_E c 4503599627370496 (by omega) (by omega)
  rw [show c * 4503599627370496 + 4503599627370496 = 4634204016564240384 by subst hc; rfl] at h
  rw [h]
  have e : 4503599627370496 * 2 ^ c = 64 * 2 ^ K := by
    rw [show 4503599627370496 = 2 ^ 52 by decide, show 64 = 2 ^ 6 by decide, ← Nat.pow_add, ← Nat.pow_add, show 52 + c = 6 + K by clear h; omega]
  rw [e]
theorem word_false (r : Nat) : Ieee.double.word false r = r := by unfold Ieee.Format.word; simp
theorem mul64 (s : Nat) (hs : s ≤ 4605493568939753472) : floatBits .mul .f64 4634204016564240384 s = some (rg 0 (64 * vs 4503599627370496 s)) := by
  obtain ⟨K, hK⟩ : ∃ K, K = 1074 := ⟨_, rfl⟩
  rw [fmul_any ⟨by decide, by decide⟩ ⟨by omega, by omega⟩, ux_64 hK, ux_pos (by omega), Int.natAbs_natCast, Int.natAbs_natCast, ← hK, show 64 * 2 ^ K * vs 4503599627370496 s = 64 * vs 4503599627370496 s * 2 ^ K by rw [Nat.mul_assoc, Nat.mul_comm (2 ^ K), ← Nat.mul_assoc], rgc_int, decide_eq_false (show ¬ 9223372036854775808 ≤ 4634204016564240384 by decide), decide_eq_false (show ¬ 9223372036854775808 ≤ s by omega), Bool.xor_false, word_false]
theorem order_top (s : Nat) (hs : s < 9218868437227405312) : FloatKind.f64.format.order s 4605493568939753472 = some (if s < 4605493568939753472 then .lt else if s = 4605493568939753472 then .eq else .gt) := by
  have e : FloatKind.f64.format.order s 4605493568939753472 = Ieee.double.order s 4605493568939753472 := rfl
  rw [e, order_fin ⟨by omega, by omega⟩ ⟨by decide, by decide⟩, ux_pos (by omega), ux_pos (by omega), ordI]
  rcases Nat.lt_trichotomy s 4605493568939753472 with h | h | h
  · have := vs_mono (H := 4503599627370496) (by decide) h
    rw [if_pos (by omega), if_pos h]
  · subst h; rw [if_neg (by omega), if_pos rfl, if_neg (by omega), if_pos rfl]
  · have := vs_mono (H := 4503599627370496) (by decide) h
    rw [if_neg (by omega), if_neg (by omega), if_neg (by omega), if_neg (by omega)]
theorem mround_all {K : Nat} (hK : K = 1074) (s : Nat) (hs : s ≤ 4605493568939753472) (w : World) : Calls Tryd.prog 23 #[Fv (rg 0 (64 * vs 4503599627370496 s))] w fun en w' => ∃ R, en = .returned (Fv R) ∧ w' = w ∧ floatToIntVal .f64 R .i64 = some (plcN K s : Int) := by
  by_cases h1 : s < 4575657221408423936
  · have hP : rg 0 (64 * vs 4503599627370496 s) < 4602678819172646912 := by
      by_cases h2 : s < 4503599627370496
      · have := rg_64_low h2; omega
      · rw [rg_64 (by omega) (by omega)]; omega
    refine (mround_low _ hP w).mono ?_
    rintro en w' ⟨rfl, rfl⟩
    exact ⟨0, rfl, rfl, by rw [plc_low hK h1]; decide +kernel⟩
  rw [rg_64 (by omega) (by omega)]
  by_cases h2 : s < 4580160821035794432
  · refine (mround_half _ (by omega) (by omega) w).mono ?_
    rintro en w' ⟨rfl, rfl⟩
    refine ⟨_, rfl, rfl, ?_⟩
    have hp := plc_at K 1015 0 (s - 1016 * 4503599627370496) (by omega) (by omega) rfl hK
    rw [show (1016 + 0) * 4503599627370496 + (s - 1016 * 4503599627370496) = s by omega] at hp
    rw [hp, show (4503599627370496 + (s - 1016 * 4503599627370496) + 2 ^ (52 - 0)) / 2 ^ (53 - 0) = 1 by simp only [Nat.reducePow, Nat.reduceSub]; omega]
    decide +kernel
  by_cases h3 : s < 4584664420663164928
  · obtain ⟨f, hf⟩ : ∃ f, f = s - 1017 * 4503599627370496 := ⟨_, rfl⟩
    obtain ⟨j, hj⟩ : ∃ j, j = (4503599627370496 + f + 2251799813685248) / 4503599627370496 := ⟨_, rfl⟩
    refine (mround_0 _ f j (by omega) (by omega) hj w).mono ?_
    rintro en w' ⟨rfl, rfl⟩
    refine ⟨_, rfl, rfl, ?_⟩
    have hp := plc_at K 1016 1 f (by omega) (by omega) rfl hK
    rw [show (1016 + 1) * 4503599627370496 + f = s by omega, show (4503599627370496 + f + 2 ^ (52 - 1)) / 2 ^ (53 - 1) = j by simp only [Nat.reducePow, Nat.reduceSub]; omega] at hp
    rw [hp]
    have hc := conv_all 0 (by omega) j (by omega) (by simp only [Nat.reducePow]; omega) (by simp only [Nat.reduceAdd, Nat.reducePow]; omega)
    simp only [Nat.reducePow, Nat.reduceSub, Nat.reduceAdd, Nat.reduceMul] at hc ⊢
    exact hc
  by_cases h4 : s < 4589168020290535424
  · obtain ⟨f, hf⟩ : ∃ f, f = s - 1018 * 4503599627370496 := ⟨_, rfl⟩
    obtain ⟨j, hj⟩ : ∃ j, j = (4503599627370496 + f + 1125899906842624) / 2251799813685248 := ⟨_, rfl⟩
    refine (mround_1 _ f j (by omega) (by omega) hj w).mono ?_
    rintro en w' ⟨rfl, rfl⟩
    refine ⟨_, rfl, rfl, ?_⟩
    have hp := plc_at K 1017 2 f (by omega) (by omega) rfl hK
    rw [show (1016 + 2) * 4503599627370496 + f = s by omega, show (4503599627370496 + f + 2 ^ (52 - 2)) / 2 ^ (53 - 2) = j by simp only [Nat.reducePow, Nat.reduceSub]; omega] at hp
    rw [hp]
    have hc := conv_all 1 (by omega) j (by omega) (by simp only [Nat.reducePow]; omega) (by simp only [Nat.reduceAdd, Nat.reducePow]; omega)
    simp only [Nat.reducePow, Nat.reduceSub, Nat.reduceAdd, Nat.reduceMul] at hc ⊢
    exact hc
  by_cases h5 : s < 4593671619917905920
  · obtain ⟨f, hf⟩ : ∃ f, f = s - 1019 * 4503599627370496 := ⟨_, rfl⟩
    obtain ⟨j, hj⟩ : ∃ j, j = (4503599627370496 + f + 562949953421312) / 1125899906842624 := ⟨_, rfl⟩
    refine (mround_2 _ f j (by omega) (by omega) hj w).mono ?_
    rintro en w' ⟨rfl, rfl⟩
    refine ⟨_, rfl, rfl, ?_⟩
    have hp := plc_at K 1018 3 f (by omega) (by omega) rfl hK
    rw [show (1016 + 3) * 4503599627370496 + f = s by omega, show (4503599627370496 + f + 2 ^ (52 - 3)) / 2 ^ (53 - 3) = j by simp only [Nat.reducePow, Nat.reduceSub]; omega] at hp
    rw [hp]
    have hc := conv_all 2 (by omega) j (by omega) (by simp only [Nat.reducePow]; omega) (by simp only [Nat.reduceAdd, Nat.reducePow]; omega)
    simp only [Nat.reducePow, Nat.reduceSub, Nat.reduceAdd, Nat.reduceMul] at hc ⊢
    exact hc
  by_cases h6 : s < 4598175219545276416
  · obtain ⟨f, hf⟩ : ∃ f, f = s - 1020 * 4503599627370496 := ⟨_, rfl⟩
    obtain ⟨j, hj⟩ : ∃ j, j = (4503599627370496 + f + 281474976710656) / 562949953421312 := ⟨_, rfl⟩
    refine (mround_3 _ f j (by omega) (by omega) hj w).mono ?_
    rintro en w' ⟨rfl, rfl⟩
    refine ⟨_, rfl, rfl, ?_⟩
    have hp := plc_at K 1019 4 f (by omega) (by omega) rfl hK
    rw [show (1016 + 4) * 4503599627370496 + f = s by omega, show (4503599627370496 + f + 2 ^ (52 - 4)) / 2 ^ (53 - 4) = j by simp only [Nat.reducePow, Nat.reduceSub]; omega] at hp
    rw [hp]
    have hc := conv_all 3 (by omega) j (by omega) (by simp only [Nat.reducePow]; omega) (by simp only [Nat.reduceAdd, Nat.reducePow]; omega)
    simp only [Nat.reducePow, Nat.reduceSub, Nat.reduceAdd, Nat.reduceMul] at hc ⊢
    exact hc
  by_cases h7 : s < 4602678819172646912
  · obtain ⟨f, hf⟩ : ∃ f, f = s - 1021 * 4503599627370496 := ⟨_, rfl⟩
    obtain ⟨j, hj⟩ : ∃ j, j = (4503599627370496 + f + 140737488355328) / 281474976710656 := ⟨_, rfl⟩
    refine (mround_4 _ f j (by omega) (by omega) hj w).mono ?_
    rintro en w' ⟨rfl, rfl⟩
    refine ⟨_, rfl, rfl, ?_⟩
    have hp := plc_at K 1020 5 f (by omega) (by omega) rfl hK
    rw [show (1016 + 5) * 4503599627370496 + f = s by omega, show (4503599627370496 + f + 2 ^ (52 - 5)) / 2 ^ (53 - 5) = j by simp only [Nat.reducePow, Nat.reduceSub]; omega] at hp
    rw [hp]
    have hc := conv_all 4 (by omega) j (by omega) (by simp only [Nat.reducePow]; omega) (by simp only [Nat.reduceAdd, Nat.reducePow]; omega)
    simp only [Nat.reducePow, Nat.reduceSub, Nat.reduceAdd, Nat.reduceMul] at hc ⊢
    exact hc
  · obtain ⟨f, hf⟩ : ∃ f, f = s - 1022 * 4503599627370496 := ⟨_, rfl⟩
    obtain ⟨j, hj⟩ : ∃ j, j = (4503599627370496 + f + 70368744177664) / 140737488355328 := ⟨_, rfl⟩
    refine (mround_5 _ f j (by omega) (by omega) hj w).mono ?_
    rintro en w' ⟨rfl, rfl⟩
    refine ⟨_, rfl, rfl, ?_⟩
    have hp := plc_at K 1021 6 f (by omega) (by omega) rfl hK
    rw [show (1016 + 6) * 4503599627370496 + f = s by omega, show (4503599627370496 + f + 2 ^ (52 - 6)) / 2 ^ (53 - 6) = j by simp only [Nat.reducePow, Nat.reduceSub]; omega] at hp
    rw [hp]
    have hc := conv_all 5 (by omega) j (by omega) (by simp only [Nat.reducePow]; omega) (by simp only [Nat.reduceAdd, Nat.reducePow]; omega)
    simp only [Nat.reducePow, Nat.reduceSub, Nat.reduceAdd, Nat.reduceMul] at hc ⊢
    exact hc
theorem place_ok {K : Nat} (hK : K = 1074) (x : Nat) (hx : x < 18446744073709551616) (hl : x % 9223372036854775808 ≤ 4605493568939753472) (w : World) :
    Calls Tryd.prog 7 #[Fv x] w fun en w' => en = .returned (.tuple #[.int .i64 (plcN K (x % 9223372036854775808) : Int), .int .i64 0]) ∧ Below w.heap.size w w' := by
  have HA := mabs x hx
  have HN := isnan x hx
  have HI := isinf x hx
  obtain ⟨s, hs⟩ : ∃ s, s = x % 9223372036854775808 := ⟨_, rfl⟩
  rw [← hs] at HA HN HI
  have ho := order_top s (by omega)
  rw [decide_eq_false (show ¬ 9218868437227405312 < s by omega)] at HN
  rw [decide_eq_false (show ¬ s = 9218868437227405312 by omega)] at HI
  have ho2 : (∃ o, FloatKind.f64.format.order s 4605493568939753472 = some o ∧ (o = .lt ∨ o = .eq)) := by
    by_cases h : s < 4605493568939753472
    · rw [if_pos h] at ho; exact ⟨_, ho, .inl rfl⟩
    · rw [if_neg h, if_pos (by omega)] at ho; exact ⟨_, ho, .inr rfl⟩
  clear ho
  obtain ⟨o, ho, hoo⟩ := ho2
  have HR := mround_all hK s (by omega)
  have hm := mul64 s (by omega)
  rw [← hs]
  obtain ⟨q, hq⟩ : ∃ q, q = plcN K s := ⟨_, rfl⟩
  rw [← hq]
  rw [← hq] at HR
  generalize rg 0 (64 * vs 4503599627370496 s) = P at HR hm
  have fm : ∀ w, (binOp .mul 24 (Fv 4634204016564240384) (Fv s)).run Tryd.prog w = .ok (Fv P) w := fun w => run_float_arith w .mul 24 .f64 4634204016564240384 s P hm
  have hbw : Below w.heap.size w w := Below.refl _ _
  clear hs hl hq hm hK
  go_enter Tryd.func7, Tryd.ntmps7
  go_wp2_with fail
  refine (HA _).mono ?_
  rintro e v9 ⟨rfl, hw⟩
  obtain rfl := hw.symm
  clear hw
  go_wp2_with fail
  refine (HN _).mono ?_
  rintro e v9 ⟨rfl, hw⟩
  obtain rfl := hw.symm
  clear hw
  go_wp2_with fail
  refine (HI _).mono ?_
  rintro e v9 ⟨rfl, hw⟩
  obtain rfl := hw.symm
  clear hw
  rcases hoo with rfl | rfl
  · go_wp2_with fail
    refine (HR _).mono ?_
    rintro e v9 ⟨R, rfl, hw, hR⟩
    obtain rfl := hw.symm
    clear hw
    have hcv : ∀ w, (convert 24 3 (Fv R)).run Tryd.prog w = .ok (.int .i64 (q : Int)) w := fun w => run_convert_float_int w 24 3 .f64 .i64 R (q : Int) (by kernel_rfl) Tryd.underlying3 hR
    go_wp2_with fail
    go_ret2
    exact ⟨rfl, hbw⟩
  · go_wp2_with fail
    refine (HR _).mono ?_
    rintro e v9 ⟨R, rfl, hw, hR⟩
    obtain rfl := hw.symm
    clear hw
    have hcv : ∀ w, (convert 24 3 (Fv R)).run Tryd.prog w = .ok (.int .i64 (q : Int)) w := fun w => run_convert_float_int w 24 3 .f64 .i64 R (q : Int) (by kernel_rfl) Tryd.underlying3 hR
    go_wp2_with fail
    go_ret2
    exact ⟨rfl, hbw⟩
theorem stFs (w : World) (a : Addr) (b : Nat) : (store a (Fv b)).run Tryd.prog w = stored Tryd.prog w a (Fv b) .plain := run_store _ w a (Fv b) _ rfl
def SN : List Nat := [0, 0, 4580160454536392405, 13547579073368098678, 4584662954719242351, 13563949304181312226, 4586913746847464361, 13566418493652244858, 4589162157373738715, 13565635294520691561, 4590288195321689435, 13571915860097451659, 4591409928847315172, 4340058461531295770, 4592530015553861917, 4350074286710082760, 4593648181988224566, 13567934672008572987, 4594217887542005423, 13575801550145022373, 4594774641278281419, 4351741018788776849, 4595330026238453491, 13575806695459752374, 4595883906833248949, 4343065779550066627, 4596436147840664338, 4348722683634062205, 4596986614438977945, 4353223431030508715, 4597535172239664592, 13574744420402360258, 4598081687320204663, 13574233591919817400, 4598400622901027894, 13581162171891704500, 4598671637851060342, 4356212803758837748, 4598941432118424735, 4350852416605968391, 4599209939836720088, 4323523077633180570, 4599477095453637920, 4357271923058577069, 4599742833746965911, 4352666692703215819, 4600007089840510967, 13582162211903916717, 4600269799219937812, 13575796336720852686, 4600530897748519241, 4357413022124190944, 4600790321682794181, 13580214217610903384, 4601048007688129738, 13572214364228865741, 4601303892854183447, 13581416402800735513, 4601557914710261923, 4350934527179136935, 4601810011240572191, 13574689896800117400, 4602060120899361946, 4355214790318226842, 4602308182625945072, 13571467409308189309, 4602554135859608727, 4348745855762497699, 4602738369863522645, 13583657803099765505, 4602859148183212033, 13584816096337794294, 4602978782988901435, 4363303634146990465, 4603097245073468848, 4351425392996656264, 4603214505516095308, 4355590242459458906, 4603330535689325499, 4359101603699473614, 4603445307266056734, 13587258310203108016, 4603558792226454607, 4363824495314211675, 4603670962864793643, 13578651590041733032, 4603781791796221242, 13572694174990798784, 4603891251963443307, 13583961949702083845, 4603999316643329889, 4332702558478714268, 4604105959453439260, 13584475955338184753, 4604211154358458803, 4349496730363867543, 4604314875676561165, 4362137232034453386, 4604417098085674105, 13587040772166132762, 4604517796629662511, 13584747444859885030, 4604616946724421089, 13578607042041458003, 4604714524163876216, 13578955971649868450]
def TabSN (w : World) : Prop := ∀ j, j < 106 → w.cell? ⟨1, j, none⟩ = some (U (SN.getD j 0))
theorem TabSN.below {w w' : World} (h : TabSN w) (hb : Below w.heap.size w w') : TabSN w' := by
  intro j hj
  have h1 := h j hj
  have hl : 1 < w.heap.size := World.block_lt_of_cell? w _ h1
  exact (hb.cell (p := ⟨1, j, none⟩) hl).trans h1
def CN : List Nat := [4607182418800017408, 0, 4607181319310759071, 4360199296339566323, 4607178021111408595, 13583900207205620571, 4607172525007174047, 13580802267923385695, 4607164832339850451, 4360373087281693295, 4607154944987492207, 13577437272034865047, 4607142865363954587, 4360356363645614299, 4607128596418304433, 4354598035789022892, 4607112141634100179, 4362696058276736952, 4607093505028541395, 13570800116725065577, 4607072691151488040, 4362962654239356002, 4607049705084349686, 13586345316221922070, 4607024552438844956, 13584713310975483060, 4606997239355631511, 4354481718263263700, 4606967772502806894, 13574441066790794388, 4606936159074280607, 4358239809693653067, 4606902406788017825, 4363209716120537853, 4606866523884155164, 13568216631309222833, 4606828519122988968, 13582908836409922622, 4606788401782836611, 13583461530133150952, 4606746181657771328, 13584618491671399955, 4606701869055231132, 13584699945613158451, 4606655474793502401, 13571140830922498923, 4606607010199078750, 13586847198672795332, 4606556487103895826, 4347296784401157429, 4606503917842442716, 4363977163357160349, 4606449315248750656, 13584934786183195703, 4606392692653259782, 4359027992459594717, 4606334063879564703, 4361936029453593101, 4606273443241039662, 4351864918935878296, 4606210845537344132, 4357993302370877731, 4606146286050809694, 13574337134639884416, 4606079780542709072, 13585268877995206696, 4606011345249408245, 4355855762229825693, 4605940996878402574, 4347198757411991008, 4605868752604237902, 4348506336573684245, 4605794630064317638, 4355505676600721602, 4605718647354596837, 4362012674173089484, 4605640823025164333, 4353219448755111826, 4605561176075713999, 13584701159983126121, 4605479725950906245, 13583368851881006598, 4605396492535620884, 4361493040018204585, 4605311496150102525, 13583066472705394221, 4605224757544999671, 13578632912864623495, 4605136297896298752, 4361846053882066113, 4605046138800154310, 4355887936269445597, 4604954302267616605, 13577764333051586782, 4604860810719257935, 13577354343185313384, 4604765686979698975, 13576144875971963077, 4604668954272036472, 4360651779814366337, 4604570636212173661, 4355362127650550962, 4604470756803054778, 13572015408658218103, 4604369340428805087, 4360729798899938000]
def TabCN (w : World) : Prop := ∀ j, j < 106 → w.cell? ⟨2, j, none⟩ = some (U (CN.getD j 0))
theorem TabCN.below {w w' : World} (h : TabCN w) (hb : Below w.heap.size w w') : TabCN w' := by
  intro j hj
  have h1 := h j hj
  have hl : 2 < w.heap.size := World.block_lt_of_cell? w _ h1
  exact (hb.cell (p := ⟨2, j, none⟩) hl).trans h1
structure TabT (w : World) : Prop where
  s : TabSN w
  c : TabCN w
theorem TabT.below {w w' : World} (h : TabT w) (hb : Below w.heap.size w w') : TabT w' := ⟨h.s.below hb, h.c.below hb⟩
theorem tpair (h l : Nat) (w : World) :
    Calls Tryd.prog 41 #[.int .u64 (h : Int), .int .u64 (l : Int)] w fun en w' => en = .returned (.agg #[Fv h, Fv l]) ∧ Below w.heap.size w w' := by
  have hSF : ∀ (w : World) (a : Addr) (b : Nat), (store a (Fv b)).run Tryd.prog w = stored Tryd.prog w a (Fv b) .plain := stFs
  have b1 : ∀ w, (callFunc 6 #[.int .u64 (h : Int)]).run Tryd.prog w = .ok (.value (Fv h)) w := fun w => frombits h w
  have b2 : ∀ w, (callFunc 6 #[.int .u64 (l : Int)]).run Tryd.prog w = .ok (.value (Fv l)) w := fun w => frombits l w
  go_enter Tryd.func41, Tryd.ntmps41
  go_wp2_with fail
  refine bodyPost_ret (v := .agg #[Fv h, Fv l]) (by rw [results_cell1 rfl]; go_simp) rfl ⟨rfl, below1 w _⟩
theorem results_cct {fn : Func} {p q a : Tmp} {t1 t2 : TypeId} (h : fn.results = #[.cell p t1, .cell q t2, .tmp a]) (tmps : Array Value) (P : Program) (w : World) :
    (results fn tmps).run P w = ((asAddr (tmps.getD p undef)).run P w).andThen fun x w₁ => ((loadVar t1 x).run P w₁).andThen fun v w₂ => ((asAddr (tmps.getD q undef)).run P w₂).andThen fun y w₃ => ((loadVar t2 y).run P w₃).andThen fun u w₄ => .ok (.tuple #[v, u, tmps.getD a undef]) w₄ := by
  simp only [results, h]
  simp [Sem.run_bind, Result.andThen]
theorem row_ok (j : Nat) (hj : j < 53) {a b c d : Nat} (ha : a = SN.getD (2 * j) 0) (hb : b = SN.getD (2 * j + 1) 0) (hc : c = CN.getD (2 * j) 0) (hd : d = CN.getD (2 * j + 1) 0) (w : World) (hT : TabT w) :
    Calls Tryd.prog 19 #[.int .i64 (j : Int)] w fun en w' => en = .returned (.tuple #[.agg #[Fv a, Fv b], .agg #[Fv c, Fv d], .int .i64 0]) ∧ Below w.heap.size w w' := by
  have hSF : ∀ (w : World) (a : Addr) (b : Nat), (store a (Fv b)).run Tryd.prog w = stored Tryd.prog w a (Fv b) .plain := stFs
  have t1 := hT.s (2 * j) (by omega)
  have t2 := hT.s (2 * j + 1) (by omega)
  have t3 := hT.c (2 * j) (by omega)
  have t4 := hT.c (2 * j + 1) (by omega)
  rw [← ha] at t1
  rw [← hb] at t2
  rw [← hc] at t3
  rw [← hd] at t4
  obtain ⟨k0, hk0⟩ : ∃ k, k = 2 * j := ⟨_, rfl⟩
  obtain ⟨k1, hk1⟩ : ∃ k, k = 2 * j + 1 := ⟨_, rfl⟩
  rw [← hk0] at t1 t3
  rw [← hk1] at t2 t4
  have i1 : ¬ (j : Int) < 0 := by omega
  have i2 : ¬ (52 : Int) < (j : Int) := by omega
  have w0 : wrap64 (2 * (j : Int)) = (k0 : Int) := by simp only [wrap64]; omega
  have w1 : wrap64 ((k0 : Int) + 1) = (k1 : Int) := by simp only [wrap64]; omega
  have v0 : IntKind.i64.wrap (2 * (j : Int)) = (k0 : Int) := by simp [IntKind.wrap, IntKind.signed, IntKind.bits]; omega
  have v1 : IntKind.i64.wrap ((k0 : Int) + 1) = (k1 : Int) := by simp [IntKind.wrap, IntKind.signed, IntKind.bits]; omega
  have r0 : (0 : Int) ≤ (k0 : Int) := by omega
  have r1 : (k0 : Int) < 106 := by omega
  have r2 : (0 : Int) ≤ (k1 : Int) := by omega
  have r3 : (k1 : Int) < 106 := by omega
  have q1 : 1 < w.heap.size := World.block_lt_of_cell? w _ t1
  have q2 : 2 < w.heap.size := World.block_lt_of_cell? w _ t3
  have Q1 : Hid (1 < w.heap.size ∧ 2 < w.heap.size) := ⟨q1, q2⟩
  have T1 : Hid (∀ W, Below w.heap.size w W → W.cell? ⟨1, k0, none⟩ = some (U a)) := fun W h => (h.cell (p := ⟨1, k0, none⟩) q1).trans t1
  have T2 : Hid (∀ W, Below w.heap.size w W → W.cell? ⟨1, k1, none⟩ = some (U b)) := fun W h => (h.cell (p := ⟨1, k1, none⟩) q1).trans t2
  have T3 : Hid (∀ W, Below w.heap.size w W → W.cell? ⟨2, k0, none⟩ = some (U c)) := fun W h => (h.cell (p := ⟨2, k0, none⟩) q2).trans t3
  have T4 : Hid (∀ W, Below w.heap.size w W → W.cell? ⟨2, k1, none⟩ = some (U d)) := fun W h => (h.cell (p := ⟨2, k1, none⟩) q2).trans t4
  clear ha hb hc hd hk0 hk1 hj hT t1 t2 t3 t4 q1 q2
  go_enter Tryd.func19, Tryd.ntmps19
  go_wp2_with fail
  obtain ⟨W0, hW0⟩ : ∃ W0, W0 = ((w.alloc (.cells #[Fv 0, Fv 0] 37)).alloc (.cells #[Fv 0, Fv 0] 37)) := ⟨_, rfl⟩
  have Xr : Hid (Box W0 (w.heap.size) (Fv 0) (Fv 0)) := by rw [hW0]; exact ⟨by go_simp, by go_simp, by go_simp, by go_simp⟩
  have Xq : Hid (Box W0 (w.heap.size + 1) (Fv 0) (Fv 0)) := by rw [hW0]; exact ⟨by go_simp, by go_simp, by go_simp, by go_simp⟩
  have hb0 : Below w.heap.size w W0 := by rw [hW0]; exact below2 w _ _
  rw [← hW0]
  clear hW0
  have hbw : Below w.heap.size w w := Below.refl _ _
  obtain ⟨gq, hgq⟩ : ∃ g, g = w.heap.size + 1 := ⟨_, rfl⟩
  have HGq : Hid (w.heap.size ≤ gq) := by rw [hgq]; show _ ≤ _; omega
  rw [← hgq] at Xq
  try rw [← hgq]
  obtain ⟨gr, hgr⟩ : ∃ g, g = w.heap.size := ⟨_, rfl⟩
  have HGr : Hid (w.heap.size ≤ gr) := by rw [hgr]; show _ ≤ _; omega
  rw [← hgr] at Xr
  try rw [← hgr]
  have HGD : Hid (gr ≠ gq ∧ gq ≠ gr) := by rw [hgr, hgq]; exact ⟨by omega, by omega⟩
  clear hgr hgq
  replace hbw := Below.on hbw hb0
  clear hb0
  obtain ⟨V1, hV1⟩ : ∃ W1, W1 = W0.drew := ⟨_, rfl⟩
  have hbd : Below W0.heap.size W0 V1 := by rw [hV1]; exact bDrew1 (Below.refl _ _)
  replace Xr : Hid _ := Xr.out.below hbd
  replace Xq : Hid _ := Xq.out.below hbd
  replace hbw := Below.on hbw hbd
  clear hbd
  have HJ : Hid ((fun W' : World => W'.cell? ⟨1, k0, none⟩ = some (U a) ∧ W'.cell? ⟨1, k1, none⟩ = some (U b) ∧ W'.cell? ⟨2, k0, none⟩ = some (U c) ∧ W'.cell? ⟨2, k1, none⟩ = some (U d)) V1) := ⟨T1.out _ hbw, T2.out _ hbw, T3.out _ hbw, T4.out _ hbw⟩
  refine wp_region_J (fun W' => W'.cell? ⟨1, k0, none⟩ = some (U a) ∧ W'.cell? ⟨1, k1, none⟩ = some (U b) ∧ W'.cell? ⟨2, k0, none⟩ = some (U c) ∧ W'.cell? ⟨2, k1, none⟩ = some (U d)) (by kernel_rfl) ?_
  rw [← hV1]
  clear hV1
  refine wpJ_tq 0 rfl HJ.out ?_
  refine wpJ_tq 1 rfl HJ.out ?_
  refine wpJ_tq 2 rfl HJ.out ?_
  refine wpJ_tq 3 rfl HJ.out ?_
  refine wpJ_tq 4 rfl HJ.out ?_
  go_simp
  refine wpJ_tq 5 rfl HJ.out ?_
  refine wpJ_tq 6 rfl HJ.out ?_
  refine wpJ_tq 7 rfl HJ.out ?_
  refine wpJ_tq 8 rfl HJ.out ?_
  refine wpJ_tq 10 rfl HJ.out ?_
  go_simp
  refine wpJ_tq 11 rfl HJ.out ?_
  refine wpJ_tq 12 rfl HJ.out ?_
  refine wpJ_tq 13 rfl HJ.out ?_
  refine wpJ_tq 14 rfl HJ.out ?_
  refine wpJ_tq 15 rfl HJ.out ?_
  go_simp
  refine wpJ_tq 16 rfl HJ.out ?_
  refine wpJ_tq 17 rfl HJ.out ?_
  refine wpJ_tq 18 rfl HJ.out ?_
  refine wpJ_on 9 rfl fun KJ hK => ?_
  go_simp
  refine (tpair a b _).mono ?_
  rintro e v1 ⟨rfl, hb1⟩
  replace Xr : Hid _ := Xr.out.below hb1
  replace Xq : Hid _ := Xq.out.below hb1
  replace hbw := Below.on hbw hb1
  clear hb1
  refine hK _ _ ⟨T1.out _ hbw, T2.out _ hbw, T3.out _ hbw, T4.out _ hbw⟩ ?_
  clear hK
  refine wpJ_on 19 rfl fun KJ hK => ?_
  go_simp
  refine (tpair c d _).mono ?_
  rintro e v2 ⟨rfl, hb2⟩
  replace Xr : Hid _ := Xr.out.below hb2
  replace Xq : Hid _ := Xq.out.below hb2
  replace hbw := Below.on hbw hb2
  clear hb2
  refine hK _ _ ⟨T1.out _ hbw, T2.out _ hbw, T3.out _ hbw, T4.out _ hbw⟩ ?_
  clear hK
  obtain ⟨cr0, cr1, fr0, fr1⟩ := Xr.out
  have hner := Xr.out.lt
  obtain ⟨cq0, cq1, fq0, fq1⟩ := Xq.out
  have hneq := Xq.out.lt
  obtain ⟨hgd0, hgd1⟩ := HGD.out
  have z1 := T1.out _ hbw
  have z2 := T2.out _ hbw
  have z3 := T3.out _ hbw
  have z4 := T4.out _ hbw
  have hz1 : 1 ≠ gr := by have := HGr.out; have := Q1.out.1; omega
  have hz2 : 2 ≠ gr := by have := HGr.out; have := Q1.out.2; omega
  have hz3 : 1 ≠ gq := by have := HGq.out; have := Q1.out.1; omega
  have hz4 : 2 ≠ gq := by have := HGq.out; have := Q1.out.2; omega
  have hz5 := hz1.symm
  have hz6 := hz2.symm
  have hz7 := hz3.symm
  have hz8 := hz4.symm
  refine wpJ_on 20 rfl fun KJ hK => ?_
  go_simp
  have HJ2 : Hid ((fun W' : World => W'.cell? ⟨1, k0, none⟩ = some (U a) ∧ W'.cell? ⟨1, k1, none⟩ = some (U b) ∧ W'.cell? ⟨2, k0, none⟩ = some (U c) ∧ W'.cell? ⟨2, k1, none⟩ = some (U d)) ((v2.setCell ⟨gr, 0, none⟩ (Fv a)).setCell ⟨gr, 1, none⟩ (Fv b))) := ⟨by go_simp, by go_simp, by go_simp, by go_simp⟩
  refine hK _ _ HJ2.out ?_
  clear hK HJ
  have HJ := HJ2
  clear HJ2
  refine wpJ_on 21 rfl fun KJ hK => ?_
  go_simp
  have HJ2 : Hid ((fun W' : World => W'.cell? ⟨1, k0, none⟩ = some (U a) ∧ W'.cell? ⟨1, k1, none⟩ = some (U b) ∧ W'.cell? ⟨2, k0, none⟩ = some (U c) ∧ W'.cell? ⟨2, k1, none⟩ = some (U d)) ((((v2.setCell ⟨gr, 0, none⟩ (Fv a)).setCell ⟨gr, 1, none⟩ (Fv b)).setCell ⟨gq, 0, none⟩ (Fv c)).setCell ⟨gq, 1, none⟩ (Fv d))) := ⟨by go_simp, by go_simp, by go_simp, by go_simp⟩
  refine hK _ _ HJ2.out ?_
  clear hK HJ
  have HJ := HJ2
  clear HJ2
  refine wpJ_tq 22 rfl HJ.out ?_
  refine wpJ_done (by kernel_rfl) ?_ _
  clear HJ
  go_wp2_with fail
  refine bodyPost_ret (v := .tuple #[.agg #[Fv a, Fv b], .agg #[Fv c, Fv d], .int .i64 0]) (by rw [results_cct rfl]; go_simp) rfl ⟨rfl, ?_⟩
  exact bSet (bSet (bSet (bSet (hbw) _ _ _ HGr.out) _ _ _ HGr.out) _ _ _ HGq.out) _ _ _ HGq.out
theorem lbits23 (a b c d : Nat) (w : World) :
    Calls Tryd.prog 20 #[.agg #[Fv a, Fv b], .agg #[Fv c, Fv d]] w fun en w' => en = .returned (.agg #[.int .u64 (a : Int), .int .u64 (b : Int), .int .u64 (c : Int), .int .u64 (d : Int)]) ∧ Below w.heap.size w w' := by
  have hSF : ∀ (w : World) (a : Addr) (b : Nat), (store a (Fv b)).run Tryd.prog w = stored Tryd.prog w a (Fv b) .plain := stFs
  have boa : ∀ w, (callFunc 27 #[Fv a]).run Tryd.prog w = .ok (.value (.int .u64 (a : Int))) w := fun w => bitsOf a w
  have bob : ∀ w, (callFunc 27 #[Fv b]).run Tryd.prog w = .ok (.value (.int .u64 (b : Int))) w := fun w => bitsOf b w
  have boc : ∀ w, (callFunc 27 #[Fv c]).run Tryd.prog w = .ok (.value (.int .u64 (c : Int))) w := fun w => bitsOf c w
  have bod : ∀ w, (callFunc 27 #[Fv d]).run Tryd.prog w = .ok (.value (.int .u64 (d : Int))) w := fun w => bitsOf d w
  go_enter Tryd.func20, Tryd.ntmps20
  go_wp2_with fail
  obtain ⟨W0, hW0⟩ : ∃ W0, W0 = (((w.alloc (.cells #[Fv a, Fv b] 37)).alloc (.cells #[Fv c, Fv d] 37)).alloc (.cells #[.int .u64 0, .int .u64 0, .int .u64 0, .int .u64 0] 52)) := ⟨_, rfl⟩
  have Xs : Hid (Box W0 (w.heap.size) (Fv a) (Fv b)) := by rw [hW0]; exact ⟨by go_simp, by go_simp, by go_simp, by go_simp⟩
  have Xc : Hid (Box W0 (w.heap.size + 1) (Fv c) (Fv d)) := by rw [hW0]; exact ⟨by go_simp, by go_simp, by go_simp, by go_simp⟩
  have Xr : Hid (B4q W0 (w.heap.size + 1 + 1) (.int .u64 0) (.int .u64 0) (.int .u64 0) (.int .u64 0)) := by rw [hW0]; exact ⟨by go_simp, by go_simp, by go_simp, by go_simp, by go_simp, by go_simp, by go_simp, by go_simp⟩
  have hb0 : Below w.heap.size w W0 := by rw [hW0]; exact below3 w _ _ _
  rw [← hW0]
  clear hW0
  have hbw : Below w.heap.size w w := Below.refl _ _
  obtain ⟨gr, hgr⟩ : ∃ g, g = w.heap.size + 1 + 1 := ⟨_, rfl⟩
  have HGr : Hid (w.heap.size ≤ gr) := by rw [hgr]; show _ ≤ _; omega
  rw [← hgr] at Xr
  try rw [← hgr]
  obtain ⟨gc, hgc⟩ : ∃ g, g = w.heap.size + 1 := ⟨_, rfl⟩
  have HGc : Hid (w.heap.size ≤ gc) := by rw [hgc]; show _ ≤ _; omega
  rw [← hgc] at Xc
  try rw [← hgc]
  obtain ⟨gs, hgs⟩ : ∃ g, g = w.heap.size := ⟨_, rfl⟩
  have HGs : Hid (w.heap.size ≤ gs) := by rw [hgs]; show _ ≤ _; omega
  rw [← hgs] at Xs
  try rw [← hgs]
  have HGD : Hid (gs ≠ gc ∧ gs ≠ gr ∧ gc ≠ gs ∧ gc ≠ gr ∧ gr ≠ gs ∧ gr ≠ gc) := by rw [hgs, hgc, hgr]; exact ⟨by omega, by omega, by omega, by omega, by omega, by omega⟩
  clear hgs hgc hgr
  replace hbw := Below.on hbw hb0
  clear hb0
  obtain ⟨V1, hV1⟩ : ∃ W1, W1 = W0.drew := ⟨_, rfl⟩
  have hbd : Below W0.heap.size W0 V1 := by rw [hV1]; exact bDrew1 (Below.refl _ _)
  replace Xs : Hid _ := Xs.out.below hbd
  replace Xc : Hid _ := Xc.out.below hbd
  replace Xr : Hid _ := Xr.out.below hbd
  replace hbw := Below.on hbw hbd
  clear hbd
  have HJ : Hid ((fun W' : World => W'.cell? ⟨gs, 0, none⟩ = some (Fv a) ∧ W'.cell? ⟨gs, 1, none⟩ = some (Fv b) ∧ W'.cell? ⟨gc, 0, none⟩ = some (Fv c) ∧ W'.cell? ⟨gc, 1, none⟩ = some (Fv d)) V1) := ⟨Xs.out.c0, Xs.out.c1, Xc.out.c0, Xc.out.c1⟩
  refine wp_region_J (fun W' => W'.cell? ⟨gs, 0, none⟩ = some (Fv a) ∧ W'.cell? ⟨gs, 1, none⟩ = some (Fv b) ∧ W'.cell? ⟨gc, 0, none⟩ = some (Fv c) ∧ W'.cell? ⟨gc, 1, none⟩ = some (Fv d)) (by kernel_rfl) ?_
  rw [← hV1]
  clear hV1
  refine wpJ_tq 0 rfl HJ.out ?_
  refine wpJ_tq 1 rfl HJ.out ?_
  refine wpJ_tq 3 rfl HJ.out ?_
  refine wpJ_tq 4 rfl HJ.out ?_
  refine wpJ_tq 6 rfl HJ.out ?_
  go_simp
  refine wpJ_tq 7 rfl HJ.out ?_
  refine wpJ_tq 9 rfl HJ.out ?_
  refine wpJ_tq 10 rfl HJ.out ?_
  refine wpJ_on 2 rfl fun KJ hK => ?_
  go_simp
  refine hK _ _ ⟨Xs.out.c0, Xs.out.c1, Xc.out.c0, Xc.out.c1⟩ ?_
  clear hK
  refine wpJ_on 5 rfl fun KJ hK => ?_
  go_simp
  refine hK _ _ ⟨Xs.out.c0, Xs.out.c1, Xc.out.c0, Xc.out.c1⟩ ?_
  clear hK
  refine wpJ_on 8 rfl fun KJ hK => ?_
  go_simp
  refine hK _ _ ⟨Xs.out.c0, Xs.out.c1, Xc.out.c0, Xc.out.c1⟩ ?_
  clear hK
  refine wpJ_on 11 rfl fun KJ hK => ?_
  go_simp
  clear HJ
  have HJ : Hid ((fun W' : World => W'.cell? ⟨gs, 0, none⟩ = some (Fv a) ∧ W'.cell? ⟨gs, 1, none⟩ = some (Fv b) ∧ W'.cell? ⟨gc, 0, none⟩ = some (Fv c) ∧ W'.cell? ⟨gc, 1, none⟩ = some (Fv d)) V1) := ⟨Xs.out.c0, Xs.out.c1, Xc.out.c0, Xc.out.c1⟩
  refine hK _ _ HJ.out ?_
  clear hK
  refine wpJ_tq 12 rfl HJ.out ?_
  obtain ⟨cr0, cr1, cr2, cr3, fr0, fr1, fr2, fr3⟩ := Xr.out
  have hner : gr < V1.heap.size := World.block_lt_of_cell? V1 _ cr0
  obtain ⟨cs0, cs1, fs0, fs1⟩ := Xs.out
  have hnes := Xs.out.lt
  obtain ⟨cc0, cc1, fc0, fc1⟩ := Xc.out
  have hnec := Xc.out.lt
  obtain ⟨hgd0, hgd1, hgd2, hgd3, hgd4, hgd5⟩ := HGD.out
  refine wpJ_on 13 rfl fun KJ hK => ?_
  go_simp
  have HJ2 : Hid ((fun W' : World => W'.cell? ⟨gs, 0, none⟩ = some (Fv a) ∧ W'.cell? ⟨gs, 1, none⟩ = some (Fv b) ∧ W'.cell? ⟨gc, 0, none⟩ = some (Fv c) ∧ W'.cell? ⟨gc, 1, none⟩ = some (Fv d)) ((((V1.setCell ⟨gr, 0, none⟩ (.int .u64 (a : Int))).setCell ⟨gr, 1, none⟩ (.int .u64 (b : Int))).setCell ⟨gr, 2, none⟩ (.int .u64 (c : Int))).setCell ⟨gr, 3, none⟩ (.int .u64 (d : Int)))) := ⟨by go_simp, by go_simp, by go_simp, by go_simp⟩
  refine hK _ _ HJ2.out ?_
  clear hK HJ
  have HJ := HJ2
  clear HJ2
  refine wpJ_done (by kernel_rfl) ?_ _
  clear HJ
  go_wp2_with fail
  refine bodyPost_ret (v := .agg #[.int .u64 (a : Int), .int .u64 (b : Int), .int .u64 (c : Int), .int .u64 (d : Int)]) (by rw [results_cell1 rfl]; go_simp) rfl ⟨rfl, ?_⟩
  exact bSet (bSet (bSet (bSet (hbw) _ _ _ HGr.out) _ _ _ HGr.out) _ _ _ HGr.out) _ _ _ HGr.out
theorem plc_half {K : Nat} (hK : K = 1074) : plcN K 4602678819172646912 = 32 := by
  have h := plc_at K 1021 6 0 (by omega) (by omega) rfl hK
  rw [show (1016 + 6) * 4503599627370496 + 0 = 4602678819172646912 by decide] at h
  rw [h]
theorem awake23 (w : World) (hT : TabT w) :
    Calls Tryd.prog 5 #[] w fun en w' => en = .returned (.bool true) ∧ Below w.heap.size w w' := by
  have hSF : ∀ (w : World) (a : Addr) (b : Nat), (store a (Fv b)).run Tryd.prog w = stored Tryd.prog w a (Fv b) .plain := stFs
  have TB : Hid (TabT w) := hT
  obtain ⟨K, hK⟩ : ∃ K, K = 1074 := ⟨_, rfl⟩
  have HP := place_ok hK 13826050856027422720 (by decide) (by decide)
  rw [show 13826050856027422720 % 9223372036854775808 = 4602678819172646912 by decide, plc_half hK, show ((32 : Nat) : Int) = 32 from rfl] at HP
  have HR := row_ok 32 (by omega) (a := 4602308182625945072) (b := 13571467409308189309) (c := 4606079780542709072) (d := 13585268877995206696) (by decide +kernel) (by decide +kernel) (by decide +kernel) (by decide +kernel)
  rw [show ((32 : Nat) : Int) = 32 from rfl] at HR
  have hbw : Below w.heap.size w w := Below.refl _ _
  clear hT hK
  go_enter Tryd.func5, Tryd.ntmps5
  go_wp2_with fail
  refine (HR _ TB.out).mono ?_
  rintro e v1 ⟨rfl, hb1⟩
  replace hbw := Below.on hbw hb1
  clear hb1
  go_wp2_with fail
  obtain ⟨Ws, hWs⟩ : ∃ W9, W9 = ((v1.alloc (.cells #[Fv 4602308182625945072, Fv 13571467409308189309] 37)).alloc (.cells #[Fv 4606079780542709072, Fv 13585268877995206696] 37)) := ⟨_, rfl⟩
  have Xs0 : Hid (Box Ws (v1.heap.size) (Fv 4602308182625945072) (Fv 13571467409308189309)) := by rw [hWs]; exact ⟨by go_simp, by go_simp, by go_simp, by go_simp⟩
  have Xc0 : Hid (Box Ws (v1.heap.size + 1) (Fv 4606079780542709072) (Fv 13585268877995206696)) := by rw [hWs]; exact ⟨by go_simp, by go_simp, by go_simp, by go_simp⟩
  have hbn : Below v1.heap.size v1 Ws := by rw [hWs]; exact below2 v1 _ _
  rw [← hWs]
  clear hWs
  obtain ⟨gc, hgc⟩ : ∃ g, g = v1.heap.size + 1 := ⟨_, rfl⟩
  have HGc : Hid (w.heap.size ≤ gc) := by rw [hgc]; have := hbw.size; show _ ≤ _; omega
  rw [← hgc] at Xc0
  try rw [← hgc]
  obtain ⟨gs, hgs⟩ : ∃ g, g = v1.heap.size := ⟨_, rfl⟩
  have HGs : Hid (w.heap.size ≤ gs) := by rw [hgs]; have := hbw.size; show _ ≤ _; omega
  rw [← hgs] at Xs0
  try rw [← hgs]
  clear hgs hgc
  replace hbw := Below.on hbw hbn
  clear hbn
  have Xs := Xs0
  clear Xs0
  have Xc := Xc0
  clear Xc0
  obtain ⟨cs0, cs1, fs0, fs1⟩ := Xs.out
  have hnes := Xs.out.lt
  obtain ⟨cc0, cc1, fc0, fc1⟩ := Xc.out
  have hnec := Xc.out.lt
  go_wp2_with fail
  clear cs0 cs1 fs0 fs1 hnes
  clear cc0 cc1 fc0 fc1 hnec
  refine (lbits23 4602308182625945072 13571467409308189309 4606079780542709072 13585268877995206696 _).mono ?_
  rintro e v2 ⟨rfl, hb2⟩
  replace Xs : Hid _ := Xs.out.below hb2
  replace Xc : Hid _ := Xc.out.below hb2
  replace hbw := Below.on hbw hb2
  clear hb2
  go_wp2_with fail
  have Xw0 : Hid (B4q (v2.alloc (.cells #[.int .u64 ((4602308182625945072 : Nat) : Int), .int .u64 ((13571467409308189309 : Nat) : Int), .int .u64 ((4606079780542709072 : Nat) : Int), .int .u64 ((13585268877995206696 : Nat) : Int)] 52)) v2.heap.size (.int .u64 ((4602308182625945072 : Nat) : Int)) (.int .u64 ((13571467409308189309 : Nat) : Int)) (.int .u64 ((4606079780542709072 : Nat) : Int)) (.int .u64 ((13585268877995206696 : Nat) : Int))) := B4q.new v2 _ _ _ _ _
  have hbn : Below v2.heap.size v2 (v2.alloc (.cells #[.int .u64 ((4602308182625945072 : Nat) : Int), .int .u64 ((13571467409308189309 : Nat) : Int), .int .u64 ((4606079780542709072 : Nat) : Int), .int .u64 ((13585268877995206696 : Nat) : Int)] 52)) := below1 v2 _
  generalize v2.alloc (.cells #[.int .u64 ((4602308182625945072 : Nat) : Int), .int .u64 ((13571467409308189309 : Nat) : Int), .int .u64 ((4606079780542709072 : Nat) : Int), .int .u64 ((13585268877995206696 : Nat) : Int)] 52) = Ww at *
  have HGw : Hid (w.heap.size ≤ v2.heap.size) := hbw.size
  replace Xs : Hid _ := Xs.out.below hbn
  replace Xc : Hid _ := Xc.out.below hbn
  replace hbw := Below.on hbw hbn
  clear hbn
  generalize v2.heap.size = gw at *
  have Xw := Xw0
  clear Xw0
  go_wp2_with fail
  refine (HP _).mono ?_
  rintro e v3 ⟨rfl, hb3⟩
  replace Xs : Hid _ := Xs.out.below hb3
  replace Xc : Hid _ := Xc.out.below hb3
  replace Xw : Hid _ := Xw.out.below hb3
  replace hbw := Below.on hbw hb3
  clear hb3
  obtain ⟨cw0, cw1, cw2, cw3, fw0, fw1, fw2, fw3⟩ := Xw.out
  have hnew : gw < v3.heap.size := World.block_lt_of_cell? v3 _ cw0
  go_wp2_with fail
  clear cw0 cw1 cw2 cw3 fw0 fw1 fw2 fw3 hnew
  go_ret
  exact ⟨by kernel_rfl, hbw⟩
def finB (x : Nat) : Bool := decide (x % 9223372036854775808 < 9218868437227405312)
theorem ddfinite (x : Nat) (hx : x < 18446744073709551616) (w : World) : Calls Tryd.prog 26 #[Fv x] w fun en w' => en = .returned (.bool (finB x)) ∧ w' = w := by
  have H1 := isinf x hx
  have H2 := isnan x hx
  unfold finB
  generalize x % 9223372036854775808 = y at H1 H2 ⊢
  rcases Nat.lt_trichotomy y 9218868437227405312 with h | h | h
  · rw [decide_eq_true h]
    rw [decide_eq_false (show ¬ y = 9218868437227405312 by omega)] at H1
    rw [decide_eq_false (show ¬ 9218868437227405312 < y by omega)] at H2
    clear h hx
    go_enter Tryd.func26, Tryd.ntmps26
    go_wp2_with fail
    refine (H1 _).mono ?_
    rintro e v9 ⟨rfl, hw⟩
    obtain rfl := hw.symm
    clear hw
    go_wp2_with fail
    refine (H2 _).mono ?_
    rintro e v9 ⟨rfl, hw⟩
    obtain rfl := hw.symm
    clear hw
    go_wp2_with fail
    go_ret
    exact ⟨rfl, rfl⟩
  · rw [decide_eq_false (show ¬ y < 9218868437227405312 by omega)]
    rw [decide_eq_true h] at H1
    clear h hx H2
    go_enter Tryd.func26, Tryd.ntmps26
    go_wp2_with fail
    refine (H1 _).mono ?_
    rintro e v9 ⟨rfl, hw⟩
    obtain rfl := hw.symm
    clear hw
    go_wp2_with fail
    go_ret
    exact ⟨rfl, rfl⟩
  · rw [decide_eq_false (show ¬ y < 9218868437227405312 by omega)]
    rw [decide_eq_false (show ¬ y = 9218868437227405312 by omega)] at H1
    rw [decide_eq_true h] at H2
    clear h hx
    go_enter Tryd.func26, Tryd.ntmps26
    go_wp2_with fail
    refine (H1 _).mono ?_
    rintro e v9 ⟨rfl, hw⟩
    obtain rfl := hw.symm
    clear hw
    go_wp2_with fail
    refine (H2 _).mono ?_
    rintro e v9 ⟨rfl, hw⟩
    obtain rfl := hw.symm
    clear hw
    go_wp2_with fail
    go_ret
    exact ⟨rfl, rfl⟩
theorem finB_iff {x : Nat} (hx : x < 18446744073709551616) : finB x = true ↔ Fin64 x := by
  unfold finB
  rw [decide_eq_true_iff]
  exact ⟨fun h => ⟨hx, h⟩, fun h => h.fin⟩
def ddB (h l : Nat) : Bool := decide (h < 18446744073709551616) && decide (l < 18446744073709551616) && finB h && finB l && decide (rg 0 (ux h + ux l).natAbs < 9218868437227405312) && decide (rv (ux h + ux l) = ux h)
theorem ddB_iff {h l : Nat} : ddB h l = true ↔ DdF h l := by
  unfold ddB finB
  simp only [Bool.and_eq_true, decide_eq_true_iff]
  exact ⟨fun ⟨⟨⟨⟨⟨h1, h2⟩, h3⟩, h4⟩, h5⟩, h6⟩ => ⟨⟨h1, h3⟩, ⟨h2, h4⟩, h5, h6⟩, fun d => ⟨⟨⟨⟨⟨d.hi.lt, d.lo.lt⟩, d.hi.fin⟩, d.lo.fin⟩, d.fit⟩, d.eq⟩⟩
theorem ddB_not {h l : Nat} (hf : finB h = false) : ddB h l = false := by
  cases hb : ddB h l with
  | false => rfl
  | true =>
    have d := ddB_iff.1 hb
    have := (finB_iff d.hi.lt).2 d.hi
    rw [hf] at this
    cases this
theorem belowDn {B : Nat} {a w : World} (h : Below B a w) (n : Nat) : Below B a (w.drewN n) := ⟨h.os, h.tape, h.output, h.size, h.block⟩
theorem ddform (h l : Nat) (hh : h < 18446744073709551616) (hl : l < 18446744073709551616) (w : World) : Calls Tryd.prog 24 #[.agg #[Fv h, Fv l]] w fun en w' => en = .returned (.bool (ddB h l)) ∧ Below w.heap.size w w' := by
  have hSF : ∀ (w : World) (a : Addr) (b : Nat), (store a (Fv b)).run Tryd.prog w = stored Tryd.prog w a (Fv b) .plain := fun w a b => run_store _ w a (Fv b) _ rfl
  have H1 := ddfinite h hh
  cases hfb : finB h with
  | false =>
    rw [ddB_not hfb]
    rw [hfb] at H1
    clear hfb
    go_enter Tryd.func24, Tryd.ntmps24
    go_wp2_with fail
    refine (H1 _).mono ?_
    rintro e v9 ⟨rfl, hw⟩
    obtain rfl := hw.symm
    clear hw
    go_wp2_with fail
    go_ret
    exact ⟨rfl, bwAlloc w _⟩
  | true =>
    rw [hfb] at H1
    have hF := (finB_iff hh).1 hfb
    obtain ⟨r, n, hr, F⟩ := fop (P := Tryd.prog) .add (.inl rfl) 24 h l (w.alloc (Obj.cells #[Fv h, Fv l] 37))
    have hfm := form_iff hF hl F
    obtain ⟨o, ho⟩ : ∃ o, FloatKind.f64.format.order r h = o := ⟨_, rfl⟩
    have hb : ddB h l = (o == some .eq) := by
      rw [Bool.eq_iff_iff, ddB_iff, ← hfm, beq_iff_eq, ← ho]; rfl
    rw [hb]
    clear hb hfm F hF hfb hh hl
    go_enter Tryd.func24, Tryd.ntmps24
    go_wp2_with fail
    refine (H1 _).mono ?_
    rintro e v9 ⟨rfl, hw⟩
    obtain rfl := hw.symm
    clear hw
    rcases o with _ | _ | _ | _
    all_goals
      go_wp2_with fail
      go_ret
      exact ⟨by kernel_rfl, belowDn (bwAlloc w _) n⟩
end Go.Proofs.YtabmdpfmlnnpnaaDoor
namespace Go.Proofs.YtabmdpfmlnnpnaaDoor
open Go.RowKit
set_option maxRecDepth 20000
set_option maxHeartbeats 0
variable {P : Program} {md : Region.Mode} {ops : Array Oper} {Q : Exit → Act → World → Prop} {J : World → Prop} {L : Nat}

def ClosedL (md : Region.Mode) (ops : Array Oper) (listed : Array Bool) : Prop :=
  ∀ (k : Nat) (o : Oper), ops[k]? = some o → listed.getD k false = true → ∀ e ∈ o.after, Region.binds md e = true → listed.getD e.on false = true
theorem ClosedL.step {listed : Array Bool} (h : ClosedL md ops listed) {j : Nat} (hj : j ∈ Region.ready md ops listed) : ClosedL md ops (listed.setIfInBounds j true) := by
  intro k o ho hk e he hb
  obtain ⟨h0, oj, hoj, hall⟩ := mem_ready.1 hj
  by_cases hjk : j = k
  · subst hjk
    rw [hoj] at ho
    obtain rfl := Option.some.inj ho
    exact getD_set_true (hall e he hb)
  · rw [getD_set_ne false hjk] at hk
    exact getD_set_true (h k o ho hk e he hb)
end Go.Proofs.YtabmdpfmlnnpnaaDoor
namespace Go.Proofs.YtabmdpfmlnnpnaaDoor
open Go.RowKit Go.Shelf
set_option maxRecDepth 20000
set_option maxHeartbeats 0
theorem stF (w : World) (a : Addr) (b : Nat) : (store a (Fv b)).run Tryd.prog w = stored Tryd.prog w a (Fv b) .plain := run_store _ w a (Fv b) _ rfl
theorem bwDrewN {B : Nat} {a w : World} (h : Below B a w) (r : Nat) : Below B a (w.drewN r) := ⟨h.os, h.tape, h.output, h.size, h.block⟩
theorem B5q.drewN {W : World} {g : Nat} {v0 v1 v2 v3 v4 : Value} (h : B5q W g v0 v1 v2 v3 v4) (r : Nat) : B5q (W.drewN r) g v0 v1 v2 v3 v4 := ⟨h.c0, h.c1, h.c2, h.c3, h.c4, h.f0, h.f1, h.f2, h.f3, h.f4⟩
def clsN (H I s : Nat) : Int := if s = 0 then 0 else if s < H then 1 else if s < I then 2 else if s = I then 3 else 4
theorem infinity_64v {I : Nat} (hI : I = 9218868437227405312) (w : World) : Calls Tryd.prog 91 #[WV 64 53 (-1074)] w fun e w' => e = .returned (U I) ∧ Below w.heap.size w w' := by
  subst hI
  exact infinity_64 w
theorem class_64 {I : Nat} (hI : I = 9218868437227405312) (neg : Bool) (s : Nat) (w : World) : Calls Tryd.prog 81 #[PV 64 53 (-1074) neg s] w fun e w' => e = .returned (.int .i64 (clsN 4503599627370496 I s)) ∧ Below w.heap.size w w' := by
  obtain ⟨c, hc⟩ : ∃ c, c = clsN 4503599627370496 I s := ⟨_, rfl⟩
  rw [← hc]
  have HC : Hid (c = clsN 4503599627370496 I s) := hc
  have HI : Hid (I = 9218868437227405312) := hI
  have hHI : 4503599627370496 ≤ I := by omega
  clear hc hI
  go_enter Tryd.func81, Tryd.ntmps81
  by_cases h0 : s = 0
  · subst h0
    have HC2 : Hid (c = 0) := HC.out
    go_wp2_with fail
    go_ret
    exact ⟨ret_int HC2.out.symm, bwAlloc w _⟩
  have h0b : ((s : Int) == 0) = false := by simp; omega
  by_cases h1 : s < 4503599627370496
  · have HC2 : Hid (c = 1) := by show _ = _; rw [HC.out]; simp [clsN, h0, h1]
    have h1b : decide ((s : Int) < 4503599627370496) = true := decide_eq_true (by omega)
    go_wp2_with fail
    go_quiet (fail)
    go_wp2_with fail
    go_ret
    exact ⟨ret_int HC2.out.symm, bwDrewN (bwAlloc w _) _⟩
  have h1b : decide ((s : Int) < 4503599627370496) = false := decide_eq_false (by omega)
  go_wp2_with fail
  go_quiet (fail)
  go_wp2_with fail
  clear h0b h1b
  have X := (B5q.new w 106 (.int .i64 64) (.int .i64 53) (.int .i64 (-1074)) (.bool neg) (U s)).drewN nq
  have hb0 := bwDrewN (bwAlloc w (.cells #[.int .i64 64, .int .i64 53, .int .i64 (-1074), .bool neg, U s] 106)) nq
  generalize (w.alloc (.cells #[.int .i64 64, .int .i64 53, .int .i64 (-1074), .bool neg, U s] 106)).drewN nq = W2 at *
  obtain ⟨g, hg⟩ : ∃ g, g = w.heap.size := ⟨_, rfl⟩
  rw [← hg] at X ⊢
  clear hg
  have X2 : Hid (B5q W2.drew g (.int .i64 64) (.int .i64 53) (.int .i64 (-1074)) (.bool neg) (U s)) := X.drew
  have HB2 : Hid (Below w.heap.size w W2.drew) := bwDrew hb0
  obtain ⟨x0, x1, x2, x3, x4, x5, x6, x7, x8, x9⟩ := X
  clear hb0
  by_cases h2 : s < I
  · have HC2 : Hid (c = 2) := by show _ = _; rw [HC.out]; simp [clsN, h0, h1, h2]
    have h2b : decide ((s : Int) < (I : Int)) = true := decide_eq_true (by omega)
    have h2n : decide (s < I) = true := decide_eq_true h2
    clear h0 h1 h2 hHI
    go_region_with (go_at_call 91; (with_reducible refine (infinity_64v HI.out W2.drew).mono ?_); rintro e w3 ⟨rfl, hb3⟩; have X3 : Hid (B5q w3 g (.int .i64 64) (.int .i64 53) (.int .i64 (-1074)) (.bool neg) (U s)) := X2.out.below hb3; obtain ⟨p0, p1, p2, p3, p4, p5, p6, p7, p8, p9⟩ := X3.out; have HB3 : Hid (Below w.heap.size w w3) := bwOn HB2.out hb3; clear hb3)
    all_goals
      (go_wp2_with fail
       go_ret
       exact ⟨ret_int HC2.out.symm, HB3.out⟩)
  have h2b : decide ((s : Int) < (I : Int)) = false := decide_eq_false (by omega)
  have h2n : decide (s < I) = false := decide_eq_false h2
  by_cases h3 : s = I
  · have HC2 : Hid (c = 3) := by show _ = _; rw [HC.out]; unfold clsN; rw [if_neg h0, if_neg h1, if_neg h2, if_pos h3]
    have h3b : ((s : Int) == (I : Int)) = true := by simp; omega
    have h3n : (s == I) = true := by simp [h3]
    have h3m : decide (s = I) = true := decide_eq_true h3
    clear h0 h1 h2 h3 hHI
    go_region_with (go_at_call 91; (with_reducible refine (infinity_64v HI.out W2.drew).mono ?_); rintro e w3 ⟨rfl, hb3⟩; have X3 : Hid (B5q w3 g (.int .i64 64) (.int .i64 53) (.int .i64 (-1074)) (.bool neg) (U s)) := X2.out.below hb3; obtain ⟨p0, p1, p2, p3, p4, p5, p6, p7, p8, p9⟩ := X3.out; have HB3 : Hid (Below w.heap.size w w3) := bwOn HB2.out hb3; clear hb3)
    all_goals
      (clear x0 x1 x2 x3 x4 x5 x6 x7 x8 x9
       go_wp2_with fail
       clear h2b h2n
       go_region_with (go_at_call 91; (with_reducible refine (infinity_64v HI.out w3.drew).mono ?_); rintro e w4 ⟨rfl, hb4⟩; obtain ⟨q0, q1, q2, q3, q4, q5, q6, q7, q8, q9⟩ := X3.out.drew.below hb4; have HB4 : Hid (Below w.heap.size w w4) := bwOn (bwDrew HB3.out) hb4; clear hb4)
       all_goals
         (go_wp2_with fail
          go_ret
          exact ⟨ret_int HC2.out.symm, HB4.out⟩))
  have h3b : ((s : Int) == (I : Int)) = false := by simp; omega
  have h3n : (s == I) = false := by simp [h3]
  have h3m : decide (s = I) = false := decide_eq_false h3
  have HC2 : Hid (c = 4) := by show _ = _; rw [HC.out]; simp [clsN, h0, h1, h2, h3]
  clear h0 h1 h2 h3 hHI
  go_region_with (go_at_call 91; (with_reducible refine (infinity_64v HI.out W2.drew).mono ?_); rintro e w3 ⟨rfl, hb3⟩; have X3 : Hid (B5q w3 g (.int .i64 64) (.int .i64 53) (.int .i64 (-1074)) (.bool neg) (U s)) := X2.out.below hb3; obtain ⟨p0, p1, p2, p3, p4, p5, p6, p7, p8, p9⟩ := X3.out; have HB3 : Hid (Below w.heap.size w w3) := bwOn HB2.out hb3; clear hb3)
  all_goals
    (clear x0 x1 x2 x3 x4 x5 x6 x7 x8 x9
     go_wp2_with fail
     clear h2b h2n
     go_region_with (go_at_call 91; (with_reducible refine (infinity_64v HI.out w3.drew).mono ?_); rintro e w4 ⟨rfl, hb4⟩; obtain ⟨q0, q1, q2, q3, q4, q5, q6, q7, q8, q9⟩ := X3.out.drew.below hb4; have HB4 : Hid (Below w.heap.size w w4) := bwOn (bwDrew HB3.out) hb4; clear hb4)
     all_goals
       (go_wp2_with fail
        go_ret
        exact ⟨ret_int HC2.out.symm, HB4.out⟩))
theorem cls_ne {H I s : Nat} (h : s ≤ I) : clsN H I s ≠ 4 := by
  unfold clsN
  by_cases h0 : s = 0
  · rw [if_pos h0]; decide
  · rw [if_neg h0]
    by_cases h1 : s < H
    · rw [if_pos h1]; decide
    · rw [if_neg h1]
      by_cases h2 : s < I
      · rw [if_pos h2]; decide
      · rw [if_neg h2, if_pos (by omega)]; decide
theorem cls_nan {H I s : Nat} (hH : H ≤ I) (h : I < s) : clsN H I s = 4 := by
  unfold clsN
  rw [if_neg (by omega), if_neg (by omega), if_neg (by omega), if_neg (by omega)]
theorem cls_inf {H I s : Nat} (hH : H ≤ I) (h0 : 0 < I) : (clsN H I s == 3) = decide (s = I) := by
  unfold clsN
  by_cases h3 : s = I
  · rw [if_neg (by omega), if_neg (by omega), if_neg (by omega), if_pos h3]; simp [h3]
  · rw [decide_eq_false h3]
    by_cases h0 : s = 0
    · rw [if_pos h0]; decide
    · rw [if_neg h0]
      by_cases h1 : s < H
      · rw [if_pos h1]; decide
      · rw [if_neg h1]
        by_cases h2 : s < I
        · rw [if_pos h2]; decide
        · rw [if_neg h2, if_neg h3]; decide
theorem parts_64 (s q m : Nat) (hq : q = s / 4503599627370496 - 1) (hm : m = s - q * 4503599627370496) (hs : s < 9223372036854775808) (w : World) : Calls Tryd.prog 70 #[WV 64 53 (-1074), U s] w fun e w' => e = .returned (.tuple #[U m, .int .i64 (-1074 + (q : Int))]) ∧ Below w.heap.size w w' := by
  obtain ⟨r, hr⟩ : ∃ r : Int, r = -1074 + (q : Int) := ⟨_, rfl⟩
  obtain ⟨y, hy⟩ : ∃ y, y = q * 4503599627370496 := ⟨_, rfl⟩
  rw [← hr]
  have e0 : max ((s : Int) / 4503599627370496 - 1) 0 = (q : Int) := by omega
  have e1 : IntKind.u64.wrap (q : Int) = (q : Int) := by rw [IntKind.wrap_u64]; omega
  have e2 : IntKind.u64.wrap ((q : Int) * 4503599627370496) = (y : Int) := by rw [IntKind.wrap_u64]; omega
  have e3 : IntKind.u64.wrap ((s : Int) - (y : Int)) = (m : Int) := by rw [IntKind.wrap_u64]; omega
  have e4 : IntKind.i64.wrap (-1074 + (q : Int)) = r := by rw [hr]; simp [IntKind.wrap, IntKind.signed, IntKind.bits]; omega
  have HS : Hid (s < 9223372036854775808) := hs
  have hs31 : (s : Int) < 9223372036854775808 := by omega
  clear hr hy hq hm hs
  go_enter Tryd.func70, Tryd.ntmps70
  go_wp2_with fail
  have X0 : B3 (w.alloc (.cells #[.int .i64 64, .int .i64 53, .int .i64 (-1074)] 104)) w.heap.size (.int .i64 64) (.int .i64 53) (.int .i64 (-1074)) := B3.new ..
  have hb0 : Below w.heap.size w (w.alloc (.cells #[.int .i64 64, .int .i64 53, .int .i64 (-1074)] 104)) := bwAlloc w _
  generalize w.alloc (.cells #[.int .i64 64, .int .i64 53, .int .i64 (-1074)] 104) = W at *
  obtain ⟨g, hg⟩ : ∃ g, g = w.heap.size := ⟨_, rfl⟩
  rw [← hg] at X0 ⊢
  clear hg
  have XB : Hid (B3 W.drew g (.int .i64 64) (.int .i64 53) (.int .i64 (-1074))) := X0.drew
  have HBW : Hid (Below w.heap.size w W.drew) := bwDrew hb0
  have XW : Hid (B3 W g (.int .i64 64) (.int .i64 53) (.int .i64 (-1074))) := X0
  have HB0 : Hid (Below w.heap.size w W) := hb0
  clear X0 hb0
  refine (stored_64 _).mono ?_
  rintro e w1 ⟨rfl, hb1⟩
  have Xw1 : Hid (B3 w1 g (.int .i64 64) (.int .i64 53) (.int .i64 (-1074))) := XW.out.below hb1
  have HBw1 : Hid (Below w.heap.size w w1) := bwOn HB0.out hb1
  clear hb1
  have c6 := Xw1.out
  obtain ⟨c0, c1, c2, c3, c4, c5⟩ := c6
  go_wp2_with fail
  clear c0 c1 c2 c3 c4 c5 XB HBW XW HB0
  have XB : Hid (B3 w1.drew g (.int .i64 64) (.int .i64 53) (.int .i64 (-1074))) := Xw1.out.drew
  have HBW : Hid (Below w.heap.size w w1.drew) := bwDrew HBw1.out
  refine wp_region_J (fun W' => B3 W' g (.int .i64 64) (.int .i64 53) (.int .i64 (-1074))) (by kernel_rfl) ?_
  refine wpJ_take (i := 0) (v := ?v31x0) rfl (by kernel_rfl) (by kernel_rfl) (by kernel_rfl) (fun _ _ _ h => h) (by rfl) ?hy31x0 XB.out ?rest31x0
  case hy31x0 => (intro W' hJ; obtain ⟨c0, c1, c2, c3, c4, c5⟩ := hJ; go_simp; first | done | with_reducible rfl)
  refine wpJ_take (i := 1) (v := ?v32x1) rfl (by kernel_rfl) (by kernel_rfl) (by kernel_rfl) (fun _ _ _ h => h) (by rfl) ?hy32x1 XB.out ?rest32x1
  case hy32x1 => (intro W' hJ; obtain ⟨c0, c1, c2, c3, c4, c5⟩ := hJ; go_simp; first | done | with_reducible rfl)
  refine wpJ_take (i := 2) (v := ?v33x2) rfl (by kernel_rfl) (by kernel_rfl) (by kernel_rfl) (fun _ _ _ h => h) (by rfl) ?hy33x2 XB.out ?rest33x2
  case hy33x2 => (intro W' hJ; obtain ⟨c0, c1, c2, c3, c4, c5⟩ := hJ; go_simp; first | done | with_reducible rfl)
  refine wpJ_take (i := 3) (v := ?v34x3) rfl (by kernel_rfl) (by kernel_rfl) (by kernel_rfl) (fun _ _ _ h => h) (by rfl) ?hy34x3 XB.out ?rest34x3
  case hy34x3 => (intro W' hJ; obtain ⟨c0, c1, c2, c3, c4, c5⟩ := hJ; go_simp; first | done | with_reducible rfl)
  refine wpJ_take (i := 7) (v := ?v35x7) rfl (by kernel_rfl) (by kernel_rfl) (by kernel_rfl) (fun _ _ _ h => h) (by rfl) ?hy35x7 XB.out ?rest35x7
  case hy35x7 => (intro W' hJ; obtain ⟨c0, c1, c2, c3, c4, c5⟩ := hJ; go_simp; first | done | with_reducible rfl)
  refine wpJ_take (i := 8) (v := ?v36x8) rfl (by kernel_rfl) (by kernel_rfl) (by kernel_rfl) (fun _ _ _ h => h) (by rfl) ?hy36x8 XB.out ?rest36x8
  case hy36x8 => (intro W' hJ; obtain ⟨c0, c1, c2, c3, c4, c5⟩ := hJ; go_simp; first | done | with_reducible rfl)
  refine wpJ_take (i := 9) (v := ?v37x9) rfl (by kernel_rfl) (by kernel_rfl) (by kernel_rfl) (fun _ _ _ h => h) (by rfl) ?hy37x9 XB.out ?rest37x9
  case hy37x9 => (intro W' hJ; obtain ⟨c0, c1, c2, c3, c4, c5⟩ := hJ; go_simp; first | done | with_reducible rfl)
  refine wpJ_take (i := 10) (v := ?v38x10) rfl (by kernel_rfl) (by kernel_rfl) (by kernel_rfl) (fun _ _ _ h => h) (by rfl) ?hy38x10 XB.out ?rest38x10
  case hy38x10 => (intro W' hJ; obtain ⟨c0, c1, c2, c3, c4, c5⟩ := hJ; go_simp; first | done | with_reducible rfl)
  refine wpJ_on 4 rfl fun K hK => ?_
  go_simp
  refine (stored_64 _).mono ?_
  rintro e w2 ⟨rfl, hb2⟩
  have Xw2 : Hid (B3 w2 g (.int .i64 64) (.int .i64 53) (.int .i64 (-1074))) := XB.out.below hb2
  have HBw2 : Hid (Below w.heap.size w w2) := bwOn HBW.out hb2
  clear hb2
  refine hK _ _ Xw2.out ?_
  clear hK
  refine wpJ_take (i := 5) (v := ?v39x5) rfl (by kernel_rfl) (by kernel_rfl) (by kernel_rfl) (fun _ _ _ h => h) (by rfl) ?hy39x5 Xw2.out ?rest39x5
  case hy39x5 => (intro W' hJ; obtain ⟨c0, c1, c2, c3, c4, c5⟩ := hJ; go_simp; first | done | with_reducible rfl)
  refine wpJ_take (i := 6) (v := ?v40x6) rfl (by kernel_rfl) (by kernel_rfl) (by kernel_rfl) (fun _ _ _ h => h) (by rfl) ?hy40x6 Xw2.out ?rest40x6
  case hy40x6 => (intro W' hJ; obtain ⟨c0, c1, c2, c3, c4, c5⟩ := hJ; go_simp; first | done | with_reducible rfl)
  refine wpJ_take (i := 11) (v := ?v41x11) rfl (by kernel_rfl) (by kernel_rfl) (by kernel_rfl) (fun _ _ _ h => h) (by rfl) ?hy41x11 Xw2.out ?rest41x11
  case hy41x11 => (intro W' hJ; obtain ⟨c0, c1, c2, c3, c4, c5⟩ := hJ; go_simp; first | done | with_reducible rfl)
  refine wpJ_take (i := 12) (v := ?v42x12) rfl (by kernel_rfl) (by kernel_rfl) (by kernel_rfl) (fun _ _ _ h => h) (by rfl) ?hy42x12 Xw2.out ?rest42x12
  case hy42x12 => (intro W' hJ; obtain ⟨c0, c1, c2, c3, c4, c5⟩ := hJ; go_simp; first | done | with_reducible rfl)
  refine wpJ_done (by kernel_rfl) ?_ _
  go_wp2_with fail
  go_ret2
  exact ⟨rfl, HBw2.out⟩
theorem dform_z {p : Option Addr} {m c : Nat} {w : World} {z e : Int} {s : Bool} (h : ZN w s p m c z) (hz : z = 0) (he : e = 0) :
    Calls Tryd.prog 28 #[DV s p m c e] w fun en w' => en = .returned (.bool true) ∧ Below w.heap.size w w' := by
  subst hz
  subst he
  have H : Hid (ZN w s p m c 0) := h
  clear h
  go_enter Tryd.func28, Tryd.ntmps28
  go_wp2_with fail
  obtain ⟨W0, hW0⟩ : ∃ W0, W0 = (w.alloc (.cells #[.bool s, .slice p m c, .int .i64 0] 33)) := ⟨_, rfl⟩
  have Xd : Hid (B3q W0 (w.heap.size) (.bool s) (.slice p m c) (.int .i64 0)) := by rw [hW0]; exact ⟨by go_simp, by go_simp, by go_simp, by go_simp, by go_simp, by go_simp⟩
  have hb0 : Below w.heap.size w W0 := by rw [hW0]; exact below1 w _
  rw [← hW0]
  clear hW0
  have hbw : Below w.heap.size w w := Below.refl _ _
  obtain ⟨gd, hgd⟩ : ∃ g, g = w.heap.size := ⟨_, rfl⟩
  have HGd : Hid (w.heap.size ≤ gd) := by rw [hgd]; show _ ≤ _; omega
  rw [← hgd] at Xd
  try rw [← hgd]
  clear hgd
  replace hbw := Below.on hbw hb0
  clear hb0
  refine (zform (H.out.below hbw)).mono ?_
  rintro e v1 ⟨rfl, hb1⟩
  replace Xd : Hid _ := Xd.out.below hb1
  replace hbw := Below.on hbw hb1
  clear hb1
  obtain ⟨cd0, cd1, cd2, fd0, fd1, fd2⟩ := Xd.out
  have hned : gd < v1.heap.size := World.block_lt_of_cell? v1 _ cd0
  go_wp2_with fail
  clear cd0 cd1 cd2 fd0 fd1 fd2 hned
  refine (zsign (H.out.below hbw)).mono ?_
  rintro e v2 ⟨rfl, hb2⟩
  rw [show sgnI 0 = 0 from rfl]
  replace Xd : Hid _ := Xd.out.below hb2
  replace hbw := Below.on hbw hb2
  clear hb2
  obtain ⟨cd0, cd1, cd2, fd0, fd1, fd2⟩ := Xd.out
  have hned : gd < v2.heap.size := World.block_lt_of_cell? v2 _ cd0
  go_wp2_with fail
  clear cd0 cd1 cd2 fd0 fd1 fd2 hned
  go_ret
  exact ⟨rfl, hbw⟩
theorem dform_o {p : Option Addr} {m c : Nat} {w : World} {z e : Int} {s : Bool} (h : ZN w s p m c z) (hz : z % 2 = 1) (he : -1048576 ≤ e ∧ e ≤ 1048576) :
    Calls Tryd.prog 28 #[DV s p m c e] w fun en w' => en = .returned (.bool true) ∧ Below w.heap.size w w' := by
  have H : Hid (ZN w s p m c z) := h
  have HZ : Hid (z % 2 = 1) := hz
  have h1 : (-1048576 : Int) ≤ e := he.1
  have h2 : e ≤ 1048576 := he.2
  have h3 : ¬ e < -1048576 := by omega
  have h4 : ¬ 1048576 < e := by omega
  clear hz he
  clear h
  go_enter Tryd.func28, Tryd.ntmps28
  go_wp2_with fail
  obtain ⟨W0, hW0⟩ : ∃ W0, W0 = (w.alloc (.cells #[.bool s, .slice p m c, .int .i64 e] 33)) := ⟨_, rfl⟩
  have Xd : Hid (B3q W0 (w.heap.size) (.bool s) (.slice p m c) (.int .i64 e)) := by rw [hW0]; exact ⟨by go_simp, by go_simp, by go_simp, by go_simp, by go_simp, by go_simp⟩
  have hb0 : Below w.heap.size w W0 := by rw [hW0]; exact below1 w _
  rw [← hW0]
  clear hW0
  have hbw : Below w.heap.size w w := Below.refl _ _
  obtain ⟨gd, hgd⟩ : ∃ g, g = w.heap.size := ⟨_, rfl⟩
  have HGd : Hid (w.heap.size ≤ gd) := by rw [hgd]; show _ ≤ _; omega
  rw [← hgd] at Xd
  try rw [← hgd]
  clear hgd
  replace hbw := Below.on hbw hb0
  clear hb0
  refine (zform (H.out.below hbw)).mono ?_
  rintro e v1 ⟨rfl, hb1⟩
  replace Xd : Hid _ := Xd.out.below hb1
  replace hbw := Below.on hbw hb1
  clear hb1
  obtain ⟨cd0, cd1, cd2, fd0, fd1, fd2⟩ := Xd.out
  have hned : gd < v1.heap.size := World.block_lt_of_cell? v1 _ cd0
  go_wp2_with fail
  clear cd0 cd1 cd2 fd0 fd1 fd2 hned
  refine (zsign (H.out.below hbw)).mono ?_
  rintro e v2 ⟨rfl, hb2⟩
  obtain ⟨sg, hsg⟩ : ∃ sg, sg = sgnI (z) := ⟨_, rfl⟩
  rw [← hsg]
  have hs0 : (sg == 0) = false := by rw [hsg]; have := HZ.out; unfold sgnI; split <;> (try split) <;> simp <;> omega
  clear hsg
  replace Xd : Hid _ := Xd.out.below hb2
  replace hbw := Below.on hbw hb2
  clear hb2
  obtain ⟨cd0, cd1, cd2, fd0, fd1, fd2⟩ := Xd.out
  have hned : gd < v2.heap.size := World.block_lt_of_cell? v2 _ cd0
  go_wp2_with fail
  clear cd0 cd1 cd2 fd0 fd1 fd2 hned
  obtain ⟨xs, hX⟩ := (H.out.below hbw).ex
  refine (bit_int hX.at_ (by have := hX.le; omega) 0 (by decide)).mono ?_
  rintro e2 v3 ⟨rfl, hw⟩
  obtain rfl := hw.symm
  clear hw
  rw [show bitO (valB B64 xs) 0 = true from by unfold bitO; rw [if_neg (by omega), hX.nf.val]; simp; have := HZ.out; omega]
  clear hX
  obtain ⟨cd0, cd1, cd2, fd0, fd1, fd2⟩ := Xd.out
  have hned : gd < v2.heap.size := World.block_lt_of_cell? v2 _ cd0
  go_wp2_with fail
  clear cd0 cd1 cd2 fd0 fd1 fd2 hned
  go_ret
  exact ⟨rfl, hbw⟩
theorem dform_t {p : Option Addr} {m c : Nat} {w : World} {z e : Int} {s : Bool} (h : DN w s p m c e z) :
    Calls Tryd.prog 28 #[DV s p m c e] w fun en w' => en = .returned (.bool true) ∧ Below w.heap.size w w' := by
  rcases h.fm with ⟨h1, h2⟩ | ⟨h1, h2⟩
  · exact dform_z h.zn h1 h2
  · exact dform_o h.zn h1 h2
theorem moved_ok (e n : Int) (w : World) (he : -1048576 ≤ e ∧ e ≤ 2097152) (hs : -1048576 ≤ e + n ∧ e + n ≤ 1048576) :
    Calls Tryd.prog 30 #[.int .i64 e, .int .i64 n] w fun en w' => en = .returned (.tuple #[.int .i64 (e + n), .int .i64 0]) ∧ w' = w := by
  have f1 : wrap64 (-1048576 - e) = -1048576 - e := by simp only [wrap64]; omega
  have f2 : wrap64 (1048576 - e) = 1048576 - e := by simp only [wrap64]; omega
  have f3 : wrap64 (e + n) = e + n := by simp only [wrap64]; omega
  have f4 : ¬ n < -1048576 - e := by omega
  have f5 : ¬ 1048576 - e < n := by omega
  clear he hs
  go_enter Tryd.func30, Tryd.ntmps30
  go_wp2_with fail
  go_ret2
  exact ⟨rfl, rfl⟩
theorem make_z {p : Option Addr} {m c : Nat} {w : World} {z e : Int} {s : Bool} (h : ZN w s p m c z) (he : -1048576 ≤ e ∧ e ≤ 524288) (hT : Tab w) (hz : z = 0) :
    Calls Tryd.prog 32 #[ZV s p m c, .int .i64 e] w fun en w' => ∃ v zo eo, en = .returned (.tuple #[v, .int .i64 0]) ∧ AnsD w.heap.size w' v zo eo ∧ DFm zo eo ∧ dv zo eo = dv z e ∧ zo.natAbs ≤ z.natAbs ∧ (zo = 0 ∨ (e ≤ eo ∧ eo ≤ e + 524288)) ∧ Below w.heap.size w w' := by
  have H : Hid (ZN w s p m c z) := h
  have HE : Hid (-1048576 ≤ e ∧ e ≤ 524288) := he
  have TB : Hid (Tab w) := hT
  subst hz
  clear h he hT
  go_enter Tryd.func32, Tryd.ntmps32
  go_wp2_with fail
  obtain ⟨W0, hW0⟩ : ∃ W0, W0 = ((w.alloc (.cells #[.bool s, .slice p m c] 31)).alloc (.cells #[.bool false, .slice none 0 0, .int .i64 0] 33)) := ⟨_, rfl⟩
  have Xm : Hid (Box W0 (w.heap.size) (.bool s) (.slice p m c)) := by rw [hW0]; exact ⟨by go_simp, by go_simp, by go_simp, by go_simp⟩
  have Xr : Hid (B3q W0 (w.heap.size + 1) (.bool false) (.slice none 0 0) (.int .i64 0)) := by rw [hW0]; exact ⟨by go_simp, by go_simp, by go_simp, by go_simp, by go_simp, by go_simp⟩
  have hb0 : Below w.heap.size w W0 := by rw [hW0]; exact below2 w _ _
  rw [← hW0]
  clear hW0
  have hbw : Below w.heap.size w w := Below.refl _ _
  obtain ⟨gr, hgr⟩ : ∃ g, g = w.heap.size + 1 := ⟨_, rfl⟩
  have HGr : Hid (w.heap.size ≤ gr) := by rw [hgr]; show _ ≤ _; omega
  rw [← hgr] at Xr
  try rw [← hgr]
  obtain ⟨gm, hgm⟩ : ∃ g, g = w.heap.size := ⟨_, rfl⟩
  have HGm : Hid (w.heap.size ≤ gm) := by rw [hgm]; show _ ≤ _; omega
  rw [← hgm] at Xm
  try rw [← hgm]
  have HGD : Hid (gm ≠ gr ∧ gr ≠ gm) := by rw [hgm, hgr]; exact ⟨by omega, by omega⟩
  clear hgm hgr
  replace hbw := Below.on hbw hb0
  clear hb0
  refine (zform (H.out.below hbw)).mono ?_
  rintro e v1 ⟨rfl, hb1⟩
  replace Xm : Hid _ := Xm.out.below hb1
  replace Xr : Hid _ := Xr.out.below hb1
  replace hbw := Below.on hbw hb1
  clear hb1
  obtain ⟨cm0, cm1, fm0, fm1⟩ := Xm.out
  have hnem := Xm.out.lt
  go_wp2_with fail
  clear cm0 cm1 fm0 fm1 hnem
  refine (zsign (H.out.below hbw)).mono ?_
  rintro e v2 ⟨rfl, hb2⟩
  rw [show sgnI 0 = 0 from rfl]
  replace Xm : Hid _ := Xm.out.below hb2
  replace Xr : Hid _ := Xr.out.below hb2
  replace hbw := Below.on hbw hb2
  clear hb2
  obtain ⟨cr0, cr1, cr2, fr0, fr1, fr2⟩ := Xr.out
  have hner : gr < v2.heap.size := World.block_lt_of_cell? v2 _ cr0
  go_wp2_with fail
  refine bodyPost_ret (v := .tuple #[DV false none 0 0 0, .int .i64 0]) (by rw [results_cell_tmp rfl]; go_simp) rfl ⟨_, 0, 0, rfl, ⟨none, 0, [], rfl, ⟨rfl, Dig.nil _, .inl rfl⟩, Nf.nil _, by omega⟩, .inl ⟨rfl, rfl⟩, by rw [dv_zero, dv_zero], by omega, .inl rfl, ?_⟩
  first | exact hbw | exact bSet (bSet (bSet hbw _ _ _ HGr.out) _ _ _ HGr.out) _ _ _ HGr.out
theorem make_n {p : Option Addr} {m c : Nat} {w : World} {z e : Int} {s : Bool} (h : ZN w s p m c z) (he : -1048576 ≤ e ∧ e ≤ 524288) (hT : Tab w) (hz : z ≠ 0) :
    Calls Tryd.prog 32 #[ZV s p m c, .int .i64 e] w fun en w' => ∃ v zo eo, en = .returned (.tuple #[v, .int .i64 0]) ∧ AnsD w.heap.size w' v zo eo ∧ DFm zo eo ∧ dv zo eo = dv z e ∧ zo.natAbs ≤ z.natAbs ∧ (zo = 0 ∨ (e ≤ eo ∧ eo ≤ e + 524288)) ∧ Below w.heap.size w w' := by
  have H : Hid (ZN w s p m c z) := h
  have HE : Hid (-1048576 ≤ e ∧ e ≤ 524288) := he
  have TB : Hid (Tab w) := hT
  have HZ : Hid (z ≠ 0) := hz
  clear hz
  clear h he hT
  go_enter Tryd.func32, Tryd.ntmps32
  go_wp2_with fail
  obtain ⟨W0, hW0⟩ : ∃ W0, W0 = ((w.alloc (.cells #[.bool s, .slice p m c] 31)).alloc (.cells #[.bool false, .slice none 0 0, .int .i64 0] 33)) := ⟨_, rfl⟩
  have Xm : Hid (Box W0 (w.heap.size) (.bool s) (.slice p m c)) := by rw [hW0]; exact ⟨by go_simp, by go_simp, by go_simp, by go_simp⟩
  have Xr : Hid (B3q W0 (w.heap.size + 1) (.bool false) (.slice none 0 0) (.int .i64 0)) := by rw [hW0]; exact ⟨by go_simp, by go_simp, by go_simp, by go_simp, by go_simp, by go_simp⟩
  have hb0 : Below w.heap.size w W0 := by rw [hW0]; exact below2 w _ _
  rw [← hW0]
  clear hW0
  have hbw : Below w.heap.size w w := Below.refl _ _
  obtain ⟨gr, hgr⟩ : ∃ g, g = w.heap.size + 1 := ⟨_, rfl⟩
  have HGr : Hid (w.heap.size ≤ gr) := by rw [hgr]; show _ ≤ _; omega
  rw [← hgr] at Xr
  try rw [← hgr]
  obtain ⟨gm, hgm⟩ : ∃ g, g = w.heap.size := ⟨_, rfl⟩
  have HGm : Hid (w.heap.size ≤ gm) := by rw [hgm]; show _ ≤ _; omega
  rw [← hgm] at Xm
  try rw [← hgm]
  have HGD : Hid (gm ≠ gr ∧ gr ≠ gm) := by rw [hgm, hgr]; exact ⟨by omega, by omega⟩
  clear hgm hgr
  replace hbw := Below.on hbw hb0
  clear hb0
  refine (zform (H.out.below hbw)).mono ?_
  rintro e v1 ⟨rfl, hb1⟩
  replace Xm : Hid _ := Xm.out.below hb1
  replace Xr : Hid _ := Xr.out.below hb1
  replace hbw := Below.on hbw hb1
  clear hb1
  obtain ⟨cm0, cm1, fm0, fm1⟩ := Xm.out
  have hnem := Xm.out.lt
  go_wp2_with fail
  clear cm0 cm1 fm0 fm1 hnem
  refine (zsign (H.out.below hbw)).mono ?_
  rintro e v2 ⟨rfl, hb2⟩
  obtain ⟨sg, hsg⟩ : ∃ sg, sg = sgnI (z) := ⟨_, rfl⟩
  rw [← hsg]
  have hs0 : (sg == 0) = false := by rw [hsg]; have := HZ.out; unfold sgnI; split <;> (try split) <;> simp <;> omega
  clear hsg
  replace Xm : Hid _ := Xm.out.below hb2
  replace Xr : Hid _ := Xr.out.below hb2
  replace hbw := Below.on hbw hb2
  clear hb2
  obtain ⟨cm0, cm1, fm0, fm1⟩ := Xm.out
  have hnem := Xm.out.lt
  go_wp2_with fail
  clear cm0 cm1 fm0 fm1 hnem
  obtain ⟨k, hk⟩ := TzO.ex z.natAbs
  have HK : Hid (TzO z.natAbs k) := hk
  have hkb : k ≤ 524288 := by
    have h1 := (lim_bits z.natAbs).1 H.out.lim
    rcases hk with ⟨h0, _⟩ | ⟨_, h2, h3⟩
    · exact absurd (Int.natAbs_eq_zero.1 h0) HZ.out
    · have h4 : 2 ^ k ≤ z.natAbs := by
        rcases Nat.lt_or_ge z.natAbs (2 ^ k) with h | h
        · rw [Nat.div_eq_of_lt h] at h3; omega
        · exact h
      have h5 := bitsN_lt z.natAbs
      have h6 := (Nat.pow_lt_pow_iff_right (by omega : 1 < 2)).1 (Nat.lt_of_le_of_lt h4 h5)
      omega
  have HKB : Hid (k ≤ 524288) := hkb
  clear hk hkb
  obtain ⟨xs, hX⟩ := (H.out.below hbw).ex
  refine (trail_any hX.at_ (by have := hX.le; omega) (k := k) (by rw [hX.nf.val]; exact HK.out) (TB.out.below hbw)).mono ?_
  rintro e2 v3 ⟨rfl, hw⟩
  obtain rfl := hw.symm
  clear hw hX
  go_wp2_with fail
  refine (moved_ok k e _ (by have := HKB.out; omega) (by have := HKB.out; have := HE.out; omega)).mono ?_
  rintro e2 v4 ⟨rfl, hw⟩
  obtain rfl := hw.symm
  clear hw
  obtain ⟨cm0, cm1, fm0, fm1⟩ := Xm.out
  have hnem := Xm.out.lt
  go_wp2_with fail
  clear cm0 cm1 fm0 fm1 hnem
  obtain ⟨o, ho9⟩ : ∃ o, o = fl (decide (z < 0)) z.natAbs (2 ^ k) := ⟨_, rfl⟩
  have HO9 : Hid (o % 2 = 1 ∧ o * ((2 ^ k : Nat) : Int) = z ∧ o.natAbs ≤ z.natAbs) := by rw [ho9]; exact tz_split HZ.out HK.out
  have HRL : Hid (gr < v2.heap.size ∧ w.heap.size ≤ v2.heap.size) := ⟨Xr.out.lt, hbw.size⟩
  obtain ⟨xs, hX⟩ := (H.out.below hbw).ex
  refine (fshr_any s hX H.out.pos k (by have := HKB.out; omega) (TB.out.below hbw)).mono ?_
  rintro e2 v5 ⟨v, rfl, hv, hb5⟩
  rw [H.out.sg, ← ho9] at hv
  obtain ⟨p5, m5, z5, rfl, ho5, hn5, hm5⟩ := hv
  clear hX ho9
  replace Xm : Hid _ := Xm.out.below hb5
  replace Xr : Hid _ := Xr.out.below hb5
  replace hbw := Below.on hbw hb5
  clear hb5
  have O5 : Hid (Own v2.heap.size v5 p5 m5 z5) := ho5
  have N5 : Hid (Nf B64 z5 o.natAbs ∧ m5 ≤ 8192) := ⟨hn5, hm5⟩
  clear ho5 hn5 hm5
  obtain ⟨so, hso⟩ : ∃ b, b = decide (o < 0) := ⟨_, rfl⟩
  rw [← hso]
  have HSO : Hid (so = decide (o < 0)) := hso
  clear hso
  obtain ⟨cr0, cr1, cr2, fr0, fr1, fr2⟩ := Xr.out
  have hner : gr < v5.heap.size := World.block_lt_of_cell? v5 _ cr0
  go_wp2_with fail
  refine bodyPost_ret (v := .tuple #[DV so p5 m5 m5 (k + e), .int .i64 0]) (by rw [results_cell_tmp rfl]; go_simp) rfl ⟨_, o, k + e, rfl, ⟨p5, m5, z5, by rw [HSO.out], ?_, N5.out.1, N5.out.2⟩, ?_, ?_, HO9.out.2.2, ?_, ?_⟩
  · exact (own_set3 O5.out HRL.out.1 HRL.out.2 _ _ _).below (below1 _ _)
  · have := HKB.out; have := HE.out
    exact .inr ⟨HO9.out.1, by omega, by omega⟩
  · rw [dv_shift (e := (k : Int) + e) (f := e) (by omega) (by have := HE.out; omega), show ((k : Int) + e - e).toNat = k from by omega, HO9.out.2.1]
  · have := HKB.out
    exact .inr ⟨by omega, by omega⟩
  · exact Below.on (bSet (bSet (bSet hbw _ _ _ HGr.out) _ _ _ HGr.out) _ _ _ HGr.out) (below1 _ _)
theorem make_any {p : Option Addr} {m c : Nat} {w : World} {z e : Int} {s : Bool} (h : ZN w s p m c z) (he : -1048576 ≤ e ∧ e ≤ 524288) (hT : Tab w) :
    Calls Tryd.prog 32 #[ZV s p m c, .int .i64 e] w fun en w' => ∃ v zo eo, en = .returned (.tuple #[v, .int .i64 0]) ∧ AnsD w.heap.size w' v zo eo ∧ DFm zo eo ∧ dv zo eo = dv z e ∧ zo.natAbs ≤ z.natAbs ∧ (zo = 0 ∨ (e ≤ eo ∧ eo ≤ e + 524288)) ∧ Below w.heap.size w w' := by
  by_cases hz : z = 0
  · exact make_z h he hT hz
  · exact make_n h he hT hz
theorem dneg {p : Option Addr} {m c : Nat} {w : World} {z e : Int} {s : Bool} (h : DN w s p m c e z) :
    Calls Tryd.prog 36 #[DV s p m c e] w fun en w' => ∃ v, en = .returned (.tuple #[v, .int .i64 0]) ∧ AnsD w.heap.size w' v (-z) e ∧ DFm (-z) e ∧ Below w.heap.size w w' := by
  have H : Hid (DN w s p m c e z) := h
  have HF : Hid (DFm (-z) e) := by rcases h.fm with ⟨h1, h2⟩ | ⟨h1, h2⟩; (exact .inl ⟨by omega, h2⟩); exact .inr ⟨by omega, h2⟩
  clear h
  go_enter Tryd.func36, Tryd.ntmps36
  go_wp2_with fail
  obtain ⟨W0, hW0⟩ : ∃ W0, W0 = ((w.alloc (.cells #[.bool s, .slice p m c, .int .i64 e] 33)).alloc (.cells #[.bool false, .slice none 0 0, .int .i64 0] 33)) := ⟨_, rfl⟩
  have Xd : Hid (B3q W0 (w.heap.size) (.bool s) (.slice p m c) (.int .i64 e)) := by rw [hW0]; exact ⟨by go_simp, by go_simp, by go_simp, by go_simp, by go_simp, by go_simp⟩
  have Xr : Hid (B3q W0 (w.heap.size + 1) (.bool false) (.slice none 0 0) (.int .i64 0)) := by rw [hW0]; exact ⟨by go_simp, by go_simp, by go_simp, by go_simp, by go_simp, by go_simp⟩
  have hb0 : Below w.heap.size w W0 := by rw [hW0]; exact below2 w _ _
  rw [← hW0]
  clear hW0
  have hbw : Below w.heap.size w w := Below.refl _ _
  obtain ⟨gr, hgr⟩ : ∃ g, g = w.heap.size + 1 := ⟨_, rfl⟩
  have HGr : Hid (w.heap.size ≤ gr) := by rw [hgr]; show _ ≤ _; omega
  rw [← hgr] at Xr
  try rw [← hgr]
  obtain ⟨gd, hgd⟩ : ∃ g, g = w.heap.size := ⟨_, rfl⟩
  have HGd : Hid (w.heap.size ≤ gd) := by rw [hgd]; show _ ≤ _; omega
  rw [← hgd] at Xd
  try rw [← hgd]
  have HGD : Hid (gd ≠ gr ∧ gr ≠ gd) := by rw [hgd, hgr]; exact ⟨by omega, by omega⟩
  clear hgd hgr
  replace hbw := Below.on hbw hb0
  clear hb0
  refine (dform_t (H.out.below hbw)).mono ?_
  rintro e v1 ⟨rfl, hb1⟩
  replace Xd : Hid _ := Xd.out.below hb1
  replace Xr : Hid _ := Xr.out.below hb1
  replace hbw := Below.on hbw hb1
  clear hb1
  obtain ⟨cd0, cd1, cd2, fd0, fd1, fd2⟩ := Xd.out
  have hned : gd < v1.heap.size := World.block_lt_of_cell? v1 _ cd0
  go_wp2_with fail
  clear cd0 cd1 cd2 fd0 fd1 fd2 hned
  have HRL : Hid (gr < v1.heap.size ∧ w.heap.size ≤ v1.heap.size) := ⟨Xr.out.lt, hbw.size⟩
  obtain ⟨xs, hX⟩ := (H.out.zn.below hbw).ex
  refine (neg_any s hX H.out.zn.pos).mono ?_
  rintro e2 v5 ⟨v, rfl, hv, hb5⟩
  rw [iv_not, H.out.zn.iv] at hv
  obtain ⟨p5, m5, z5, rfl, ho5, hn5, hm5⟩ := hv
  clear hX
  replace Xd : Hid _ := Xd.out.below hb5
  replace Xr : Hid _ := Xr.out.below hb5
  replace hbw := Below.on hbw hb5
  clear hb5
  have O5 : Hid (Own v1.heap.size v5 p5 m5 z5) := ho5
  have N5 : Hid (Nf B64 z5 (-z).natAbs ∧ m5 ≤ 8192) := ⟨hn5, hm5⟩
  clear ho5 hn5 hm5
  obtain ⟨so, hso⟩ : ∃ b, b = decide (-z < 0) := ⟨_, rfl⟩
  rw [← hso]
  have HSO : Hid (so = decide (-z < 0)) := hso
  clear hso
  obtain ⟨hgd0, hgd1⟩ := HGD.out
  obtain ⟨cd0, cd1, cd2, fd0, fd1, fd2⟩ := Xd.out
  have hned : gd < v5.heap.size := World.block_lt_of_cell? v5 _ cd0
  obtain ⟨cr0, cr1, cr2, fr0, fr1, fr2⟩ := Xr.out
  have hner : gr < v5.heap.size := World.block_lt_of_cell? v5 _ cr0
  go_wp2_with fail
  refine bodyPost_ret (v := .tuple #[DV so p5 m5 m5 e, .int .i64 0]) (by rw [results_cell_tmp rfl]; go_simp) rfl ⟨_, rfl, ⟨p5, m5, z5, by rw [HSO.out], ?_, N5.out.1, N5.out.2⟩, HF.out, ?_⟩
  · exact (own_set3 O5.out HRL.out.1 HRL.out.2 _ _ _).below (below1 _ _)
  · exact Below.on (bSet (bSet (bSet hbw _ _ _ HGr.out) _ _ _ HGr.out) _ _ _ HGr.out) (below1 _ _)
theorem dmul {p q : Option Addr} {m c n d : Nat} {w : World} {x y e f : Int} {s t : Bool} (h : DN w s p m c e x) (k : DN w t q n d f y) (hl : (x * y).natAbs < LIM) (he : -1048576 ≤ e + f ∧ e + f ≤ 524288) (hT : Tab w) :
    Calls Tryd.prog 17 #[DV s p m c e, DV t q n d f] w fun en w' => ∃ v zo eo, en = .returned (.tuple #[v, .int .i64 0]) ∧ AnsD w.heap.size w' v zo eo ∧ DFm zo eo ∧ dv zo eo = dv (x * y) (e + f) ∧ zo.natAbs ≤ (x * y).natAbs ∧ (zo = 0 ∨ (e + f ≤ eo ∧ eo ≤ e + f + 524288)) ∧ Below w.heap.size w w' := by
  have H : Hid (DN w s p m c e x) := h
  have K : Hid (DN w t q n d f y) := k
  have HL : Hid ((x * y).natAbs < LIM ∧ -1048576 ≤ e + f ∧ e + f ≤ 524288) := ⟨hl, he⟩
  have TB : Hid (Tab w) := hT
  have f1 : wrap64 (e + f) = e + f := by simp only [wrap64]; omega
  have f2 : IntKind.i64.wrap (e + f) = e + f := by simp [IntKind.wrap, IntKind.signed, IntKind.bits]; omega
  have F1 : Hid (wrap64 (e + f) = e + f ∧ IntKind.i64.wrap (e + f) = e + f) := ⟨f1, f2⟩
  clear h k hl he hT f1 f2
  go_enter Tryd.func17, Tryd.ntmps17
  go_wp2_with fail
  obtain ⟨W0, hW0⟩ : ∃ W0, W0 = (((w.alloc (.cells #[.bool s, .slice p m c, .int .i64 e] 33)).alloc (.cells #[.bool t, .slice q n d, .int .i64 f] 33)).alloc (.cells #[.bool false, .slice none 0 0, .int .i64 0] 33)) := ⟨_, rfl⟩
  have Xa : Hid (B3q W0 (w.heap.size) (.bool s) (.slice p m c) (.int .i64 e)) := by rw [hW0]; exact ⟨by go_simp, by go_simp, by go_simp, by go_simp, by go_simp, by go_simp⟩
  have Xb : Hid (B3q W0 (w.heap.size + 1) (.bool t) (.slice q n d) (.int .i64 f)) := by rw [hW0]; exact ⟨by go_simp, by go_simp, by go_simp, by go_simp, by go_simp, by go_simp⟩
  have Xr : Hid (B3q W0 (w.heap.size + 1 + 1) (.bool false) (.slice none 0 0) (.int .i64 0)) := by rw [hW0]; exact ⟨by go_simp, by go_simp, by go_simp, by go_simp, by go_simp, by go_simp⟩
  have hb0 : Below w.heap.size w W0 := by rw [hW0]; exact below3 w _ _ _
  rw [← hW0]
  clear hW0
  have hbw : Below w.heap.size w w := Below.refl _ _
  obtain ⟨gr, hgr⟩ : ∃ g, g = w.heap.size + 1 + 1 := ⟨_, rfl⟩
  have HGr : Hid (w.heap.size ≤ gr) := by rw [hgr]; show _ ≤ _; omega
  rw [← hgr] at Xr
  try rw [← hgr]
  obtain ⟨gb, hgb⟩ : ∃ g, g = w.heap.size + 1 := ⟨_, rfl⟩
  have HGb : Hid (w.heap.size ≤ gb) := by rw [hgb]; show _ ≤ _; omega
  rw [← hgb] at Xb
  try rw [← hgb]
  obtain ⟨ga, hga⟩ : ∃ g, g = w.heap.size := ⟨_, rfl⟩
  have HGa : Hid (w.heap.size ≤ ga) := by rw [hga]; show _ ≤ _; omega
  rw [← hga] at Xa
  try rw [← hga]
  have HGD : Hid (ga ≠ gb ∧ ga ≠ gr ∧ gb ≠ ga ∧ gb ≠ gr ∧ gr ≠ ga ∧ gr ≠ gb) := by rw [hga, hgb, hgr]; exact ⟨by omega, by omega, by omega, by omega, by omega, by omega⟩
  clear hga hgb hgr
  replace hbw := Below.on hbw hb0
  clear hb0
  refine (dform_t (H.out.below hbw)).mono ?_
  rintro e v1 ⟨rfl, hb1⟩
  replace Xa : Hid _ := Xa.out.below hb1
  replace Xb : Hid _ := Xb.out.below hb1
  replace Xr : Hid _ := Xr.out.below hb1
  replace hbw := Below.on hbw hb1
  clear hb1
  obtain ⟨cb0, cb1, cb2, fb0, fb1, fb2⟩ := Xb.out
  have hneb : gb < v1.heap.size := World.block_lt_of_cell? v1 _ cb0
  go_wp2_with fail
  clear cb0 cb1 cb2 fb0 fb1 fb2 hneb
  refine (dform_t (K.out.below hbw)).mono ?_
  rintro e v2 ⟨rfl, hb2⟩
  replace Xa : Hid _ := Xa.out.below hb2
  replace Xb : Hid _ := Xb.out.below hb2
  replace Xr : Hid _ := Xr.out.below hb2
  replace hbw := Below.on hbw hb2
  clear hb2
  obtain ⟨ca0, ca1, ca2, fa0, fa1, fa2⟩ := Xa.out
  have hnea : ga < v2.heap.size := World.block_lt_of_cell? v2 _ ca0
  obtain ⟨cb0, cb1, cb2, fb0, fb1, fb2⟩ := Xb.out
  have hneb : gb < v2.heap.size := World.block_lt_of_cell? v2 _ cb0
  go_wp2_with fail
  clear ca0 ca1 ca2 fa0 fa1 fa2 hnea
  clear cb0 cb1 cb2 fb0 fb1 fb2 hneb
  refine (zmul (H.out.zn.below hbw) (K.out.zn.below hbw)).mono ?_
  rintro e2 v5 ⟨ha, hb5⟩
  obtain ⟨s5, p5, m5, rfl, hz⟩ := ha.got HL.out.1
  clear ha
  replace Xa : Hid _ := Xa.out.below hb5
  replace Xb : Hid _ := Xb.out.below hb5
  replace Xr : Hid _ := Xr.out.below hb5
  replace hbw := Below.on hbw hb5
  clear hb5
  have Z5 : Hid (ZN v5 s5 p5 m5 m5 (x * y)) := hz
  clear hz
  have f1 := F1.out.1
  have f2 := F1.out.2
  obtain ⟨ca0, ca1, ca2, fa0, fa1, fa2⟩ := Xa.out
  have hnea : ga < v5.heap.size := World.block_lt_of_cell? v5 _ ca0
  obtain ⟨cb0, cb1, cb2, fb0, fb1, fb2⟩ := Xb.out
  have hneb : gb < v5.heap.size := World.block_lt_of_cell? v5 _ cb0
  go_wp2_with fail
  clear ca0 ca1 ca2 fa0 fa1 fa2 hnea
  clear cb0 cb1 cb2 fb0 fb1 fb2 hneb
  clear f1 f2
  have Xq0 : Hid (Box (v5.alloc (.cells #[.bool s5, .slice p5 m5 m5] 31)) v5.heap.size (.bool s5) (.slice p5 m5 m5)) := Box.new v5 _ _ _
  have hbn : Below v5.heap.size v5 (v5.alloc (.cells #[.bool s5, .slice p5 m5 m5] 31)) := below1 v5 _
  generalize v5.alloc (.cells #[.bool s5, .slice p5 m5 m5] 31) = Wq at *
  have HGq : Hid (w.heap.size ≤ v5.heap.size) := hbw.size
  replace Xa : Hid _ := Xa.out.below hbn
  replace Xb : Hid _ := Xb.out.below hbn
  replace Xr : Hid _ := Xr.out.below hbn
  replace Z5 : Hid _ := Z5.out.below hbn
  replace hbw := Below.on hbw hbn
  clear hbn
  generalize v5.heap.size = gq at *
  have Xq := Xq0
  clear Xq0
  have HRL : Hid (gr < Wq.heap.size ∧ w.heap.size ≤ Wq.heap.size) := ⟨Xr.out.lt, hbw.size⟩
  refine (make_any Z5.out HL.out.2 (TB.out.below hbw)).mono ?_
  rintro e2 v6 ⟨v, zo, eo, rfl, hv, hfm, hdv, hle, hor, hb6⟩
  obtain ⟨p6, m6, z6, rfl, ho6, hn6, hm6⟩ := hv
  replace Xa : Hid _ := Xa.out.below hb6
  replace Xb : Hid _ := Xb.out.below hb6
  replace Xr : Hid _ := Xr.out.below hb6
  replace Xq : Hid _ := Xq.out.below hb6
  replace Z5 : Hid _ := Z5.out.below hb6
  replace hbw := Below.on hbw hb6
  clear hb6
  have O6 : Hid (Own Wq.heap.size v6 p6 m6 z6) := ho6
  have N6 : Hid (Nf B64 z6 zo.natAbs ∧ m6 ≤ 8192 ∧ DFm zo eo ∧ dv zo eo = dv (x * y) (e + f) ∧ zo.natAbs ≤ (x * y).natAbs ∧ (zo = 0 ∨ (e + f ≤ eo ∧ eo ≤ e + f + 524288))) := ⟨hn6, hm6, hfm, hdv, hle, hor⟩
  clear ho6 hn6 hm6 hfm hdv hle hor
  obtain ⟨so, hso⟩ : ∃ b, b = decide (zo < 0) := ⟨_, rfl⟩
  rw [← hso]
  have HSO : Hid (so = decide (zo < 0)) := hso
  clear hso
  obtain ⟨cr0, cr1, cr2, fr0, fr1, fr2⟩ := Xr.out
  have hner : gr < v6.heap.size := World.block_lt_of_cell? v6 _ cr0
  go_wp2_with fail
  refine bodyPost_ret (v := .tuple #[DV so p6 m6 m6 eo, .int .i64 0]) (by rw [results_cell_tmp rfl]; go_simp) rfl ⟨_, zo, eo, rfl, ⟨p6, m6, z6, by rw [HSO.out], ?_, N6.out.1, N6.out.2.1⟩, N6.out.2.2.1, N6.out.2.2.2.1, N6.out.2.2.2.2.1, N6.out.2.2.2.2.2, ?_⟩
  · exact own_set3 O6.out HRL.out.1 HRL.out.2 _ _ _
  · exact bSet (bSet (bSet hbw _ _ _ HGr.out) _ _ _ HGr.out) _ _ _ HGr.out
theorem below4 (w : World) (a b c d : Obj) : Below w.heap.size w ((((w.alloc a).alloc b).alloc c).alloc d) := (below3 w a b c).alloc (by simp; omega) d
theorem results_c2t2 {fn : Func} {p u t1 t2 : Tmp} {ty ty2 : TypeId} (h : fn.results = #[.cell p ty, .cell u ty2, .tmp t1, .tmp t2]) (tmps : Array Value) (P : Program) (w : World) :
    (results fn tmps).run P w = ((asAddr (tmps.getD p undef)).run P w).andThen fun a w₁ => ((loadVar ty a).run P w₁).andThen fun v w₂ => ((asAddr (tmps.getD u undef)).run P w₂).andThen fun b w₃ => ((loadVar ty2 b).run P w₃).andThen fun v2 w₄ => .ok (.tuple #[v, v2, tmps.getD t1 undef, tmps.getD t2 undef]) w₄ := by
  simp only [results, h]
  simp [Sem.run_bind, Result.andThen]
theorem daligned {p q : Option Addr} {m c n d : Nat} {w : World} {x y e f g : Int} {s t : Bool} (h : ZN w s p m c x) (k : ZN w t q n d y) (hg : g = min e f) (he : -1048576 ≤ e ∧ e ≤ 1048576 ∧ -1048576 ≤ f ∧ f ≤ 1048576) (hx : (x * 2 ^ (e - g).toNat).natAbs < LIM) (hy : (y * 2 ^ (f - g).toNat).natAbs < LIM) :
    Calls Tryd.prog 34 #[DV s p m c e, DV t q n d f] w fun en w' => ∃ s1 p1 m1 s2 p2 m2, en = .returned (.tuple #[ZV s1 p1 m1 m1, ZV s2 p2 m2 m2, .int .i64 g, .int .i64 0]) ∧ ZN w' s1 p1 m1 m1 (x * 2 ^ (e - g).toNat) ∧ ZN w' s2 p2 m2 m2 (y * 2 ^ (f - g).toNat) ∧ Below w.heap.size w w' := by
  have H : Hid (ZN w s p m c x) := h
  have K : Hid (ZN w t q n d y) := k
  have HX : Hid ((x * 2 ^ (e - g).toNat).natAbs < LIM ∧ (y * 2 ^ (f - g).toNat).natAbs < LIM) := ⟨hx, hy⟩
  obtain ⟨a, ha⟩ : ∃ a : Nat, a = (e - g).toNat := ⟨_, rfl⟩
  obtain ⟨b, hb⟩ : ∃ b : Nat, b = (f - g).toNat := ⟨_, rfl⟩
  have f1 : wrap64 (e - g) = (a : Int) := by simp only [wrap64]; omega
  have f2 : wrap64 (f - g) = (b : Int) := by simp only [wrap64]; omega
  have f3 : min e f = g := hg.symm
  have HAB : Hid (a = (e - g).toNat ∧ b = (f - g).toNat ∧ a ≤ 9223372036854775807 ∧ b ≤ 9223372036854775807) := ⟨ha, hb, by omega, by omega⟩
  clear h k hx hy ha hb he hg
  go_enter Tryd.func34, Tryd.ntmps34
  go_wp2_with fail
  obtain ⟨W0, hW0⟩ : ∃ W0, W0 = ((((w.alloc (.cells #[.bool s, .slice p m c, .int .i64 e] 33)).alloc (.cells #[.bool t, .slice q n d, .int .i64 f] 33)).alloc (.cells #[.bool false, .slice none 0 0] 31)).alloc (.cells #[.bool false, .slice none 0 0] 31)) := ⟨_, rfl⟩
  have Xa : Hid (B3q W0 (w.heap.size) (.bool s) (.slice p m c) (.int .i64 e)) := by rw [hW0]; exact ⟨by go_simp, by go_simp, by go_simp, by go_simp, by go_simp, by go_simp⟩
  have Xb : Hid (B3q W0 (w.heap.size + 1) (.bool t) (.slice q n d) (.int .i64 f)) := by rw [hW0]; exact ⟨by go_simp, by go_simp, by go_simp, by go_simp, by go_simp, by go_simp⟩
  have Xx : Hid (Box W0 (w.heap.size + 1 + 1) (.bool false) (.slice none 0 0)) := by rw [hW0]; exact ⟨by go_simp, by go_simp, by go_simp, by go_simp⟩
  have Xy : Hid (Box W0 (w.heap.size + 1 + 1 + 1) (.bool false) (.slice none 0 0)) := by rw [hW0]; exact ⟨by go_simp, by go_simp, by go_simp, by go_simp⟩
  have hb0 : Below w.heap.size w W0 := by rw [hW0]; exact below4 w _ _ _ _
  rw [← hW0]
  clear hW0
  have hbw : Below w.heap.size w w := Below.refl _ _
  obtain ⟨gy, hgy⟩ : ∃ g, g = w.heap.size + 1 + 1 + 1 := ⟨_, rfl⟩
  have HGy : Hid (w.heap.size ≤ gy) := by rw [hgy]; show _ ≤ _; omega
  rw [← hgy] at Xy
  try rw [← hgy]
  obtain ⟨gx, hgx⟩ : ∃ g, g = w.heap.size + 1 + 1 := ⟨_, rfl⟩
  have HGx : Hid (w.heap.size ≤ gx) := by rw [hgx]; show _ ≤ _; omega
  rw [← hgx] at Xx
  try rw [← hgx]
  obtain ⟨gb, hgb⟩ : ∃ g, g = w.heap.size + 1 := ⟨_, rfl⟩
  have HGb : Hid (w.heap.size ≤ gb) := by rw [hgb]; show _ ≤ _; omega
  rw [← hgb] at Xb
  try rw [← hgb]
  obtain ⟨ga, hga⟩ : ∃ g, g = w.heap.size := ⟨_, rfl⟩
  have HGa : Hid (w.heap.size ≤ ga) := by rw [hga]; show _ ≤ _; omega
  rw [← hga] at Xa
  try rw [← hga]
  have HGD : Hid (ga ≠ gb ∧ ga ≠ gx ∧ ga ≠ gy ∧ gb ≠ ga ∧ gb ≠ gx ∧ gb ≠ gy ∧ gx ≠ ga ∧ gx ≠ gb ∧ gx ≠ gy ∧ gy ≠ ga ∧ gy ≠ gb ∧ gy ≠ gx) := by rw [hga, hgb, hgx, hgy]; exact ⟨by omega, by omega, by omega, by omega, by omega, by omega, by omega, by omega, by omega, by omega, by omega, by omega⟩
  clear hga hgb hgx hgy
  replace hbw := Below.on hbw hb0
  clear hb0
  have HB5 : Hid (gx < W0.heap.size ∧ gy < W0.heap.size ∧ w.heap.size ≤ W0.heap.size) := ⟨Xx.out.lt, Xy.out.lt, hbw.size⟩
  refine (zshl (H.out.below hbw) a HAB.out.2.2.1).mono ?_
  rintro e2 v5 ⟨ha5, hb5⟩
  rcases ha5 with ⟨_, p5, m5, z5, rfl, ho5, hn5, hm5⟩ | ⟨hl5, rfl⟩
  case inr => (exact absurd (by have h8 := HX.out.1; have h9 := HAB.out; rw [← h9.1] at h8; exact h8) (Nat.not_lt.2 hl5))
  replace Xa : Hid _ := Xa.out.below hb5
  replace Xb : Hid _ := Xb.out.below hb5
  replace Xx : Hid _ := Xx.out.below hb5
  replace Xy : Hid _ := Xy.out.below hb5
  replace hbw := Below.on hbw hb5
  clear hb5
  have O5 : Hid (Own W0.heap.size v5 p5 m5 z5) := ho5
  have N5 : Hid (Nf B64 z5 (x * 2 ^ a).natAbs ∧ m5 ≤ 8192) := ⟨hn5, hm5⟩
  obtain ⟨s5, hs5⟩ : ∃ bo, bo = decide ((x * 2 ^ a) < 0) := ⟨_, rfl⟩
  rw [← hs5]
  have HS5 : Hid (s5 = decide ((x * 2 ^ a) < 0)) := hs5
  clear ho5 hn5 hm5 hs5
  obtain ⟨hgd0, hgd1, hgd2, hgd3, hgd4, hgd5, hgd6, hgd7, hgd8, hgd9, hgd10, hgd11⟩ := HGD.out
  obtain ⟨ca0, ca1, ca2, fa0, fa1, fa2⟩ := Xa.out
  have hnea : ga < v5.heap.size := World.block_lt_of_cell? v5 _ ca0
  obtain ⟨cb0, cb1, cb2, fb0, fb1, fb2⟩ := Xb.out
  have hneb : gb < v5.heap.size := World.block_lt_of_cell? v5 _ cb0
  obtain ⟨cx0, cx1, fx0, fx1⟩ := Xx.out
  have hnex := Xx.out.lt
  go_wp2_with fail
  obtain ⟨cy0, cy1, fy0, fy1⟩ := Xy.out
  have hney := Xy.out.lt
  have Xx2 : Hid (Box ((v5.setCell ⟨gx, 0, none⟩ (.bool s5)).setCell ⟨gx, 1, none⟩ (.slice p5 m5 m5)) gx (.bool s5) (.slice p5 m5 m5)) := ⟨by go_simp, by go_simp, by go_simp, by go_simp⟩
  have Xy2 : Hid (Box ((v5.setCell ⟨gx, 0, none⟩ (.bool s5)).setCell ⟨gx, 1, none⟩ (.slice p5 m5 m5)) gy (.bool false) (.slice none 0 0)) := ⟨by go_simp, by go_simp, by go_simp, by go_simp⟩
  have Xa2 : Hid (B3q ((v5.setCell ⟨gx, 0, none⟩ (.bool s5)).setCell ⟨gx, 1, none⟩ (.slice p5 m5 m5)) ga (.bool s) (.slice p m c) (.int .i64 e)) := ⟨by go_simp, by go_simp, by go_simp, by go_simp, by go_simp, by go_simp⟩
  have Xb2 : Hid (B3q ((v5.setCell ⟨gx, 0, none⟩ (.bool s5)).setCell ⟨gx, 1, none⟩ (.slice p5 m5 m5)) gb (.bool t) (.slice q n d) (.int .i64 f)) := ⟨by go_simp, by go_simp, by go_simp, by go_simp, by go_simp, by go_simp⟩
  have O52 : Hid (Own W0.heap.size ((v5.setCell ⟨gx, 0, none⟩ (.bool s5)).setCell ⟨gx, 1, none⟩ (.slice p5 m5 m5)) p5 m5 z5) := own_set2 O5.out HB5.out.1 (Nat.le_refl _) _ _
  have hbw2 : Below w.heap.size w ((v5.setCell ⟨gx, 0, none⟩ (.bool s5)).setCell ⟨gx, 1, none⟩ (.slice p5 m5 m5)) := bSet (bSet hbw _ _ _ HGx.out) _ _ _ HGx.out
  clear ca0 ca1 ca2 fa0 fa1 fa2 hnea
  clear cb0 cb1 cb2 fb0 fb1 fb2 hneb
  clear cx0 cx1 fx0 fx1 hnex
  clear cy0 cy1 fy0 fy1 hney
  clear Xx Xy Xa Xb O5 hbw hgd0 hgd1 hgd2 hgd3 hgd4 hgd5 hgd6 hgd7 hgd8 hgd9 hgd10 hgd11
  generalize ((v5.setCell ⟨gx, 0, none⟩ (.bool s5)).setCell ⟨gx, 1, none⟩ (.slice p5 m5 m5)) = W6 at *
  have Xx := Xx2
  have Xy := Xy2
  have Xa := Xa2
  have Xb := Xb2
  have O5 := O52
  have hbw := hbw2
  clear Xx2 Xy2 Xa2 Xb2 O52 hbw2
  have HB7 : Hid (gx < W6.heap.size ∧ gy < W6.heap.size ∧ w.heap.size ≤ W6.heap.size) := ⟨Xx.out.lt, Xy.out.lt, hbw.size⟩
  refine (zshl (K.out.below hbw) b HAB.out.2.2.2).mono ?_
  rintro e2 v7 ⟨ha7, hb7⟩
  rcases ha7 with ⟨_, p7, m7, z7, rfl, ho7, hn7, hm7⟩ | ⟨hl7, rfl⟩
  case inr => (exact absurd (by have h8 := HX.out.2; have h9 := HAB.out; rw [← h9.2.1] at h8; exact h8) (Nat.not_lt.2 hl7))
  replace Xa : Hid _ := Xa.out.below hb7
  replace Xb : Hid _ := Xb.out.below hb7
  replace Xx : Hid _ := Xx.out.below hb7
  replace Xy : Hid _ := Xy.out.below hb7
  replace O5 : Hid (Own W0.heap.size v7 p5 m5 z5) := O5.out.below hb7
  replace hbw := Below.on hbw hb7
  clear hb7
  have O7 : Hid (Own W6.heap.size v7 p7 m7 z7) := ho7
  have N7 : Hid (Nf B64 z7 (y * 2 ^ b).natAbs ∧ m7 ≤ 8192) := ⟨hn7, hm7⟩
  obtain ⟨s7, hs7⟩ : ∃ bo, bo = decide ((y * 2 ^ b) < 0) := ⟨_, rfl⟩
  rw [← hs7]
  have HS7 : Hid (s7 = decide ((y * 2 ^ b) < 0)) := hs7
  clear ho7 hn7 hm7 hs7
  obtain ⟨hgd0, hgd1, hgd2, hgd3, hgd4, hgd5, hgd6, hgd7, hgd8, hgd9, hgd10, hgd11⟩ := HGD.out
  obtain ⟨cx0, cx1, fx0, fx1⟩ := Xx.out
  have hnex := Xx.out.lt
  obtain ⟨cy0, cy1, fy0, fy1⟩ := Xy.out
  have hney := Xy.out.lt
  go_wp2_with fail
  clear cx0 cx1 fx0 fx1 hnex
  clear cy0 cy1 fy0 fy1 hney
  obtain ⟨cx0, cx1, fx0, fx1⟩ := Xx.out
  have hnex := Xx.out.lt
  obtain ⟨cy0, cy1, fy0, fy1⟩ := Xy.out
  have hney := Xy.out.lt
  have Xy2 : Hid (Box ((v7.setCell ⟨gy, 0, none⟩ (.bool s7)).setCell ⟨gy, 1, none⟩ (.slice p7 m7 m7)) gy (.bool s7) (.slice p7 m7 m7)) := ⟨by go_simp, by go_simp, by go_simp, by go_simp⟩
  have Xx2 : Hid (Box ((v7.setCell ⟨gy, 0, none⟩ (.bool s7)).setCell ⟨gy, 1, none⟩ (.slice p7 m7 m7)) gx (.bool s5) (.slice p5 m5 m5)) := ⟨by go_simp, by go_simp, by go_simp, by go_simp⟩
  have O52 : Hid (Own W0.heap.size ((v7.setCell ⟨gy, 0, none⟩ (.bool s7)).setCell ⟨gy, 1, none⟩ (.slice p7 m7 m7)) p5 m5 z5) := own_set2 O5.out HB5.out.2.1 (Nat.le_refl _) _ _
  have O72 : Hid (Own W6.heap.size ((v7.setCell ⟨gy, 0, none⟩ (.bool s7)).setCell ⟨gy, 1, none⟩ (.slice p7 m7 m7)) p7 m7 z7) := own_set2 O7.out HB7.out.2.1 (Nat.le_refl _) _ _
  have hbw2 : Below w.heap.size w ((v7.setCell ⟨gy, 0, none⟩ (.bool s7)).setCell ⟨gy, 1, none⟩ (.slice p7 m7 m7)) := bSet (bSet hbw _ _ _ HGy.out) _ _ _ HGy.out
  clear cx0 cx1 fx0 fx1 hnex
  clear cy0 cy1 fy0 fy1 hney
  clear Xx Xy Xa Xb O5 O7 hbw hgd0 hgd1 hgd2 hgd3 hgd4 hgd5 hgd6 hgd7 hgd8 hgd9 hgd10 hgd11
  generalize ((v7.setCell ⟨gy, 0, none⟩ (.bool s7)).setCell ⟨gy, 1, none⟩ (.slice p7 m7 m7)) = W8 at *
  have Xx := Xx2
  have Xy := Xy2
  have O5 := O52
  have O7 := O72
  have hbw := hbw2
  clear Xx2 Xy2 O52 O72 hbw2
  obtain ⟨W9, hW9⟩ : ∃ W1, W1 = W8.drew := ⟨_, rfl⟩
  have hbd : Below W8.heap.size W8 W9 := by rw [hW9]; exact bDrew1 (Below.refl _ _)
  replace Xx : Hid _ := Xx.out.below hbd
  replace Xy : Hid _ := Xy.out.below hbd
  replace O5 : Hid (Own W0.heap.size W9 p5 m5 z5) := O5.out.below hbd
  replace O7 : Hid (Own W6.heap.size W9 p7 m7 z7) := O7.out.below hbd
  replace hbw := Below.on hbw hbd
  clear hbd
  have HJ : Hid ((fun W' : World => W'.cell? ⟨gx, 0, none⟩ = some (.bool s5) ∧ W'.cell? ⟨gx, 1, none⟩ = some (.slice p5 m5 m5) ∧ W'.cell? ⟨gy, 0, none⟩ = some (.bool s7) ∧ W'.cell? ⟨gy, 1, none⟩ = some (.slice p7 m7 m7)) W9) := ⟨Xx.out.c0, Xx.out.c1, Xy.out.c0, Xy.out.c1⟩
  refine wp_region_J (fun W' => W'.cell? ⟨gx, 0, none⟩ = some (.bool s5) ∧ W'.cell? ⟨gx, 1, none⟩ = some (.slice p5 m5 m5) ∧ W'.cell? ⟨gy, 0, none⟩ = some (.bool s7) ∧ W'.cell? ⟨gy, 1, none⟩ = some (.slice p7 m7 m7)) (by kernel_rfl) ?_
  rw [← hW9]
  clear hW9
  refine wpJ_tq 0 rfl HJ.out ?_
  refine wpJ_tq 1 rfl HJ.out ?_
  refine wpJ_tq 2 rfl HJ.out ?_
  refine wpJ_tq 3 rfl HJ.out ?_
  refine wpJ_tq 4 rfl HJ.out ?_
  refine wpJ_tq 5 rfl HJ.out ?_
  obtain ⟨cx0, cx1, fx0, fx1⟩ := Xx.out
  have hnex := Xx.out.lt
  obtain ⟨cy0, cy1, fy0, fy1⟩ := Xy.out
  have hney := Xy.out.lt
  have hq1 : gx ≠ gy := HGD.out.2.2.2.2.2.2.2.2.1
  have hq2 : gy ≠ gx := fun h => hq1 h.symm
  refine wpJ_on 6 rfl fun KJ hK => ?_
  go_simp
  have HJ2 : Hid ((fun W' : World => W'.cell? ⟨gx, 0, none⟩ = some (.bool s5) ∧ W'.cell? ⟨gx, 1, none⟩ = some (.slice p5 m5 m5) ∧ W'.cell? ⟨gy, 0, none⟩ = some (.bool s7) ∧ W'.cell? ⟨gy, 1, none⟩ = some (.slice p7 m7 m7)) ((W9.setCell ⟨gx, 0, none⟩ (.bool s5)).setCell ⟨gx, 1, none⟩ (.slice p5 m5 m5))) := ⟨by go_simp, by go_simp, by go_simp, by go_simp⟩
  have Xx2 : Hid (Box ((W9.setCell ⟨gx, 0, none⟩ (.bool s5)).setCell ⟨gx, 1, none⟩ (.slice p5 m5 m5)) gx (.bool s5) (.slice p5 m5 m5)) := ⟨by go_simp, by go_simp, by go_simp, by go_simp⟩
  have Xy2 : Hid (Box ((W9.setCell ⟨gx, 0, none⟩ (.bool s5)).setCell ⟨gx, 1, none⟩ (.slice p5 m5 m5)) gy (.bool s7) (.slice p7 m7 m7)) := ⟨by go_simp, by go_simp, by go_simp, by go_simp⟩
  have O52 : Hid (Own W0.heap.size ((W9.setCell ⟨gx, 0, none⟩ (.bool s5)).setCell ⟨gx, 1, none⟩ (.slice p5 m5 m5)) p5 m5 z5) := own_set2 O5.out HB5.out.1 (Nat.le_refl _) _ _
  have O72 : Hid (Own W6.heap.size ((W9.setCell ⟨gx, 0, none⟩ (.bool s5)).setCell ⟨gx, 1, none⟩ (.slice p5 m5 m5)) p7 m7 z7) := own_set2 O7.out HB7.out.1 (Nat.le_refl _) _ _
  have hbw2 : Below w.heap.size w ((W9.setCell ⟨gx, 0, none⟩ (.bool s5)).setCell ⟨gx, 1, none⟩ (.slice p5 m5 m5)) := bSet (bSet hbw _ _ _ HGx.out) _ _ _ HGx.out
  refine hK _ _ HJ2.out ?_
  clear hK HJ hq1 hq2
  have HJ := HJ2
  clear HJ2
  clear cx0 cx1 fx0 fx1 hnex
  clear cy0 cy1 fy0 fy1 hney
  clear Xx Xy O5 O7 hbw
  generalize ((W9.setCell ⟨gx, 0, none⟩ (.bool s5)).setCell ⟨gx, 1, none⟩ (.slice p5 m5 m5)) = Wp at *
  have Xx := Xx2
  have Xy := Xy2
  have O5 := O52
  have O7 := O72
  have hbw := hbw2
  clear Xx2 Xy2 O52 O72 hbw2
  obtain ⟨cy0, cy1, fy0, fy1⟩ := Xy.out
  have hney := Xy.out.lt
  obtain ⟨cx0, cx1, fx0, fx1⟩ := Xx.out
  have hnex := Xx.out.lt
  have hq1 : gx ≠ gy := HGD.out.2.2.2.2.2.2.2.2.1
  have hq2 : gy ≠ gx := fun h => hq1 h.symm
  refine wpJ_on 7 rfl fun KJ hK => ?_
  go_simp
  have HJ2 : Hid ((fun W' : World => W'.cell? ⟨gx, 0, none⟩ = some (.bool s5) ∧ W'.cell? ⟨gx, 1, none⟩ = some (.slice p5 m5 m5) ∧ W'.cell? ⟨gy, 0, none⟩ = some (.bool s7) ∧ W'.cell? ⟨gy, 1, none⟩ = some (.slice p7 m7 m7)) ((Wp.setCell ⟨gy, 0, none⟩ (.bool s7)).setCell ⟨gy, 1, none⟩ (.slice p7 m7 m7))) := ⟨by go_simp, by go_simp, by go_simp, by go_simp⟩
  have Xy2 : Hid (Box ((Wp.setCell ⟨gy, 0, none⟩ (.bool s7)).setCell ⟨gy, 1, none⟩ (.slice p7 m7 m7)) gy (.bool s7) (.slice p7 m7 m7)) := ⟨by go_simp, by go_simp, by go_simp, by go_simp⟩
  have Xx2 : Hid (Box ((Wp.setCell ⟨gy, 0, none⟩ (.bool s7)).setCell ⟨gy, 1, none⟩ (.slice p7 m7 m7)) gx (.bool s5) (.slice p5 m5 m5)) := ⟨by go_simp, by go_simp, by go_simp, by go_simp⟩
  have O52 : Hid (Own W0.heap.size ((Wp.setCell ⟨gy, 0, none⟩ (.bool s7)).setCell ⟨gy, 1, none⟩ (.slice p7 m7 m7)) p5 m5 z5) := own_set2 O5.out HB5.out.2.1 (Nat.le_refl _) _ _
  have O72 : Hid (Own W6.heap.size ((Wp.setCell ⟨gy, 0, none⟩ (.bool s7)).setCell ⟨gy, 1, none⟩ (.slice p7 m7 m7)) p7 m7 z7) := own_set2 O7.out HB7.out.2.1 (Nat.le_refl _) _ _
  have hbw2 : Below w.heap.size w ((Wp.setCell ⟨gy, 0, none⟩ (.bool s7)).setCell ⟨gy, 1, none⟩ (.slice p7 m7 m7)) := bSet (bSet hbw _ _ _ HGy.out) _ _ _ HGy.out
  refine hK _ _ HJ2.out ?_
  clear hK HJ hq1 hq2
  have HJ := HJ2
  clear HJ2
  clear cy0 cy1 fy0 fy1 hney
  clear cx0 cx1 fx0 fx1 hnex
  clear Xx Xy O5 O7 hbw
  generalize ((Wp.setCell ⟨gy, 0, none⟩ (.bool s7)).setCell ⟨gy, 1, none⟩ (.slice p7 m7 m7)) = Wq at *
  have Xx := Xx2
  have Xy := Xy2
  have O5 := O52
  have O7 := O72
  have hbw := hbw2
  clear Xx2 Xy2 O52 O72 hbw2
  refine wpJ_tq 8 rfl HJ.out ?_
  refine wpJ_tq 9 rfl HJ.out ?_
  refine wpJ_done (by kernel_rfl) ?_ _
  clear HJ
  obtain ⟨cx0, cx1, fx0, fx1⟩ := Xx.out
  have hnex := Xx.out.lt
  obtain ⟨cy0, cy1, fy0, fy1⟩ := Xy.out
  have hney := Xy.out.lt
  go_wp2_with fail
  refine bodyPost_ret (v := .tuple #[ZV s5 p5 m5 m5, ZV s7 p7 m7 m7, .int .i64 g, .int .i64 0]) (by rw [results_c2t2 rfl]; go_simp) rfl ⟨s5, p5, m5, s7, p7, m7, rfl, ?_, ?_, hbw⟩
  · rw [← HAB.out.1]
    exact ⟨⟨z5, Num.of O5.out N5.out.1 N5.out.2⟩, HS5.out⟩
  · rw [← HAB.out.2.1]
    exact ⟨⟨z7, Num.of O7.out N7.out.1 N7.out.2⟩, HS7.out⟩
end Go.Proofs.YtabmdpfmlnnpnaaDoor
