import Derived.Test.YtkbjehhabklnpaaDoorJ15
import Derived.Test.YtkbjehhabklnpaaDoorBs1
import Derived.Test.YtkbjehhabklnpaaDoorBs3
import Derived.Test.YtkbjehhabklnpaaDoorBs4
namespace Go.Proofs.YtkbjehhabklnpaaDoor
open Go.RowKit Go.Shelf

def wV (z : Nat) : Nat :=
  if z = 0 then 0 else
  (872 + (z / 8388608 - 1) + bl_bitsN (z - (z / 8388608 - 1) * 8388608)) * 4503599627370496 + (z - (z / 8388608 - 1) * 8388608) * 2 ^ (53 - bl_bitsN (z - (z / 8388608 - 1) * 8388608))
theorem bits_shift {m t : Nat} (hm : m ≠ 0) : bl_bitsN (m * 2 ^ t) = bl_bitsN m + t := by
  have h1 := bl_bitsN_lt m
  have h2 := bl_bitsN_le m hm
  have h3 : bl_bitsN m ≠ 0 := by unfold bl_bitsN; rw [if_neg hm]; omega
  have hp := Nat.two_pow_pos t
  refine bl_bitsN_unique ?_ (fun _ => ?_) (fun e => ?_)
  · rw [Nat.pow_add]; exact Nat.mul_lt_mul_of_pos_right h1 hp
  · rw [show bl_bitsN m + t - 1 = (bl_bitsN m - 1) + t by omega, Nat.pow_add]; exact Nat.mul_le_mul_right _ h2
  · exfalso
    rcases Nat.mul_eq_zero.1 e with e | e
    · exact hm e
    · omega
set_option maxRecDepth 20000 in
theorem join_wide (neg : Bool) (z q m : Nat) (hq : q = z / 8388608 - 1) (hm : m = z - q * 8388608) (hz : z < 2139095040) (w : World) (hT : qTab w) :
    Calls Tryd.prog 15 #[.int .i64 64, .bool neg, U m, .int .i64 (-149 + (q : Int))] w fun e w' => e = .returned (.tuple #[U (if neg then 9223372036854775808 + wV z else wV z), .int .i64 0]) ∧ Below w.heap.size w w' := by
  by_cases z0 : z = 0
  · subst z0
    have hm0 : m = 0 := by omega
    subst hm0
    have h := join_zero neg (-149 + (q : Int)) w
    have hv : wV 0 = 0 := rfl
    rw [hv]
    exact h
  · have hm0 : m ≠ 0 := by omega
    have hmb : m < 16777216 := by omega
    have hq9 : q ≤ 253 := by omega
    obtain ⟨ht, ht64⟩ := qctz_is hm0 (show m < B64 by rw [B64_eq]; omega)
    generalize Lib.ctz 64 m = t at *
    obtain ⟨mo, hmo⟩ : ∃ mo, mo = m / 2 ^ t := ⟨_, rfl⟩
    have hdec : m = mo * 2 ^ t := by
      have h1 := Nat.div_add_mod m (2 ^ t)
      rw [ht.1, Nat.add_zero, Nat.mul_comm, ← hmo] at h1
      exact h1.symm
    have hmo0 : mo ≠ 0 := by
      rintro rfl
      rw [Nat.zero_mul] at hdec
      exact hm0 hdec
    have hbs : bl_bitsN m = bl_bitsN mo + t := by rw [hdec]; exact bits_shift hmo0
    have hb24 : bl_bitsN m ≤ 24 := bl_le (show m < 2 ^ 24 by omega)
    have hb1 : 1 ≤ bl_bitsN mo := by unfold bl_bitsN; rw [if_neg hmo0]; omega
    have hv : wV z = (872 + q + bl_bitsN m) * 4503599627370496 + mo * 2 ^ (53 - bl_bitsN mo) := by
      unfold wV
      rw [if_neg z0, ← hq, ← hm]
      congr 1
      rw [show 53 - bl_bitsN mo = t + (53 - bl_bitsN m) by omega, Nat.pow_add, ← Nat.mul_assoc, ← hdec]
    rw [hv]
    exact join_norm neg m t mo (bl_bitsN mo) (872 + q + bl_bitsN m) (-149 + (q : Int)) (-149 + (q : Int) + t + bl_bitsN mo - 1) hm0 (by rw [B64_eq]; omega) ht hmo rfl (by omega) rfl (by omega) (by omega) (by omega) (by omega) ht64 (by omega) w hT

set_option maxRecDepth 20000 in
set_option maxHeartbeats 4000000 in
theorem widen_nan (b : Nat) (hb : b < 4294967296) (w : World) (hz : 2139095040 < b % 2147483648) : Calls Tryd.prog 8 #[U b] w fun e w' => e = .returned (.tuple #[.int .u64 9221120237041090561, .int .i64 0]) ∧ Below w.heap.size w w' := by
  have HP := fun w => patternOf_32 b (by omega) w
  have HC := fun (s : Bool) (z : Nat) (w : World) => class_32 (I := 2139095040) rfl s z w
  obtain ⟨z, hzz⟩ : ∃ z, z = b % 2147483648 := ⟨_, rfl⟩
  obtain ⟨s, hs⟩ : ∃ s, s = decide (2147483648 ≤ b) := ⟨_, rfl⟩
  simp only [← hzz, ← hs] at HP hz ⊢
  obtain ⟨c, hc⟩ : ∃ c, c = clsN 8388608 2139095040 z := ⟨_, rfl⟩
  have hcv : c = 4 := by rw [hc]; unfold clsN; rw [if_neg (by omega), if_neg (by omega), if_neg (by omega), if_neg (by omega)]
  have HPH : Hid (∀ w : World, Calls Tryd.prog 27 #[.int .i64 32, U b] w fun e w' => e = .returned (.tuple #[PV 32 24 (-149) s z, .int .i64 0]) ∧ Below w.heap.size w w') := HP
  have HCH : Hid (∀ w : World, Calls Tryd.prog 28 #[PV 32 24 (-149) s z] w fun e w' => e = .returned (.int .i64 c) ∧ Below w.heap.size w w') := fun w => by rw [hc]; exact HC s z w
  clear HP HC hc hzz hs hz hb
  subst hcv
  go_enter Tryd.func8, Tryd.ntmps8
  go_wp2_with fail
  refine (HPH.out _).mono ?_
  rintro e w1 ⟨rfl, hb1⟩
  go_wp2_with fail
  have X := B5q.new (w1) 58 (.int .i64 32) (.int .i64 24) (.int .i64 (-149)) (.bool s) (U z)
  have hb2 := bwAlloc (w1) (.cells #[.int .i64 32, .int .i64 24, .int .i64 (-149), .bool s, U z] 58)
  generalize (w1).alloc (.cells #[.int .i64 32, .int .i64 24, .int .i64 (-149), .bool s, U z] 58) = W at *
  obtain ⟨g, hg⟩ : ∃ g, g = (w1).heap.size := ⟨_, rfl⟩
  have HGg : Hid ((w1).heap.size ≤ g) := by show _ ≤ _; omega
  rw [← hg] at X ⊢
  clear hg
  have HB2 : Hid (Below w.heap.size w W) := bwOn hb1 hb2
  clear hb1 hb2
  refine (HCH.out _).mono ?_
  rintro e w3 ⟨rfl, hb3⟩
  have X3 : Hid (B5q w3 g (.int .i64 32) (.int .i64 24) (.int .i64 (-149)) (.bool s) (U z)) := X.below hb3
  have HB3 : Hid (Below w.heap.size w w3) := bwOn HB2.out hb3
  clear hb3 X
  obtain ⟨x0, x1, x2, x3, x4, x5, x6, x7, x8, x9⟩ := X3.out
  go_wp2_with fail
  refine (quiet_64 _).mono ?_
  rintro e w4 ⟨rfl, hb4⟩
  have HB4 : Hid (Below w.heap.size w w4) := bwOn HB3.out hb4
  clear hb4
  go_wp2_with fail
  go_ret2
  exact ⟨rfl, HB4.out⟩
set_option maxRecDepth 20000 in
set_option maxHeartbeats 4000000 in
theorem widen_inf (b : Nat) (hb : b < 4294967296) (w : World) (hz : b % 2147483648 = 2139095040) : Calls Tryd.prog 8 #[U b] w fun e w' => e = .returned (.tuple #[U (if decide (2147483648 ≤ b) then 9223372036854775808 + 9218868437227405312 else 9218868437227405312), .int .i64 0]) ∧ Below w.heap.size w w' := by
  have HP := fun w => patternOf_32 b (by omega) w
  have HC := fun (s : Bool) (z : Nat) (w : World) => class_32 (I := 2139095040) rfl s z w
  obtain ⟨z, hzz⟩ : ∃ z, z = b % 2147483648 := ⟨_, rfl⟩
  obtain ⟨s, hs⟩ : ∃ s, s = decide (2147483648 ≤ b) := ⟨_, rfl⟩
  simp only [← hzz, ← hs] at HP hz ⊢
  obtain ⟨c, hc⟩ : ∃ c, c = clsN 8388608 2139095040 z := ⟨_, rfl⟩
  have hcv : c = 3 := by rw [hc]; unfold clsN; rw [if_neg (by omega), if_neg (by omega), if_neg (by omega), if_pos hz]
  obtain ⟨r, hr⟩ : ∃ r : Nat, r = (if s = true then 18442240474082181120 else 9218868437227405312) := ⟨_, rfl⟩
  have HR : Hid (r = (if s then 9223372036854775808 + 9218868437227405312 else 9218868437227405312)) := hr
  rw [← hr]
  clear hr
  have HPH : Hid (∀ w : World, Calls Tryd.prog 27 #[.int .i64 32, U b] w fun e w' => e = .returned (.tuple #[PV 32 24 (-149) s z, .int .i64 0]) ∧ Below w.heap.size w w') := HP
  have HCH : Hid (∀ w : World, Calls Tryd.prog 28 #[PV 32 24 (-149) s z] w fun e w' => e = .returned (.int .i64 c) ∧ Below w.heap.size w w') := fun w => by rw [hc]; exact HC s z w
  clear HP HC hc hzz hs hz hb
  subst hcv
  go_enter Tryd.func8, Tryd.ntmps8
  go_wp2_with fail
  refine (HPH.out _).mono ?_
  rintro e w1 ⟨rfl, hb1⟩
  go_wp2_with fail
  have X := B5q.new (w1) 58 (.int .i64 32) (.int .i64 24) (.int .i64 (-149)) (.bool s) (U z)
  have hb2 := bwAlloc (w1) (.cells #[.int .i64 32, .int .i64 24, .int .i64 (-149), .bool s, U z] 58)
  generalize (w1).alloc (.cells #[.int .i64 32, .int .i64 24, .int .i64 (-149), .bool s, U z] 58) = W at *
  obtain ⟨g, hg⟩ : ∃ g, g = (w1).heap.size := ⟨_, rfl⟩
  have HGg : Hid ((w1).heap.size ≤ g) := by show _ ≤ _; omega
  rw [← hg] at X ⊢
  clear hg
  have HB2 : Hid (Below w.heap.size w W) := bwOn hb1 hb2
  clear hb1 hb2
  refine (HCH.out _).mono ?_
  rintro e w3 ⟨rfl, hb3⟩
  have X3 : Hid (B5q w3 g (.int .i64 32) (.int .i64 24) (.int .i64 (-149)) (.bool s) (U z)) := X.below hb3
  have HB3 : Hid (Below w.heap.size w w3) := bwOn HB2.out hb3
  clear hb3 X
  obtain ⟨x0, x1, x2, x3, x4, x5, x6, x7, x8, x9⟩ := X3.out
  go_wp2_with fail
  refine (of_64 _).mono ?_
  rintro e w4 ⟨rfl, hb4⟩
  have X4 : Hid (B5q w4 g (.int .i64 32) (.int .i64 24) (.int .i64 (-149)) (.bool s) (U z)) := X3.out.below hb4
  have HB4 : Hid (Below w.heap.size w w4) := bwOn HB3.out hb4
  clear hb4 x0 x1 x2 x3 x4 x5 x6 x7 x8 x9
  go_wp2_with fail
  have Y := B3.new (w4) 56 (.int .i64 64) (.int .i64 53) (.int .i64 (-1074))
  have hb5 := bwAlloc (w4) (.cells #[.int .i64 64, .int .i64 53, .int .i64 (-1074)] 56)
  generalize (w4).alloc (.cells #[.int .i64 64, .int .i64 53, .int .i64 (-1074)] 56) = W5 at *
  obtain ⟨h, hh⟩ : ∃ h, h = (w4).heap.size := ⟨_, rfl⟩
  have HGh : Hid ((w4).heap.size ≤ h) := by show _ ≤ _; omega
  rw [← hh] at Y ⊢
  clear hh
  have HB5 : Hid (Below w.heap.size w W5.drew) := bwDrew (bwOn HB4.out hb5)
  have XY : Hid (B5q W5.drew g (.int .i64 32) (.int .i64 24) (.int .i64 (-149)) (.bool s) (U z) ∧ B3 W5.drew h (.int .i64 64) (.int .i64 53) (.int .i64 (-1074))) := ⟨(X4.out.below hb5).drew, Y.drew⟩
  clear Y hb5
  refine wp_region_J (fun W' => B5q W' g (.int .i64 32) (.int .i64 24) (.int .i64 (-149)) (.bool s) (U z) ∧ B3 W' h (.int .i64 64) (.int .i64 53) (.int .i64 (-1074))) (by kernel_rfl) ?_
  refine wpJ_take (i := 0) (v := ?v1x0) rfl (by kernel_rfl) (by kernel_rfl) (by kernel_rfl) (fun _ _ _ h => h) (by rfl) ?hy1x0 XY.out ?rest1x0
  case hy1x0 => (intro W' hJ; obtain ⟨⟨x0, x1, x2, x3, x4, x5, x6, x7, x8, x9⟩, ⟨y0, y1, y2, y3, y4, y5⟩⟩ := hJ; go_simp; first | done | with_reducible rfl)
  refine wpJ_take (i := 1) (v := ?v2x1) rfl (by kernel_rfl) (by kernel_rfl) (by kernel_rfl) (fun _ _ _ h => h) (by rfl) ?hy2x1 XY.out ?rest2x1
  case hy2x1 => (intro W' hJ; obtain ⟨⟨x0, x1, x2, x3, x4, x5, x6, x7, x8, x9⟩, ⟨y0, y1, y2, y3, y4, y5⟩⟩ := hJ; go_simp; first | done | with_reducible rfl)
  refine wpJ_take (i := 2) (v := ?v3x2) rfl (by kernel_rfl) (by kernel_rfl) (by kernel_rfl) (fun _ _ _ h => h) (by rfl) ?hy3x2 XY.out ?rest3x2
  case hy3x2 => (intro W' hJ; obtain ⟨⟨x0, x1, x2, x3, x4, x5, x6, x7, x8, x9⟩, ⟨y0, y1, y2, y3, y4, y5⟩⟩ := hJ; go_simp; first | done | with_reducible rfl)
  refine wpJ_take (i := 3) (v := ?v4x3) rfl (by kernel_rfl) (by kernel_rfl) (by kernel_rfl) (fun _ _ _ h => h) (by rfl) ?hy4x3 XY.out ?rest4x3
  case hy4x3 => (intro W' hJ; obtain ⟨⟨x0, x1, x2, x3, x4, x5, x6, x7, x8, x9⟩, ⟨y0, y1, y2, y3, y4, y5⟩⟩ := hJ; go_simp; first | done | with_reducible rfl)
  refine wpJ_one (i := 4) (by kernel_rfl) rfl (by rfl) (fun K hK => ?_)
  go_simp
  refine (infinity_64 _).mono ?_
  rintro e w6 ⟨rfl, hb6⟩
  have XY6 : Hid (B5q w6 g (.int .i64 32) (.int .i64 24) (.int .i64 (-149)) (.bool s) (U z) ∧ B3 w6 h (.int .i64 64) (.int .i64 53) (.int .i64 (-1074))) := ⟨XY.out.1.below hb6, XY.out.2.below hb6⟩
  have HB6 : Hid (Below w.heap.size w w6) := bwOn HB5.out hb6
  clear hb6
  refine hK _ _ XY6.out ?_
  clear hK
  refine wpJ_one (i := 5) (by kernel_rfl) rfl (by rfl) (fun K hK => ?_)
  go_simp
  refine (qsigned_64 s 9218868437227405312 (by decide) _).mono ?_
  rintro e w7 ⟨rfl, hb7⟩
  rw [← HR.out]
  have XY7 : Hid (B5q w7 g (.int .i64 32) (.int .i64 24) (.int .i64 (-149)) (.bool s) (U z) ∧ B3 w7 h (.int .i64 64) (.int .i64 53) (.int .i64 (-1074))) := ⟨XY6.out.1.below hb7, XY6.out.2.below hb7⟩
  have HB7 : Hid (Below w.heap.size w w7) := bwOn HB6.out hb7
  clear hb7
  refine hK _ _ XY7.out ?_
  clear hK
  refine wpJ_take (i := 6) (v := ?v5x6) rfl (by kernel_rfl) (by kernel_rfl) (by kernel_rfl) (fun _ _ _ h => h) (by rfl) ?hy5x6 XY7.out ?rest5x6
  case hy5x6 => (intro W' hJ; obtain ⟨⟨x0, x1, x2, x3, x4, x5, x6, x7, x8, x9⟩, ⟨y0, y1, y2, y3, y4, y5⟩⟩ := hJ; go_simp; first | done | with_reducible rfl)
  refine wpJ_take (i := 7) (v := ?v6x7) rfl (by kernel_rfl) (by kernel_rfl) (by kernel_rfl) (fun _ _ _ h => h) (by rfl) ?hy6x7 XY7.out ?rest6x7
  case hy6x7 => (intro W' hJ; obtain ⟨⟨x0, x1, x2, x3, x4, x5, x6, x7, x8, x9⟩, ⟨y0, y1, y2, y3, y4, y5⟩⟩ := hJ; go_simp; first | done | with_reducible rfl)
  refine wpJ_done (by kernel_rfl) ?_ _
  go_wp2_with fail
  go_ret2
  exact ⟨rfl, HB7.out⟩
set_option maxRecDepth 20000 in
set_option maxHeartbeats 4000000 in
theorem widen_fin (b : Nat) (hb : b < 4294967296) (w : World) (hz : b % 2147483648 < 2139095040) (hT : qTab w) : Calls Tryd.prog 8 #[U b] w fun e w' => e = .returned (.tuple #[U (if decide (2147483648 ≤ b) then 9223372036854775808 + wV (b % 2147483648) else wV (b % 2147483648)), .int .i64 0]) ∧ Below w.heap.size w w' := by
  have HP := fun w => patternOf_32 b (by omega) w
  have HC := fun (s : Bool) (z : Nat) (w : World) => class_32 (I := 2139095040) rfl s z w
  obtain ⟨z, hzz⟩ : ∃ z, z = b % 2147483648 := ⟨_, rfl⟩
  obtain ⟨s, hs⟩ : ∃ s, s = decide (2147483648 ≤ b) := ⟨_, rfl⟩
  simp only [← hzz, ← hs] at HP hz ⊢
  obtain ⟨c, hc⟩ : ∃ c, c = clsN 8388608 2139095040 z := ⟨_, rfl⟩
  have hcv : c = 0 ∨ c = 1 ∨ c = 2 := by
    rw [hc]; unfold clsN
    by_cases h0 : z = 0
    · rw [if_pos h0]; exact .inl rfl
    · rw [if_neg h0]
      by_cases h1 : z < 8388608
      · rw [if_pos h1]; exact .inr (.inl rfl)
      · rw [if_neg h1, if_pos hz]; exact .inr (.inr rfl)
  have hc4 : (c == 4) = false := by rcases hcv with rfl | rfl | rfl <;> decide
  have hc3 : (c == 3) = false := by rcases hcv with rfl | rfl | rfl <;> decide
  obtain ⟨q, hq⟩ : ∃ q, q = z / 8388608 - 1 := ⟨_, rfl⟩
  obtain ⟨m, hm⟩ : ∃ m, m = z - q * 8388608 := ⟨_, rfl⟩
  obtain ⟨r, hr⟩ : ∃ r, r = (if s then 9223372036854775808 + wV z else wV z) := ⟨_, rfl⟩
  have HPA : Hid (∀ w : World, Calls Tryd.prog 33 #[WV 32 24 (-149), U z] w fun e w' => e = .returned (.tuple #[U m, .int .i64 (-149 + (q : Int))]) ∧ Below w.heap.size w w') := fun w => parts_32 z q m hq hm (by omega) w
  have HJO : Hid (∀ w : World, qTab w → Calls Tryd.prog 15 #[.int .i64 64, .bool s, U m, .int .i64 (-149 + (q : Int))] w fun e w' => e = .returned (.tuple #[U r, .int .i64 0]) ∧ Below w.heap.size w w') := fun w hT => by rw [hr]; exact join_wide s z q m hq hm hz w hT
  rw [← hr]
  have HT : Hid (qTab w) := hT
  obtain ⟨ex, hex⟩ : ∃ ex : Int, ex = -149 + (q : Int) := ⟨_, rfl⟩
  rw [← hex] at HPA HJO
  have HPH : Hid (∀ w : World, Calls Tryd.prog 27 #[.int .i64 32, U b] w fun e w' => e = .returned (.tuple #[PV 32 24 (-149) s z, .int .i64 0]) ∧ Below w.heap.size w w') := HP
  have HCH : Hid (∀ w : World, Calls Tryd.prog 28 #[PV 32 24 (-149) s z] w fun e w' => e = .returned (.int .i64 c) ∧ Below w.heap.size w w') := fun w => by rw [hc]; exact HC s z w
  clear HP HC hc hzz hs hz hb hcv hq hm hr hT hex
  go_enter Tryd.func8, Tryd.ntmps8
  go_wp2_with fail
  refine (HPH.out _).mono ?_
  rintro e w1 ⟨rfl, hb1⟩
  go_wp2_with fail
  have X := B5q.new (w1) 58 (.int .i64 32) (.int .i64 24) (.int .i64 (-149)) (.bool s) (U z)
  have hb2 := bwAlloc (w1) (.cells #[.int .i64 32, .int .i64 24, .int .i64 (-149), .bool s, U z] 58)
  generalize (w1).alloc (.cells #[.int .i64 32, .int .i64 24, .int .i64 (-149), .bool s, U z] 58) = W at *
  obtain ⟨g, hg⟩ : ∃ g, g = (w1).heap.size := ⟨_, rfl⟩
  have HGg : Hid ((w1).heap.size ≤ g) := by show _ ≤ _; omega
  rw [← hg] at X ⊢
  clear hg
  have HB2 : Hid (Below w.heap.size w W) := bwOn hb1 hb2
  clear hb1 hb2
  refine (HCH.out _).mono ?_
  rintro e w3 ⟨rfl, hb3⟩
  have X3 : Hid (B5q w3 g (.int .i64 32) (.int .i64 24) (.int .i64 (-149)) (.bool s) (U z)) := X.below hb3
  have HB3 : Hid (Below w.heap.size w w3) := bwOn HB2.out hb3
  clear hb3 X
  obtain ⟨x0, x1, x2, x3, x4, x5, x6, x7, x8, x9⟩ := X3.out
  go_wp2_with fail
  refine (HPA.out _).mono ?_
  rintro e w4 ⟨rfl, hb4⟩
  have X4 : Hid (B5q w4 g (.int .i64 32) (.int .i64 24) (.int .i64 (-149)) (.bool s) (U z)) := X3.out.below hb4
  have HB4 : Hid (Below w.heap.size w w4) := bwOn HB3.out hb4
  have HT4 : Hid (qTab w4) := HT.out.below HB4.out
  clear hb4 x0 x1 x2 x3 x4 x5 x6 x7 x8 x9
  obtain ⟨x0, x1, x2, x3, x4, x5, x6, x7, x8, x9⟩ := X4.out
  go_wp2_with fail
  refine (HJO.out _ HT4.out).mono ?_
  rintro e w5 ⟨rfl, hb5⟩
  have HB5 : Hid (Below w.heap.size w w5) := bwOn HB4.out hb5
  clear hb5
  go_wp2_with fail
  go_ret2
  exact ⟨rfl, HB5.out⟩
end Go.Proofs.YtkbjehhabklnpaaDoor

namespace Go.Proofs.YtkbjehhabklnpaaDoor
open Go.RowKit Go.Shelf

theorem blb_le {m k : Nat} (h : m < 2 ^ k) : bl_bitsN m ≤ k := by
  by_cases h0 : m = 0
  · rw [h0, bl_bitsN_zero]; omega
  have h1 := bl_bitsN_le m h0
  have := (Nat.pow_lt_pow_iff_right (by omega : 1 < 2)).1 (Nat.lt_of_le_of_lt h1 h)
  omega
theorem blb_pos {m : Nat} (h : m ≠ 0) : 0 < bl_bitsN m := by unfold bl_bitsN; rw [if_neg h]; omega
theorem wV_parts {z : Nat} (hz : z < 2139095040) (h0 : z ≠ 0) : ∃ q m L, q = z / 8388608 - 1 ∧ m = z - q * 8388608 ∧ L = bl_bitsN m ∧ 1 ≤ L ∧ L ≤ 24 ∧ q ≤ 253 ∧ wV z = (872 + q + L) * 4503599627370496 + m * 2 ^ (53 - L) ∧ 4503599627370496 ≤ m * 2 ^ (53 - L) ∧ m * 2 ^ (53 - L) < 2 * 4503599627370496 := by
  obtain ⟨q, hq⟩ : ∃ q, q = z / 8388608 - 1 := ⟨_, rfl⟩
  obtain ⟨m, hm⟩ : ∃ m, m = z - q * 8388608 := ⟨_, rfl⟩
  obtain ⟨L, hL⟩ : ∃ L, L = bl_bitsN m := ⟨_, rfl⟩
  have hm0 : m ≠ 0 := by omega
  have hm1 : m < 16777216 := by omega
  have l1 := blb_pos hm0
  have l2 := blb_le (m := m) (k := 24) (by omega)
  have b1 := bl_bitsN_lt m
  have b2 := bl_bitsN_le m hm0
  rw [← hL] at l1 l2 b1 b2
  have e1 : (2 : Nat) ^ 52 = 4503599627370496 := by decide
  have h1 : 2 ^ (L - 1) * 2 ^ (53 - L) ≤ m * 2 ^ (53 - L) := Nat.mul_le_mul_right _ b2
  have h2 : m * 2 ^ (53 - L) < 2 ^ L * 2 ^ (53 - L) := Nat.mul_lt_mul_of_pos_right b1 (Nat.pow_pos (by omega))
  rw [← Nat.pow_add, show L - 1 + (53 - L) = 52 from by omega, e1] at h1
  rw [← Nat.pow_add, show L + (53 - L) = 52 + 1 from by omega, Nat.pow_succ, e1] at h2
  refine ⟨q, m, L, hq, hm, hL, l1, l2, by omega, ?_, h1, by omega⟩
  unfold wV
  rw [if_neg h0, ← hq, ← hm, ← hL]
theorem wV_vs {z K : Nat} (hz : z < 2139095040) (hK : K = 925) : vs 4503599627370496 (wV z) = vs 8388608 z * 2 ^ K := by
  by_cases h0 : z = 0
  · subst h0
    unfold wV
    rw [if_pos rfl, vs_zero, vs_zero, Nat.zero_mul]
  obtain ⟨q, m, L, hq, hm, _, l1, l2, l3, hw, h1, h2⟩ := wV_parts hz h0
  have hd : wV z / 4503599627370496 - 1 = 872 + q + L := by
    rw [hw]
    generalize m * 2 ^ (53 - L) = M at *
    omega
  have e1 : vs 8388608 z = m * 2 ^ q := by unfold vs; rw [← hq, ← hm]
  have e2 : wV z - (872 + q + L) * 4503599627370496 = m * 2 ^ (53 - L) := by
    rw [hw]
    generalize m * 2 ^ (53 - L) = M at *
    omega
  rw [e1]
  unfold vs
  rw [hd, e2, Nat.mul_assoc, Nat.mul_assoc, ← Nat.pow_add, ← Nat.pow_add, show 53 - L + (872 + q + L) = q + K from by omega]
theorem wV_lt {y z : Nat} (hy : y < 2139095040) (hz : z < 2139095040) (h : y < z) : wV y < wV z := by
  rcases Nat.lt_or_ge (wV y) (wV z) with h1 | h1
  · exact h1
  · have h2 := vs_mono (H := 8388608) (by decide) h
    have h3 : vs 4503599627370496 (wV z) ≤ vs 4503599627370496 (wV y) := by
      rcases Nat.lt_or_eq_of_le h1 with h4 | h4
      · exact Nat.le_of_lt (vs_mono (by decide) h4)
      · rw [h4]; exact Nat.le_refl _
    obtain ⟨K, hK⟩ : ∃ K, K = 925 := ⟨_, rfl⟩
    rw [wV_vs hy hK, wV_vs hz hK] at h3
    have h5 := Nat.le_of_mul_le_mul_right h3 (Nat.pow_pos (by omega))
    omega
theorem wV_cls {z : Nat} (hz : z < 2139095040) : wV z < 9218868437227405312 ∧ (z = 0 → wV z = 0) ∧ (z ≠ 0 → 4503599627370496 ≤ wV z) := by
  by_cases h0 : z = 0
  · subst h0
    have : wV 0 = 0 := by unfold wV; rw [if_pos rfl]
    rw [this]
    exact ⟨by decide, fun _ => rfl, fun h => absurd rfl h⟩
  obtain ⟨q, m, L, hq, hm, _, l1, l2, l3, hw, h1, h2⟩ := wV_parts hz h0
  rw [hw]
  generalize m * 2 ^ (53 - L) = M at *
  exact ⟨by omega, fun h => absurd h h0, fun _ => by omega⟩
structure WF (a x : Nat) : Prop where
  lt : x < 2 * 9223372036854775808
  nan : 2139095040 < a % 2147483648 → 9218868437227405312 < x % 9223372036854775808
  inf : a % 2147483648 = 2139095040 → x % 9223372036854775808 = 9218868437227405312
  fin : a % 2147483648 < 2139095040 → x % 9223372036854775808 = wV (a % 2147483648) ∧ (9223372036854775808 ≤ x ↔ 2147483648 ≤ a)
theorem widen_any {a : Nat} (ha : a < 4294967296) : ∃ x, WF a x ∧ ∀ w, Tab w → Calls Tryd.prog 8 #[U a] w fun e w' => e = .returned (.tuple #[U x, .int .i64 0]) ∧ Below w.heap.size w w' := by
  rcases Nat.lt_trichotomy (a % 2147483648) 2139095040 with h | h | h
  · obtain ⟨k1, k2, k3⟩ := wV_cls h
    obtain ⟨z, hz⟩ : ∃ z, z = wV (a % 2147483648) := ⟨_, rfl⟩
    rw [← hz] at k1
    refine ⟨_, ⟨?_, fun h1 => ?_, fun h1 => ?_, fun _ => ?_⟩, fun w hT => widen_fin a ha w h hT⟩
    · rw [← hz]; split <;> omega
    · omega
    · omega
    · rw [← hz]
      by_cases h2 : 2147483648 ≤ a
      · rw [if_pos (decide_eq_true h2)]; omega
      · rw [if_neg (by rw [decide_eq_false h2]; decide)]; omega
  · refine ⟨_, ⟨?_, fun h1 => ?_, fun _ => ?_, fun h1 => ?_⟩, fun w _ => widen_inf a ha w h⟩
    · split <;> omega
    · omega
    · split <;> omega
    · omega
  · refine ⟨9221120237041090561, ⟨by decide, fun _ => by decide, fun h1 => ?_, fun h1 => ?_⟩, fun w _ => widen_nan a ha w h⟩
    · omega
    · omega
theorem cls_four {H I s : Nat} (hH : H ≤ I) : (clsN H I s == 4) = decide (I < s) := by
  by_cases h : I < s
  · rw [cls_nan hH h, decide_eq_true h]; rfl
  · rw [decide_eq_false h]; simp [cls_ne (Nat.le_of_not_lt h)]
theorem WF.cls {a x : Nat} (h : WF a x) : (clsN 8388608 2139095040 (a % 2147483648) == 4) = (clsN 4503599627370496 9218868437227405312 (x % 9223372036854775808) == 4) ∧ (clsN 8388608 2139095040 (a % 2147483648) == 3) = (clsN 4503599627370496 9218868437227405312 (x % 9223372036854775808) == 3) := by
  rw [cls_four (by decide), cls_four (by decide), cls_inf (by decide) (by decide), cls_inf (by decide) (by decide)]
  have h1 := h.nan
  have h2 := h.inf
  have h3 := h.fin
  rcases Nat.lt_trichotomy (a % 2147483648) 2139095040 with k | k | k
  · have k1 := (wV_cls k).1
    rw [← (h3 k).1] at k1
    refine ⟨decide_eq_decide.2 ⟨?_, ?_⟩, decide_eq_decide.2 ⟨?_, ?_⟩⟩ <;> omega
  · have := h2 k
    refine ⟨decide_eq_decide.2 ⟨?_, ?_⟩, decide_eq_decide.2 ⟨?_, ?_⟩⟩ <;> omega
  · have := h1 k
    refine ⟨decide_eq_decide.2 ⟨?_, ?_⟩, decide_eq_decide.2 ⟨?_, ?_⟩⟩ <;> omega
theorem WF.val {zo eo : Int} {a' x' : Nat} (h : WF a' x') (hf : a' % 2147483648 < 2139095040) (hv : VF 2147483648 8388608 (-149) a' zo eo) : VF 9223372036854775808 4503599627370496 (-1074) x' zo eo := by
  obtain ⟨h1, h2⟩ := h.fin hf
  refine ⟨hv.fm, ?_⟩
  obtain ⟨K, hK⟩ : ∃ K, K = 925 := ⟨_, rfl⟩
  have h3 := wV_vs hf hK
  rw [hv.v, show (-149 : Int) = -1074 + (K : Int) from by omega, dv_up K (by decide), svS_eq, svS_eq, h1, h3]
  by_cases h4 : 2147483648 ≤ a'
  · rw [if_pos h4, if_pos (h2.2 h4), Int.neg_mul, ← Int.natCast_mul]
  · rw [if_neg h4, if_neg (fun k => h4 (h2.1 k)), ← Int.natCast_mul]
theorem WF.rank {a x b y : Nat} (h : WF a x) (k : WF b y) (ha : a % 2147483648 < 2139095040) (hb : b % 2147483648 < 2139095040) : rkS 2147483648 a < rkS 2147483648 b ↔ rkS 9223372036854775808 x < rkS 9223372036854775808 y := by
  obtain ⟨h1, h2⟩ := h.fin ha
  obtain ⟨k1, k2⟩ := k.fin hb
  have a0 := (wV_cls ha).2
  have b0 := (wV_cls hb).2
  have l1 : a % 2147483648 < b % 2147483648 → wV (a % 2147483648) < wV (b % 2147483648) := wV_lt ha hb
  have l2 : b % 2147483648 < a % 2147483648 → wV (b % 2147483648) < wV (a % 2147483648) := wV_lt hb ha
  have l3 : a % 2147483648 = b % 2147483648 → wV (a % 2147483648) = wV (b % 2147483648) := fun e => by rw [e]
  unfold rkS
  rw [h1, k1]
  generalize a % 2147483648 = A at *
  generalize b % 2147483648 = B at *
  generalize wV A = WA at *
  generalize wV B = WB at *
  by_cases c1 : 2147483648 ≤ a <;> by_cases c2 : 2147483648 ≤ b
  · rw [if_pos c1, if_pos c2, if_pos (h2.2 c1), if_pos (k2.2 c2)]; omega
  · rw [if_pos c1, if_neg c2, if_pos (h2.2 c1), if_neg (fun e => c2 (k2.1 e))]; omega
  · rw [if_neg c1, if_pos c2, if_neg (fun e => c1 (h2.1 e)), if_pos (k2.2 c2)]; omega
  · rw [if_neg c1, if_neg c2, if_neg (fun e => c1 (h2.1 e)), if_neg (fun e => c2 (k2.1 e))]; omega
end Go.Proofs.YtkbjehhabklnpaaDoor

namespace Go.Proofs.YtkbjehhabklnpaaDoor
open Go.RowKit Go.Shelf

set_option maxRecDepth 20000 in
set_option maxHeartbeats 8000000 in
theorem clsof_32 (b : Nat) (hb : b < 2 * 2147483648) (w : World) :
    Calls Tryd.prog 10 #[.int .i64 32, U b] w fun en w' => en = .returned (.tuple #[.int .i64 (clsN 8388608 2139095040 (b % 2147483648)), .int .i64 0]) ∧ Below w.heap.size w w' := by
  have hbw : Below w.heap.size w w := Below.refl _ _
  obtain ⟨z, hz⟩ : ∃ z : Nat, z = b % 2147483648 := ⟨_, rfl⟩
  obtain ⟨s, hs⟩ : ∃ s, s = decide (2147483648 ≤ b) := ⟨_, rfl⟩
  obtain ⟨c, hc⟩ : ∃ c, c = clsN 8388608 2139095040 z := ⟨_, rfl⟩
  have HPT : Hid (∀ w, Calls Tryd.prog 27 #[.int .i64 32, U b] w fun e w' => e = .returned (.tuple #[PV 32 24 (-149) s z, .int .i64 0]) ∧ Below w.heap.size w w') := by rw [hz, hs]; exact fun w => fm_32.pat b w hb
  rw [← hz, ← hc]
  have HC : Hid (clsN 8388608 2139095040 z = c) := hc.symm
  clear hz hs hc hb
  go_enter Tryd.func10, Tryd.ntmps10
  go_wp2_with fail
  refine (HPT.out _).mono ?_
  rintro e v1 ⟨rfl, hb1⟩
  replace hbw := Below.on hbw hb1
  clear hb1
  go_wp2_with fail
  have Xp0 : Hid (B5q (v1.alloc (.cells #[.int .i64 32, .int .i64 24, .int .i64 (-149), .bool s, U z] 58)) v1.heap.size (.int .i64 32) (.int .i64 24) (.int .i64 (-149)) (.bool s) (U z)) := B5q.new v1 _ _ _ _ _ _
  have hbn : Below v1.heap.size v1 (v1.alloc (.cells #[.int .i64 32, .int .i64 24, .int .i64 (-149), .bool s, U z] 58)) := below1 v1 _
  generalize v1.alloc (.cells #[.int .i64 32, .int .i64 24, .int .i64 (-149), .bool s, U z] 58) = Wp at *
  have HGp : Hid (w.heap.size ≤ v1.heap.size) := hbw.size
  replace hbw := Below.on hbw hbn
  clear hbn
  generalize v1.heap.size = gp at *
  have Xp := Xp0
  clear Xp0
  refine (class_32 rfl s z _).mono ?_
  rintro e2 v2 ⟨rfl, hb2⟩
  rw [HC.out]
  replace Xp : Hid _ := Xp.out.below hb2
  replace hbw := Below.on hbw hb2
  clear hb2
  go_wp2_with fail
  go_ret2
  exact ⟨rfl, hbw⟩
set_option maxRecDepth 20000 in
set_option maxHeartbeats 8000000 in
theorem clsof_64 (b : Nat) (hb : b < 2 * 9223372036854775808) (w : World) :
    Calls Tryd.prog 10 #[.int .i64 64, U b] w fun en w' => en = .returned (.tuple #[.int .i64 (clsN 4503599627370496 9218868437227405312 (b % 9223372036854775808)), .int .i64 0]) ∧ Below w.heap.size w w' := by
  have hbw : Below w.heap.size w w := Below.refl _ _
  obtain ⟨z, hz⟩ : ∃ z : Nat, z = b % 9223372036854775808 := ⟨_, rfl⟩
  obtain ⟨s, hs⟩ : ∃ s, s = decide (9223372036854775808 ≤ b) := ⟨_, rfl⟩
  obtain ⟨c, hc⟩ : ∃ c, c = clsN 4503599627370496 9218868437227405312 z := ⟨_, rfl⟩
  have HPT : Hid (∀ w, Calls Tryd.prog 27 #[.int .i64 64, U b] w fun e w' => e = .returned (.tuple #[PV 64 53 (-1074) s z, .int .i64 0]) ∧ Below w.heap.size w w') := by rw [hz, hs]; exact fun w => fm_64.pat b w hb
  rw [← hz, ← hc]
  have HC : Hid (clsN 4503599627370496 9218868437227405312 z = c) := hc.symm
  clear hz hs hc hb
  go_enter Tryd.func10, Tryd.ntmps10
  go_wp2_with fail
  refine (HPT.out _).mono ?_
  rintro e v1 ⟨rfl, hb1⟩
  replace hbw := Below.on hbw hb1
  clear hb1
  go_wp2_with fail
  have Xp0 : Hid (B5q (v1.alloc (.cells #[.int .i64 64, .int .i64 53, .int .i64 (-1074), .bool s, U z] 58)) v1.heap.size (.int .i64 64) (.int .i64 53) (.int .i64 (-1074)) (.bool s) (U z)) := B5q.new v1 _ _ _ _ _ _
  have hbn : Below v1.heap.size v1 (v1.alloc (.cells #[.int .i64 64, .int .i64 53, .int .i64 (-1074), .bool s, U z] 58)) := below1 v1 _
  generalize v1.alloc (.cells #[.int .i64 64, .int .i64 53, .int .i64 (-1074), .bool s, U z] 58) = Wp at *
  have HGp : Hid (w.heap.size ≤ v1.heap.size) := hbw.size
  replace hbw := Below.on hbw hbn
  clear hbn
  generalize v1.heap.size = gp at *
  have Xp := Xp0
  clear Xp0
  refine (class_64 rfl s z _).mono ?_
  rintro e2 v2 ⟨rfl, hb2⟩
  rw [HC.out]
  replace Xp : Hid _ := Xp.out.below hb2
  replace hbw := Below.on hbw hb2
  clear hb2
  go_wp2_with fail
  go_ret2
  exact ⟨rfl, hbw⟩
set_option maxRecDepth 20000 in
set_option maxHeartbeats 8000000 in
theorem same7 {p q : Option Addr} {m c n d : Nat} {w : World} {z e : Int} {s t : Bool} (h : DN w s p m c e z) (k : DN w t q n d e z) :
    Calls Tryd.prog 12 #[DV s p m c e, DV t q n d e] w fun en w' => en = .returned (.bool true) ∧ Below w.heap.size w w' := by
  obtain rfl : s = t := by rw [h.zn.sg, k.zn.sg]
  have H : Hid (DN w s p m c e z) := h
  have K : Hid (DN w s q n d e z) := k
  have hbb : (s == s) = true := by simp
  have hee : (e == e) = true := by simp
  clear h k
  go_enter Tryd.func12, Tryd.ntmps12
  go_wp2_with fail
  obtain ⟨W0, hW0⟩ : ∃ W0, W0 = ((w.alloc (.cells #[.bool s, .slice p m c, .int .i64 e] 36)).alloc (.cells #[.bool s, .slice q n d, .int .i64 e] 36)) := ⟨_, rfl⟩
  have Xa : Hid (B3q W0 (w.heap.size) (.bool s) (.slice p m c) (.int .i64 e)) := by rw [hW0]; exact ⟨by go_simp, by go_simp, by go_simp, by go_simp, by go_simp, by go_simp⟩
  have Xb : Hid (B3q W0 (w.heap.size + 1) (.bool s) (.slice q n d) (.int .i64 e)) := by rw [hW0]; exact ⟨by go_simp, by go_simp, by go_simp, by go_simp, by go_simp, by go_simp⟩
  have hb0 : Below w.heap.size w W0 := by rw [hW0]; exact below2 w _ _
  rw [← hW0]
  clear hW0
  have hbw : Below w.heap.size w w := Below.refl _ _
  obtain ⟨gb, hgb⟩ : ∃ g, g = w.heap.size + 1 := ⟨_, rfl⟩
  have HGb : Hid (w.heap.size ≤ gb) := by rw [hgb]; show _ ≤ _; omega
  rw [← hgb] at Xb
  try rw [← hgb]
  obtain ⟨ga, hga⟩ : ∃ g, g = w.heap.size := ⟨_, rfl⟩
  have HGa : Hid (w.heap.size ≤ ga) := by rw [hga]; show _ ≤ _; omega
  rw [← hga] at Xa
  try rw [← hga]
  have HGD : Hid (ga ≠ gb ∧ gb ≠ ga) := by rw [hga, hgb]; exact ⟨by omega, by omega⟩
  clear hga hgb
  replace hbw := Below.on hbw hb0
  clear hb0
  obtain ⟨xs, hX⟩ := (H.out.zn.below hbw).ex
  obtain ⟨ys, hY⟩ := (K.out.zn.below hbw).ex
  obtain rfl := hX.nf.inj B64_one hY.nf
  refine (same_t hX.at_ hY.at_).mono ?_
  rintro e2 v1 ⟨rfl, hb1⟩
  clear hX hY
  replace Xa : Hid _ := Xa.out.below hb1
  replace Xb : Hid _ := Xb.out.below hb1
  replace hbw := Below.on hbw hb1
  clear hb1
  obtain ⟨ca0, ca1, ca2, fa0, fa1, fa2⟩ := Xa.out
  have hnea : ga < v1.heap.size := World.block_lt_of_cell? v1 _ ca0
  obtain ⟨cb0, cb1, cb2, fb0, fb1, fb2⟩ := Xb.out
  have hneb : gb < v1.heap.size := World.block_lt_of_cell? v1 _ cb0
  go_wp2_with fail
  clear ca0 ca1 ca2 fa0 fa1 fa2 hnea
  clear cb0 cb1 cb2 fb0 fb1 fb2 hneb
  go_ret
  exact ⟨rfl, hbw⟩
set_option maxRecDepth 20000 in
set_option maxHeartbeats 8000000 in
theorem binaryWide_w (a0 b0 : Nat) (w : World) (hT : Tab w) :
    Calls Tryd.prog 3 #[U a0, U b0] w fun en w' => en = .returned (.bool true) ∧ Below w.heap.size w w' := by
  have hbw : Below w.heap.size w w := Below.refl _ _
  have TB : Hid (Tab w) := hT
  obtain ⟨a, hae⟩ : ∃ a, a = a0 % 4294967296 := ⟨_, rfl⟩
  obtain ⟨b, hbe⟩ : ∃ b, b = b0 % 4294967296 := ⟨_, rfl⟩
  have ha2 : a < 4294967296 := by omega
  have hb2 : b < 4294967296 := by omega
  have m1 : (a0 : Int).tmod 4294967296 = (a : Int) := by rw [Int.tmod_eq_emod_of_nonneg (by omega), hae]; omega
  have m2 : (b0 : Int).tmod 4294967296 = (b : Int) := by rw [Int.tmod_eq_emod_of_nonneg (by omega), hbe]; omega
  have m3 : (a0 : Int) % 4294967296 = (a : Int) := by rw [hae]; omega
  have m4 : (b0 : Int) % 4294967296 = (b : Int) := by rw [hbe]; omega
  have HAB : Hid (a < 4294967296 ∧ b < 4294967296) := ⟨ha2, hb2⟩
  clear hT hae hbe ha2 hb2
  go_enter Tryd.func3, Tryd.ntmps3
  go_wp2_with fail
  refine (awake7 _ (TB.out.below hbw)).mono ?_
  rintro e v1 ⟨rfl, hb1⟩
  replace hbw := Below.on hbw hb1
  clear hb1
  go_wp2_with fail
  clear m1 m2 m3 m4
  obtain ⟨x, hwx, hcx⟩ := widen_any HAB.out.1
  obtain ⟨y, hwy, hcy⟩ := widen_any HAB.out.2
  have WX : Hid (WF a x) := hwx
  have WY : Hid (WF b y) := hwy
  have CX : Hid (∀ w, Tab w → Calls Tryd.prog 8 #[U a] w fun e w' => e = .returned (.tuple #[U x, .int .i64 0]) ∧ Below w.heap.size w w') := hcx
  have CY : Hid (∀ w, Tab w → Calls Tryd.prog 8 #[U b] w fun e w' => e = .returned (.tuple #[U y, .int .i64 0]) ∧ Below w.heap.size w w') := hcy
  clear hwx hwy hcx hcy
  refine (CX.out _ (TB.out.below hbw)).mono ?_
  rintro e v2 ⟨rfl, hb2⟩
  replace hbw := Below.on hbw hb2
  clear hb2
  go_wp2_with fail
  refine (CY.out _ (TB.out.below hbw)).mono ?_
  rintro e v3 ⟨rfl, hb3⟩
  replace hbw := Below.on hbw hb3
  clear hb3
  go_wp2_with fail
  refine (lf_32.fin a _ (by rw [B64_eq]; have := HAB.out; omega)).mono ?_
  rintro e v4 ⟨rfl, hb4⟩
  replace hbw := Below.on hbw hb4
  clear hb4
  by_cases hfa : a < 2 * 2147483648 ∧ a % 2147483648 < 2139095040
  · rw [decide_eq_true hfa]
    have FA : Hid (a % 2147483648 < 2139095040) := hfa.2
    clear hfa
    go_wp2_with fail
    refine (lf_32.fin b _ (by rw [B64_eq]; have := HAB.out; omega)).mono ?_
    rintro e v5 ⟨rfl, hb5⟩
    replace hbw := Below.on hbw hb5
    clear hb5
    by_cases hfb : b < 2 * 2147483648 ∧ b % 2147483648 < 2139095040
    · rw [decide_eq_true hfb]
      have FB : Hid (b % 2147483648 < 2139095040) := hfb.2
      clear hfb
      go_wp2_with fail
      obtain ⟨za, ea, hva, _⟩ := vf_ex pm_32 FA.out
      have VA : Hid (VF 2147483648 8388608 (-149) a za ea) := hva
      have VX : Hid (VF 9223372036854775808 4503599627370496 (-1074) x za ea) := WX.out.val FA.out hva
      have FX : Hid (x % 9223372036854775808 = wV (a % 2147483648) ∧ (9223372036854775808 ≤ x ↔ 2147483648 ≤ a)) := WX.out.fin FA.out
      have FY : Hid (y % 9223372036854775808 = wV (b % 2147483648)) := (WY.out.fin FB.out).1
      have KA : Hid (wV (a % 2147483648) < 9218868437227405312 ∧ (a % 2147483648 = 0 → wV (a % 2147483648) = 0) ∧ (a % 2147483648 ≠ 0 → 4503599627370496 ≤ wV (a % 2147483648))) := wV_cls FA.out
      have KB : Hid (wV (b % 2147483648) < 9218868437227405312) := (wV_cls FB.out).1
      clear hva
      refine (value_v pm_32 (by have := HAB.out; omega) FA.out VA.out _ (TB.out.below hbw)).mono ?_
      rintro e2 v11 ⟨v, rfl, hv, hb11⟩
      obtain ⟨s11, p11, m11, rfl, hd11⟩ := hv.dn (VA.out.fm)
      clear hv
      replace hbw := Below.on hbw hb11
      clear hb11
      have D11 : Hid (DN v11 s11 p11 m11 m11 (ea) (za)) := hd11
      clear hd11
      go_wp2_with fail
      have Xv0 : Hid (B3q (v11.alloc (.cells #[.bool s11, .slice p11 m11 m11, .int .i64 (ea)] 36)) v11.heap.size (.bool s11) (.slice p11 m11 m11) (.int .i64 (ea))) := B3q.new v11 _ _ _ _
      have hbn : Below v11.heap.size v11 (v11.alloc (.cells #[.bool s11, .slice p11 m11 m11, .int .i64 (ea)] 36)) := below1 v11 _
      generalize v11.alloc (.cells #[.bool s11, .slice p11 m11 m11, .int .i64 (ea)] 36) = Wv at *
      have HGv : Hid (w.heap.size ≤ v11.heap.size) := hbw.size
      replace D11 : Hid _ := D11.out.below hbn
      replace hbw := Below.on hbw hbn
      clear hbn
      generalize v11.heap.size = gv at *
      have Xv := Xv0
      clear Xv0
      refine (value_v pm_64 WX.out.lt (by have h1 := FX.out.1; have h2 := KA.out.1; rw [h1]; exact h2) VX.out _ (TB.out.below hbw)).mono ?_
      rintro e2 v12 ⟨v, rfl, hv, hb12⟩
      obtain ⟨s12, p12, m12, rfl, hd12⟩ := hv.dn (VA.out.fm)
      clear hv
      replace Xv : Hid _ := Xv.out.below hb12
      replace D11 : Hid _ := D11.out.below hb12
      replace hbw := Below.on hbw hb12
      clear hb12
      have D12 : Hid (DN v12 s12 p12 m12 m12 (ea) (za)) := hd12
      clear hd12
      go_wp2_with fail
      have Xu0 : Hid (B3q (v12.alloc (.cells #[.bool s12, .slice p12 m12 m12, .int .i64 (ea)] 36)) v12.heap.size (.bool s12) (.slice p12 m12 m12) (.int .i64 (ea))) := B3q.new v12 _ _ _ _
      have hbn : Below v12.heap.size v12 (v12.alloc (.cells #[.bool s12, .slice p12 m12 m12, .int .i64 (ea)] 36)) := below1 v12 _
      generalize v12.alloc (.cells #[.bool s12, .slice p12 m12 m12, .int .i64 (ea)] 36) = Wu at *
      have HGu : Hid (w.heap.size ≤ v12.heap.size) := hbw.size
      replace Xv : Hid _ := Xv.out.below hbn
      replace D11 : Hid _ := D11.out.below hbn
      replace D12 : Hid _ := D12.out.below hbn
      replace hbw := Below.on hbw hbn
      clear hbn
      generalize v12.heap.size = gu at *
      have Xu := Xu0
      clear Xu0
      obtain ⟨d1, hd1⟩ : ∃ c, c = clsN 4503599627370496 9218868437227405312 (x % 9223372036854775808) := ⟨_, rfl⟩
      obtain ⟨xm, hxm⟩ : ∃ xm : Nat, xm = x % 9223372036854775808 := ⟨_, rfl⟩
      have HD1 : Hid (clsN 4503599627370496 9218868437227405312 (x % 9223372036854775808) = d1) := hd1.symm
      have hor : xm = 0 ∨ d1 = 2 := by
        rw [hxm, hd1, FX.out.1]
        by_cases h0 : a % 2147483648 = 0
        · exact .inl (KA.out.2.1 h0)
        · refine .inr ?_
          have h1 := KA.out.2.2 h0
          have h2 := KA.out.1
          unfold clsN
          rw [if_neg (by omega), if_neg (by omega), if_pos h2]
      have HOR : Hid (xm = 0 ∨ d1 = 2) := hor
      have HXM : Hid (xm = x % 9223372036854775808) := hxm
      clear hd1 hor hxm
      refine (clsof_64 x WX.out.lt _).mono ?_
      rintro e v13 ⟨rfl, hb13⟩
      rw [HD1.out]
      replace Xv : Hid _ := Xv.out.below hb13
      replace Xu : Hid _ := Xu.out.below hb13
      replace D11 : Hid _ := D11.out.below hb13
      replace D12 : Hid _ := D12.out.below hb13
      replace hbw := Below.on hbw hb13
      clear hb13
      obtain ⟨cv0, cv1, cv2, fv0, fv1, fv2⟩ := Xv.out
      have hnev : gv < v13.heap.size := World.block_lt_of_cell? v13 _ cv0
      obtain ⟨cu0, cu1, cu2, fu0, fu1, fu2⟩ := Xu.out
      have hneu : gu < v13.heap.size := World.block_lt_of_cell? v13 _ cu0
      go_wp2_with fail
      clear cv0 cv1 cv2 fv0 fv1 fv2 hnev
      clear cu0 cu1 cu2 fu0 fu1 fu2 hneu
      refine (same7 D11.out D12.out).mono ?_
      rintro e v14 ⟨rfl, hb14⟩
      replace Xv : Hid _ := Xv.out.below hb14
      replace Xu : Hid _ := Xu.out.below hb14
      replace D11 : Hid _ := D11.out.below hb14
      replace D12 : Hid _ := D12.out.below hb14
      replace hbw := Below.on hbw hb14
      clear hb14
      have x1 : (x : Int).tmod 9223372036854775808 = (xm : Int) := by rw [Int.tmod_eq_emod_of_nonneg (by omega), HXM.out]; omega
      have x2 : (x : Int) % 9223372036854775808 = (xm : Int) := by rw [HXM.out]; omega
      by_cases hs : 2147483648 ≤ a
      · have s1 : (2147483648 : Int) ≤ a := by omega
        have s2 : (9223372036854775808 : Int) ≤ x := by have := FX.out.2.2 hs; omega
        clear hs
        rcases HOR.out with h0 | h0
        · have z1 : ((xm : Int) == 0) = true := by simp [h0]
          have z2 : ((xm : Int) != 0) = false := by simp [h0]
          clear h0
          by_cases h9 : d1 = 2
          · have y1 : (d1 == 2) = true := by simp [h9]
            have y2 : (d1 != 2) = false := by simp [h9]
            clear h9
            go_wp2_with fail
            clear z1 z2 y1 y2 s1 s2 x1 x2
            obtain ⟨r1, hr1⟩ : ∃ r, r = rkS 2147483648 a := ⟨_, rfl⟩
            have HRr : Hid ((if 2147483648 ≤ a then -((a % 2147483648 : Nat) : Int) else ((a % 2147483648 : Nat) : Int)) = r1 ∧ rkS 2147483648 a = r1) := ⟨hr1.symm, hr1.symm⟩
            clear hr1
            refine (rank_ok fm_32 a (by have := HAB.out; omega) (Nat.le_of_lt FA.out) _).mono ?_
            rintro e v21 ⟨rfl, hb21⟩
            rw [HRr.out.1]
            replace Xv : Hid _ := Xv.out.below hb21
            replace Xu : Hid _ := Xu.out.below hb21
            replace D11 : Hid _ := D11.out.below hb21
            replace D12 : Hid _ := D12.out.below hb21
            replace hbw := Below.on hbw hb21
            clear hb21
            go_wp2_with fail
            obtain ⟨s1, hs1⟩ : ∃ r, r = rkS 2147483648 b := ⟨_, rfl⟩
            have HRs : Hid ((if 2147483648 ≤ b then -((b % 2147483648 : Nat) : Int) else ((b % 2147483648 : Nat) : Int)) = s1 ∧ rkS 2147483648 b = s1) := ⟨hs1.symm, hs1.symm⟩
            clear hs1
            refine (rank_ok fm_32 b (by have := HAB.out; omega) (Nat.le_of_lt FB.out) _).mono ?_
            rintro e v22 ⟨rfl, hb22⟩
            rw [HRs.out.1]
            replace Xv : Hid _ := Xv.out.below hb22
            replace Xu : Hid _ := Xu.out.below hb22
            replace D11 : Hid _ := D11.out.below hb22
            replace D12 : Hid _ := D12.out.below hb22
            replace hbw := Below.on hbw hb22
            clear hb22
            go_wp2_with fail
            obtain ⟨t1, ht1⟩ : ∃ r, r = rkS 9223372036854775808 x := ⟨_, rfl⟩
            have HRt : Hid ((if 9223372036854775808 ≤ x then -((x % 9223372036854775808 : Nat) : Int) else ((x % 9223372036854775808 : Nat) : Int)) = t1 ∧ rkS 9223372036854775808 x = t1) := ⟨ht1.symm, ht1.symm⟩
            clear ht1
            refine (rank_ok fm_64 x (WX.out.lt) (by rw [FX.out.1]; exact Nat.le_of_lt KA.out.1) _).mono ?_
            rintro e v23 ⟨rfl, hb23⟩
            rw [HRt.out.1]
            replace Xv : Hid _ := Xv.out.below hb23
            replace Xu : Hid _ := Xu.out.below hb23
            replace D11 : Hid _ := D11.out.below hb23
            replace D12 : Hid _ := D12.out.below hb23
            replace hbw := Below.on hbw hb23
            clear hb23
            go_wp2_with fail
            obtain ⟨u1, hu1⟩ : ∃ r, r = rkS 9223372036854775808 y := ⟨_, rfl⟩
            have HRu : Hid ((if 9223372036854775808 ≤ y then -((y % 9223372036854775808 : Nat) : Int) else ((y % 9223372036854775808 : Nat) : Int)) = u1 ∧ rkS 9223372036854775808 y = u1) := ⟨hu1.symm, hu1.symm⟩
            clear hu1
            refine (rank_ok fm_64 y (WY.out.lt) (by rw [FY.out]; exact Nat.le_of_lt KB.out) _).mono ?_
            rintro e v24 ⟨rfl, hb24⟩
            rw [HRu.out.1]
            replace Xv : Hid _ := Xv.out.below hb24
            replace Xu : Hid _ := Xu.out.below hb24
            replace D11 : Hid _ := D11.out.below hb24
            replace D12 : Hid _ := D12.out.below hb24
            replace hbw := Below.on hbw hb24
            clear hb24
            have o1 := WX.out.rank WY.out FA.out FB.out
            have o2 := WY.out.rank WX.out FB.out FA.out
            rw [HRr.out.2, HRs.out.2, HRt.out.2, HRu.out.2] at o1 o2
            rcases Int.lt_trichotomy r1 s1 with h | h | h
            · have p1 : t1 < u1 := o1.1 h
              have p2 : ¬ s1 < r1 := by omega
              have p3 : ¬ u1 < t1 := by omega
              have HW9 : Hid ((decide (s1 < r1) == decide (u1 < t1)) = true) := by rw [decide_eq_false p2, decide_eq_false p3]; rfl
              clear o1 o2
              go_wp2_with fail
              first
              | (go_ret; exact ⟨rfl, hbw⟩)
              | (go_ret; refine ⟨?_, hbw⟩; show Ending.returned (.bool (decide (s1 < r1) == decide (u1 < t1))) = _; rw [HW9.out])
            · have p0 : ¬ r1 < s1 := by omega
              have p2 : ¬ s1 < r1 := by omega
              have p1 : ¬ t1 < u1 := fun h9 => p0 (o1.2 h9)
              have p3 : ¬ u1 < t1 := fun h9 => p2 (o2.2 h9)
              clear h
              have HW9 : Hid ((decide (s1 < r1) == decide (u1 < t1)) = true) := by rw [decide_eq_false p2, decide_eq_false p3]; rfl
              clear o1 o2
              go_wp2_with fail
              first
              | (go_ret; exact ⟨rfl, hbw⟩)
              | (go_ret; refine ⟨?_, hbw⟩; show Ending.returned (.bool (decide (s1 < r1) == decide (u1 < t1))) = _; rw [HW9.out])
            · have p1 : u1 < t1 := o2.1 h
              have p2 : ¬ r1 < s1 := by omega
              have p3 : ¬ t1 < u1 := by omega
              have HW9 : Hid ((decide (s1 < r1) == decide (u1 < t1)) = true) := by rw [decide_eq_true h, decide_eq_true p1]; rfl
              clear o1 o2
              go_wp2_with fail
              first
              | (go_ret; exact ⟨rfl, hbw⟩)
              | (go_ret; refine ⟨?_, hbw⟩; show Ending.returned (.bool (decide (s1 < r1) == decide (u1 < t1))) = _; rw [HW9.out])
          · have y1 : (d1 == 2) = false := by simp [h9]
            have y2 : (d1 != 2) = true := by simp [h9]
            clear h9
            go_wp2_with fail
            clear z1 z2 y1 y2 s1 s2 x1 x2
            obtain ⟨r1, hr1⟩ : ∃ r, r = rkS 2147483648 a := ⟨_, rfl⟩
            have HRr : Hid ((if 2147483648 ≤ a then -((a % 2147483648 : Nat) : Int) else ((a % 2147483648 : Nat) : Int)) = r1 ∧ rkS 2147483648 a = r1) := ⟨hr1.symm, hr1.symm⟩
            clear hr1
            refine (rank_ok fm_32 a (by have := HAB.out; omega) (Nat.le_of_lt FA.out) _).mono ?_
            rintro e v21 ⟨rfl, hb21⟩
            rw [HRr.out.1]
            replace Xv : Hid _ := Xv.out.below hb21
            replace Xu : Hid _ := Xu.out.below hb21
            replace D11 : Hid _ := D11.out.below hb21
            replace D12 : Hid _ := D12.out.below hb21
            replace hbw := Below.on hbw hb21
            clear hb21
            go_wp2_with fail
            obtain ⟨s1, hs1⟩ : ∃ r, r = rkS 2147483648 b := ⟨_, rfl⟩
            have HRs : Hid ((if 2147483648 ≤ b then -((b % 2147483648 : Nat) : Int) else ((b % 2147483648 : Nat) : Int)) = s1 ∧ rkS 2147483648 b = s1) := ⟨hs1.symm, hs1.symm⟩
            clear hs1
            refine (rank_ok fm_32 b (by have := HAB.out; omega) (Nat.le_of_lt FB.out) _).mono ?_
            rintro e v22 ⟨rfl, hb22⟩
            rw [HRs.out.1]
            replace Xv : Hid _ := Xv.out.below hb22
            replace Xu : Hid _ := Xu.out.below hb22
            replace D11 : Hid _ := D11.out.below hb22
            replace D12 : Hid _ := D12.out.below hb22
            replace hbw := Below.on hbw hb22
            clear hb22
            go_wp2_with fail
            obtain ⟨t1, ht1⟩ : ∃ r, r = rkS 9223372036854775808 x := ⟨_, rfl⟩
            have HRt : Hid ((if 9223372036854775808 ≤ x then -((x % 9223372036854775808 : Nat) : Int) else ((x % 9223372036854775808 : Nat) : Int)) = t1 ∧ rkS 9223372036854775808 x = t1) := ⟨ht1.symm, ht1.symm⟩
            clear ht1
            refine (rank_ok fm_64 x (WX.out.lt) (by rw [FX.out.1]; exact Nat.le_of_lt KA.out.1) _).mono ?_
            rintro e v23 ⟨rfl, hb23⟩
            rw [HRt.out.1]
            replace Xv : Hid _ := Xv.out.below hb23
            replace Xu : Hid _ := Xu.out.below hb23
            replace D11 : Hid _ := D11.out.below hb23
            replace D12 : Hid _ := D12.out.below hb23
            replace hbw := Below.on hbw hb23
            clear hb23
            go_wp2_with fail
            obtain ⟨u1, hu1⟩ : ∃ r, r = rkS 9223372036854775808 y := ⟨_, rfl⟩
            have HRu : Hid ((if 9223372036854775808 ≤ y then -((y % 9223372036854775808 : Nat) : Int) else ((y % 9223372036854775808 : Nat) : Int)) = u1 ∧ rkS 9223372036854775808 y = u1) := ⟨hu1.symm, hu1.symm⟩
            clear hu1
            refine (rank_ok fm_64 y (WY.out.lt) (by rw [FY.out]; exact Nat.le_of_lt KB.out) _).mono ?_
            rintro e v24 ⟨rfl, hb24⟩
            rw [HRu.out.1]
            replace Xv : Hid _ := Xv.out.below hb24
            replace Xu : Hid _ := Xu.out.below hb24
            replace D11 : Hid _ := D11.out.below hb24
            replace D12 : Hid _ := D12.out.below hb24
            replace hbw := Below.on hbw hb24
            clear hb24
            have o1 := WX.out.rank WY.out FA.out FB.out
            have o2 := WY.out.rank WX.out FB.out FA.out
            rw [HRr.out.2, HRs.out.2, HRt.out.2, HRu.out.2] at o1 o2
            rcases Int.lt_trichotomy r1 s1 with h | h | h
            · have p1 : t1 < u1 := o1.1 h
              have p2 : ¬ s1 < r1 := by omega
              have p3 : ¬ u1 < t1 := by omega
              have HW9 : Hid ((decide (s1 < r1) == decide (u1 < t1)) = true) := by rw [decide_eq_false p2, decide_eq_false p3]; rfl
              clear o1 o2
              go_wp2_with fail
              first
              | (go_ret; exact ⟨rfl, hbw⟩)
              | (go_ret; refine ⟨?_, hbw⟩; show Ending.returned (.bool (decide (s1 < r1) == decide (u1 < t1))) = _; rw [HW9.out])
            · have p0 : ¬ r1 < s1 := by omega
              have p2 : ¬ s1 < r1 := by omega
              have p1 : ¬ t1 < u1 := fun h9 => p0 (o1.2 h9)
              have p3 : ¬ u1 < t1 := fun h9 => p2 (o2.2 h9)
              clear h
              have HW9 : Hid ((decide (s1 < r1) == decide (u1 < t1)) = true) := by rw [decide_eq_false p2, decide_eq_false p3]; rfl
              clear o1 o2
              go_wp2_with fail
              first
              | (go_ret; exact ⟨rfl, hbw⟩)
              | (go_ret; refine ⟨?_, hbw⟩; show Ending.returned (.bool (decide (s1 < r1) == decide (u1 < t1))) = _; rw [HW9.out])
            · have p1 : u1 < t1 := o2.1 h
              have p2 : ¬ r1 < s1 := by omega
              have p3 : ¬ t1 < u1 := by omega
              have HW9 : Hid ((decide (s1 < r1) == decide (u1 < t1)) = true) := by rw [decide_eq_true h, decide_eq_true p1]; rfl
              clear o1 o2
              go_wp2_with fail
              first
              | (go_ret; exact ⟨rfl, hbw⟩)
              | (go_ret; refine ⟨?_, hbw⟩; show Ending.returned (.bool (decide (s1 < r1) == decide (u1 < t1))) = _; rw [HW9.out])
        · have z1 : (d1 == 2) = true := by simp [h0]
          have z2 : (d1 != 2) = false := by simp [h0]
          clear h0
          go_wp2_with fail
          clear z1 z2 s1 s2 x1 x2
          obtain ⟨r1, hr1⟩ : ∃ r, r = rkS 2147483648 a := ⟨_, rfl⟩
          have HRr : Hid ((if 2147483648 ≤ a then -((a % 2147483648 : Nat) : Int) else ((a % 2147483648 : Nat) : Int)) = r1 ∧ rkS 2147483648 a = r1) := ⟨hr1.symm, hr1.symm⟩
          clear hr1
          refine (rank_ok fm_32 a (by have := HAB.out; omega) (Nat.le_of_lt FA.out) _).mono ?_
          rintro e v21 ⟨rfl, hb21⟩
          rw [HRr.out.1]
          replace Xv : Hid _ := Xv.out.below hb21
          replace Xu : Hid _ := Xu.out.below hb21
          replace D11 : Hid _ := D11.out.below hb21
          replace D12 : Hid _ := D12.out.below hb21
          replace hbw := Below.on hbw hb21
          clear hb21
          go_wp2_with fail
          obtain ⟨s1, hs1⟩ : ∃ r, r = rkS 2147483648 b := ⟨_, rfl⟩
          have HRs : Hid ((if 2147483648 ≤ b then -((b % 2147483648 : Nat) : Int) else ((b % 2147483648 : Nat) : Int)) = s1 ∧ rkS 2147483648 b = s1) := ⟨hs1.symm, hs1.symm⟩
          clear hs1
          refine (rank_ok fm_32 b (by have := HAB.out; omega) (Nat.le_of_lt FB.out) _).mono ?_
          rintro e v22 ⟨rfl, hb22⟩
          rw [HRs.out.1]
          replace Xv : Hid _ := Xv.out.below hb22
          replace Xu : Hid _ := Xu.out.below hb22
          replace D11 : Hid _ := D11.out.below hb22
          replace D12 : Hid _ := D12.out.below hb22
          replace hbw := Below.on hbw hb22
          clear hb22
          go_wp2_with fail
          obtain ⟨t1, ht1⟩ : ∃ r, r = rkS 9223372036854775808 x := ⟨_, rfl⟩
          have HRt : Hid ((if 9223372036854775808 ≤ x then -((x % 9223372036854775808 : Nat) : Int) else ((x % 9223372036854775808 : Nat) : Int)) = t1 ∧ rkS 9223372036854775808 x = t1) := ⟨ht1.symm, ht1.symm⟩
          clear ht1
          refine (rank_ok fm_64 x (WX.out.lt) (by rw [FX.out.1]; exact Nat.le_of_lt KA.out.1) _).mono ?_
          rintro e v23 ⟨rfl, hb23⟩
          rw [HRt.out.1]
          replace Xv : Hid _ := Xv.out.below hb23
          replace Xu : Hid _ := Xu.out.below hb23
          replace D11 : Hid _ := D11.out.below hb23
          replace D12 : Hid _ := D12.out.below hb23
          replace hbw := Below.on hbw hb23
          clear hb23
          go_wp2_with fail
          obtain ⟨u1, hu1⟩ : ∃ r, r = rkS 9223372036854775808 y := ⟨_, rfl⟩
          have HRu : Hid ((if 9223372036854775808 ≤ y then -((y % 9223372036854775808 : Nat) : Int) else ((y % 9223372036854775808 : Nat) : Int)) = u1 ∧ rkS 9223372036854775808 y = u1) := ⟨hu1.symm, hu1.symm⟩
          clear hu1
          refine (rank_ok fm_64 y (WY.out.lt) (by rw [FY.out]; exact Nat.le_of_lt KB.out) _).mono ?_
          rintro e v24 ⟨rfl, hb24⟩
          rw [HRu.out.1]
          replace Xv : Hid _ := Xv.out.below hb24
          replace Xu : Hid _ := Xu.out.below hb24
          replace D11 : Hid _ := D11.out.below hb24
          replace D12 : Hid _ := D12.out.below hb24
          replace hbw := Below.on hbw hb24
          clear hb24
          have o1 := WX.out.rank WY.out FA.out FB.out
          have o2 := WY.out.rank WX.out FB.out FA.out
          rw [HRr.out.2, HRs.out.2, HRt.out.2, HRu.out.2] at o1 o2
          rcases Int.lt_trichotomy r1 s1 with h | h | h
          · have p1 : t1 < u1 := o1.1 h
            have p2 : ¬ s1 < r1 := by omega
            have p3 : ¬ u1 < t1 := by omega
            have HW9 : Hid ((decide (s1 < r1) == decide (u1 < t1)) = true) := by rw [decide_eq_false p2, decide_eq_false p3]; rfl
            clear o1 o2
            go_wp2_with fail
            first
            | (go_ret; exact ⟨rfl, hbw⟩)
            | (go_ret; refine ⟨?_, hbw⟩; show Ending.returned (.bool (decide (s1 < r1) == decide (u1 < t1))) = _; rw [HW9.out])
          · have p0 : ¬ r1 < s1 := by omega
            have p2 : ¬ s1 < r1 := by omega
            have p1 : ¬ t1 < u1 := fun h9 => p0 (o1.2 h9)
            have p3 : ¬ u1 < t1 := fun h9 => p2 (o2.2 h9)
            clear h
            have HW9 : Hid ((decide (s1 < r1) == decide (u1 < t1)) = true) := by rw [decide_eq_false p2, decide_eq_false p3]; rfl
            clear o1 o2
            go_wp2_with fail
            first
            | (go_ret; exact ⟨rfl, hbw⟩)
            | (go_ret; refine ⟨?_, hbw⟩; show Ending.returned (.bool (decide (s1 < r1) == decide (u1 < t1))) = _; rw [HW9.out])
          · have p1 : u1 < t1 := o2.1 h
            have p2 : ¬ r1 < s1 := by omega
            have p3 : ¬ t1 < u1 := by omega
            have HW9 : Hid ((decide (s1 < r1) == decide (u1 < t1)) = true) := by rw [decide_eq_true h, decide_eq_true p1]; rfl
            clear o1 o2
            go_wp2_with fail
            first
            | (go_ret; exact ⟨rfl, hbw⟩)
            | (go_ret; refine ⟨?_, hbw⟩; show Ending.returned (.bool (decide (s1 < r1) == decide (u1 < t1))) = _; rw [HW9.out])
      · have t1 : ¬ (2147483648 : Int) ≤ a := by omega
        have t2 : ¬ (9223372036854775808 : Int) ≤ x := by have h9 := FX.out.2.1; intro h8; exact hs (h9 (by omega))
        have s1 : decide ((2147483648 : Int) ≤ (a : Int)) = false := decide_eq_false t1
        have s2 : decide ((9223372036854775808 : Int) ≤ (x : Int)) = false := decide_eq_false t2
        clear hs t1 t2
        rcases HOR.out with h0 | h0
        · have z1 : ((xm : Int) == 0) = true := by simp [h0]
          have z2 : ((xm : Int) != 0) = false := by simp [h0]
          clear h0
          by_cases h9 : d1 = 2
          · have y1 : (d1 == 2) = true := by simp [h9]
            have y2 : (d1 != 2) = false := by simp [h9]
            clear h9
            go_wp2_with fail
            clear z1 z2 y1 y2 s1 s2 x1 x2
            obtain ⟨r1, hr1⟩ : ∃ r, r = rkS 2147483648 a := ⟨_, rfl⟩
            have HRr : Hid ((if 2147483648 ≤ a then -((a % 2147483648 : Nat) : Int) else ((a % 2147483648 : Nat) : Int)) = r1 ∧ rkS 2147483648 a = r1) := ⟨hr1.symm, hr1.symm⟩
            clear hr1
            refine (rank_ok fm_32 a (by have := HAB.out; omega) (Nat.le_of_lt FA.out) _).mono ?_
            rintro e v21 ⟨rfl, hb21⟩
            rw [HRr.out.1]
            replace Xv : Hid _ := Xv.out.below hb21
            replace Xu : Hid _ := Xu.out.below hb21
            replace D11 : Hid _ := D11.out.below hb21
            replace D12 : Hid _ := D12.out.below hb21
            replace hbw := Below.on hbw hb21
            clear hb21
            go_wp2_with fail
            obtain ⟨s1, hs1⟩ : ∃ r, r = rkS 2147483648 b := ⟨_, rfl⟩
            have HRs : Hid ((if 2147483648 ≤ b then -((b % 2147483648 : Nat) : Int) else ((b % 2147483648 : Nat) : Int)) = s1 ∧ rkS 2147483648 b = s1) := ⟨hs1.symm, hs1.symm⟩
            clear hs1
            refine (rank_ok fm_32 b (by have := HAB.out; omega) (Nat.le_of_lt FB.out) _).mono ?_
            rintro e v22 ⟨rfl, hb22⟩
            rw [HRs.out.1]
            replace Xv : Hid _ := Xv.out.below hb22
            replace Xu : Hid _ := Xu.out.below hb22
            replace D11 : Hid _ := D11.out.below hb22
            replace D12 : Hid _ := D12.out.below hb22
            replace hbw := Below.on hbw hb22
            clear hb22
            go_wp2_with fail
            obtain ⟨t1, ht1⟩ : ∃ r, r = rkS 9223372036854775808 x := ⟨_, rfl⟩
            have HRt : Hid ((if 9223372036854775808 ≤ x then -((x % 9223372036854775808 : Nat) : Int) else ((x % 9223372036854775808 : Nat) : Int)) = t1 ∧ rkS 9223372036854775808 x = t1) := ⟨ht1.symm, ht1.symm⟩
            clear ht1
            refine (rank_ok fm_64 x (WX.out.lt) (by rw [FX.out.1]; exact Nat.le_of_lt KA.out.1) _).mono ?_
            rintro e v23 ⟨rfl, hb23⟩
            rw [HRt.out.1]
            replace Xv : Hid _ := Xv.out.below hb23
            replace Xu : Hid _ := Xu.out.below hb23
            replace D11 : Hid _ := D11.out.below hb23
            replace D12 : Hid _ := D12.out.below hb23
            replace hbw := Below.on hbw hb23
            clear hb23
            go_wp2_with fail
            obtain ⟨u1, hu1⟩ : ∃ r, r = rkS 9223372036854775808 y := ⟨_, rfl⟩
            have HRu : Hid ((if 9223372036854775808 ≤ y then -((y % 9223372036854775808 : Nat) : Int) else ((y % 9223372036854775808 : Nat) : Int)) = u1 ∧ rkS 9223372036854775808 y = u1) := ⟨hu1.symm, hu1.symm⟩
            clear hu1
            refine (rank_ok fm_64 y (WY.out.lt) (by rw [FY.out]; exact Nat.le_of_lt KB.out) _).mono ?_
            rintro e v24 ⟨rfl, hb24⟩
            rw [HRu.out.1]
            replace Xv : Hid _ := Xv.out.below hb24
            replace Xu : Hid _ := Xu.out.below hb24
            replace D11 : Hid _ := D11.out.below hb24
            replace D12 : Hid _ := D12.out.below hb24
            replace hbw := Below.on hbw hb24
            clear hb24
            have o1 := WX.out.rank WY.out FA.out FB.out
            have o2 := WY.out.rank WX.out FB.out FA.out
            rw [HRr.out.2, HRs.out.2, HRt.out.2, HRu.out.2] at o1 o2
            rcases Int.lt_trichotomy r1 s1 with h | h | h
            · have p1 : t1 < u1 := o1.1 h
              have p2 : ¬ s1 < r1 := by omega
              have p3 : ¬ u1 < t1 := by omega
              have HW9 : Hid ((decide (s1 < r1) == decide (u1 < t1)) = true) := by rw [decide_eq_false p2, decide_eq_false p3]; rfl
              clear o1 o2
              go_wp2_with fail
              first
              | (go_ret; exact ⟨rfl, hbw⟩)
              | (go_ret; refine ⟨?_, hbw⟩; show Ending.returned (.bool (decide (s1 < r1) == decide (u1 < t1))) = _; rw [HW9.out])
            · have p0 : ¬ r1 < s1 := by omega
              have p2 : ¬ s1 < r1 := by omega
              have p1 : ¬ t1 < u1 := fun h9 => p0 (o1.2 h9)
              have p3 : ¬ u1 < t1 := fun h9 => p2 (o2.2 h9)
              clear h
              have HW9 : Hid ((decide (s1 < r1) == decide (u1 < t1)) = true) := by rw [decide_eq_false p2, decide_eq_false p3]; rfl
              clear o1 o2
              go_wp2_with fail
              first
              | (go_ret; exact ⟨rfl, hbw⟩)
              | (go_ret; refine ⟨?_, hbw⟩; show Ending.returned (.bool (decide (s1 < r1) == decide (u1 < t1))) = _; rw [HW9.out])
            · have p1 : u1 < t1 := o2.1 h
              have p2 : ¬ r1 < s1 := by omega
              have p3 : ¬ t1 < u1 := by omega
              have HW9 : Hid ((decide (s1 < r1) == decide (u1 < t1)) = true) := by rw [decide_eq_true h, decide_eq_true p1]; rfl
              clear o1 o2
              go_wp2_with fail
              first
              | (go_ret; exact ⟨rfl, hbw⟩)
              | (go_ret; refine ⟨?_, hbw⟩; show Ending.returned (.bool (decide (s1 < r1) == decide (u1 < t1))) = _; rw [HW9.out])
          · have y1 : (d1 == 2) = false := by simp [h9]
            have y2 : (d1 != 2) = true := by simp [h9]
            clear h9
            go_wp2_with fail
            clear z1 z2 y1 y2 s1 s2 x1 x2
            obtain ⟨r1, hr1⟩ : ∃ r, r = rkS 2147483648 a := ⟨_, rfl⟩
            have HRr : Hid ((if 2147483648 ≤ a then -((a % 2147483648 : Nat) : Int) else ((a % 2147483648 : Nat) : Int)) = r1 ∧ rkS 2147483648 a = r1) := ⟨hr1.symm, hr1.symm⟩
            clear hr1
            refine (rank_ok fm_32 a (by have := HAB.out; omega) (Nat.le_of_lt FA.out) _).mono ?_
            rintro e v21 ⟨rfl, hb21⟩
            rw [HRr.out.1]
            replace Xv : Hid _ := Xv.out.below hb21
            replace Xu : Hid _ := Xu.out.below hb21
            replace D11 : Hid _ := D11.out.below hb21
            replace D12 : Hid _ := D12.out.below hb21
            replace hbw := Below.on hbw hb21
            clear hb21
            go_wp2_with fail
            obtain ⟨s1, hs1⟩ : ∃ r, r = rkS 2147483648 b := ⟨_, rfl⟩
            have HRs : Hid ((if 2147483648 ≤ b then -((b % 2147483648 : Nat) : Int) else ((b % 2147483648 : Nat) : Int)) = s1 ∧ rkS 2147483648 b = s1) := ⟨hs1.symm, hs1.symm⟩
            clear hs1
            refine (rank_ok fm_32 b (by have := HAB.out; omega) (Nat.le_of_lt FB.out) _).mono ?_
            rintro e v22 ⟨rfl, hb22⟩
            rw [HRs.out.1]
            replace Xv : Hid _ := Xv.out.below hb22
            replace Xu : Hid _ := Xu.out.below hb22
            replace D11 : Hid _ := D11.out.below hb22
            replace D12 : Hid _ := D12.out.below hb22
            replace hbw := Below.on hbw hb22
            clear hb22
            go_wp2_with fail
            obtain ⟨t1, ht1⟩ : ∃ r, r = rkS 9223372036854775808 x := ⟨_, rfl⟩
            have HRt : Hid ((if 9223372036854775808 ≤ x then -((x % 9223372036854775808 : Nat) : Int) else ((x % 9223372036854775808 : Nat) : Int)) = t1 ∧ rkS 9223372036854775808 x = t1) := ⟨ht1.symm, ht1.symm⟩
            clear ht1
            refine (rank_ok fm_64 x (WX.out.lt) (by rw [FX.out.1]; exact Nat.le_of_lt KA.out.1) _).mono ?_
            rintro e v23 ⟨rfl, hb23⟩
            rw [HRt.out.1]
            replace Xv : Hid _ := Xv.out.below hb23
            replace Xu : Hid _ := Xu.out.below hb23
            replace D11 : Hid _ := D11.out.below hb23
            replace D12 : Hid _ := D12.out.below hb23
            replace hbw := Below.on hbw hb23
            clear hb23
            go_wp2_with fail
            obtain ⟨u1, hu1⟩ : ∃ r, r = rkS 9223372036854775808 y := ⟨_, rfl⟩
            have HRu : Hid ((if 9223372036854775808 ≤ y then -((y % 9223372036854775808 : Nat) : Int) else ((y % 9223372036854775808 : Nat) : Int)) = u1 ∧ rkS 9223372036854775808 y = u1) := ⟨hu1.symm, hu1.symm⟩
            clear hu1
            refine (rank_ok fm_64 y (WY.out.lt) (by rw [FY.out]; exact Nat.le_of_lt KB.out) _).mono ?_
            rintro e v24 ⟨rfl, hb24⟩
            rw [HRu.out.1]
            replace Xv : Hid _ := Xv.out.below hb24
            replace Xu : Hid _ := Xu.out.below hb24
            replace D11 : Hid _ := D11.out.below hb24
            replace D12 : Hid _ := D12.out.below hb24
            replace hbw := Below.on hbw hb24
            clear hb24
            have o1 := WX.out.rank WY.out FA.out FB.out
            have o2 := WY.out.rank WX.out FB.out FA.out
            rw [HRr.out.2, HRs.out.2, HRt.out.2, HRu.out.2] at o1 o2
            rcases Int.lt_trichotomy r1 s1 with h | h | h
            · have p1 : t1 < u1 := o1.1 h
              have p2 : ¬ s1 < r1 := by omega
              have p3 : ¬ u1 < t1 := by omega
              have HW9 : Hid ((decide (s1 < r1) == decide (u1 < t1)) = true) := by rw [decide_eq_false p2, decide_eq_false p3]; rfl
              clear o1 o2
              go_wp2_with fail
              first
              | (go_ret; exact ⟨rfl, hbw⟩)
              | (go_ret; refine ⟨?_, hbw⟩; show Ending.returned (.bool (decide (s1 < r1) == decide (u1 < t1))) = _; rw [HW9.out])
            · have p0 : ¬ r1 < s1 := by omega
              have p2 : ¬ s1 < r1 := by omega
              have p1 : ¬ t1 < u1 := fun h9 => p0 (o1.2 h9)
              have p3 : ¬ u1 < t1 := fun h9 => p2 (o2.2 h9)
              clear h
              have HW9 : Hid ((decide (s1 < r1) == decide (u1 < t1)) = true) := by rw [decide_eq_false p2, decide_eq_false p3]; rfl
              clear o1 o2
              go_wp2_with fail
              first
              | (go_ret; exact ⟨rfl, hbw⟩)
              | (go_ret; refine ⟨?_, hbw⟩; show Ending.returned (.bool (decide (s1 < r1) == decide (u1 < t1))) = _; rw [HW9.out])
            · have p1 : u1 < t1 := o2.1 h
              have p2 : ¬ r1 < s1 := by omega
              have p3 : ¬ t1 < u1 := by omega
              have HW9 : Hid ((decide (s1 < r1) == decide (u1 < t1)) = true) := by rw [decide_eq_true h, decide_eq_true p1]; rfl
              clear o1 o2
              go_wp2_with fail
              first
              | (go_ret; exact ⟨rfl, hbw⟩)
              | (go_ret; refine ⟨?_, hbw⟩; show Ending.returned (.bool (decide (s1 < r1) == decide (u1 < t1))) = _; rw [HW9.out])
        · have z1 : (d1 == 2) = true := by simp [h0]
          have z2 : (d1 != 2) = false := by simp [h0]
          clear h0
          go_wp2_with fail
          clear z1 z2 s1 s2 x1 x2
          obtain ⟨r1, hr1⟩ : ∃ r, r = rkS 2147483648 a := ⟨_, rfl⟩
          have HRr : Hid ((if 2147483648 ≤ a then -((a % 2147483648 : Nat) : Int) else ((a % 2147483648 : Nat) : Int)) = r1 ∧ rkS 2147483648 a = r1) := ⟨hr1.symm, hr1.symm⟩
          clear hr1
          refine (rank_ok fm_32 a (by have := HAB.out; omega) (Nat.le_of_lt FA.out) _).mono ?_
          rintro e v21 ⟨rfl, hb21⟩
          rw [HRr.out.1]
          replace Xv : Hid _ := Xv.out.below hb21
          replace Xu : Hid _ := Xu.out.below hb21
          replace D11 : Hid _ := D11.out.below hb21
          replace D12 : Hid _ := D12.out.below hb21
          replace hbw := Below.on hbw hb21
          clear hb21
          go_wp2_with fail
          obtain ⟨s1, hs1⟩ : ∃ r, r = rkS 2147483648 b := ⟨_, rfl⟩
          have HRs : Hid ((if 2147483648 ≤ b then -((b % 2147483648 : Nat) : Int) else ((b % 2147483648 : Nat) : Int)) = s1 ∧ rkS 2147483648 b = s1) := ⟨hs1.symm, hs1.symm⟩
          clear hs1
          refine (rank_ok fm_32 b (by have := HAB.out; omega) (Nat.le_of_lt FB.out) _).mono ?_
          rintro e v22 ⟨rfl, hb22⟩
          rw [HRs.out.1]
          replace Xv : Hid _ := Xv.out.below hb22
          replace Xu : Hid _ := Xu.out.below hb22
          replace D11 : Hid _ := D11.out.below hb22
          replace D12 : Hid _ := D12.out.below hb22
          replace hbw := Below.on hbw hb22
          clear hb22
          go_wp2_with fail
          obtain ⟨t1, ht1⟩ : ∃ r, r = rkS 9223372036854775808 x := ⟨_, rfl⟩
          have HRt : Hid ((if 9223372036854775808 ≤ x then -((x % 9223372036854775808 : Nat) : Int) else ((x % 9223372036854775808 : Nat) : Int)) = t1 ∧ rkS 9223372036854775808 x = t1) := ⟨ht1.symm, ht1.symm⟩
          clear ht1
          refine (rank_ok fm_64 x (WX.out.lt) (by rw [FX.out.1]; exact Nat.le_of_lt KA.out.1) _).mono ?_
          rintro e v23 ⟨rfl, hb23⟩
          rw [HRt.out.1]
          replace Xv : Hid _ := Xv.out.below hb23
          replace Xu : Hid _ := Xu.out.below hb23
          replace D11 : Hid _ := D11.out.below hb23
          replace D12 : Hid _ := D12.out.below hb23
          replace hbw := Below.on hbw hb23
          clear hb23
          go_wp2_with fail
          obtain ⟨u1, hu1⟩ : ∃ r, r = rkS 9223372036854775808 y := ⟨_, rfl⟩
          have HRu : Hid ((if 9223372036854775808 ≤ y then -((y % 9223372036854775808 : Nat) : Int) else ((y % 9223372036854775808 : Nat) : Int)) = u1 ∧ rkS 9223372036854775808 y = u1) := ⟨hu1.symm, hu1.symm⟩
          clear hu1
          refine (rank_ok fm_64 y (WY.out.lt) (by rw [FY.out]; exact Nat.le_of_lt KB.out) _).mono ?_
          rintro e v24 ⟨rfl, hb24⟩
          rw [HRu.out.1]
          replace Xv : Hid _ := Xv.out.below hb24
          replace Xu : Hid _ := Xu.out.below hb24
          replace D11 : Hid _ := D11.out.below hb24
          replace D12 : Hid _ := D12.out.below hb24
          replace hbw := Below.on hbw hb24
          clear hb24
          have o1 := WX.out.rank WY.out FA.out FB.out
          have o2 := WY.out.rank WX.out FB.out FA.out
          rw [HRr.out.2, HRs.out.2, HRt.out.2, HRu.out.2] at o1 o2
          rcases Int.lt_trichotomy r1 s1 with h | h | h
          · have p1 : t1 < u1 := o1.1 h
            have p2 : ¬ s1 < r1 := by omega
            have p3 : ¬ u1 < t1 := by omega
            have HW9 : Hid ((decide (s1 < r1) == decide (u1 < t1)) = true) := by rw [decide_eq_false p2, decide_eq_false p3]; rfl
            clear o1 o2
            go_wp2_with fail
            first
            | (go_ret; exact ⟨rfl, hbw⟩)
            | (go_ret; refine ⟨?_, hbw⟩; show Ending.returned (.bool (decide (s1 < r1) == decide (u1 < t1))) = _; rw [HW9.out])
          · have p0 : ¬ r1 < s1 := by omega
            have p2 : ¬ s1 < r1 := by omega
            have p1 : ¬ t1 < u1 := fun h9 => p0 (o1.2 h9)
            have p3 : ¬ u1 < t1 := fun h9 => p2 (o2.2 h9)
            clear h
            have HW9 : Hid ((decide (s1 < r1) == decide (u1 < t1)) = true) := by rw [decide_eq_false p2, decide_eq_false p3]; rfl
            clear o1 o2
            go_wp2_with fail
            first
            | (go_ret; exact ⟨rfl, hbw⟩)
            | (go_ret; refine ⟨?_, hbw⟩; show Ending.returned (.bool (decide (s1 < r1) == decide (u1 < t1))) = _; rw [HW9.out])
          · have p1 : u1 < t1 := o2.1 h
            have p2 : ¬ r1 < s1 := by omega
            have p3 : ¬ t1 < u1 := by omega
            have HW9 : Hid ((decide (s1 < r1) == decide (u1 < t1)) = true) := by rw [decide_eq_true h, decide_eq_true p1]; rfl
            clear o1 o2
            go_wp2_with fail
            first
            | (go_ret; exact ⟨rfl, hbw⟩)
            | (go_ret; refine ⟨?_, hbw⟩; show Ending.returned (.bool (decide (s1 < r1) == decide (u1 < t1))) = _; rw [HW9.out])
    · rw [decide_eq_false hfb]
      clear hfb
      go_wp2_with fail
      obtain ⟨c1, hc1⟩ : ∃ c, c = clsN 8388608 2139095040 (a % 2147483648) := ⟨_, rfl⟩
      obtain ⟨d1, hd1⟩ : ∃ c, c = clsN 4503599627370496 9218868437227405312 (x % 9223372036854775808) := ⟨_, rfl⟩
      obtain ⟨q1, q2⟩ := WX.out.cls
      rw [← hc1, ← hd1] at q1 q2
      have HC1 : Hid (clsN 8388608 2139095040 (a % 2147483648) = c1) := hc1.symm
      have HD1 : Hid (clsN 4503599627370496 9218868437227405312 (x % 9223372036854775808) = d1) := hd1.symm
      have Q1 : Hid ((c1 == 4) = (d1 == 4) ∧ (c1 == 3) = (d1 == 3)) := ⟨q1, q2⟩
      clear hc1 hd1 q1 q2
      refine (clsof_32 a (by have := HAB.out; omega) _).mono ?_
      rintro e v6 ⟨rfl, hb6⟩
      rw [HC1.out]
      replace hbw := Below.on hbw hb6
      clear hb6
      go_wp2_with fail
      refine (clsof_64 x WX.out.lt _).mono ?_
      rintro e v7 ⟨rfl, hb7⟩
      rw [HD1.out]
      replace hbw := Below.on hbw hb7
      clear hb7
      have g1 : ((c1 == 4) == (d1 == 4)) = true := by rw [Q1.out.1]; simp
      have g2 : ((c1 == 3) == (d1 == 3)) = true := by rw [Q1.out.2]; simp
      go_wp2_with fail
      go_ret
      exact ⟨rfl, hbw⟩
  · rw [decide_eq_false hfa]
    clear hfa
    go_wp2_with fail
    obtain ⟨c1, hc1⟩ : ∃ c, c = clsN 8388608 2139095040 (a % 2147483648) := ⟨_, rfl⟩
    obtain ⟨d1, hd1⟩ : ∃ c, c = clsN 4503599627370496 9218868437227405312 (x % 9223372036854775808) := ⟨_, rfl⟩
    obtain ⟨q1, q2⟩ := WX.out.cls
    rw [← hc1, ← hd1] at q1 q2
    have HC1 : Hid (clsN 8388608 2139095040 (a % 2147483648) = c1) := hc1.symm
    have HD1 : Hid (clsN 4503599627370496 9218868437227405312 (x % 9223372036854775808) = d1) := hd1.symm
    have Q1 : Hid ((c1 == 4) = (d1 == 4) ∧ (c1 == 3) = (d1 == 3)) := ⟨q1, q2⟩
    clear hc1 hd1 q1 q2
    refine (clsof_32 a (by have := HAB.out; omega) _).mono ?_
    rintro e v6 ⟨rfl, hb6⟩
    rw [HC1.out]
    replace hbw := Below.on hbw hb6
    clear hb6
    go_wp2_with fail
    refine (clsof_64 x WX.out.lt _).mono ?_
    rintro e v7 ⟨rfl, hb7⟩
    rw [HD1.out]
    replace hbw := Below.on hbw hb7
    clear hb7
    have g1 : ((c1 == 4) == (d1 == 4)) = true := by rw [Q1.out.1]; simp
    have g2 : ((c1 == 3) == (d1 == 3)) = true := by rw [Q1.out.2]; simp
    go_wp2_with fail
    go_ret
    exact ⟨rfl, hbw⟩
end Go.Proofs.YtkbjehhabklnpaaDoor

