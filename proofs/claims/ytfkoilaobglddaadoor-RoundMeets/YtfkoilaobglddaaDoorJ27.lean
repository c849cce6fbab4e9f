import Derived.Test.YtfkoilaobglddaaDoorJ13
import Derived.Test.YtfkoilaobglddaaDoorBs4
import Derived.Test.YtfkoilaobglddaaDoorJ19
import Derived.Test.YtfkoilaobglddaaDoorJ22
import Derived.Test.YtfkoilaobglddaaDoorJ26
namespace Go.Proofs.YtfkoilaobglddaaDoor
open Go.RowKit Go.Shelf

set_option maxRecDepth 20000 in
set_option maxHeartbeats 8000000 in
theorem rcls_32_0 (s : Nat) (h0 : s = 0) (w : World) :
    Calls Tryd.prog 58 #[FV 2147483648 24 (-149) 104 2139095040 2143289345, U s] w fun en w' => en = .returned (.int .i64 0) ∧ Below w.heap.size w w' := by
  subst h0
  go_enter Tryd.func58, Tryd.ntmps58
  go_wp2_with fail
  go_ret
  exact ⟨rfl, bwAlloc w _⟩
set_option maxRecDepth 20000 in
set_option maxHeartbeats 8000000 in
theorem rcls_32_1 (s : Nat) (h0 : s ≠ 0) (h1 : s < 8388608) (w : World) :
    Calls Tryd.prog 58 #[FV 2147483648 24 (-149) 104 2139095040 2143289345, U s] w fun en w' => en = .returned (.int .i64 1) ∧ Below w.heap.size w w' := by
  have k0 : ((s : Int) == 0) = false := by simp; omega
  have k1 : decide ((s : Int) < 8388608) = true := by exact decide_eq_true (by omega)
  have m1 : ((1 : Int) <<< (23 : Nat)) = 8388608 := by decide
  clear h0 h1
  go_enter Tryd.func58, Tryd.ntmps58
  go_wp2_with fail
  go_ret
  exact ⟨rfl, bwAlloc w _⟩
set_option maxRecDepth 20000 in
set_option maxHeartbeats 8000000 in
theorem rcls_32_2 (s : Nat) (h1 : ¬ s < 8388608) (h2 : s < 2139095040) (w : World) :
    Calls Tryd.prog 58 #[FV 2147483648 24 (-149) 104 2139095040 2143289345, U s] w fun en w' => en = .returned (.int .i64 2) ∧ Below w.heap.size w w' := by
  have k0 : ((s : Int) == 0) = false := by simp; omega
  have k1 : decide ((s : Int) < 8388608) = false := by exact decide_eq_false (by omega)
  have k2 : decide ((s : Int) < 2139095040) = true := by exact decide_eq_true (by omega)
  have m1 : ((1 : Int) <<< (23 : Nat)) = 8388608 := by decide
  clear h1 h2
  go_enter Tryd.func58, Tryd.ntmps58
  go_wp2_with fail
  go_ret
  exact ⟨rfl, bwAlloc w _⟩
set_option maxRecDepth 20000 in
set_option maxHeartbeats 8000000 in
theorem rcls_32_3 (s : Nat) (h2 : s = 2139095040) (w : World) :
    Calls Tryd.prog 58 #[FV 2147483648 24 (-149) 104 2139095040 2143289345, U s] w fun en w' => en = .returned (.int .i64 3) ∧ Below w.heap.size w w' := by
  have k0 : ((s : Int) == 0) = false := by simp; omega
  have k1 : decide ((s : Int) < 8388608) = false := by exact decide_eq_false (by omega)
  have k2 : decide ((s : Int) < 2139095040) = false := by exact decide_eq_false (by omega)
  have k3 : ((s : Int) == 2139095040) = true := by simp; omega
  have m1 : ((1 : Int) <<< (23 : Nat)) = 8388608 := by decide
  clear h2
  go_enter Tryd.func58, Tryd.ntmps58
  go_wp2_with fail
  go_ret
  exact ⟨rfl, bwAlloc w _⟩
set_option maxRecDepth 20000 in
set_option maxHeartbeats 8000000 in
theorem rcls_32_4 (s : Nat) (h2 : 2139095040 < s) (w : World) :
    Calls Tryd.prog 58 #[FV 2147483648 24 (-149) 104 2139095040 2143289345, U s] w fun en w' => en = .returned (.int .i64 4) ∧ Below w.heap.size w w' := by
  have k0 : ((s : Int) == 0) = false := by simp; omega
  have k1 : decide ((s : Int) < 8388608) = false := by exact decide_eq_false (by omega)
  have k2 : decide ((s : Int) < 2139095040) = false := by exact decide_eq_false (by omega)
  have k3 : ((s : Int) == 2139095040) = false := by simp; omega
  have m1 : ((1 : Int) <<< (23 : Nat)) = 8388608 := by decide
  clear h2
  go_enter Tryd.func58, Tryd.ntmps58
  go_wp2_with fail
  go_ret
  exact ⟨rfl, bwAlloc w _⟩
theorem rcls_32 (s : Nat) (w : World) : Calls Tryd.prog 58 #[FV 2147483648 24 (-149) 104 2139095040 2143289345, U s] w fun en w' => en = .returned (.int .i64 (clsN 8388608 2139095040 s)) ∧ Below w.heap.size w w' := by
  unfold clsN
  by_cases h0 : s = 0
  · rw [if_pos h0]; exact rcls_32_0 s h0 w
  · rw [if_neg h0]
    by_cases h1 : s < 8388608
    · rw [if_pos h1]; exact rcls_32_1 s h0 h1 w
    · rw [if_neg h1]
      by_cases h2 : s < 2139095040
      · rw [if_pos h2]; exact rcls_32_2 s h1 h2 w
      · rw [if_neg h2]
        by_cases h3 : s = 2139095040
        · rw [if_pos h3]; exact rcls_32_3 s h3 w
        · rw [if_neg h3]; exact rcls_32_4 s (by omega) w
set_option maxRecDepth 20000 in
set_option maxHeartbeats 8000000 in
theorem docclass_32 (b : Nat) (hb : b < 2 * 2147483648) (w : World) :
    Calls Tryd.prog 30 #[.int .i64 32, U b] w fun en w' => en = .returned (.tuple #[.int .i64 (clsN 8388608 2139095040 (b % 2147483648)), .int .i64 0]) ∧ Below w.heap.size w w' := by
  have hbw : Below w.heap.size w w := Below.refl _ _
  have HB : Hid (b < 2 * 2147483648) := hb
  obtain ⟨z, hz⟩ : ∃ z, z = b % 2147483648 := ⟨_, rfl⟩
  obtain ⟨c, hc⟩ : ∃ c, c = clsN 8388608 2139095040 z := ⟨_, rfl⟩
  rw [← hz, ← hc]
  have HZ : Hid (b % 2147483648 = z ∧ clsN 8388608 2139095040 z = c) := ⟨hz.symm, hc.symm⟩
  clear hb hz hc
  go_enter Tryd.func30, Tryd.ntmps30
  go_wp2_with fail
  refine (check_ok rf_32 b HB.out _).mono ?_
  rintro e v1 ⟨rfl, hb1⟩
  replace hbw := Below.on hbw hb1
  clear hb1
  go_wp2_with fail
  refine (rof_32 _).mono ?_
  rintro e v2 ⟨rfl, hb2⟩
  replace hbw := Below.on hbw hb2
  clear hb2
  go_wp2_with fail
  have Xk0 : Hid (B6q (v2.alloc (.cells #[U 2147483648, .int .i64 24, .int .i64 (-149), .int .i64 104, U 2139095040, U 2143289345] 71)) v2.heap.size (U 2147483648) (.int .i64 24) (.int .i64 (-149)) (.int .i64 104) (U 2139095040) (U 2143289345)) := B6q.new v2 _ _ _ _ _ _ _
  have hbn : Below v2.heap.size v2 (v2.alloc (.cells #[U 2147483648, .int .i64 24, .int .i64 (-149), .int .i64 104, U 2139095040, U 2143289345] 71)) := below1 v2 _
  generalize v2.alloc (.cells #[U 2147483648, .int .i64 24, .int .i64 (-149), .int .i64 104, U 2139095040, U 2143289345] 71) = Wk at *
  have HGk : Hid (w.heap.size ≤ v2.heap.size) := hbw.size
  replace hbw := Below.on hbw hbn
  clear hbn
  generalize v2.heap.size = gk at *
  have Xk := Xk0
  clear Xk0
  refine (cut_any (by decide) (by decide) b _).mono ?_
  rintro e v3 ⟨rfl, hb3⟩
  rw [HZ.out.1]
  replace Xk : Hid _ := Xk.out.below hb3
  replace hbw := Below.on hbw hb3
  clear hb3
  obtain ⟨ck0, ck1, ck2, ck3, ck4, ck5, fk0, fk1, fk2, fk3, fk4, fk5⟩ := Xk.out
  have hnek : gk < v3.heap.size := World.block_lt_of_cell? v3 _ ck0
  go_wp2_with fail
  clear ck0 ck1 ck2 ck3 ck4 ck5 fk0 fk1 fk2 fk3 fk4 fk5 hnek
  refine (rcls_32 z _).mono ?_
  rintro e v4 ⟨rfl, hb4⟩
  rw [HZ.out.2]
  replace Xk : Hid _ := Xk.out.below hb4
  replace hbw := Below.on hbw hb4
  clear hb4
  obtain ⟨ck0, ck1, ck2, ck3, ck4, ck5, fk0, fk1, fk2, fk3, fk4, fk5⟩ := Xk.out
  have hnek : gk < v4.heap.size := World.block_lt_of_cell? v4 _ ck0
  go_wp2_with fail
  clear ck0 ck1 ck2 ck3 ck4 ck5 fk0 fk1 fk2 fk3 fk4 fk5 hnek
  go_ret2
  exact ⟨rfl, hbw⟩
set_option maxRecDepth 20000 in
set_option maxHeartbeats 8000000 in
theorem rcls_64_0 (s : Nat) (h0 : s = 0) (w : World) :
    Calls Tryd.prog 58 #[FV 9223372036854775808 53 (-1074) 971 9218868437227405312 9221120237041090561, U s] w fun en w' => en = .returned (.int .i64 0) ∧ Below w.heap.size w w' := by
  subst h0
  go_enter Tryd.func58, Tryd.ntmps58
  go_wp2_with fail
  go_ret
  exact ⟨rfl, bwAlloc w _⟩
set_option maxRecDepth 20000 in
set_option maxHeartbeats 8000000 in
theorem rcls_64_1 (s : Nat) (h0 : s ≠ 0) (h1 : s < 4503599627370496) (w : World) :
    Calls Tryd.prog 58 #[FV 9223372036854775808 53 (-1074) 971 9218868437227405312 9221120237041090561, U s] w fun en w' => en = .returned (.int .i64 1) ∧ Below w.heap.size w w' := by
  have k0 : ((s : Int) == 0) = false := by simp; omega
  have k1 : decide ((s : Int) < 4503599627370496) = true := by exact decide_eq_true (by omega)
  have m1 : ((1 : Int) <<< (52 : Nat)) = 4503599627370496 := by decide
  clear h0 h1
  go_enter Tryd.func58, Tryd.ntmps58
  go_wp2_with fail
  go_ret
  exact ⟨rfl, bwAlloc w _⟩
set_option maxRecDepth 20000 in
set_option maxHeartbeats 8000000 in
theorem rcls_64_2 (s : Nat) (h1 : ¬ s < 4503599627370496) (h2 : s < 9218868437227405312) (w : World) :
    Calls Tryd.prog 58 #[FV 9223372036854775808 53 (-1074) 971 9218868437227405312 9221120237041090561, U s] w fun en w' => en = .returned (.int .i64 2) ∧ Below w.heap.size w w' := by
  have k0 : ((s : Int) == 0) = false := by simp; omega
  have k1 : decide ((s : Int) < 4503599627370496) = false := by exact decide_eq_false (by omega)
  have k2 : decide ((s : Int) < 9218868437227405312) = true := by exact decide_eq_true (by omega)
  have m1 : ((1 : Int) <<< (52 : Nat)) = 4503599627370496 := by decide
  clear h1 h2
  go_enter Tryd.func58, Tryd.ntmps58
  go_wp2_with fail
  go_ret
  exact ⟨rfl, bwAlloc w _⟩
set_option maxRecDepth 20000 in
set_option maxHeartbeats 8000000 in
theorem rcls_64_3 (s : Nat) (h2 : s = 9218868437227405312) (w : World) :
    Calls Tryd.prog 58 #[FV 9223372036854775808 53 (-1074) 971 9218868437227405312 9221120237041090561, U s] w fun en w' => en = .returned (.int .i64 3) ∧ Below w.heap.size w w' := by
  have k0 : ((s : Int) == 0) = false := by simp; omega
  have k1 : decide ((s : Int) < 4503599627370496) = false := by exact decide_eq_false (by omega)
  have k2 : decide ((s : Int) < 9218868437227405312) = false := by exact decide_eq_false (by omega)
  have k3 : ((s : Int) == 9218868437227405312) = true := by simp; omega
  have m1 : ((1 : Int) <<< (52 : Nat)) = 4503599627370496 := by decide
  clear h2
  go_enter Tryd.func58, Tryd.ntmps58
  go_wp2_with fail
  go_ret
  exact ⟨rfl, bwAlloc w _⟩
set_option maxRecDepth 20000 in
set_option maxHeartbeats 8000000 in
theorem rcls_64_4 (s : Nat) (h2 : 9218868437227405312 < s) (w : World) :
    Calls Tryd.prog 58 #[FV 9223372036854775808 53 (-1074) 971 9218868437227405312 9221120237041090561, U s] w fun en w' => en = .returned (.int .i64 4) ∧ Below w.heap.size w w' := by
  have k0 : ((s : Int) == 0) = false := by simp; omega
  have k1 : decide ((s : Int) < 4503599627370496) = false := by exact decide_eq_false (by omega)
  have k2 : decide ((s : Int) < 9218868437227405312) = false := by exact decide_eq_false (by omega)
  have k3 : ((s : Int) == 9218868437227405312) = false := by simp; omega
  have m1 : ((1 : Int) <<< (52 : Nat)) = 4503599627370496 := by decide
  clear h2
  go_enter Tryd.func58, Tryd.ntmps58
  go_wp2_with fail
  go_ret
  exact ⟨rfl, bwAlloc w _⟩
theorem rcls_64 (s : Nat) (w : World) : Calls Tryd.prog 58 #[FV 9223372036854775808 53 (-1074) 971 9218868437227405312 9221120237041090561, U s] w fun en w' => en = .returned (.int .i64 (clsN 4503599627370496 9218868437227405312 s)) ∧ Below w.heap.size w w' := by
  unfold clsN
  by_cases h0 : s = 0
  · rw [if_pos h0]; exact rcls_64_0 s h0 w
  · rw [if_neg h0]
    by_cases h1 : s < 4503599627370496
    · rw [if_pos h1]; exact rcls_64_1 s h0 h1 w
    · rw [if_neg h1]
      by_cases h2 : s < 9218868437227405312
      · rw [if_pos h2]; exact rcls_64_2 s h1 h2 w
      · rw [if_neg h2]
        by_cases h3 : s = 9218868437227405312
        · rw [if_pos h3]; exact rcls_64_3 s h3 w
        · rw [if_neg h3]; exact rcls_64_4 s (by omega) w
set_option maxRecDepth 20000 in
set_option maxHeartbeats 8000000 in
theorem docclass_64 (b : Nat) (hb : b < 2 * 9223372036854775808) (w : World) :
    Calls Tryd.prog 30 #[.int .i64 64, U b] w fun en w' => en = .returned (.tuple #[.int .i64 (clsN 4503599627370496 9218868437227405312 (b % 9223372036854775808)), .int .i64 0]) ∧ Below w.heap.size w w' := by
  have hbw : Below w.heap.size w w := Below.refl _ _
  have HB : Hid (b < 2 * 9223372036854775808) := hb
  obtain ⟨z, hz⟩ : ∃ z, z = b % 9223372036854775808 := ⟨_, rfl⟩
  obtain ⟨c, hc⟩ : ∃ c, c = clsN 4503599627370496 9218868437227405312 z := ⟨_, rfl⟩
  rw [← hz, ← hc]
  have HZ : Hid (b % 9223372036854775808 = z ∧ clsN 4503599627370496 9218868437227405312 z = c) := ⟨hz.symm, hc.symm⟩
  clear hb hz hc
  go_enter Tryd.func30, Tryd.ntmps30
  go_wp2_with fail
  refine (check_ok rf_64 b HB.out _).mono ?_
  rintro e v1 ⟨rfl, hb1⟩
  replace hbw := Below.on hbw hb1
  clear hb1
  go_wp2_with fail
  refine (rof_64 _).mono ?_
  rintro e v2 ⟨rfl, hb2⟩
  replace hbw := Below.on hbw hb2
  clear hb2
  go_wp2_with fail
  have Xk0 : Hid (B6q (v2.alloc (.cells #[U 9223372036854775808, .int .i64 53, .int .i64 (-1074), .int .i64 971, U 9218868437227405312, U 9221120237041090561] 71)) v2.heap.size (U 9223372036854775808) (.int .i64 53) (.int .i64 (-1074)) (.int .i64 971) (U 9218868437227405312) (U 9221120237041090561)) := B6q.new v2 _ _ _ _ _ _ _
  have hbn : Below v2.heap.size v2 (v2.alloc (.cells #[U 9223372036854775808, .int .i64 53, .int .i64 (-1074), .int .i64 971, U 9218868437227405312, U 9221120237041090561] 71)) := below1 v2 _
  generalize v2.alloc (.cells #[U 9223372036854775808, .int .i64 53, .int .i64 (-1074), .int .i64 971, U 9218868437227405312, U 9221120237041090561] 71) = Wk at *
  have HGk : Hid (w.heap.size ≤ v2.heap.size) := hbw.size
  replace hbw := Below.on hbw hbn
  clear hbn
  generalize v2.heap.size = gk at *
  have Xk := Xk0
  clear Xk0
  refine (cut_any (by decide) (by decide) b _).mono ?_
  rintro e v3 ⟨rfl, hb3⟩
  rw [HZ.out.1]
  replace Xk : Hid _ := Xk.out.below hb3
  replace hbw := Below.on hbw hb3
  clear hb3
  obtain ⟨ck0, ck1, ck2, ck3, ck4, ck5, fk0, fk1, fk2, fk3, fk4, fk5⟩ := Xk.out
  have hnek : gk < v3.heap.size := World.block_lt_of_cell? v3 _ ck0
  go_wp2_with fail
  clear ck0 ck1 ck2 ck3 ck4 ck5 fk0 fk1 fk2 fk3 fk4 fk5 hnek
  refine (rcls_64 z _).mono ?_
  rintro e v4 ⟨rfl, hb4⟩
  rw [HZ.out.2]
  replace Xk : Hid _ := Xk.out.below hb4
  replace hbw := Below.on hbw hb4
  clear hb4
  obtain ⟨ck0, ck1, ck2, ck3, ck4, ck5, fk0, fk1, fk2, fk3, fk4, fk5⟩ := Xk.out
  have hnek : gk < v4.heap.size := World.block_lt_of_cell? v4 _ ck0
  go_wp2_with fail
  clear ck0 ck1 ck2 ck3 ck4 ck5 fk0 fk1 fk2 fk3 fk4 fk5 hnek
  go_ret2
  exact ⟨rfl, hbw⟩
end Go.Proofs.YtfkoilaobglddaaDoor

namespace Go.Proofs.YtfkoilaobglddaaDoor
open Go.RowKit Go.Shelf

set_option maxRecDepth 20000 in
set_option maxHeartbeats 8000000 in
theorem sign8_32 (w : World) :
    Calls Tryd.prog 14 #[.int .i64 32] w fun en w' => en = .returned (.int .u64 2147483648) ∧ Below w.heap.size w w' := by
  go_enter Tryd.func14, Tryd.ntmps14
  go_wp2_with fail
  go_ret
  exact ⟨rfl, Below.refl _ _⟩
set_option maxRecDepth 20000 in
set_option maxHeartbeats 8000000 in
theorem fmt8_32 (w : World) :
    Calls Tryd.prog 6 #[.bool true] w fun en w' => en = .returned (.int .i64 32) ∧ Below w.heap.size w w' := by
  go_enter Tryd.func6, Tryd.ntmps6
  go_wp2_with fail
  go_ret
  exact ⟨rfl, Below.refl _ _⟩
set_option maxRecDepth 20000 in
set_option maxHeartbeats 8000000 in
theorem fin8_32 (b : Nat) (hb : b < 2 * 2147483648) (w : World) :
    Calls Tryd.prog 15 #[.int .i64 32, U b] w fun en w' => en = .returned (.tuple #[.bool (decide (b % 2147483648 < 2139095040)), .bool (decide (b % 2147483648 = 0))]) ∧ Below w.heap.size w w' := by
  have hbw : Below w.heap.size w w := Below.refl _ _
  have HB : Hid (b < 2 * 2147483648) := hb
  obtain ⟨z, hz⟩ : ∃ z, z = b % 2147483648 := ⟨_, rfl⟩
  obtain ⟨c, hc⟩ : ∃ c, c = clsN 8388608 2139095040 z := ⟨_, rfl⟩
  have h2 : decide (c ≤ 2) = decide (z < 2139095040) := by
    refine decide_eq_decide.2 ?_
    rw [hc]
    unfold clsN
    by_cases a1 : z = 0
    · rw [if_pos a1]; omega
    · rw [if_neg a1]
      by_cases a2 : z < 8388608
      · rw [if_pos a2]; omega
      · rw [if_neg a2]
        by_cases a3 : z < 2139095040
        · rw [if_pos a3]; omega
        · rw [if_neg a3]; split <;> omega
  have h3 : (c == 0) = decide (z = 0) := by
    have : c = 0 ↔ z = 0 := by
      rw [hc]
      unfold clsN
      by_cases a1 : z = 0
      · rw [if_pos a1]; omega
      · rw [if_neg a1]; split; (· omega); split; (· omega); split <;> omega
    by_cases a1 : z = 0
    · rw [decide_eq_true a1, this.2 a1]; rfl
    · rw [decide_eq_false a1]
      have : c ≠ 0 := fun h => a1 (this.1 h)
      simp [this]
  rw [← hz, ← h2, ← h3]
  have HZ : Hid (b % 2147483648 = z ∧ clsN 8388608 2139095040 z = c) := ⟨hz.symm, hc.symm⟩
  clear hb hz hc h2 h3
  go_enter Tryd.func15, Tryd.ntmps15
  go_wp2_with fail
  refine (docclass_32 b HB.out _).mono ?_
  rintro e v1 ⟨rfl, hb1⟩
  rw [HZ.out.1, HZ.out.2]
  replace hbw := Below.on hbw hb1
  clear hb1
  go_wp2_with fail
  go_ret2
  exact ⟨rfl, hbw⟩
set_option maxRecDepth 20000 in
set_option maxHeartbeats 8000000 in
theorem sign8_64 (w : World) :
    Calls Tryd.prog 14 #[.int .i64 64] w fun en w' => en = .returned (.int .u64 9223372036854775808) ∧ Below w.heap.size w w' := by
  go_enter Tryd.func14, Tryd.ntmps14
  go_wp2_with fail
  go_ret
  exact ⟨rfl, Below.refl _ _⟩
set_option maxRecDepth 20000 in
set_option maxHeartbeats 8000000 in
theorem fmt8_64 (w : World) :
    Calls Tryd.prog 6 #[.bool false] w fun en w' => en = .returned (.int .i64 64) ∧ Below w.heap.size w w' := by
  go_enter Tryd.func6, Tryd.ntmps6
  go_wp2_with fail
  go_ret
  exact ⟨rfl, Below.refl _ _⟩
set_option maxRecDepth 20000 in
set_option maxHeartbeats 8000000 in
theorem fin8_64 (b : Nat) (hb : b < 2 * 9223372036854775808) (w : World) :
    Calls Tryd.prog 15 #[.int .i64 64, U b] w fun en w' => en = .returned (.tuple #[.bool (decide (b % 9223372036854775808 < 9218868437227405312)), .bool (decide (b % 9223372036854775808 = 0))]) ∧ Below w.heap.size w w' := by
  have hbw : Below w.heap.size w w := Below.refl _ _
  have HB : Hid (b < 2 * 9223372036854775808) := hb
  obtain ⟨z, hz⟩ : ∃ z, z = b % 9223372036854775808 := ⟨_, rfl⟩
  obtain ⟨c, hc⟩ : ∃ c, c = clsN 4503599627370496 9218868437227405312 z := ⟨_, rfl⟩
  have h2 : decide (c ≤ 2) = decide (z < 9218868437227405312) := by
    refine decide_eq_decide.2 ?_
    rw [hc]
    unfold clsN
    by_cases a1 : z = 0
    · rw [if_pos a1]; omega
    · rw [if_neg a1]
      by_cases a2 : z < 4503599627370496
      · rw [if_pos a2]; omega
      · rw [if_neg a2]
        by_cases a3 : z < 9218868437227405312
        · rw [if_pos a3]; omega
        · rw [if_neg a3]; split <;> omega
  have h3 : (c == 0) = decide (z = 0) := by
    have : c = 0 ↔ z = 0 := by
      rw [hc]
      unfold clsN
      by_cases a1 : z = 0
      · rw [if_pos a1]; omega
      · rw [if_neg a1]; split; (· omega); split; (· omega); split <;> omega
    by_cases a1 : z = 0
    · rw [decide_eq_true a1, this.2 a1]; rfl
    · rw [decide_eq_false a1]
      have : c ≠ 0 := fun h => a1 (this.1 h)
      simp [this]
  rw [← hz, ← h2, ← h3]
  have HZ : Hid (b % 9223372036854775808 = z ∧ clsN 4503599627370496 9218868437227405312 z = c) := ⟨hz.symm, hc.symm⟩
  clear hb hz hc h2 h3
  go_enter Tryd.func15, Tryd.ntmps15
  go_wp2_with fail
  refine (docclass_64 b HB.out _).mono ?_
  rintro e v1 ⟨rfl, hb1⟩
  rw [HZ.out.1, HZ.out.2]
  replace hbw := Below.on hbw hb1
  clear hb1
  go_wp2_with fail
  go_ret2
  exact ⟨rfl, hbw⟩
set_option maxRecDepth 20000 in
set_option maxHeartbeats 8000000 in
theorem pat8_f (b : Nat) (w : World) :
    Calls Tryd.prog 18 #[.bool false, U b] w fun en w' => en = .returned (U b) ∧ Below w.heap.size w w' := by
  go_enter Tryd.func18, Tryd.ntmps18
  go_wp2_with fail
  go_ret
  exact ⟨rfl, Below.refl _ _⟩
set_option maxRecDepth 20000 in
set_option maxHeartbeats 8000000 in
theorem pat8_t (b : Nat) (hb : b < B64) (w : World) :
    Calls Tryd.prog 18 #[.bool true, U b] w fun en w' => en = .returned (U (b % 4294967296)) ∧ Below w.heap.size w w' := by
  have h1 : bits BinOp.and IntKind.u64 (b : Int) 4294967295 = ((b % 4294967296 : Nat) : Int) := by
    have := bits_and_u64_nat b 4294967295 (by rw [B64_eq] at hb; omega) (by decide)
    rw [show ((4294967295 : Nat) : Int) = 4294967295 from rfl] at this
    rw [this, show b &&& 4294967295 = b % 2 ^ 32 from Nat.and_two_pow_sub_one_eq_mod b 32]
  clear hb
  go_enter Tryd.func18, Tryd.ntmps18
  go_wp2_with fail
  go_ret
  exact ⟨rfl, Below.refl _ _⟩
set_option maxRecDepth 20000 in
set_option maxHeartbeats 8000000 in
theorem at8 {p q : Option Addr} {m c n d : Nat} {w : World} {x y e f : Int} {s t : Bool} (h : DN w s p m c e x) (k : DN w t q n d f y) :
    Calls Tryd.prog 11 #[DV s p m c e, DV t q n d f] w fun en w' => en = .returned (.int .i64 (cmpI (dv x e) (dv y f))) ∧ Below w.heap.size w w' := by
  have H : Hid (DN w s p m c e x) := h
  have K : Hid (DN w t q n d f y) := k
  clear h k
  go_enter Tryd.func11, Tryd.ntmps11
  go_wp2_with fail
  obtain ⟨W0, hW0⟩ : ∃ W0, W0 = ((w.alloc (.cells #[.bool s, .slice p m c, .int .i64 e] 26)).alloc (.cells #[.bool t, .slice q n d, .int .i64 f] 26)) := ⟨_, rfl⟩
  have Xa : Hid (B3q W0 (w.heap.size) (.bool s) (.slice p m c) (.int .i64 e)) := by rw [hW0]; exact ⟨by go_simp, by go_simp, by go_simp, by go_simp, by go_simp, by go_simp⟩
  have Xb : Hid (B3q W0 (w.heap.size + 1) (.bool t) (.slice q n d) (.int .i64 f)) := by rw [hW0]; exact ⟨by go_simp, by go_simp, by go_simp, by go_simp, by go_simp, by go_simp⟩
  have hb0 : Below w.heap.size w W0 := by rw [hW0]; exact below2 w _ _
  rw [← hW0]
  clear hW0
  have hbw : Below w.heap.size w w := Below.refl _ _
  obtain ⟨gb, hgb⟩ : ∃ g, g = w.heap.size + 1 := ⟨_, rfl⟩
  have HGb : Hid (w.heap.size ≤ gb) := by rw [hgb]; show _ ≤ _; omega
  rw [← hgb] at Xb
  try rw [← hgb]
  obtain ⟨ga, hga⟩ : ∃ g, g = w.heap.size := ⟨_, rfl⟩
  have HGa : Hid (w.heap.size ≤ ga) := by rw [hga]; show _ ≤ _; omega
  rw [← hga] at Xa
  try rw [← hga]
  have HGD : Hid (ga ≠ gb ∧ gb ≠ ga) := by rw [hga, hgb]; exact ⟨by omega, by omega⟩
  clear hga hgb
  replace hbw := Below.on hbw hb0
  clear hb0
  refine (dcmp (H.out.below hbw) (K.out.below hbw)).mono ?_
  rintro e v1 ⟨rfl, hb1⟩
  replace Xa : Hid _ := Xa.out.below hb1
  replace Xb : Hid _ := Xb.out.below hb1
  replace hbw := Below.on hbw hb1
  clear hb1
  go_wp2_with fail
  go_ret
  exact ⟨rfl, hbw⟩
set_option maxRecDepth 20000 in
set_option maxHeartbeats 8000000 in
theorem rank8 {f p m l : Int} {S I : Nat} (F : Fm f p m l S I) (b : Nat) (hb : b < 2 * S) (hr : b % S ≤ I) (w : World) :
    Calls Tryd.prog 21 #[.int .i64 f, U b] w fun en w' => en = .returned (.int .i64 (rkS S b)) ∧ Below w.heap.size w w' := by
  have hbw : Below w.heap.size w w := Below.refl _ _
  have HF : Hid (Fm f p m l S I ∧ b < 2 * S ∧ b % S ≤ I) := ⟨F, hb, hr⟩
  obtain ⟨r, hr2⟩ : ∃ r, r = rkS S b := ⟨_, rfl⟩
  have HR : Hid ((if S ≤ b then -((b % S : Nat) : Int) else ((b % S : Nat) : Int)) = r) := hr2.symm
  rw [← hr2]
  clear F hb hr hr2
  go_enter Tryd.func21, Tryd.ntmps21
  go_wp2_with fail
  refine (rank_ok HF.out.1 b HF.out.2.1 HF.out.2.2 _).mono ?_
  rintro e v1 ⟨rfl, hb1⟩
  rw [HR.out]
  replace hbw := Below.on hbw hb1
  clear hb1
  go_wp2_with fail
  go_ret
  exact ⟨rfl, hbw⟩
end Go.Proofs.YtfkoilaobglddaaDoor

namespace Go.Proofs.YtfkoilaobglddaaDoor
open Go.RowKit Go.Shelf

set_option maxRecDepth 20000 in
set_option maxHeartbeats 8000000 in
theorem spans8 {w : World} {s1 s2 t1 t2 : Bool} {p1 p2 q1 q2 : Option Addr} {m1 m2 n1 n2 c1 c2 d1 d2 : Nat} {x y e f : Int} (h1 : DN w s1 p1 m1 c1 e x) (h2 : DN w s2 p2 m2 c2 f y) (k1 : DN w t1 q1 n1 d1 e x) (k2 : DN w t2 q2 n2 d2 f y) :
    Calls Tryd.prog 19 #[SV s1 p1 m1 c1 e s2 p2 m2 c2 f, SV t1 q1 n1 d1 e t2 q2 n2 d2 f] w fun en w' => en = .returned (.bool true) ∧ Below w.heap.size w w' := by
  have A1 : Hid (DN w s1 p1 m1 c1 e x) := h1
  have A2 : Hid (DN w s2 p2 m2 c2 f y) := h2
  have K1 : Hid (DN w t1 q1 n1 d1 e x) := k1
  have K2 : Hid (DN w t2 q2 n2 d2 f y) := k2
  clear h1 h2 k1 k2
  go_enter Tryd.func19, Tryd.ntmps19
  go_wp2_with fail
  obtain ⟨W0, hW0⟩ : ∃ W0, W0 = ((w.alloc (.cells #[.bool s1, .slice p1 m1 c1, .int .i64 e, .bool s2, .slice p2 m2 c2, .int .i64 f] 28)).alloc (.cells #[.bool t1, .slice q1 n1 d1, .int .i64 e, .bool t2, .slice q2 n2 d2, .int .i64 f] 28)) := ⟨_, rfl⟩
  have Xa : Hid (B6q W0 (w.heap.size) (.bool s1) (.slice p1 m1 c1) (.int .i64 e) (.bool s2) (.slice p2 m2 c2) (.int .i64 f)) := by rw [hW0]; exact ⟨by go_simp, by go_simp, by go_simp, by go_simp, by go_simp, by go_simp, by go_simp, by go_simp, by go_simp, by go_simp, by go_simp, by go_simp⟩
  have Xb : Hid (B6q W0 (w.heap.size + 1) (.bool t1) (.slice q1 n1 d1) (.int .i64 e) (.bool t2) (.slice q2 n2 d2) (.int .i64 f)) := by rw [hW0]; exact ⟨by go_simp, by go_simp, by go_simp, by go_simp, by go_simp, by go_simp, by go_simp, by go_simp, by go_simp, by go_simp, by go_simp, by go_simp⟩
  have hb0 : Below w.heap.size w W0 := by rw [hW0]; exact below2 w _ _
  rw [← hW0]
  clear hW0
  have hbw : Below w.heap.size w w := Below.refl _ _
  obtain ⟨gb, hgb⟩ : ∃ g, g = w.heap.size + 1 := ⟨_, rfl⟩
  have HGb : Hid (w.heap.size ≤ gb) := by rw [hgb]; show _ ≤ _; omega
  rw [← hgb] at Xb
  try rw [← hgb]
  obtain ⟨ga, hga⟩ : ∃ g, g = w.heap.size := ⟨_, rfl⟩
  have HGa : Hid (w.heap.size ≤ ga) := by rw [hga]; show _ ≤ _; omega
  rw [← hga] at Xa
  try rw [← hga]
  have HGD : Hid (ga ≠ gb ∧ gb ≠ ga) := by rw [hga, hgb]; exact ⟨by omega, by omega⟩
  clear hga hgb
  replace hbw := Below.on hbw hb0
  clear hb0
  refine (sameD_t (A1.out.below hbw) (K1.out.below hbw)).mono ?_
  rintro e v1 ⟨rfl, hb1⟩
  replace Xa : Hid _ := Xa.out.below hb1
  replace Xb : Hid _ := Xb.out.below hb1
  replace hbw := Below.on hbw hb1
  clear hb1
  obtain ⟨ca0, ca1, ca2, ca3, ca4, ca5, fa0, fa1, fa2, fa3, fa4, fa5⟩ := Xa.out
  have hnea : ga < v1.heap.size := World.block_lt_of_cell? v1 _ ca0
  obtain ⟨cb0, cb1, cb2, cb3, cb4, cb5, fb0, fb1, fb2, fb3, fb4, fb5⟩ := Xb.out
  have hneb : gb < v1.heap.size := World.block_lt_of_cell? v1 _ cb0
  go_wp2_with fail
  clear ca0 ca1 ca2 ca3 ca4 ca5 fa0 fa1 fa2 fa3 fa4 fa5 hnea
  clear cb0 cb1 cb2 cb3 cb4 cb5 fb0 fb1 fb2 fb3 fb4 fb5 hneb
  refine (sameD_t (A2.out.below hbw) (K2.out.below hbw)).mono ?_
  rintro e v2 ⟨rfl, hb2⟩
  replace Xa : Hid _ := Xa.out.below hb2
  replace Xb : Hid _ := Xb.out.below hb2
  replace hbw := Below.on hbw hb2
  clear hb2
  go_wp2_with fail
  go_ret
  exact ⟨rfl, hbw⟩
end Go.Proofs.YtfkoilaobglddaaDoor

namespace Go.Proofs.YtfkoilaobglddaaDoor
open Go.RowKit Go.Shelf

theorem pat_eq {S b : Nat} (hb : b < 2 * S) : b = (if S ≤ b then S else 0) + b % S ∧ b % S < S := by
  have hS : 0 < S := by omega
  by_cases h : S ≤ b
  · rw [if_pos h]
    have h1 := Nat.mod_eq_sub_mod h
    rw [Nat.mod_eq_of_lt (show b - S < S by omega)] at h1
    omega
  · rw [if_neg h, Nat.mod_eq_of_lt (by omega)]; omega
theorem dv_pos_hv {H : Nat} {l : Int} (z : Nat) : 0 < dv (hv H z : Int) (l - 1) := by
  have h1 := hv_gt H z
  have := dv_lt (x := 0) (y := (hv H z : Int)) (l - 1) (by omega)
  rwa [dv_zero] at this
theorem meets_rn {f p m l : Int} {S I H sd : Nat} {Be : Int} (J : Jn f p m l S I H sd Be) {b : Nat} {x e : Int} (hb : b < 2 * S) (h1 : b % S < I) (he : -4194304 ≤ e) (hx : dv x e = cHi H l (decide (S ≤ b)) (b % S)) :
    rnp l sd Be S I x e = if b % 2 = 0 then b else (if S ≤ b then b - 1 else b + 1) := by
  obtain ⟨hbe, _⟩ := pat_eq hb
  obtain ⟨Z, _, hR, hw, _⟩ := rnp_is J x e he
  have hS := J.hS
  obtain ⟨z, hz⟩ : ∃ z, z = b % S := ⟨_, rfl⟩
  rw [← hz] at hx hbe h1
  rw [hw]
  by_cases hs : S ≤ b
  · rw [if_pos hs] at hbe ⊢
    rw [decide_eq_true hs] at hx
    unfold cHi at hx
    rw [if_pos rfl] at hx
    have hp := dv_pos_hv (H := H) (l := l) (z - 1)
    have hneg : x < 0 := by rcases dv3 x e with ⟨h2, _⟩ | ⟨_, h2⟩ | ⟨_, h2⟩ <;> omega
    rw [dv_abs, if_pos hneg] at hx
    have := hR.eq (z - 1) (by omega) (by omega)
    rw [if_pos hneg]
    by_cases h2 : b % 2 = 0
    · rw [if_pos h2]; omega
    · rw [if_neg h2]; omega
  · rw [if_neg hs] at hbe ⊢
    rw [decide_eq_false hs] at hx
    unfold cHi at hx
    rw [if_neg (by simp)] at hx
    have hp := dv_pos_hv (H := H) (l := l) z
    have hneg : ¬ x < 0 := by rcases dv3 x e with ⟨_, h2⟩ | ⟨_, h2⟩ | ⟨h2, _⟩ <;> omega
    rw [dv_abs, if_neg hneg] at hx
    have := hR.eq z h1 (by omega)
    rw [if_neg hneg]
    by_cases h2 : b % 2 = 0
    · rw [if_pos h2]; omega
    · rw [if_neg h2]; omega
theorem nx_facts {f p m l : Int} {S I H sd : Nat} {Be : Int} (J : Jn f p m l S I H sd Be) {b c : Nat} (hb : b < 2 * S) (h0 : b % S ≠ 0) (h1 : b % S < I) (hc : c = if S ≤ b then b - 1 else b + 1) :
    c < 2 * S ∧ c % S ≤ I ∧ rkS S c = rkS S b + 1 ∧ (c % S ≠ 0 → cLo H l (decide (S ≤ c)) (c % S) = cHi H l (decide (S ≤ b)) (b % S)) ∧ decide (c % 2 = 0) = !decide (b % 2 = 0) := by
  obtain ⟨hbe, _⟩ := pat_eq hb
  have hlt := J.jm.pm.fm.lt
  obtain ⟨z, hz⟩ : ∃ z, z = b % S := ⟨_, rfl⟩
  rw [← hz] at hbe h0 h1 ⊢
  have hpar : c % 2 = 0 ↔ ¬ b % 2 = 0 := by
    by_cases hs : S ≤ b
    · rw [if_pos hs] at hc hbe; omega
    · rw [if_neg hs] at hc; omega
  have hp : decide (c % 2 = 0) = !decide (b % 2 = 0) := by
    by_cases h2 : b % 2 = 0
    · rw [decide_eq_true h2, decide_eq_false (fun h => hpar.1 h h2)]; rfl
    · rw [decide_eq_false h2, decide_eq_true (hpar.2 h2)]; rfl
  by_cases hs : S ≤ b
  · rw [if_pos hs] at hc hbe
    have hcS : S ≤ c := by omega
    have hcz : c % S = z - 1 := by
      rw [show c = S + (z - 1) from by omega, Nat.add_mod_left, Nat.mod_eq_of_lt (by omega)]
    refine ⟨by omega, by omega, ?_, fun h => ?_, hp⟩
    · unfold rkS; rw [if_pos hcS, if_pos hs, hcz, ← hz]; omega
    · rw [hcz, decide_eq_true hs, decide_eq_true hcS]
      unfold cLo cHi
      rw [if_pos rfl, if_pos rfl]
  · rw [if_neg hs] at hc hbe
    have hcS : ¬ S ≤ c := by omega
    have hcz : c % S = z + 1 := by rw [Nat.mod_eq_of_lt (by omega)]; omega
    refine ⟨by omega, by omega, ?_, fun h => ?_, hp⟩
    · unfold rkS; rw [if_neg hcS, if_neg hs, hcz, ← hz]; omega
    · rw [hcz, decide_eq_false hs, decide_eq_false hcS]
      unfold cLo cHi
      rw [if_neg (by simp), if_neg (by simp), Nat.add_sub_cancel]
end Go.Proofs.YtfkoilaobglddaaDoor

namespace Go.Proofs.YtfkoilaobglddaaDoor
open Go.RowKit Go.Shelf

structure Lw (single : Bool) (f : Int) (S I : Nat) : Prop where
  fmt : ∀ w, Calls Tryd.prog 6 #[.bool single] w fun en w' => en = .returned (.int .i64 f) ∧ Below w.heap.size w w'
  fin : ∀ (b : Nat) w, b < 2 * S → Calls Tryd.prog 15 #[.int .i64 f, U b] w fun en w' => en = .returned (.tuple #[.bool (decide (b % S < I)), .bool (decide (b % S = 0))]) ∧ Below w.heap.size w w'
  sg : ∀ w, Calls Tryd.prog 14 #[.int .i64 f] w fun en w' => en = .returned (U S) ∧ Below w.heap.size w w'
  an : ∀ b, b < 2 * S → bits BinOp.and IntKind.u64 (b : Int) (S : Int) = ((if S ≤ b then S else 0 : Nat) : Int)
  xr : ∀ b, b < 2 * S → bits BinOp.xor IntKind.u64 (b : Int) (S : Int) = ((xsS S b : Nat) : Int)
  up : 2 * S ≤ B64
  pt : ∀ b, b < B64 → ∃ b', b' < 2 * S ∧ ∀ w, Calls Tryd.prog 18 #[.bool single, U b] w fun en w' => en = .returned (U b') ∧ Below w.heap.size w w'
theorem lw_32 : Lw true 32 2147483648 2139095040 :=
  ⟨fmt8_32, fun b w hb => fin8_32 b hb w, sign8_32, fun b hb => sign_and b _ 31 (by decide) (by decide) hb, fun b hb => sign_xor b _ 31 (by decide) (by decide) hb, by decide, fun b hb => ⟨b % 4294967296, Nat.mod_lt _ (by decide), fun w => pat8_t b hb w⟩⟩
theorem lw_64 : Lw false 64 9223372036854775808 9218868437227405312 :=
  ⟨fmt8_64, fun b w hb => fin8_64 b hb w, sign8_64, fun b hb => sign_and b _ 63 (by decide) (by decide) hb, fun b hb => sign_xor b _ 63 (by decide) (by decide) hb, by decide, fun b hb => ⟨b, hb, fun w => pat8_f b w⟩⟩
theorem nx_reg {f p m l : Int} {S I : Nat} (F : Fm f p m l S I) {b : Nat} (hb : b < 2 * S) (h0 : b % S ≠ 0) (h1 : b % S < I) : Says 20 (.int .i64 f) (U b) (U (if S ≤ b then b - 1 else b + 1)) (.int .i64 0) := by
  by_cases hs : S ≤ b
  · rw [if_pos hs]
    exact to_Next fun w => step_D F b hb (by omega) false (by rw [decide_eq_true hs]; rfl) h0 w
  · rw [if_neg hs]
    exact to_Next fun w => step_C F b hb (by omega) false (by rw [decide_eq_false hs]; rfl) h0 (by omega) w
theorem nx_ex {f p m l : Int} {S I : Nat} (F : Fm f p m l S I) {b : Nat} (hb : b < 2 * S) : ∃ v er : Int, Says 20 (.int .i64 f) (U b) (.int .u64 v) (.int .i64 er) := by
  rcases Nat.lt_trichotomy (b % S) I with h | h | h
  · by_cases h0 : b % S = 0
    · exact ⟨_, _, to_Next fun w => step_B F b hb (by omega) false h0 w⟩
    · exact ⟨_, _, nx_reg F hb h0 h⟩
  · by_cases hs : S ≤ b
    · exact ⟨_, _, to_Next fun w => step_D F b hb (by omega) false (by rw [decide_eq_true hs]; rfl) (by have := F.pos; omega) w⟩
    · exact ⟨_, _, to_Next fun w => step_A F b hb (by omega) false (by rw [decide_eq_false hs]; rfl) h w⟩
  · exact ⟨_, _, to_Next fun w => step_fail (fun w => ranked_nan F b hb h w) (by decide) false w⟩
theorem cell2_lo : cLo 4503599627370496 (-1074) (decide (9223372036854775808 ≤ 2)) (2 % 9223372036854775808) = dv 3 (-1075) := by
  rw [show decide (9223372036854775808 ≤ 2) = false from by decide, show 2 % 9223372036854775808 = 2 from by decide]
  unfold cLo
  rw [if_neg (by decide), show hv 4503599627370496 (2 - 1) = 3 from by decide, show ((3 : Nat) : Int) = 3 from rfl, show (-1074 : Int) - 1 = -1075 from rfl]
theorem cell2_hi : cHi 4503599627370496 (-1074) (decide (9223372036854775808 ≤ 2)) (2 % 9223372036854775808) = dv 5 (-1075) := by
  rw [show decide (9223372036854775808 ≤ 2) = false from by decide, show 2 % 9223372036854775808 = 2 from by decide]
  unfold cHi
  rw [if_neg (by decide), show hv 4503599627370496 2 = 5 from by decide, show ((5 : Nat) : Int) = 5 from rfl, show (-1074 : Int) - 1 = -1075 from rfl]
set_option maxRecDepth 20000 in
set_option maxHeartbeats 8000000 in
theorem roundMeets_x {single : Bool} {f p m l : Int} {S I H sd : Nat} {Be : Int} (J : Jn f p m l S I H sd Be) (L : Lw single f S I) (b0 : Nat) (hb : b0 < B64) (w : World) (hT : Tab w) :
    Calls Tryd.prog 5 #[.bool single, U b0] w fun en w' => en = .returned (.bool true) ∧ Below w.heap.size w w' := by
  have hbw : Below w.heap.size w w := Below.refl _ _
  have HJN : Hid (Jn f p m l S I H sd Be) := J
  have HLW : Hid (Lw single f S I) := L
  have TB : Hid (Tab w) := hT
  obtain ⟨b, hb2, hbp⟩ := L.pt b0 hb
  have HB : Hid (b < 2 * S) := hb2
  have HBP : Hid (∀ w, Calls Tryd.prog 18 #[.bool single, U b0] w fun en w' => en = .returned (U b) ∧ Below w.heap.size w w') := hbp
  clear J L hb hT hb2 hbp
  go_enter Tryd.func5, Tryd.ntmps5
  go_wp2_with fail
  refine (HLW.out.fmt _).mono ?_
  rintro e v1 ⟨rfl, hb1⟩
  replace hbw := Below.on hbw hb1
  clear hb1
  go_wp2_with fail
  refine (HBP.out _).mono ?_
  rintro e v2 ⟨rfl, hb2⟩
  replace hbw := Below.on hbw hb2
  clear hb2
  go_wp2_with fail
  refine (cell_ok jn_64 2 (by decide) (by decide) (by decide) _ (TB.out.below hbw)).mono ?_
  rintro e2 v3 ⟨s3, p3, m3, z3, e3, t3, q3, n3, y3, f3, rfl, hd1, hd2, hv1, hv2, hb3⟩
  replace hbw := Below.on hbw hb3
  clear hb3
  have D3 : Hid (DN v3 s3 p3 m3 m3 e3 z3) := hd1.dn
  have E3 : Hid (DN v3 t3 q3 n3 n3 f3 y3) := hd2.dn
  obtain ⟨rfl, rfl⟩ := dv_inj hd1.fm (.inr ⟨by decide, by decide, by decide⟩ : DFm 3 (-1075)) (hv1.trans cell2_lo)
  obtain ⟨rfl, rfl⟩ := dv_inj hd2.fm (.inr ⟨by decide, by decide, by decide⟩ : DFm 5 (-1075)) (hv2.trans cell2_hi)
  clear hv1 hv2 hd1 hd2
  rw [show decide (2 % 2 = 0) = true from rfl]
  go_wp2_with fail
  have Xs0 : Hid (B6q (v3.alloc (.cells #[.bool s3, .slice p3 m3 m3, .int .i64 (-1075), .bool t3, .slice q3 n3 n3, .int .i64 (-1075)] 28)) v3.heap.size (.bool s3) (.slice p3 m3 m3) (.int .i64 (-1075)) (.bool t3) (.slice q3 n3 n3) (.int .i64 (-1075))) := B6q.new v3 _ _ _ _ _ _ _
  have hbn : Below v3.heap.size v3 (v3.alloc (.cells #[.bool s3, .slice p3 m3 m3, .int .i64 (-1075), .bool t3, .slice q3 n3 n3, .int .i64 (-1075)] 28)) := below1 v3 _
  generalize v3.alloc (.cells #[.bool s3, .slice p3 m3 m3, .int .i64 (-1075), .bool t3, .slice q3 n3 n3, .int .i64 (-1075)] 28) = Ws at *
  have HGs : Hid (w.heap.size ≤ v3.heap.size) := hbw.size
  replace D3 : Hid _ := D3.out.below hbn
  replace E3 : Hid _ := E3.out.below hbn
  replace hbw := Below.on hbw hbn
  clear hbn
  generalize v3.heap.size = gs at *
  have Xs := Xs0
  clear Xs0
  obtain ⟨W5, hW5⟩ : ∃ W1, W1 = Ws.drew := ⟨_, rfl⟩
  have hbd : Below Ws.heap.size Ws W5 := by rw [hW5]; exact bDrew1 (Below.refl _ _)
  replace Xs : Hid _ := Xs.out.below hbd
  replace D3 : Hid _ := D3.out.below hbd
  replace E3 : Hid _ := E3.out.below hbd
  replace hbw := Below.on hbw hbd
  clear hbd
  have HJ : Hid ((fun W' : World => W'.cell? ⟨gs, 0, none⟩ = some (.bool s3) ∧ W'.cell? ⟨gs, 1, none⟩ = some (.slice p3 m3 m3) ∧ W'.cell? ⟨gs, 2, none⟩ = some (.int .i64 (-1075)) ∧ W'.cell? ⟨gs, 3, none⟩ = some (.bool t3) ∧ W'.cell? ⟨gs, 4, none⟩ = some (.slice q3 n3 n3) ∧ W'.cell? ⟨gs, 5, none⟩ = some (.int .i64 (-1075))) W5) := ⟨Xs.out.c0, Xs.out.c1, Xs.out.c2, Xs.out.c3, Xs.out.c4, Xs.out.c5⟩
  refine wp_region_J (fun W' => W'.cell? ⟨gs, 0, none⟩ = some (.bool s3) ∧ W'.cell? ⟨gs, 1, none⟩ = some (.slice p3 m3 m3) ∧ W'.cell? ⟨gs, 2, none⟩ = some (.int .i64 (-1075)) ∧ W'.cell? ⟨gs, 3, none⟩ = some (.bool t3) ∧ W'.cell? ⟨gs, 4, none⟩ = some (.slice q3 n3 n3) ∧ W'.cell? ⟨gs, 5, none⟩ = some (.int .i64 (-1075))) (by kernel_rfl) ?_
  rw [← hW5]
  clear hW5
  refine wpJ_take (i := 0) (v := ?v1x0) rfl (by kernel_rfl) (by kernel_rfl) (by kernel_rfl) (fun _ _ _ h => h) (by kernel_rfl) ?hy1x0 HJ.out ?rest1x0
  case hy1x0 => (intro W' hJ; obtain ⟨j0, j1, j2, j3, j4, j5⟩ := hJ; go_simp; first | done | with_reducible rfl)
  refine wpJ_one (i := 1) (by kernel_rfl) rfl (by kernel_rfl) (fun KJ hK => ?_)
  go_simp
  refine (num8 (3) (-1075) (by decide) (by decide) (by decide)).mono ?_
  rintro e2 v4 ⟨s4, g4, m4, c4, rfl, _, hd4, hb4⟩
  replace Xs : Hid _ := Xs.out.below hb4
  replace D3 : Hid _ := D3.out.below hb4
  replace E3 : Hid _ := E3.out.below hb4
  replace hbw := Below.on hbw hb4
  clear hb4
  have D4 : Hid (DN v4 s4 (some ⟨g4, 0, none⟩) m4 c4 (-1075) (3)) := hd4
  clear hd4
  refine hK _ _ ⟨Xs.out.c0, Xs.out.c1, Xs.out.c2, Xs.out.c3, Xs.out.c4, Xs.out.c5⟩ ?_
  clear hK
  refine wpJ_one (i := 2) (by kernel_rfl) rfl (by kernel_rfl) (fun KJ hK => ?_)
  go_simp
  refine (num8 (5) (-1075) (by decide) (by decide) (by decide)).mono ?_
  rintro e2 v5 ⟨s5, g5, m5, c5, rfl, _, hd5, hb5⟩
  replace Xs : Hid _ := Xs.out.below hb5
  replace D3 : Hid _ := D3.out.below hb5
  replace E3 : Hid _ := E3.out.below hb5
  replace D4 : Hid _ := D4.out.below hb5
  replace hbw := Below.on hbw hb5
  clear hb5
  have D5 : Hid (DN v5 s5 (some ⟨g5, 0, none⟩) m5 c5 (-1075) (5)) := hd5
  clear hd5
  clear HJ
  have HJ : Hid ((fun W' : World => W'.cell? ⟨gs, 0, none⟩ = some (.bool s3) ∧ W'.cell? ⟨gs, 1, none⟩ = some (.slice p3 m3 m3) ∧ W'.cell? ⟨gs, 2, none⟩ = some (.int .i64 (-1075)) ∧ W'.cell? ⟨gs, 3, none⟩ = some (.bool t3) ∧ W'.cell? ⟨gs, 4, none⟩ = some (.slice q3 n3 n3) ∧ W'.cell? ⟨gs, 5, none⟩ = some (.int .i64 (-1075))) v5) := ⟨Xs.out.c0, Xs.out.c1, Xs.out.c2, Xs.out.c3, Xs.out.c4, Xs.out.c5⟩
  refine hK _ _ HJ.out ?_
  clear hK
  refine wpJ_take (i := 3) (v := ?v2x3) rfl (by kernel_rfl) (by kernel_rfl) (by kernel_rfl) (fun _ _ _ h => h) (by kernel_rfl) ?hy2x3 HJ.out ?rest2x3
  case hy2x3 => (intro W' hJ; obtain ⟨j0, j1, j2, j3, j4, j5⟩ := hJ; go_simp; first | done | with_reducible rfl)
  refine wpJ_one (i := 4) (by kernel_rfl) rfl (by kernel_rfl) (fun KJ hK => ?_)
  go_simp
  refine (spans8 D3.out E3.out D4.out D5.out).mono ?_
  rintro e v6 ⟨rfl, hb6⟩
  replace Xs : Hid _ := Xs.out.below hb6
  replace D3 : Hid _ := D3.out.below hb6
  replace E3 : Hid _ := E3.out.below hb6
  replace D4 : Hid _ := D4.out.below hb6
  replace D5 : Hid _ := D5.out.below hb6
  replace hbw := Below.on hbw hb6
  clear hb6
  clear HJ
  have HJ : Hid ((fun W' : World => W'.cell? ⟨gs, 0, none⟩ = some (.bool s3) ∧ W'.cell? ⟨gs, 1, none⟩ = some (.slice p3 m3 m3) ∧ W'.cell? ⟨gs, 2, none⟩ = some (.int .i64 (-1075)) ∧ W'.cell? ⟨gs, 3, none⟩ = some (.bool t3) ∧ W'.cell? ⟨gs, 4, none⟩ = some (.slice q3 n3 n3) ∧ W'.cell? ⟨gs, 5, none⟩ = some (.int .i64 (-1075))) v6) := ⟨Xs.out.c0, Xs.out.c1, Xs.out.c2, Xs.out.c3, Xs.out.c4, Xs.out.c5⟩
  refine hK _ _ HJ.out ?_
  clear hK
  refine wpJ_take (i := 5) (v := ?v3x5) rfl (by kernel_rfl) (by kernel_rfl) (by kernel_rfl) (fun _ _ _ h => h) (by kernel_rfl) ?hy3x5 HJ.out ?rest3x5
  case hy3x5 => (intro W' hJ; obtain ⟨j0, j1, j2, j3, j4, j5⟩ := hJ; go_simp; first | done | with_reducible rfl)
  refine wpJ_take (i := 6) (v := ?v4x6) rfl (by kernel_rfl) (by kernel_rfl) (by kernel_rfl) (fun _ _ _ h => h) (by kernel_rfl) ?hy4x6 HJ.out ?rest4x6
  case hy4x6 => (intro W' hJ; obtain ⟨j0, j1, j2, j3, j4, j5⟩ := hJ; go_simp; first | done | with_reducible rfl)
  refine wpJ_take (i := 7) (v := ?v5x7) rfl (by kernel_rfl) (by kernel_rfl) (by kernel_rfl) (fun _ _ _ h => h) (by kernel_rfl) ?hy5x7 HJ.out ?rest5x7
  case hy5x7 => (intro W' hJ; obtain ⟨j0, j1, j2, j3, j4, j5⟩ := hJ; go_simp; first | done | with_reducible rfl)
  refine wpJ_take (i := 8) (v := ?v6x8) rfl (by kernel_rfl) (by kernel_rfl) (by kernel_rfl) (fun _ _ _ h => h) (by kernel_rfl) ?hy6x8 HJ.out ?rest6x8
  case hy6x8 => (intro W' hJ; obtain ⟨j0, j1, j2, j3, j4, j5⟩ := hJ; go_simp; first | done | with_reducible rfl)
  refine wpJ_take (i := 9) (v := ?v7x9) rfl (by kernel_rfl) (by kernel_rfl) (by kernel_rfl) (fun _ _ _ h => h) (by kernel_rfl) ?hy7x9 HJ.out ?rest7x9
  case hy7x9 => (intro W' hJ; obtain ⟨j0, j1, j2, j3, j4, j5⟩ := hJ; go_simp; first | done | with_reducible rfl)
  go_simp
  refine wpJ_take (i := 10) (v := ?v8x10) rfl (by kernel_rfl) (by kernel_rfl) (by kernel_rfl) (fun _ _ _ h => h) (by kernel_rfl) ?hy8x10 HJ.out ?rest8x10
  case hy8x10 => (intro W' hJ; obtain ⟨j0, j1, j2, j3, j4, j5⟩ := hJ; go_simp; first | done | with_reducible rfl)
  refine wpJ_take (i := 11) (v := ?v9x11) rfl (by kernel_rfl) (by kernel_rfl) (by kernel_rfl) (fun _ _ _ h => h) (by kernel_rfl) ?hy9x11 HJ.out ?rest9x11
  case hy9x11 => (intro W' hJ; obtain ⟨j0, j1, j2, j3, j4, j5⟩ := hJ; go_simp; first | done | with_reducible rfl)
  refine wpJ_take (i := 12) (v := ?v10x12) rfl (by kernel_rfl) (by kernel_rfl) (by kernel_rfl) (fun _ _ _ h => h) (by kernel_rfl) ?hy10x12 HJ.out ?rest10x12
  case hy10x12 => (intro W' hJ; obtain ⟨j0, j1, j2, j3, j4, j5⟩ := hJ; go_simp; first | done | with_reducible rfl)
  refine wpJ_take (i := 13) (v := ?v11x13) rfl (by kernel_rfl) (by kernel_rfl) (by kernel_rfl) (fun _ _ _ h => h) (by kernel_rfl) ?hy11x13 HJ.out ?rest11x13
  case hy11x13 => (intro W' hJ; obtain ⟨j0, j1, j2, j3, j4, j5⟩ := hJ; go_simp; first | done | with_reducible rfl)
  clear D3
  clear E3
  clear D4
  clear D5
  refine wpJ_done (by kernel_rfl) ?_ _
  clear HJ
  go_wp2_with fail
  by_cases hf : b % S ≠ 0 ∧ b % S < I
  · have HF : Hid (b % S ≠ 0 ∧ b % S < I) := hf
    clear hf
    obtain ⟨c, hc⟩ : ∃ c, c = if S ≤ b then b - 1 else b + 1 := ⟨_, rfl⟩
    have hnx := nx_reg HJN.out.jm.pm.fm HB.out HF.out.1 HF.out.2
    have hnf := nx_facts HJN.out HB.out HF.out.1 HF.out.2 hc
    rw [← hc] at hnx
    have HNX : Hid (Says 20 (.int .i64 f) (U b) (U c) (.int .i64 0)) := hnx
    have HNF : Hid (c < 2 * S ∧ c % S ≤ I ∧ rkS S c = rkS S b + 1 ∧ (c % S ≠ 0 → cLo H l (decide (S ≤ c)) (c % S) = cHi H l (decide (S ≤ b)) (b % S)) ∧ decide (c % 2 = 0) = !decide (b % 2 = 0)) := hnf
    have HCC : Hid (c = if S ≤ b then b - 1 else b + 1) := hc
    clear hnx hnf hc
    refine (HNX.out _).mono ?_
    rintro e v7 ⟨rfl, hb7⟩
    replace Xs : Hid _ := Xs.out.below hb7
    replace hbw := Below.on hbw hb7
    clear hb7
    go_wp2_with fail
    refine (HLW.out.fin b _ HB.out).mono ?_
    rintro e v8 ⟨rfl, hb8⟩
    rw [decide_eq_true HF.out.2, decide_eq_false HF.out.1]
    replace Xs : Hid _ := Xs.out.below hb8
    replace hbw := Below.on hbw hb8
    clear hb8
    go_wp2_with fail
    have HGS : Hid (gs < v8.heap.size) := Xs.out.lt
    refine (cell_ok HJN.out b HB.out HF.out.1 HF.out.2 _ (TB.out.below hbw)).mono ?_
    rintro e2 v9 ⟨s9, p9, m9, z9, e9, t9, q9, n9, y9, f9, rfl, hd1, hd2, hv1, hv2, hb9⟩
    have HV9 : Hid (dv z9 e9 = cLo H l (decide (S ≤ b)) (b % S) ∧ dv y9 f9 = cHi H l (decide (S ≤ b)) (b % S)) := ⟨hv1, hv2⟩
    clear hv1 hv2
    obtain ⟨pr, hpr⟩ : ∃ pr, pr = decide (b % 2 = 0) := ⟨_, rfl⟩
    rw [← hpr]
    have HPR : Hid (pr = decide (b % 2 = 0)) := hpr
    clear hpr
    replace Xs : Hid _ := Xs.out.below hb9
    replace hbw := Below.on hbw hb9
    clear hb9
    have D9 : Hid (DO v8.heap.size v9 s9 p9 m9 e9 z9) := hd1
    have E9 : Hid (DO v8.heap.size v9 t9 q9 n9 f9 y9) := hd2
    clear hd1 hd2
    obtain ⟨cs0, cs1, cs2, cs3, cs4, cs5, fs0, fs1, fs2, fs3, fs4, fs5⟩ := Xs.out
    have hnes : gs < v9.heap.size := World.block_lt_of_cell? v9 _ cs0
    go_wp2_with fail
    have Xs2 : Hid (B6q ((((((v9.setCell ⟨gs, 0, none⟩ (.bool s9)).setCell ⟨gs, 1, none⟩ (.slice p9 m9 m9)).setCell ⟨gs, 2, none⟩ (.int .i64 e9)).setCell ⟨gs, 3, none⟩ (.bool t9)).setCell ⟨gs, 4, none⟩ (.slice q9 n9 n9)).setCell ⟨gs, 5, none⟩ (.int .i64 f9)) gs (.bool s9) (.slice p9 m9 m9) (.int .i64 e9) (.bool t9) (.slice q9 n9 n9) (.int .i64 f9)) := ⟨by go_simp, by go_simp, by go_simp, by go_simp, by go_simp, by go_simp, by go_simp, by go_simp, by go_simp, by go_simp, by go_simp, by go_simp⟩
    have D92 : Hid (DN ((((((v9.setCell ⟨gs, 0, none⟩ (.bool s9)).setCell ⟨gs, 1, none⟩ (.slice p9 m9 m9)).setCell ⟨gs, 2, none⟩ (.int .i64 e9)).setCell ⟨gs, 3, none⟩ (.bool t9)).setCell ⟨gs, 4, none⟩ (.slice q9 n9 n9)).setCell ⟨gs, 5, none⟩ (.int .i64 f9)) s9 p9 m9 m9 e9 z9) := ((((((D9.out.set _ _ _ HGS.out).set _ _ _ HGS.out).set _ _ _ HGS.out).set _ _ _ HGS.out).set _ _ _ HGS.out).set _ _ _ HGS.out).dn
    have E92 : Hid (DN ((((((v9.setCell ⟨gs, 0, none⟩ (.bool s9)).setCell ⟨gs, 1, none⟩ (.slice p9 m9 m9)).setCell ⟨gs, 2, none⟩ (.int .i64 e9)).setCell ⟨gs, 3, none⟩ (.bool t9)).setCell ⟨gs, 4, none⟩ (.slice q9 n9 n9)).setCell ⟨gs, 5, none⟩ (.int .i64 f9)) t9 q9 n9 n9 f9 y9) := ((((((E9.out.set _ _ _ HGS.out).set _ _ _ HGS.out).set _ _ _ HGS.out).set _ _ _ HGS.out).set _ _ _ HGS.out).set _ _ _ HGS.out).dn
    have hbw2 : Below w.heap.size w ((((((v9.setCell ⟨gs, 0, none⟩ (.bool s9)).setCell ⟨gs, 1, none⟩ (.slice p9 m9 m9)).setCell ⟨gs, 2, none⟩ (.int .i64 e9)).setCell ⟨gs, 3, none⟩ (.bool t9)).setCell ⟨gs, 4, none⟩ (.slice q9 n9 n9)).setCell ⟨gs, 5, none⟩ (.int .i64 f9)) := (bSet (bSet (bSet (bSet (bSet (bSet hbw _ _ _ HGs.out) _ _ _ HGs.out) _ _ _ HGs.out) _ _ _ HGs.out) _ _ _ HGs.out) _ _ _ HGs.out)
    clear cs0 cs1 cs2 cs3 cs4 cs5 fs0 fs1 fs2 fs3 fs4 fs5 hnes
    clear hbw D9 E9 Xs
    generalize ((((((v9.setCell ⟨gs, 0, none⟩ (.bool s9)).setCell ⟨gs, 1, none⟩ (.slice p9 m9 m9)).setCell ⟨gs, 2, none⟩ (.int .i64 e9)).setCell ⟨gs, 3, none⟩ (.bool t9)).setCell ⟨gs, 4, none⟩ (.slice q9 n9 n9)).setCell ⟨gs, 5, none⟩ (.int .i64 f9)) = Wt at *
    have Xs := Xs2
    have D9 := D92
    have E9 := E92
    have hbw := hbw2
    clear Xs2 D92 E92 hbw2 HGS
    refine (at8 D9.out E9.out).mono ?_
    rintro e v10 ⟨rfl, hb10⟩
    rw [cmp_l (show dv z9 e9 < dv y9 f9 by rw [HV9.out.1, HV9.out.2]; exact cell_lt HJN.out.jm.pm.hp _ HF.out.1)]
    replace Xs : Hid _ := Xs.out.below hb10
    replace D9 : Hid _ := D9.out.below hb10
    replace E9 : Hid _ := E9.out.below hb10
    replace hbw := Below.on hbw hb10
    clear hb10
    obtain ⟨cs0, cs1, cs2, cs3, cs4, cs5, fs0, fs1, fs2, fs3, fs4, fs5⟩ := Xs.out
    have hnes : gs < v10.heap.size := World.block_lt_of_cell? v10 _ cs0
    go_wp2_with fail
    clear cs0 cs1 cs2 cs3 cs4 cs5 fs0 fs1 fs2 fs3 fs4 fs5 hnes
    cases pr
    · have hpx : ¬ b % 2 = 0 := of_decide_eq_false HPR.out.symm
      have HPX : Hid (¬ b % 2 = 0) := hpx
      clear HPR hpx
      refine (rnearest HJN.out E9.out (TB.out.below hbw)).mono ?_
      rintro e v11 ⟨rfl, hb11⟩
      rw [meets_rn HJN.out HB.out HF.out.2 (by rcases E9.out.fm with ⟨_, h⟩ | ⟨_, h, _⟩ <;> omega) HV9.out.2, ← HCC.out, if_neg HPX.out]
      replace Xs : Hid _ := Xs.out.below hb11
      replace D9 : Hid _ := D9.out.below hb11
      replace E9 : Hid _ := E9.out.below hb11
      replace hbw := Below.on hbw hb11
      clear hb11
      obtain ⟨cs0, cs1, cs2, cs3, cs4, cs5, fs0, fs1, fs2, fs3, fs4, fs5⟩ := Xs.out
      have hnes : gs < v11.heap.size := World.block_lt_of_cell? v11 _ cs0
      go_wp2_with fail
      clear cs0 cs1 cs2 cs3 cs4 cs5 fs0 fs1 fs2 fs3 fs4 fs5 hnes
      obtain ⟨rb, hrb⟩ : ∃ r, r = rkS S b := ⟨_, rfl⟩
      obtain ⟨rc, hrc⟩ : ∃ r, r = rkS S c := ⟨_, rfl⟩
      have HRK : Hid (rkS S b = rb ∧ rkS S c = rc) := ⟨hrb.symm, hrc.symm⟩
      have hr1 : rc = rb + 1 := by rw [hrb, hrc]; exact HNF.out.2.2.1
      have hr2 : -9223372036854775807 ≤ rb ∧ rb ≤ 9223372036854775806 := by
        have h1 := HF.out.2; have h2 := HJN.out.jm.pm.fm.lt; have h3 := HJN.out.jm.pm.fm.le
        rw [hrb]; unfold rkS; split <;> omega
      have kr1 : IntKind.i64.wrap (rb + 1) = rc := by rw [hr1]; simp [IntKind.wrap, IntKind.signed, IntKind.bits]; omega
      have kr2 : wrap64 (rb + 1) = rc := by rw [hr1]; simp only [wrap64]; omega
      clear hrb hrc hr1 hr2
      refine (rank8 HJN.out.jm.pm.fm c HNF.out.1 HNF.out.2.1 _).mono ?_
      rintro e v12 ⟨rfl, hb12⟩
      rw [HRK.out.2]
      replace Xs : Hid _ := Xs.out.below hb12
      replace D9 : Hid _ := D9.out.below hb12
      replace E9 : Hid _ := E9.out.below hb12
      replace hbw := Below.on hbw hb12
      clear hb12
      obtain ⟨cs0, cs1, cs2, cs3, cs4, cs5, fs0, fs1, fs2, fs3, fs4, fs5⟩ := Xs.out
      have hnes : gs < v12.heap.size := World.block_lt_of_cell? v12 _ cs0
      go_wp2_with fail
      clear cs0 cs1 cs2 cs3 cs4 cs5 fs0 fs1 fs2 fs3 fs4 fs5 hnes
      refine (rank8 HJN.out.jm.pm.fm b HB.out (Nat.le_of_lt HF.out.2) _).mono ?_
      rintro e v13 ⟨rfl, hb13⟩
      rw [HRK.out.1]
      replace Xs : Hid _ := Xs.out.below hb13
      replace D9 : Hid _ := D9.out.below hb13
      replace E9 : Hid _ := E9.out.below hb13
      replace hbw := Below.on hbw hb13
      clear hb13
      obtain ⟨cs0, cs1, cs2, cs3, cs4, cs5, fs0, fs1, fs2, fs3, fs4, fs5⟩ := Xs.out
      have hnes : gs < v13.heap.size := World.block_lt_of_cell? v13 _ cs0
      go_wp2_with fail
      clear cs0 cs1 cs2 cs3 cs4 cs5 fs0 fs1 fs2 fs3 fs4 fs5 hnes
      by_cases hi : c % S < I
      · by_cases hz : c % S = 0
        · refine (HLW.out.fin c _ HNF.out.1).mono ?_
          rintro e v14 ⟨rfl, hb14⟩
          rw [decide_eq_true hi, decide_eq_true hz]
          clear hi hz
          replace Xs : Hid _ := Xs.out.below hb14
          replace D9 : Hid _ := D9.out.below hb14
          replace E9 : Hid _ := E9.out.below hb14
          replace hbw := Below.on hbw hb14
          clear hb14
          go_wp2_with fail
          go_ret
          exact ⟨rfl, hbw⟩
        · have HZC : Hid (c % S ≠ 0 ∧ c % S < I) := ⟨hz, hi⟩
          have HEQ : Hid (cLo H l (decide (S ≤ c)) (c % S) = cHi H l (decide (S ≤ b)) (b % S)) := HNF.out.2.2.2.1 hz
          refine (HLW.out.fin c _ HNF.out.1).mono ?_
          rintro e v14 ⟨rfl, hb14⟩
          rw [decide_eq_true hi, decide_eq_false hz]
          clear hi hz
          replace Xs : Hid _ := Xs.out.below hb14
          replace D9 : Hid _ := D9.out.below hb14
          replace E9 : Hid _ := E9.out.below hb14
          replace hbw := Below.on hbw hb14
          clear hb14
          go_wp2_with fail
          refine (cell_ok HJN.out c HNF.out.1 HZC.out.1 HZC.out.2 _ (TB.out.below hbw)).mono ?_
          rintro e2 v15 ⟨s15, p15, m15, z15, e15, t15, q15, n15, y15, f15, rfl, hd1, hd2, hv1, hv2, hb15⟩
          have HV15 : Hid (dv y9 f9 = dv z15 e15) := by rw [hv1, HEQ.out, HV9.out.2]; trivial
          clear hv1 hv2
          rw [show decide (c % 2 = 0) = true from by rw [HNF.out.2.2.2.2]; rw [decide_eq_false HPX.out]; rfl]
          replace Xs : Hid _ := Xs.out.below hb15
          replace D9 : Hid _ := D9.out.below hb15
          replace E9 : Hid _ := E9.out.below hb15
          replace hbw := Below.on hbw hb15
          clear hb15
          have D15 : Hid (DN v15 s15 p15 m15 m15 e15 z15) := hd1.dn
          clear hd1 hd2
          obtain ⟨cs0, cs1, cs2, cs3, cs4, cs5, fs0, fs1, fs2, fs3, fs4, fs5⟩ := Xs.out
          have hnes : gs < v15.heap.size := World.block_lt_of_cell? v15 _ cs0
          go_wp2_with fail
          clear cs0 cs1 cs2 cs3 cs4 cs5 fs0 fs1 fs2 fs3 fs4 fs5 hnes
          have Xt0 : Hid (B6q (v15.alloc (.cells #[.bool s15, .slice p15 m15 m15, .int .i64 e15, .bool t15, .slice q15 n15 n15, .int .i64 f15] 28)) v15.heap.size (.bool s15) (.slice p15 m15 m15) (.int .i64 e15) (.bool t15) (.slice q15 n15 n15) (.int .i64 f15)) := B6q.new v15 _ _ _ _ _ _ _
          have hbn : Below v15.heap.size v15 (v15.alloc (.cells #[.bool s15, .slice p15 m15 m15, .int .i64 e15, .bool t15, .slice q15 n15 n15, .int .i64 f15] 28)) := below1 v15 _
          generalize v15.alloc (.cells #[.bool s15, .slice p15 m15 m15, .int .i64 e15, .bool t15, .slice q15 n15 n15, .int .i64 f15] 28) = Wu at *
          have HGt : Hid (w.heap.size ≤ v15.heap.size) := hbw.size
          replace Xs : Hid _ := Xs.out.below hbn
          replace D9 : Hid _ := D9.out.below hbn
          replace E9 : Hid _ := E9.out.below hbn
          replace D15 : Hid _ := D15.out.below hbn
          replace hbw := Below.on hbw hbn
          clear hbn
          generalize v15.heap.size = gt at *
          have Xt := Xt0
          clear Xt0
          refine (at8 E9.out D15.out).mono ?_
          rintro e v16 ⟨rfl, hb16⟩
          rw [cmp_e HV15.out]
          replace Xs : Hid _ := Xs.out.below hb16
          replace Xt : Hid _ := Xt.out.below hb16
          replace D9 : Hid _ := D9.out.below hb16
          replace E9 : Hid _ := E9.out.below hb16
          replace D15 : Hid _ := D15.out.below hb16
          replace hbw := Below.on hbw hb16
          clear hb16
          obtain ⟨cs0, cs1, cs2, cs3, cs4, cs5, fs0, fs1, fs2, fs3, fs4, fs5⟩ := Xs.out
          have hnes : gs < v16.heap.size := World.block_lt_of_cell? v16 _ cs0
          go_wp2_with fail
          clear cs0 cs1 cs2 cs3 cs4 cs5 fs0 fs1 fs2 fs3 fs4 fs5 hnes
          go_ret
          exact ⟨rfl, hbw⟩
      · refine (HLW.out.fin c _ HNF.out.1).mono ?_
        rintro e v14 ⟨rfl, hb14⟩
        rw [decide_eq_false hi]
        clear hi
        replace Xs : Hid _ := Xs.out.below hb14
        replace D9 : Hid _ := D9.out.below hb14
        replace E9 : Hid _ := E9.out.below hb14
        replace hbw := Below.on hbw hb14
        clear hb14
        go_wp2_with fail
        go_ret
        exact ⟨rfl, hbw⟩
    · have hpx : b % 2 = 0 := of_decide_eq_true HPR.out.symm
      have HPX : Hid (b % 2 = 0) := hpx
      clear HPR hpx
      refine (rnearest HJN.out E9.out (TB.out.below hbw)).mono ?_
      rintro e v11 ⟨rfl, hb11⟩
      rw [meets_rn HJN.out HB.out HF.out.2 (by rcases E9.out.fm with ⟨_, h⟩ | ⟨_, h, _⟩ <;> omega) HV9.out.2, ← HCC.out, if_pos HPX.out]
      replace Xs : Hid _ := Xs.out.below hb11
      replace D9 : Hid _ := D9.out.below hb11
      replace E9 : Hid _ := E9.out.below hb11
      replace hbw := Below.on hbw hb11
      clear hb11
      obtain ⟨cs0, cs1, cs2, cs3, cs4, cs5, fs0, fs1, fs2, fs3, fs4, fs5⟩ := Xs.out
      have hnes : gs < v11.heap.size := World.block_lt_of_cell? v11 _ cs0
      go_wp2_with fail
      clear cs0 cs1 cs2 cs3 cs4 cs5 fs0 fs1 fs2 fs3 fs4 fs5 hnes
      by_cases hi : c % S < I
      · by_cases hz : c % S = 0
        · refine (HLW.out.fin c _ HNF.out.1).mono ?_
          rintro e v14 ⟨rfl, hb14⟩
          rw [decide_eq_true hi, decide_eq_true hz]
          clear hi hz
          replace Xs : Hid _ := Xs.out.below hb14
          replace D9 : Hid _ := D9.out.below hb14
          replace E9 : Hid _ := E9.out.below hb14
          replace hbw := Below.on hbw hb14
          clear hb14
          go_wp2_with fail
          go_ret
          exact ⟨rfl, hbw⟩
        · have HZC : Hid (c % S ≠ 0 ∧ c % S < I) := ⟨hz, hi⟩
          have HEQ : Hid (cLo H l (decide (S ≤ c)) (c % S) = cHi H l (decide (S ≤ b)) (b % S)) := HNF.out.2.2.2.1 hz
          refine (HLW.out.fin c _ HNF.out.1).mono ?_
          rintro e v14 ⟨rfl, hb14⟩
          rw [decide_eq_true hi, decide_eq_false hz]
          clear hi hz
          replace Xs : Hid _ := Xs.out.below hb14
          replace D9 : Hid _ := D9.out.below hb14
          replace E9 : Hid _ := E9.out.below hb14
          replace hbw := Below.on hbw hb14
          clear hb14
          go_wp2_with fail
          refine (cell_ok HJN.out c HNF.out.1 HZC.out.1 HZC.out.2 _ (TB.out.below hbw)).mono ?_
          rintro e2 v15 ⟨s15, p15, m15, z15, e15, t15, q15, n15, y15, f15, rfl, hd1, hd2, hv1, hv2, hb15⟩
          have HV15 : Hid (dv y9 f9 = dv z15 e15) := by rw [hv1, HEQ.out, HV9.out.2]; trivial
          clear hv1 hv2
          rw [show decide (c % 2 = 0) = false from by rw [HNF.out.2.2.2.2]; rw [decide_eq_true HPX.out]; rfl]
          replace Xs : Hid _ := Xs.out.below hb15
          replace D9 : Hid _ := D9.out.below hb15
          replace E9 : Hid _ := E9.out.below hb15
          replace hbw := Below.on hbw hb15
          clear hb15
          have D15 : Hid (DN v15 s15 p15 m15 m15 e15 z15) := hd1.dn
          clear hd1 hd2
          obtain ⟨cs0, cs1, cs2, cs3, cs4, cs5, fs0, fs1, fs2, fs3, fs4, fs5⟩ := Xs.out
          have hnes : gs < v15.heap.size := World.block_lt_of_cell? v15 _ cs0
          go_wp2_with fail
          clear cs0 cs1 cs2 cs3 cs4 cs5 fs0 fs1 fs2 fs3 fs4 fs5 hnes
          have Xt0 : Hid (B6q (v15.alloc (.cells #[.bool s15, .slice p15 m15 m15, .int .i64 e15, .bool t15, .slice q15 n15 n15, .int .i64 f15] 28)) v15.heap.size (.bool s15) (.slice p15 m15 m15) (.int .i64 e15) (.bool t15) (.slice q15 n15 n15) (.int .i64 f15)) := B6q.new v15 _ _ _ _ _ _ _
          have hbn : Below v15.heap.size v15 (v15.alloc (.cells #[.bool s15, .slice p15 m15 m15, .int .i64 e15, .bool t15, .slice q15 n15 n15, .int .i64 f15] 28)) := below1 v15 _
          generalize v15.alloc (.cells #[.bool s15, .slice p15 m15 m15, .int .i64 e15, .bool t15, .slice q15 n15 n15, .int .i64 f15] 28) = Wu at *
          have HGt : Hid (w.heap.size ≤ v15.heap.size) := hbw.size
          replace Xs : Hid _ := Xs.out.below hbn
          replace D9 : Hid _ := D9.out.below hbn
          replace E9 : Hid _ := E9.out.below hbn
          replace D15 : Hid _ := D15.out.below hbn
          replace hbw := Below.on hbw hbn
          clear hbn
          generalize v15.heap.size = gt at *
          have Xt := Xt0
          clear Xt0
          refine (at8 E9.out D15.out).mono ?_
          rintro e v16 ⟨rfl, hb16⟩
          rw [cmp_e HV15.out]
          replace Xs : Hid _ := Xs.out.below hb16
          replace Xt : Hid _ := Xt.out.below hb16
          replace D9 : Hid _ := D9.out.below hb16
          replace E9 : Hid _ := E9.out.below hb16
          replace D15 : Hid _ := D15.out.below hb16
          replace hbw := Below.on hbw hb16
          clear hb16
          obtain ⟨cs0, cs1, cs2, cs3, cs4, cs5, fs0, fs1, fs2, fs3, fs4, fs5⟩ := Xs.out
          have hnes : gs < v16.heap.size := World.block_lt_of_cell? v16 _ cs0
          go_wp2_with fail
          clear cs0 cs1 cs2 cs3 cs4 cs5 fs0 fs1 fs2 fs3 fs4 fs5 hnes
          go_ret
          exact ⟨rfl, hbw⟩
      · refine (HLW.out.fin c _ HNF.out.1).mono ?_
        rintro e v14 ⟨rfl, hb14⟩
        rw [decide_eq_false hi]
        clear hi
        replace Xs : Hid _ := Xs.out.below hb14
        replace D9 : Hid _ := D9.out.below hb14
        replace E9 : Hid _ := E9.out.below hb14
        replace hbw := Below.on hbw hb14
        clear hb14
        go_wp2_with fail
        go_ret
        exact ⟨rfl, hbw⟩
  · obtain ⟨nv, ner, hnx⟩ := nx_ex HJN.out.jm.pm.fm HB.out
    have HNX : Hid (Says 20 (.int .i64 f) (U b) (.int .u64 nv) (.int .i64 ner)) := hnx
    clear hnx
    refine (HNX.out _).mono ?_
    rintro e v7 ⟨rfl, hb7⟩
    replace Xs : Hid _ := Xs.out.below hb7
    replace hbw := Below.on hbw hb7
    clear hb7
    go_wp2_with fail
    by_cases hi : b % S < I
    · refine (HLW.out.fin b _ HB.out).mono ?_
      rintro e v8 ⟨rfl, hb8⟩
      rw [decide_eq_true hi, decide_eq_true (show b % S = 0 from Decidable.of_not_not fun h => hf ⟨h, hi⟩)]
      clear hi hf
      replace Xs : Hid _ := Xs.out.below hb8
      replace hbw := Below.on hbw hb8
      clear hb8
      go_wp2_with fail
      go_ret
      exact ⟨rfl, hbw⟩
    · refine (HLW.out.fin b _ HB.out).mono ?_
      rintro e v8 ⟨rfl, hb8⟩
      rw [decide_eq_false hi]
      clear hi hf
      replace Xs : Hid _ := Xs.out.below hb8
      replace hbw := Below.on hbw hb8
      clear hb8
      go_wp2_with fail
      go_ret
      exact ⟨rfl, hbw⟩
theorem roundMeets_w (single : Bool) (b : Nat) (hb : b < B64) (w : World) (hT : Tab w) :
    Calls Tryd.prog 5 #[.bool single, U b] w fun en w' => en = .returned (.bool true) ∧ Below w.heap.size w w' := by
  cases single
  · exact roundMeets_x jn_64 lw_64 b hb w hT
  · exact roundMeets_x jn_32 lw_32 b hb w hT
end Go.Proofs.YtfkoilaobglddaaDoor

