import Derived.Test.YtfkoilaobglddaaDoorJ22
import Derived.Test.YtfkoilaobglddaaDoorJ20
import Derived.Test.YtfkoilaobglddaaDoorBs4
import Derived.Test.YtfkoilaobglddaaDoorJ26
namespace Go.Proofs.YtfkoilaobglddaaDoor
open Go.RowKit Go.Shelf

set_option maxRecDepth 20000 in
set_option maxHeartbeats 8000000 in
theorem num8 {w : World} (z e : Int) (h0 : -9223372036854775807 ≤ z ∧ z ≤ 9223372036854775807) (hz : z % 2 = 1) (he : -2000 ≤ e ∧ e ≤ 2000) :
    Calls Tryd.prog 8 #[.int .i64 z, .int .i64 e] w fun en w' => ∃ s' g m' c', en = .returned (DV s' (some ⟨g, 0, none⟩) m' c' e) ∧ w.heap.size ≤ g ∧ DN w' s' (some ⟨g, 0, none⟩) m' c' e z ∧ Below w.heap.size w w' := by
  have HZ : Hid (-9223372036854775807 ≤ z ∧ z ≤ 9223372036854775807 ∧ z % 2 = 1 ∧ -2000 ≤ e ∧ e ≤ 2000) := ⟨h0.1, h0.2, hz, he.1, he.2⟩
  clear h0 hz he
  go_enter Tryd.func8, Tryd.ntmps8
  go_wp2_with fail
  obtain ⟨W0, hW0⟩ : ∃ W0, W0 = (w.alloc (.cells #[.bool false, .slice none 0 0, .int .i64 0] 26)) := ⟨_, rfl⟩
  have Xr : Hid (B3q W0 (w.heap.size) (.bool false) (.slice none 0 0) (.int .i64 0)) := by rw [hW0]; exact ⟨by go_simp, by go_simp, by go_simp, by go_simp, by go_simp, by go_simp⟩
  have hb0 : Below w.heap.size w W0 := by rw [hW0]; exact below1 w _
  rw [← hW0]
  clear hW0
  have hbw : Below w.heap.size w w := Below.refl _ _
  obtain ⟨gr, hgr⟩ : ∃ g, g = w.heap.size := ⟨_, rfl⟩
  have HGr : Hid (w.heap.size ≤ gr) := by rw [hgr]; show _ ≤ _; omega
  rw [← hgr] at Xr
  try rw [← hgr]
  clear hgr
  replace hbw := Below.on hbw hb0
  clear hb0
  refine (docof5 z (by have := HZ.out; omega) (by have := HZ.out; omega) HZ.out.2.2.1).mono ?_
  rintro e2 v1 ⟨s1, g1, m1, c1, rfl, hg1, hd1, hb1⟩
  replace Xr : Hid _ := Xr.out.below hb1
  replace hbw := Below.on hbw hb1
  clear hb1
  have D1 : Hid (DN v1 s1 (some ⟨g1, 0, none⟩) m1 c1 0 z) := hd1
  have hm1 : m1 ≤ 4000 := by
    obtain ⟨xs, hX⟩ := hd1.zn.ex
    have := (hX.nf.len_le B64_one (k := 1)).2 (by rw [Nat.pow_one, B64_eq]; have := HZ.out; omega)
    rw [hX.at_.len] at this
    omega
  have HM1 : Hid (m1 ≤ 4000) := hm1
  clear hd1 hg1 hm1
  go_wp2_with fail
  refine (docscale5 D1.out HZ.out.2.2.1 HM1.out (by have := HZ.out; omega) (by omega)).mono ?_
  rw [Int.zero_add]
  rintro e2 v2 ⟨s2, g2, m2, c2, rfl, hg2, hd2, hb2⟩
  have HR2 : Hid (gr < g2 ∧ w.heap.size ≤ g2) := ⟨Nat.lt_of_lt_of_le Xr.out.lt hg2, Nat.le_trans hbw.size hg2⟩
  replace Xr : Hid _ := Xr.out.below hb2
  replace D1 : Hid _ := D1.out.below hb2
  replace hbw := Below.on hbw hb2
  clear hb2
  have D2 : Hid (DN v2 s2 (some ⟨g2, 0, none⟩) m2 c2 e z) := hd2
  clear hd2 hg2
  obtain ⟨cr0, cr1, cr2, fr0, fr1, fr2⟩ := Xr.out
  have hner : gr < v2.heap.size := World.block_lt_of_cell? v2 _ cr0
  go_wp2_with fail
  refine bodyPost_ret (v := DV s2 (some ⟨g2, 0, none⟩) m2 c2 e) (by rw [results_cell1 rfl]; go_simp) rfl ⟨s2, g2, m2, c2, rfl, HR2.out.2, ?_, ?_⟩
  · have := HR2.out.1
    exact (((D2.out.set _ _ _ (by omega)).set _ _ _ (by omega)).set _ _ _ (by omega)).below (below1 _ _)
  · exact Below.on (bSet (bSet (bSet hbw _ _ _ HGr.out) _ _ _ HGr.out) _ _ _ HGr.out) (below1 _ _)
end Go.Proofs.YtfkoilaobglddaaDoor

namespace Go.Proofs.YtfkoilaobglddaaDoor
open Go.RowKit Go.Shelf

set_option maxRecDepth 20000 in
set_option maxHeartbeats 8000000 in
theorem rcls_32_0 (s : Nat) (h0 : s = 0) (w : World) :
    Calls Tryd.prog 58 #[FV 2147483648 24 (-149) 104 2139095040 2143289345, U s] w fun en w' => en = .returned (.int .i64 0) ∧ Below w.heap.size w w' := by
  subst h0
  go_enter Tryd.func58, Tryd.ntmps58
  go_wp2_with fail
  go_ret
  exact ⟨rfl, bwAlloc w _⟩
set_option maxRecDepth 20000 in
set_option maxHeartbeats 8000000 in
theorem rcls_32_1 (s : Nat) (h0 : s ≠ 0) (h1 : s < 8388608) (w : World) :
    Calls Tryd.prog 58 #[FV 2147483648 24 (-149) 104 2139095040 2143289345, U s] w fun en w' => en = .returned (.int .i64 1) ∧ Below w.heap.size w w' := by
  have k0 : ((s : Int) == 0) = false := by simp; omega
  have k1 : decide ((s : Int) < 8388608) = true := by exact decide_eq_true (by omega)
  have m1 : ((1 : Int) <<< (23 : Nat)) = 8388608 := by decide
  clear h0 h1
  go_enter Tryd.func58, Tryd.ntmps58
  go_wp2_with fail
  go_ret
  exact ⟨rfl, bwAlloc w _⟩
set_option maxRecDepth 20000 in
set_option maxHeartbeats 8000000 in
theorem rcls_32_2 (s : Nat) (h1 : ¬ s < 8388608) (h2 : s < 2139095040) (w : World) :
    Calls Tryd.prog 58 #[FV 2147483648 24 (-149) 104 2139095040 2143289345, U s] w fun en w' => en = .returned (.int .i64 2) ∧ Below w.heap.size w w' := by
  have k0 : ((s : Int) == 0) = false := by simp; omega
  have k1 : decide ((s : Int) < 8388608) = false := by exact decide_eq_false (by omega)
  have k2 : decide ((s : Int) < 2139095040) = true := by exact decide_eq_true (by omega)
  have m1 : ((1 : Int) <<< (23 : Nat)) = 8388608 := by decide
  clear h1 h2
  go_enter Tryd.func58, Tryd.ntmps58
  go_wp2_with fail
  go_ret
  exact ⟨rfl, bwAlloc w _⟩
set_option maxRecDepth 20000 in
set_option maxHeartbeats 8000000 in
theorem rcls_32_3 (s : Nat) (h2 : s = 2139095040) (w : World) :
    Calls Tryd.prog 58 #[FV 2147483648 24 (-149) 104 2139095040 2143289345, U s] w fun en w' => en = .returned (.int .i64 3) ∧ Below w.heap.size w w' := by
  have k0 : ((s : Int) == 0) = false := by simp; omega
  have k1 : decide ((s : Int) < 8388608) = false := by exact decide_eq_false (by omega)
  have k2 : decide ((s : Int) < 2139095040) = false := by exact decide_eq_false (by omega)
  have k3 : ((s : Int) == 2139095040) = true := by simp; omega
  have m1 : ((1 : Int) <<< (23 : Nat)) = 8388608 := by decide
  clear h2
  go_enter Tryd.func58, Tryd.ntmps58
  go_wp2_with fail
  go_ret
  exact ⟨rfl, bwAlloc w _⟩
set_option maxRecDepth 20000 in
set_option maxHeartbeats 8000000 in
theorem rcls_32_4 (s : Nat) (h2 : 2139095040 < s) (w : World) :
    Calls Tryd.prog 58 #[FV 2147483648 24 (-149) 104 2139095040 2143289345, U s] w fun en w' => en = .returned (.int .i64 4) ∧ Below w.heap.size w w' := by
  have k0 : ((s : Int) == 0) = false := by simp; omega
  have k1 : decide ((s : Int) < 8388608) = false := by exact decide_eq_false (by omega)
  have k2 : decide ((s : Int) < 2139095040) = false := by exact decide_eq_false (by omega)
  have k3 : ((s : Int) == 2139095040) = false := by simp; omega
  have m1 : ((1 : Int) <<< (23 : Nat)) = 8388608 := by decide
  clear h2
  go_enter Tryd.func58, Tryd.ntmps58
  go_wp2_with fail
  go_ret
  exact ⟨rfl, bwAlloc w _⟩
theorem rcls_32 (s : Nat) (w : World) : Calls Tryd.prog 58 #[FV 2147483648 24 (-149) 104 2139095040 2143289345, U s] w fun en w' => en = .returned (.int .i64 (clsN 8388608 2139095040 s)) ∧ Below w.heap.size w w' := by
  unfold clsN
  by_cases h0 : s = 0
  · rw [if_pos h0]; exact rcls_32_0 s h0 w
  · rw [if_neg h0]
    by_cases h1 : s < 8388608
    · rw [if_pos h1]; exact rcls_32_1 s h0 h1 w
    · rw [if_neg h1]
      by_cases h2 : s < 2139095040
      · rw [if_pos h2]; exact rcls_32_2 s h1 h2 w
      · rw [if_neg h2]
        by_cases h3 : s = 2139095040
        · rw [if_pos h3]; exact rcls_32_3 s h3 w
        · rw [if_neg h3]; exact rcls_32_4 s (by omega) w
set_option maxRecDepth 20000 in
set_option maxHeartbeats 8000000 in
theorem docclass_32 (b : Nat) (hb : b < 2 * 2147483648) (w : World) :
    Calls Tryd.prog 30 #[.int .i64 32, U b] w fun en w' => en = .returned (.tuple #[.int .i64 (clsN 8388608 2139095040 (b % 2147483648)), .int .i64 0]) ∧ Below w.heap.size w w' := by
  have hbw : Below w.heap.size w w := Below.refl _ _
  have HB : Hid (b < 2 * 2147483648) := hb
  obtain ⟨z, hz⟩ : ∃ z, z = b % 2147483648 := ⟨_, rfl⟩
  obtain ⟨c, hc⟩ : ∃ c, c = clsN 8388608 2139095040 z := ⟨_, rfl⟩
  rw [← hz, ← hc]
  have HZ : Hid (b % 2147483648 = z ∧ clsN 8388608 2139095040 z = c) := ⟨hz.symm, hc.symm⟩
  clear hb hz hc
  go_enter Tryd.func30, Tryd.ntmps30
  go_wp2_with fail
  refine (check_ok rf_32 b HB.out _).mono ?_
  rintro e v1 ⟨rfl, hb1⟩
  replace hbw := Below.on hbw hb1
  clear hb1
  go_wp2_with fail
  refine (rof_32 _).mono ?_
  rintro e v2 ⟨rfl, hb2⟩
  replace hbw := Below.on hbw hb2
  clear hb2
  go_wp2_with fail
  have Xk0 : Hid (B6q (v2.alloc (.cells #[U 2147483648, .int .i64 24, .int .i64 (-149), .int .i64 104, U 2139095040, U 2143289345] 71)) v2.heap.size (U 2147483648) (.int .i64 24) (.int .i64 (-149)) (.int .i64 104) (U 2139095040) (U 2143289345)) := B6q.new v2 _ _ _ _ _ _ _
  have hbn : Below v2.heap.size v2 (v2.alloc (.cells #[U 2147483648, .int .i64 24, .int .i64 (-149), .int .i64 104, U 2139095040, U 2143289345] 71)) := below1 v2 _
  generalize v2.alloc (.cells #[U 2147483648, .int .i64 24, .int .i64 (-149), .int .i64 104, U 2139095040, U 2143289345] 71) = Wk at *
  have HGk : Hid (w.heap.size ≤ v2.heap.size) := hbw.size
  replace hbw := Below.on hbw hbn
  clear hbn
  generalize v2.heap.size = gk at *
  have Xk := Xk0
  clear Xk0
  refine (cut_any (by decide) (by decide) b _).mono ?_
  rintro e v3 ⟨rfl, hb3⟩
  rw [HZ.out.1]
  replace Xk : Hid _ := Xk.out.below hb3
  replace hbw := Below.on hbw hb3
  clear hb3
  obtain ⟨ck0, ck1, ck2, ck3, ck4, ck5, fk0, fk1, fk2, fk3, fk4, fk5⟩ := Xk.out
  have hnek : gk < v3.heap.size := World.block_lt_of_cell? v3 _ ck0
  go_wp2_with fail
  clear ck0 ck1 ck2 ck3 ck4 ck5 fk0 fk1 fk2 fk3 fk4 fk5 hnek
  refine (rcls_32 z _).mono ?_
  rintro e v4 ⟨rfl, hb4⟩
  rw [HZ.out.2]
  replace Xk : Hid _ := Xk.out.below hb4
  replace hbw := Below.on hbw hb4
  clear hb4
  obtain ⟨ck0, ck1, ck2, ck3, ck4, ck5, fk0, fk1, fk2, fk3, fk4, fk5⟩ := Xk.out
  have hnek : gk < v4.heap.size := World.block_lt_of_cell? v4 _ ck0
  go_wp2_with fail
  clear ck0 ck1 ck2 ck3 ck4 ck5 fk0 fk1 fk2 fk3 fk4 fk5 hnek
  go_ret2
  exact ⟨rfl, hbw⟩
set_option maxRecDepth 20000 in
set_option maxHeartbeats 8000000 in
theorem rcls_64_0 (s : Nat) (h0 : s = 0) (w : World) :
    Calls Tryd.prog 58 #[FV 9223372036854775808 53 (-1074) 971 9218868437227405312 9221120237041090561, U s] w fun en w' => en = .returned (.int .i64 0) ∧ Below w.heap.size w w' := by
  subst h0
  go_enter Tryd.func58, Tryd.ntmps58
  go_wp2_with fail
  go_ret
  exact ⟨rfl, bwAlloc w _⟩
set_option maxRecDepth 20000 in
set_option maxHeartbeats 8000000 in
theorem rcls_64_1 (s : Nat) (h0 : s ≠ 0) (h1 : s < 4503599627370496) (w : World) :
    Calls Tryd.prog 58 #[FV 9223372036854775808 53 (-1074) 971 9218868437227405312 9221120237041090561, U s] w fun en w' => en = .returned (.int .i64 1) ∧ Below w.heap.size w w' := by
  have k0 : ((s : Int) == 0) = false := by simp; omega
  have k1 : decide ((s : Int) < 4503599627370496) = true := by exact decide_eq_true (by omega)
  have m1 : ((1 : Int) <<< (52 : Nat)) = 4503599627370496 := by decide
  clear h0 h1
  go_enter Tryd.func58, Tryd.ntmps58
  go_wp2_with fail
  go_ret
  exact ⟨rfl, bwAlloc w _⟩
set_option maxRecDepth 20000 in
set_option maxHeartbeats 8000000 in
theorem rcls_64_2 (s : Nat) (h1 : ¬ s < 4503599627370496) (h2 : s < 9218868437227405312) (w : World) :
    Calls Tryd.prog 58 #[FV 9223372036854775808 53 (-1074) 971 9218868437227405312 9221120237041090561, U s] w fun en w' => en = .returned (.int .i64 2) ∧ Below w.heap.size w w' := by
  have k0 : ((s : Int) == 0) = false := by simp; omega
  have k1 : decide ((s : Int) < 4503599627370496) = false := by exact decide_eq_false (by omega)
  have k2 : decide ((s : Int) < 9218868437227405312) = true := by exact decide_eq_true (by omega)
  have m1 : ((1 : Int) <<< (52 : Nat)) = 4503599627370496 := by decide
  clear h1 h2
  go_enter Tryd.func58, Tryd.ntmps58
  go_wp2_with fail
  go_ret
  exact ⟨rfl, bwAlloc w _⟩
set_option maxRecDepth 20000 in
set_option maxHeartbeats 8000000 in
theorem rcls_64_3 (s : Nat) (h2 : s = 9218868437227405312) (w : World) :
    Calls Tryd.prog 58 #[FV 9223372036854775808 53 (-1074) 971 9218868437227405312 9221120237041090561, U s] w fun en w' => en = .returned (.int .i64 3) ∧ Below w.heap.size w w' := by
  have k0 : ((s : Int) == 0) = false := by simp; omega
  have k1 : decide ((s : Int) < 4503599627370496) = false := by exact decide_eq_false (by omega)
  have k2 : decide ((s : Int) < 9218868437227405312) = false := by exact decide_eq_false (by omega)
  have k3 : ((s : Int) == 9218868437227405312) = true := by simp; omega
  have m1 : ((1 : Int) <<< (52 : Nat)) = 4503599627370496 := by decide
  clear h2
  go_enter Tryd.func58, Tryd.ntmps58
  go_wp2_with fail
  go_ret
  exact ⟨rfl, bwAlloc w _⟩
set_option maxRecDepth 20000 in
set_option maxHeartbeats 8000000 in
theorem rcls_64_4 (s : Nat) (h2 : 9218868437227405312 < s) (w : World) :
    Calls Tryd.prog 58 #[FV 9223372036854775808 53 (-1074) 971 9218868437227405312 9221120237041090561, U s] w fun en w' => en = .returned (.int .i64 4) ∧ Below w.heap.size w w' := by
  have k0 : ((s : Int) == 0) = false := by simp; omega
  have k1 : decide ((s : Int) < 4503599627370496) = false := by exact decide_eq_false (by omega)
  have k2 : decide ((s : Int) < 9218868437227405312) = false := by exact decide_eq_false (by omega)
  have k3 : ((s : Int) == 9218868437227405312) = false := by simp; omega
  have m1 : ((1 : Int) <<< (52 : Nat)) = 4503599627370496 := by decide
  clear h2
  go_enter Tryd.func58, Tryd.ntmps58
  go_wp2_with fail
  go_ret
  exact ⟨rfl, bwAlloc w _⟩
theorem rcls_64 (s : Nat) (w : World) : Calls Tryd.prog 58 #[FV 9223372036854775808 53 (-1074) 971 9218868437227405312 9221120237041090561, U s] w fun en w' => en = .returned (.int .i64 (clsN 4503599627370496 9218868437227405312 s)) ∧ Below w.heap.size w w' := by
  unfold clsN
  by_cases h0 : s = 0
  · rw [if_pos h0]; exact rcls_64_0 s h0 w
  · rw [if_neg h0]
    by_cases h1 : s < 4503599627370496
    · rw [if_pos h1]; exact rcls_64_1 s h0 h1 w
    · rw [if_neg h1]
      by_cases h2 : s < 9218868437227405312
      · rw [if_pos h2]; exact rcls_64_2 s h1 h2 w
      · rw [if_neg h2]
        by_cases h3 : s = 9218868437227405312
        · rw [if_pos h3]; exact rcls_64_3 s h3 w
        · rw [if_neg h3]; exact rcls_64_4 s (by omega) w
set_option maxRecDepth 20000 in
set_option maxHeartbeats 8000000 in
theorem docclass_64 (b : Nat) (hb : b < 2 * 9223372036854775808) (w : World) :
    Calls Tryd.prog 30 #[.int .i64 64, U b] w fun en w' => en = .returned (.tuple #[.int .i64 (clsN 4503599627370496 9218868437227405312 (b % 9223372036854775808)), .int .i64 0]) ∧ Below w.heap.size w w' := by
  have hbw : Below w.heap.size w w := Below.refl _ _
  have HB : Hid (b < 2 * 9223372036854775808) := hb
  obtain ⟨z, hz⟩ : ∃ z, z = b % 9223372036854775808 := ⟨_, rfl⟩
  obtain ⟨c, hc⟩ : ∃ c, c = clsN 4503599627370496 9218868437227405312 z := ⟨_, rfl⟩
  rw [← hz, ← hc]
  have HZ : Hid (b % 9223372036854775808 = z ∧ clsN 4503599627370496 9218868437227405312 z = c) := ⟨hz.symm, hc.symm⟩
  clear hb hz hc
  go_enter Tryd.func30, Tryd.ntmps30
  go_wp2_with fail
  refine (check_ok rf_64 b HB.out _).mono ?_
  rintro e v1 ⟨rfl, hb1⟩
  replace hbw := Below.on hbw hb1
  clear hb1
  go_wp2_with fail
  refine (rof_64 _).mono ?_
  rintro e v2 ⟨rfl, hb2⟩
  replace hbw := Below.on hbw hb2
  clear hb2
  go_wp2_with fail
  have Xk0 : Hid (B6q (v2.alloc (.cells #[U 9223372036854775808, .int .i64 53, .int .i64 (-1074), .int .i64 971, U 9218868437227405312, U 9221120237041090561] 71)) v2.heap.size (U 9223372036854775808) (.int .i64 53) (.int .i64 (-1074)) (.int .i64 971) (U 9218868437227405312) (U 9221120237041090561)) := B6q.new v2 _ _ _ _ _ _ _
  have hbn : Below v2.heap.size v2 (v2.alloc (.cells #[U 9223372036854775808, .int .i64 53, .int .i64 (-1074), .int .i64 971, U 9218868437227405312, U 9221120237041090561] 71)) := below1 v2 _
  generalize v2.alloc (.cells #[U 9223372036854775808, .int .i64 53, .int .i64 (-1074), .int .i64 971, U 9218868437227405312, U 9221120237041090561] 71) = Wk at *
  have HGk : Hid (w.heap.size ≤ v2.heap.size) := hbw.size
  replace hbw := Below.on hbw hbn
  clear hbn
  generalize v2.heap.size = gk at *
  have Xk := Xk0
  clear Xk0
  refine (cut_any (by decide) (by decide) b _).mono ?_
  rintro e v3 ⟨rfl, hb3⟩
  rw [HZ.out.1]
  replace Xk : Hid _ := Xk.out.below hb3
  replace hbw := Below.on hbw hb3
  clear hb3
  obtain ⟨ck0, ck1, ck2, ck3, ck4, ck5, fk0, fk1, fk2, fk3, fk4, fk5⟩ := Xk.out
  have hnek : gk < v3.heap.size := World.block_lt_of_cell? v3 _ ck0
  go_wp2_with fail
  clear ck0 ck1 ck2 ck3 ck4 ck5 fk0 fk1 fk2 fk3 fk4 fk5 hnek
  refine (rcls_64 z _).mono ?_
  rintro e v4 ⟨rfl, hb4⟩
  rw [HZ.out.2]
  replace Xk : Hid _ := Xk.out.below hb4
  replace hbw := Below.on hbw hb4
  clear hb4
  obtain ⟨ck0, ck1, ck2, ck3, ck4, ck5, fk0, fk1, fk2, fk3, fk4, fk5⟩ := Xk.out
  have hnek : gk < v4.heap.size := World.block_lt_of_cell? v4 _ ck0
  go_wp2_with fail
  clear ck0 ck1 ck2 ck3 ck4 ck5 fk0 fk1 fk2 fk3 fk4 fk5 hnek
  go_ret2
  exact ⟨rfl, hbw⟩
end Go.Proofs.YtfkoilaobglddaaDoor

namespace Go.Proofs.YtfkoilaobglddaaDoor
open Go.RowKit Go.Shelf

set_option maxRecDepth 20000 in
set_option maxHeartbeats 8000000 in
theorem sign8_32 (w : World) :
    Calls Tryd.prog 14 #[.int .i64 32] w fun en w' => en = .returned (.int .u64 2147483648) ∧ Below w.heap.size w w' := by
  go_enter Tryd.func14, Tryd.ntmps14
  go_wp2_with fail
  go_ret
  exact ⟨rfl, Below.refl _ _⟩
set_option maxRecDepth 20000 in
set_option maxHeartbeats 8000000 in
theorem fmt8_32 (w : World) :
    Calls Tryd.prog 6 #[.bool true] w fun en w' => en = .returned (.int .i64 32) ∧ Below w.heap.size w w' := by
  go_enter Tryd.func6, Tryd.ntmps6
  go_wp2_with fail
  go_ret
  exact ⟨rfl, Below.refl _ _⟩
set_option maxRecDepth 20000 in
set_option maxHeartbeats 8000000 in
theorem fin8_32 (b : Nat) (hb : b < 2 * 2147483648) (w : World) :
    Calls Tryd.prog 15 #[.int .i64 32, U b] w fun en w' => en = .returned (.tuple #[.bool (decide (b % 2147483648 < 2139095040)), .bool (decide (b % 2147483648 = 0))]) ∧ Below w.heap.size w w' := by
  have hbw : Below w.heap.size w w := Below.refl _ _
  have HB : Hid (b < 2 * 2147483648) := hb
  obtain ⟨z, hz⟩ : ∃ z, z = b % 2147483648 := ⟨_, rfl⟩
  obtain ⟨c, hc⟩ : ∃ c, c = clsN 8388608 2139095040 z := ⟨_, rfl⟩
  have h2 : decide (c ≤ 2) = decide (z < 2139095040) := by
    refine decide_eq_decide.2 ?_
    rw [hc]
    unfold clsN
    by_cases a1 : z = 0
    · rw [if_pos a1]; omega
    · rw [if_neg a1]
      by_cases a2 : z < 8388608
      · rw [if_pos a2]; omega
      · rw [if_neg a2]
        by_cases a3 : z < 2139095040
        · rw [if_pos a3]; omega
        · rw [if_neg a3]; split <;> omega
  have h3 : (c == 0) = decide (z = 0) := by
    have : c = 0 ↔ z = 0 := by
      rw [hc]
      unfold clsN
      by_cases a1 : z = 0
      · rw [if_pos a1]; omega
      · rw [if_neg a1]; split; (· omega); split; (· omega); split <;> omega
    by_cases a1 : z = 0
    · rw [decide_eq_true a1, this.2 a1]; rfl
    · rw [decide_eq_false a1]
      have : c ≠ 0 := fun h => a1 (this.1 h)
      simp [this]
  rw [← hz, ← h2, ← h3]
  have HZ : Hid (b % 2147483648 = z ∧ clsN 8388608 2139095040 z = c) := ⟨hz.symm, hc.symm⟩
  clear hb hz hc h2 h3
  go_enter Tryd.func15, Tryd.ntmps15
  go_wp2_with fail
  refine (docclass_32 b HB.out _).mono ?_
  rintro e v1 ⟨rfl, hb1⟩
  rw [HZ.out.1, HZ.out.2]
  replace hbw := Below.on hbw hb1
  clear hb1
  go_wp2_with fail
  go_ret2
  exact ⟨rfl, hbw⟩
set_option maxRecDepth 20000 in
set_option maxHeartbeats 8000000 in
theorem sign8_64 (w : World) :
    Calls Tryd.prog 14 #[.int .i64 64] w fun en w' => en = .returned (.int .u64 9223372036854775808) ∧ Below w.heap.size w w' := by
  go_enter Tryd.func14, Tryd.ntmps14
  go_wp2_with fail
  go_ret
  exact ⟨rfl, Below.refl _ _⟩
set_option maxRecDepth 20000 in
set_option maxHeartbeats 8000000 in
theorem fmt8_64 (w : World) :
    Calls Tryd.prog 6 #[.bool false] w fun en w' => en = .returned (.int .i64 64) ∧ Below w.heap.size w w' := by
  go_enter Tryd.func6, Tryd.ntmps6
  go_wp2_with fail
  go_ret
  exact ⟨rfl, Below.refl _ _⟩
set_option maxRecDepth 20000 in
set_option maxHeartbeats 8000000 in
theorem fin8_64 (b : Nat) (hb : b < 2 * 9223372036854775808) (w : World) :
    Calls Tryd.prog 15 #[.int .i64 64, U b] w fun en w' => en = .returned (.tuple #[.bool (decide (b % 9223372036854775808 < 9218868437227405312)), .bool (decide (b % 9223372036854775808 = 0))]) ∧ Below w.heap.size w w' := by
  have hbw : Below w.heap.size w w := Below.refl _ _
  have HB : Hid (b < 2 * 9223372036854775808) := hb
  obtain ⟨z, hz⟩ : ∃ z, z = b % 9223372036854775808 := ⟨_, rfl⟩
  obtain ⟨c, hc⟩ : ∃ c, c = clsN 4503599627370496 9218868437227405312 z := ⟨_, rfl⟩
  have h2 : decide (c ≤ 2) = decide (z < 9218868437227405312) := by
    refine decide_eq_decide.2 ?_
    rw [hc]
    unfold clsN
    by_cases a1 : z = 0
    · rw [if_pos a1]; omega
    · rw [if_neg a1]
      by_cases a2 : z < 4503599627370496
      · rw [if_pos a2]; omega
      · rw [if_neg a2]
        by_cases a3 : z < 9218868437227405312
        · rw [if_pos a3]; omega
        · rw [if_neg a3]; split <;> omega
  have h3 : (c == 0) = decide (z = 0) := by
    have : c = 0 ↔ z = 0 := by
      rw [hc]
      unfold clsN
      by_cases a1 : z = 0
      · rw [if_pos a1]; omega
      · rw [if_neg a1]; split; (· omega); split; (· omega); split <;> omega
    by_cases a1 : z = 0
    · rw [decide_eq_true a1, this.2 a1]; rfl
    · rw [decide_eq_false a1]
      have : c ≠ 0 := fun h => a1 (this.1 h)
      simp [this]
  rw [← hz, ← h2, ← h3]
  have HZ : Hid (b % 9223372036854775808 = z ∧ clsN 4503599627370496 9218868437227405312 z = c) := ⟨hz.symm, hc.symm⟩
  clear hb hz hc h2 h3
  go_enter Tryd.func15, Tryd.ntmps15
  go_wp2_with fail
  refine (docclass_64 b HB.out _).mono ?_
  rintro e v1 ⟨rfl, hb1⟩
  rw [HZ.out.1, HZ.out.2]
  replace hbw := Below.on hbw hb1
  clear hb1
  go_wp2_with fail
  go_ret2
  exact ⟨rfl, hbw⟩
set_option maxRecDepth 20000 in
set_option maxHeartbeats 8000000 in
theorem pat8_f (b : Nat) (w : World) :
    Calls Tryd.prog 18 #[.bool false, U b] w fun en w' => en = .returned (U b) ∧ Below w.heap.size w w' := by
  go_enter Tryd.func18, Tryd.ntmps18
  go_wp2_with fail
  go_ret
  exact ⟨rfl, Below.refl _ _⟩
set_option maxRecDepth 20000 in
set_option maxHeartbeats 8000000 in
theorem pat8_t (b : Nat) (hb : b < B64) (w : World) :
    Calls Tryd.prog 18 #[.bool true, U b] w fun en w' => en = .returned (U (b % 4294967296)) ∧ Below w.heap.size w w' := by
  have h1 : bits BinOp.and IntKind.u64 (b : Int) 4294967295 = ((b % 4294967296 : Nat) : Int) := by
    have := bits_and_u64_nat b 4294967295 (by rw [B64_eq] at hb; omega) (by decide)
    rw [show ((4294967295 : Nat) : Int) = 4294967295 from rfl] at this
    rw [this, show b &&& 4294967295 = b % 2 ^ 32 from Nat.and_two_pow_sub_one_eq_mod b 32]
  clear hb
  go_enter Tryd.func18, Tryd.ntmps18
  go_wp2_with fail
  go_ret
  exact ⟨rfl, Below.refl _ _⟩
set_option maxRecDepth 20000 in
set_option maxHeartbeats 8000000 in
theorem at8 {p q : Option Addr} {m c n d : Nat} {w : World} {x y e f : Int} {s t : Bool} (h : DN w s p m c e x) (k : DN w t q n d f y) :
    Calls Tryd.prog 11 #[DV s p m c e, DV t q n d f] w fun en w' => en = .returned (.int .i64 (cmpI (dv x e) (dv y f))) ∧ Below w.heap.size w w' := by
  have H : Hid (DN w s p m c e x) := h
  have K : Hid (DN w t q n d f y) := k
  clear h k
  go_enter Tryd.func11, Tryd.ntmps11
  go_wp2_with fail
  obtain ⟨W0, hW0⟩ : ∃ W0, W0 = ((w.alloc (.cells #[.bool s, .slice p m c, .int .i64 e] 26)).alloc (.cells #[.bool t, .slice q n d, .int .i64 f] 26)) := ⟨_, rfl⟩
  have Xa : Hid (B3q W0 (w.heap.size) (.bool s) (.slice p m c) (.int .i64 e)) := by rw [hW0]; exact ⟨by go_simp, by go_simp, by go_simp, by go_simp, by go_simp, by go_simp⟩
  have Xb : Hid (B3q W0 (w.heap.size + 1) (.bool t) (.slice q n d) (.int .i64 f)) := by rw [hW0]; exact ⟨by go_simp, by go_simp, by go_simp, by go_simp, by go_simp, by go_simp⟩
  have hb0 : Below w.heap.size w W0 := by rw [hW0]; exact below2 w _ _
  rw [← hW0]
  clear hW0
  have hbw : Below w.heap.size w w := Below.refl _ _
  obtain ⟨gb, hgb⟩ : ∃ g, g = w.heap.size + 1 := ⟨_, rfl⟩
  have HGb : Hid (w.heap.size ≤ gb) := by rw [hgb]; show _ ≤ _; omega
  rw [← hgb] at Xb
  try rw [← hgb]
  obtain ⟨ga, hga⟩ : ∃ g, g = w.heap.size := ⟨_, rfl⟩
  have HGa : Hid (w.heap.size ≤ ga) := by rw [hga]; show _ ≤ _; omega
  rw [← hga] at Xa
  try rw [← hga]
  have HGD : Hid (ga ≠ gb ∧ gb ≠ ga) := by rw [hga, hgb]; exact ⟨by omega, by omega⟩
  clear hga hgb
  replace hbw := Below.on hbw hb0
  clear hb0
  refine (dcmp (H.out.below hbw) (K.out.below hbw)).mono ?_
  rintro e v1 ⟨rfl, hb1⟩
  replace Xa : Hid _ := Xa.out.below hb1
  replace Xb : Hid _ := Xb.out.below hb1
  replace hbw := Below.on hbw hb1
  clear hb1
  go_wp2_with fail
  go_ret
  exact ⟨rfl, hbw⟩
end Go.Proofs.YtfkoilaobglddaaDoor

namespace Go.Proofs.YtfkoilaobglddaaDoor
open Go.RowKit Go.Shelf

theorem aw8_a : rnp (-1074) 52 1024 9223372036854775808 9218868437227405312 9007199254740995 0 = 4845873199050653698 := by decide +kernel
theorem aw8_b : rnp (-149) 23 128 2147483648 2139095040 (-1) 0 = 3212836864 := by decide +kernel
set_option maxRecDepth 20000 in
set_option maxHeartbeats 8000000 in
theorem awake8 (w : World) (hT : Tab w) :
    Calls Tryd.prog 9 #[] w fun en w' => en = .returned (.bool true) ∧ Below w.heap.size w w' := by
  have hbw : Below w.heap.size w w := Below.refl _ _
  have TB : Hid (Tab w) := hT
  clear hT
  go_enter Tryd.func9, Tryd.ntmps9
  go_wp2_with fail
  refine (num8 (9007199254740995) (0) (by decide) (by decide) (by decide)).mono ?_
  rintro e2 v1 ⟨s1, g1, m1, c1, rfl, _, hd1, hb1⟩
  replace hbw := Below.on hbw hb1
  clear hb1
  have D1 : Hid (DN v1 s1 (some ⟨g1, 0, none⟩) m1 c1 (0) (9007199254740995)) := hd1
  clear hd1
  go_wp2_with fail
  refine (rnearest jn_64 D1.out (TB.out.below hbw)).mono ?_
  rintro e v2 ⟨rfl, hb2⟩
  rw [aw8_a]
  replace D1 : Hid _ := D1.out.below hb2
  replace hbw := Below.on hbw hb2
  clear hb2
  clear D1
  go_wp2_with fail
  refine (num8 (-1) (0) (by decide) (by decide) (by decide)).mono ?_
  rintro e2 v3 ⟨s3, g3, m3, c3, rfl, _, hd3, hb3⟩
  replace hbw := Below.on hbw hb3
  clear hb3
  have D3 : Hid (DN v3 s3 (some ⟨g3, 0, none⟩) m3 c3 (0) (-1)) := hd3
  clear hd3
  go_wp2_with fail
  refine (rnearest jn_32 D3.out (TB.out.below hbw)).mono ?_
  rintro e v4 ⟨rfl, hb4⟩
  rw [aw8_b]
  replace D3 : Hid _ := D3.out.below hb4
  replace hbw := Below.on hbw hb4
  clear hb4
  clear D3
  go_wp2_with fail
  go_ret
  exact ⟨rfl, hbw⟩
end Go.Proofs.YtfkoilaobglddaaDoor

namespace Go.Proofs.YtfkoilaobglddaaDoor
open Go.RowKit Go.Shelf

set_option maxRecDepth 20000 in
set_option maxHeartbeats 8000000 in
theorem dcmp_fl {p q : Option Addr} {m c n d : Nat} {w : World} {e f : Int} (s t : Bool) {xs : List Nat} (h : At w p m c xs) (hf : formD s xs e = false) :
    Calls Tryd.prog 28 #[DV s p m c e, DV t q n d f] w fun en w' => en = .returned (.tuple #[.int .i64 0, .int .i64 2]) ∧ Below w.heap.size w w' := by
  have A : Hid (At w p m c xs ∧ formD s xs e = false) := ⟨h, hf⟩
  clear h hf
  go_enter Tryd.func28, Tryd.ntmps28
  go_wp2_with fail
  obtain ⟨W0, hW0⟩ : ∃ W0, W0 = ((w.alloc (.cells #[.bool s, .slice p m c, .int .i64 e] 26)).alloc (.cells #[.bool t, .slice q n d, .int .i64 f] 26)) := ⟨_, rfl⟩
  have Xa : Hid (B3q W0 (w.heap.size) (.bool s) (.slice p m c) (.int .i64 e)) := by rw [hW0]; exact ⟨by go_simp, by go_simp, by go_simp, by go_simp, by go_simp, by go_simp⟩
  have Xb : Hid (B3q W0 (w.heap.size + 1) (.bool t) (.slice q n d) (.int .i64 f)) := by rw [hW0]; exact ⟨by go_simp, by go_simp, by go_simp, by go_simp, by go_simp, by go_simp⟩
  have hb0 : Below w.heap.size w W0 := by rw [hW0]; exact below2 w _ _
  rw [← hW0]
  clear hW0
  have hbw : Below w.heap.size w w := Below.refl _ _
  obtain ⟨gb, hgb⟩ : ∃ g, g = w.heap.size + 1 := ⟨_, rfl⟩
  have HGb : Hid (w.heap.size ≤ gb) := by rw [hgb]; show _ ≤ _; omega
  rw [← hgb] at Xb
  try rw [← hgb]
  obtain ⟨ga, hga⟩ : ∃ g, g = w.heap.size := ⟨_, rfl⟩
  have HGa : Hid (w.heap.size ≤ ga) := by rw [hga]; show _ ≤ _; omega
  rw [← hga] at Xa
  try rw [← hga]
  have HGD : Hid (ga ≠ gb ∧ gb ≠ ga) := by rw [hga, hgb]; exact ⟨by omega, by omega⟩
  clear hga hgb
  replace hbw := Below.on hbw hb0
  clear hb0
  refine (dform_f s (A.out.1.below hbw) A.out.2).mono ?_
  rintro e2 v2 ⟨rfl, hb2⟩
  replace Xa : Hid _ := Xa.out.below hb2
  replace Xb : Hid _ := Xb.out.below hb2
  replace hbw := Below.on hbw hb2
  clear hb2
  go_wp2_with fail
  go_ret2
  exact ⟨rfl, hbw⟩
set_option maxRecDepth 20000 in
set_option maxHeartbeats 8000000 in
theorem dcmp_fr {p q : Option Addr} {m c n d : Nat} {w : World} {e f : Int} (s t : Bool) {xs : List Nat} {x : Int} (k : DN w s p m c e x) (h : At w q n d xs) (hf : formD t xs f = false) :
    Calls Tryd.prog 28 #[DV s p m c e, DV t q n d f] w fun en w' => en = .returned (.tuple #[.int .i64 0, .int .i64 2]) ∧ Below w.heap.size w w' := by
  have A : Hid (At w q n d xs ∧ formD t xs f = false) := ⟨h, hf⟩
  have K : Hid (DN w s p m c e x) := k
  clear k
  clear h hf
  go_enter Tryd.func28, Tryd.ntmps28
  go_wp2_with fail
  obtain ⟨W0, hW0⟩ : ∃ W0, W0 = ((w.alloc (.cells #[.bool s, .slice p m c, .int .i64 e] 26)).alloc (.cells #[.bool t, .slice q n d, .int .i64 f] 26)) := ⟨_, rfl⟩
  have Xa : Hid (B3q W0 (w.heap.size) (.bool s) (.slice p m c) (.int .i64 e)) := by rw [hW0]; exact ⟨by go_simp, by go_simp, by go_simp, by go_simp, by go_simp, by go_simp⟩
  have Xb : Hid (B3q W0 (w.heap.size + 1) (.bool t) (.slice q n d) (.int .i64 f)) := by rw [hW0]; exact ⟨by go_simp, by go_simp, by go_simp, by go_simp, by go_simp, by go_simp⟩
  have hb0 : Below w.heap.size w W0 := by rw [hW0]; exact below2 w _ _
  rw [← hW0]
  clear hW0
  have hbw : Below w.heap.size w w := Below.refl _ _
  obtain ⟨gb, hgb⟩ : ∃ g, g = w.heap.size + 1 := ⟨_, rfl⟩
  have HGb : Hid (w.heap.size ≤ gb) := by rw [hgb]; show _ ≤ _; omega
  rw [← hgb] at Xb
  try rw [← hgb]
  obtain ⟨ga, hga⟩ : ∃ g, g = w.heap.size := ⟨_, rfl⟩
  have HGa : Hid (w.heap.size ≤ ga) := by rw [hga]; show _ ≤ _; omega
  rw [← hga] at Xa
  try rw [← hga]
  have HGD : Hid (ga ≠ gb ∧ gb ≠ ga) := by rw [hga, hgb]; exact ⟨by omega, by omega⟩
  clear hga hgb
  replace hbw := Below.on hbw hb0
  clear hb0
  refine (dform_t (K.out.below hbw)).mono ?_
  rintro e v1 ⟨rfl, hb1⟩
  replace Xa : Hid _ := Xa.out.below hb1
  replace Xb : Hid _ := Xb.out.below hb1
  replace hbw := Below.on hbw hb1
  clear hb1
  obtain ⟨cb0, cb1, cb2, fb0, fb1, fb2⟩ := Xb.out
  have hneb : gb < v1.heap.size := World.block_lt_of_cell? v1 _ cb0
  go_wp2_with fail
  clear cb0 cb1 cb2 fb0 fb1 fb2 hneb
  refine (dform_f t (A.out.1.below hbw) A.out.2).mono ?_
  rintro e2 v2 ⟨rfl, hb2⟩
  replace Xa : Hid _ := Xa.out.below hb2
  replace Xb : Hid _ := Xb.out.below hb2
  replace hbw := Below.on hbw hb2
  clear hb2
  go_wp2_with fail
  go_ret2
  exact ⟨rfl, hbw⟩
end Go.Proofs.YtfkoilaobglddaaDoor

namespace Go.Proofs.YtfkoilaobglddaaDoor
open Go.RowKit Go.Shelf

theorem results_t3 {fn : Func} {a b c : Tmp} (h : fn.results = #[.tmp a, .tmp b, .tmp c]) (tmps : Array Value) (P : Program) (w : World) :
    (results fn tmps).run P w = .ok (.tuple #[tmps.getD a undef, tmps.getD b undef, tmps.getD c undef]) w := by
  simp only [results, h]
  simp
set_option maxRecDepth 20000 in
set_option maxHeartbeats 8000000 in
theorem sform_t {s1 s2 : Bool} {p1 p2 : Option Addr} {m1 m2 c1 c2 : Nat} {e1 e2 : Int} {w : World} {x y : Int} (h : DN w s1 p1 m1 c1 e1 x) (k : DN w s2 p2 m2 c2 e2 y) (hc : dv x e1 ≤ dv y e2) :
    Calls Tryd.prog 23 #[SV s1 p1 m1 c1 e1 s2 p2 m2 c2 e2] w fun en w' => en = .returned (.bool true) ∧ Below w.heap.size w w' := by
  have A : Hid (DN w s1 p1 m1 c1 e1 x) := h
  have B : Hid (DN w s2 p2 m2 c2 e2 y) := k
  obtain ⟨cc, hcc⟩ : ∃ cc, cc = cmpI (dv x e1) (dv y e2) := ⟨_, rfl⟩
  have HCC : Hid (cmpI (dv x e1) (dv y e2) = cc) := hcc.symm
  have k1 : decide (cc ≤ 0) = true := by rw [hcc]; unfold cmpI; by_cases a : dv x e1 < dv y e2; (· rw [if_pos a]; rfl); rw [if_neg a, if_pos (by omega)]; rfl
  clear h k hc hcc
  go_enter Tryd.func23, Tryd.ntmps23
  go_wp2_with fail
  obtain ⟨W0, hW0⟩ : ∃ W0, W0 = (w.alloc (.cells #[.bool s1, .slice p1 m1 c1, .int .i64 e1, .bool s2, .slice p2 m2 c2, .int .i64 e2] 28)) := ⟨_, rfl⟩
  have Xs : Hid (B6q W0 (w.heap.size) (.bool s1) (.slice p1 m1 c1) (.int .i64 e1) (.bool s2) (.slice p2 m2 c2) (.int .i64 e2)) := by rw [hW0]; exact ⟨by go_simp, by go_simp, by go_simp, by go_simp, by go_simp, by go_simp, by go_simp, by go_simp, by go_simp, by go_simp, by go_simp, by go_simp⟩
  have hb0 : Below w.heap.size w W0 := by rw [hW0]; exact below1 w _
  rw [← hW0]
  clear hW0
  have hbw : Below w.heap.size w w := Below.refl _ _
  obtain ⟨gs, hgs⟩ : ∃ g, g = w.heap.size := ⟨_, rfl⟩
  have HGs : Hid (w.heap.size ≤ gs) := by rw [hgs]; show _ ≤ _; omega
  rw [← hgs] at Xs
  try rw [← hgs]
  clear hgs
  replace hbw := Below.on hbw hb0
  clear hb0
  refine (dcmp (A.out.below hbw) (B.out.below hbw)).mono ?_
  rintro e v1 ⟨rfl, hb1⟩
  rw [HCC.out]
  replace Xs : Hid _ := Xs.out.below hb1
  replace hbw := Below.on hbw hb1
  clear hb1
  go_wp2_with fail
  go_ret
  exact ⟨rfl, hbw⟩
set_option maxRecDepth 20000 in
set_option maxHeartbeats 8000000 in
theorem sform_g {s1 s2 : Bool} {p1 p2 : Option Addr} {m1 m2 c1 c2 : Nat} {e1 e2 : Int} {w : World} {x y : Int} (h : DN w s1 p1 m1 c1 e1 x) (k : DN w s2 p2 m2 c2 e2 y) (hc : dv y e2 < dv x e1) :
    Calls Tryd.prog 23 #[SV s1 p1 m1 c1 e1 s2 p2 m2 c2 e2] w fun en w' => en = .returned (.bool false) ∧ Below w.heap.size w w' := by
  have A : Hid (DN w s1 p1 m1 c1 e1 x) := h
  have B : Hid (DN w s2 p2 m2 c2 e2 y) := k
  have HCC : Hid (cmpI (dv x e1) (dv y e2) = 1) := cmp_g hc
  clear h k hc
  go_enter Tryd.func23, Tryd.ntmps23
  go_wp2_with fail
  obtain ⟨W0, hW0⟩ : ∃ W0, W0 = (w.alloc (.cells #[.bool s1, .slice p1 m1 c1, .int .i64 e1, .bool s2, .slice p2 m2 c2, .int .i64 e2] 28)) := ⟨_, rfl⟩
  have Xs : Hid (B6q W0 (w.heap.size) (.bool s1) (.slice p1 m1 c1) (.int .i64 e1) (.bool s2) (.slice p2 m2 c2) (.int .i64 e2)) := by rw [hW0]; exact ⟨by go_simp, by go_simp, by go_simp, by go_simp, by go_simp, by go_simp, by go_simp, by go_simp, by go_simp, by go_simp, by go_simp, by go_simp⟩
  have hb0 : Below w.heap.size w W0 := by rw [hW0]; exact below1 w _
  rw [← hW0]
  clear hW0
  have hbw : Below w.heap.size w w := Below.refl _ _
  obtain ⟨gs, hgs⟩ : ∃ g, g = w.heap.size := ⟨_, rfl⟩
  have HGs : Hid (w.heap.size ≤ gs) := by rw [hgs]; show _ ≤ _; omega
  rw [← hgs] at Xs
  try rw [← hgs]
  clear hgs
  replace hbw := Below.on hbw hb0
  clear hb0
  refine (dcmp (A.out.below hbw) (B.out.below hbw)).mono ?_
  rintro e v1 ⟨rfl, hb1⟩
  rw [HCC.out]
  replace Xs : Hid _ := Xs.out.below hb1
  replace hbw := Below.on hbw hb1
  clear hb1
  go_wp2_with fail
  go_ret
  exact ⟨rfl, hbw⟩
set_option maxRecDepth 20000 in
set_option maxHeartbeats 8000000 in
theorem sform_l {s1 s2 : Bool} {p1 p2 : Option Addr} {m1 m2 c1 c2 : Nat} {e1 e2 : Int} {w : World} {xs : List Nat} (h : At w p1 m1 c1 xs) (hf : formD s1 xs e1 = false) :
    Calls Tryd.prog 23 #[SV s1 p1 m1 c1 e1 s2 p2 m2 c2 e2] w fun en w' => en = .returned (.bool false) ∧ Below w.heap.size w w' := by
  have A : Hid (At w p1 m1 c1 xs ∧ formD s1 xs e1 = false) := ⟨h, hf⟩
  clear h hf
  go_enter Tryd.func23, Tryd.ntmps23
  go_wp2_with fail
  obtain ⟨W0, hW0⟩ : ∃ W0, W0 = (w.alloc (.cells #[.bool s1, .slice p1 m1 c1, .int .i64 e1, .bool s2, .slice p2 m2 c2, .int .i64 e2] 28)) := ⟨_, rfl⟩
  have Xs : Hid (B6q W0 (w.heap.size) (.bool s1) (.slice p1 m1 c1) (.int .i64 e1) (.bool s2) (.slice p2 m2 c2) (.int .i64 e2)) := by rw [hW0]; exact ⟨by go_simp, by go_simp, by go_simp, by go_simp, by go_simp, by go_simp, by go_simp, by go_simp, by go_simp, by go_simp, by go_simp, by go_simp⟩
  have hb0 : Below w.heap.size w W0 := by rw [hW0]; exact below1 w _
  rw [← hW0]
  clear hW0
  have hbw : Below w.heap.size w w := Below.refl _ _
  obtain ⟨gs, hgs⟩ : ∃ g, g = w.heap.size := ⟨_, rfl⟩
  have HGs : Hid (w.heap.size ≤ gs) := by rw [hgs]; show _ ≤ _; omega
  rw [← hgs] at Xs
  try rw [← hgs]
  clear hgs
  replace hbw := Below.on hbw hb0
  clear hb0
  refine (dcmp_fl s1 s2 (A.out.1.below hbw) A.out.2).mono ?_
  rintro e v1 ⟨rfl, hb1⟩
  replace Xs : Hid _ := Xs.out.below hb1
  replace hbw := Below.on hbw hb1
  clear hb1
  go_wp2_with fail
  go_ret
  exact ⟨rfl, hbw⟩
set_option maxRecDepth 20000 in
set_option maxHeartbeats 8000000 in
theorem sform_r {s1 s2 : Bool} {p1 p2 : Option Addr} {m1 m2 c1 c2 : Nat} {e1 e2 : Int} {w : World} {x : Int} {xs : List Nat} (k : DN w s1 p1 m1 c1 e1 x) (h : At w p2 m2 c2 xs) (hf : formD s2 xs e2 = false) :
    Calls Tryd.prog 23 #[SV s1 p1 m1 c1 e1 s2 p2 m2 c2 e2] w fun en w' => en = .returned (.bool false) ∧ Below w.heap.size w w' := by
  have A : Hid (At w p2 m2 c2 xs ∧ formD s2 xs e2 = false) := ⟨h, hf⟩
  have B : Hid (DN w s1 p1 m1 c1 e1 x) := k
  clear h k hf
  go_enter Tryd.func23, Tryd.ntmps23
  go_wp2_with fail
  obtain ⟨W0, hW0⟩ : ∃ W0, W0 = (w.alloc (.cells #[.bool s1, .slice p1 m1 c1, .int .i64 e1, .bool s2, .slice p2 m2 c2, .int .i64 e2] 28)) := ⟨_, rfl⟩
  have Xs : Hid (B6q W0 (w.heap.size) (.bool s1) (.slice p1 m1 c1) (.int .i64 e1) (.bool s2) (.slice p2 m2 c2) (.int .i64 e2)) := by rw [hW0]; exact ⟨by go_simp, by go_simp, by go_simp, by go_simp, by go_simp, by go_simp, by go_simp, by go_simp, by go_simp, by go_simp, by go_simp, by go_simp⟩
  have hb0 : Below w.heap.size w W0 := by rw [hW0]; exact below1 w _
  rw [← hW0]
  clear hW0
  have hbw : Below w.heap.size w w := Below.refl _ _
  obtain ⟨gs, hgs⟩ : ∃ g, g = w.heap.size := ⟨_, rfl⟩
  have HGs : Hid (w.heap.size ≤ gs) := by rw [hgs]; show _ ≤ _; omega
  rw [← hgs] at Xs
  try rw [← hgs]
  clear hgs
  replace hbw := Below.on hbw hb0
  clear hb0
  refine (dcmp_fr s1 s2 (B.out.below hbw) (A.out.1.below hbw) A.out.2).mono ?_
  rintro e v1 ⟨rfl, hb1⟩
  replace Xs : Hid _ := Xs.out.below hb1
  replace hbw := Below.on hbw hb1
  clear hb1
  go_wp2_with fail
  go_ret
  exact ⟨rfl, hbw⟩
set_option maxRecDepth 20000 in
set_option maxHeartbeats 8000000 in
theorem decide_f {f p m l : Int} {S I H sd : Nat} {Be : Int} (J : Jn f p m l S I H sd Be) {s1 s2 : Bool} {p1 p2 : Option Addr} {m1 m2 c1 c2 : Nat} {e1 e2 : Int} {w : World} (hF : ∀ w', Below w.heap.size w w' → Calls Tryd.prog 23 #[SV s1 p1 m1 c1 e1 s2 p2 m2 c2 e2] w' fun en w2 => en = .returned (.bool false) ∧ Below w'.heap.size w' w2) :
    Calls Tryd.prog 7 #[.int .i64 f, SV s1 p1 m1 c1 e1 s2 p2 m2 c2 e2] w fun en w' => en = .returned (.tuple #[.int .u64 0, .bool false, .int .i64 2]) ∧ Below w.heap.size w w' := by
  have HJN : Hid (Jn f p m l S I H sd Be) := J
  have HF : Hid (∀ w', Below w.heap.size w w' → Calls Tryd.prog 23 #[SV s1 p1 m1 c1 e1 s2 p2 m2 c2 e2] w' fun en w2 => en = .returned (.bool false) ∧ Below w'.heap.size w' w2) := hF
  clear J hF
  go_enter Tryd.func7, Tryd.ntmps7
  go_wp2_with fail
  obtain ⟨W0, hW0⟩ : ∃ W0, W0 = (w.alloc (.cells #[.bool s1, .slice p1 m1 c1, .int .i64 e1, .bool s2, .slice p2 m2 c2, .int .i64 e2] 28)) := ⟨_, rfl⟩
  have Xs : Hid (B6q W0 (w.heap.size) (.bool s1) (.slice p1 m1 c1) (.int .i64 e1) (.bool s2) (.slice p2 m2 c2) (.int .i64 e2)) := by rw [hW0]; exact ⟨by go_simp, by go_simp, by go_simp, by go_simp, by go_simp, by go_simp, by go_simp, by go_simp, by go_simp, by go_simp, by go_simp, by go_simp⟩
  have hb0 : Below w.heap.size w W0 := by rw [hW0]; exact below1 w _
  rw [← hW0]
  clear hW0
  have hbw : Below w.heap.size w w := Below.refl _ _
  obtain ⟨gs, hgs⟩ : ∃ g, g = w.heap.size := ⟨_, rfl⟩
  have HGs : Hid (w.heap.size ≤ gs) := by rw [hgs]; show _ ≤ _; omega
  rw [← hgs] at Xs
  try rw [← hgs]
  clear hgs
  replace hbw := Below.on hbw hb0
  clear hb0
  refine (HJN.out.jm.pm.fm.of _).mono ?_
  rintro e v1 ⟨rfl, hb1⟩
  replace Xs : Hid _ := Xs.out.below hb1
  replace hbw := Below.on hbw hb1
  clear hb1
  obtain ⟨cs0, cs1, cs2, cs3, cs4, cs5, fs0, fs1, fs2, fs3, fs4, fs5⟩ := Xs.out
  have hnes : gs < v1.heap.size := World.block_lt_of_cell? v1 _ cs0
  go_wp2_with fail
  clear cs0 cs1 cs2 cs3 cs4 cs5 fs0 fs1 fs2 fs3 fs4 fs5 hnes
  have Xg0 : Hid (B3q (v1.alloc (.cells #[.int .i64 p, .int .i64 m, .int .i64 l] 55)) v1.heap.size (.int .i64 p) (.int .i64 m) (.int .i64 l)) := B3q.new v1 _ _ _ _
  have hbn : Below v1.heap.size v1 (v1.alloc (.cells #[.int .i64 p, .int .i64 m, .int .i64 l] 55)) := below1 v1 _
  generalize v1.alloc (.cells #[.int .i64 p, .int .i64 m, .int .i64 l] 55) = Wg at *
  have HGg : Hid (w.heap.size ≤ v1.heap.size) := hbw.size
  replace Xs : Hid _ := Xs.out.below hbn
  replace hbw := Below.on hbw hbn
  clear hbn
  generalize v1.heap.size = gg at *
  have Xg := Xg0
  clear Xg0
  refine (HF.out _ hbw).mono ?_
  rintro e2 v2 ⟨rfl, hb2⟩
  replace Xs : Hid _ := Xs.out.below hb2
  replace Xg : Hid _ := Xg.out.below hb2
  replace hbw := Below.on hbw hb2
  clear hb2
  go_wp2_with fail
  refine bodyPost_ret (v := .tuple #[.int .u64 0, .bool false, .int .i64 2]) (by rw [results_t3 rfl]; go_simp) rfl ⟨rfl, hbw⟩
set_option maxRecDepth 20000 in
set_option maxHeartbeats 8000000 in
theorem decide_y {f p m l : Int} {S I H sd : Nat} {Be : Int} (J : Jn f p m l S I H sd Be) {s1 s2 : Bool} {p1 p2 : Option Addr} {m1 m2 c1 c2 : Nat} {e1 e2 : Int} {w : World} {x y : Int} (h : DN w s1 p1 m1 c1 e1 x) (k : DN w s2 p2 m2 c2 e2 y) (hc : dv x e1 ≤ dv y e2) (hq : rnp l sd Be S I x e1 = rnp l sd Be S I y e2) (hT : Tab w) :
    Calls Tryd.prog 7 #[.int .i64 f, SV s1 p1 m1 c1 e1 s2 p2 m2 c2 e2] w fun en w' => en = .returned (.tuple #[U (rnp l sd Be S I x e1), .bool true, .int .i64 0]) ∧ Below w.heap.size w w' := by
  have HJN : Hid (Jn f p m l S I H sd Be) := J
  have A : Hid (DN w s1 p1 m1 c1 e1 x) := h
  have B : Hid (DN w s2 p2 m2 c2 e2 y) := k
  have HC : Hid (dv x e1 ≤ dv y e2) := hc
  have TB : Hid (Tab w) := hT
  have HE : Hid ((-4194304 ≤ e1 ∧ e1 ≤ 4194304) ∧ -4194304 ≤ e2 ∧ e2 ≤ 4194304) := by
    refine ⟨?_, ?_⟩
    · rcases h.fm with ⟨_, h2⟩ | ⟨_, h2, h3⟩ <;> omega
    · rcases k.fm with ⟨_, h2⟩ | ⟨_, h2, h3⟩ <;> omega
  obtain ⟨ra, hra⟩ : ∃ r, r = rnp l sd Be S I x e1 := ⟨_, rfl⟩
  obtain ⟨rb, hrb⟩ : ∃ r, r = rnp l sd Be S I y e2 := ⟨_, rfl⟩
  rw [← hra, ← hrb] at hq
  rw [← hra]
  have HR : Hid (rnp l sd Be S I x e1 = ra ∧ rnp l sd Be S I y e2 = rb) := ⟨hra.symm, hrb.symm⟩
  have q1 : ((ra : Int) == (rb : Int)) = true := by simp; omega
  clear J h k hc hT hra hrb
  subst hq
  go_enter Tryd.func7, Tryd.ntmps7
  go_wp2_with fail
  obtain ⟨W0, hW0⟩ : ∃ W0, W0 = (w.alloc (.cells #[.bool s1, .slice p1 m1 c1, .int .i64 e1, .bool s2, .slice p2 m2 c2, .int .i64 e2] 28)) := ⟨_, rfl⟩
  have Xs : Hid (B6q W0 (w.heap.size) (.bool s1) (.slice p1 m1 c1) (.int .i64 e1) (.bool s2) (.slice p2 m2 c2) (.int .i64 e2)) := by rw [hW0]; exact ⟨by go_simp, by go_simp, by go_simp, by go_simp, by go_simp, by go_simp, by go_simp, by go_simp, by go_simp, by go_simp, by go_simp, by go_simp⟩
  have hb0 : Below w.heap.size w W0 := by rw [hW0]; exact below1 w _
  rw [← hW0]
  clear hW0
  have hbw : Below w.heap.size w w := Below.refl _ _
  obtain ⟨gs, hgs⟩ : ∃ g, g = w.heap.size := ⟨_, rfl⟩
  have HGs : Hid (w.heap.size ≤ gs) := by rw [hgs]; show _ ≤ _; omega
  rw [← hgs] at Xs
  try rw [← hgs]
  clear hgs
  replace hbw := Below.on hbw hb0
  clear hb0
  refine (HJN.out.jm.pm.fm.of _).mono ?_
  rintro e v1 ⟨rfl, hb1⟩
  replace Xs : Hid _ := Xs.out.below hb1
  replace hbw := Below.on hbw hb1
  clear hb1
  obtain ⟨cs0, cs1, cs2, cs3, cs4, cs5, fs0, fs1, fs2, fs3, fs4, fs5⟩ := Xs.out
  have hnes : gs < v1.heap.size := World.block_lt_of_cell? v1 _ cs0
  go_wp2_with fail
  clear cs0 cs1 cs2 cs3 cs4 cs5 fs0 fs1 fs2 fs3 fs4 fs5 hnes
  have Xg0 : Hid (B3q (v1.alloc (.cells #[.int .i64 p, .int .i64 m, .int .i64 l] 55)) v1.heap.size (.int .i64 p) (.int .i64 m) (.int .i64 l)) := B3q.new v1 _ _ _ _
  have hbn : Below v1.heap.size v1 (v1.alloc (.cells #[.int .i64 p, .int .i64 m, .int .i64 l] 55)) := below1 v1 _
  generalize v1.alloc (.cells #[.int .i64 p, .int .i64 m, .int .i64 l] 55) = Wg at *
  have HGg : Hid (w.heap.size ≤ v1.heap.size) := hbw.size
  replace Xs : Hid _ := Xs.out.below hbn
  replace hbw := Below.on hbw hbn
  clear hbn
  generalize v1.heap.size = gg at *
  have Xg := Xg0
  clear Xg0
  refine (sform_t (A.out.below hbw) (B.out.below hbw) HC.out).mono ?_
  rintro e v2 ⟨rfl, hb2⟩
  replace Xs : Hid _ := Xs.out.below hb2
  replace Xg : Hid _ := Xg.out.below hb2
  replace hbw := Below.on hbw hb2
  clear hb2
  obtain ⟨cs0, cs1, cs2, cs3, cs4, cs5, fs0, fs1, fs2, fs3, fs4, fs5⟩ := Xs.out
  have hnes : gs < v2.heap.size := World.block_lt_of_cell? v2 _ cs0
  obtain ⟨cg0, cg1, cg2, fg0, fg1, fg2⟩ := Xg.out
  have hneg : gg < v2.heap.size := World.block_lt_of_cell? v2 _ cg0
  go_wp2_with fail
  clear cs0 cs1 cs2 cs3 cs4 cs5 fs0 fs1 fs2 fs3 fs4 fs5 hnes
  clear cg0 cg1 cg2 fg0 fg1 fg2 hneg
  refine (nearest_ok HJN.out (A.out.zn.below hbw) HE.out.1 (TB.out.below hbw)).mono ?_
  rintro e v3 ⟨rfl, hb3⟩
  rw [HR.out.1]
  replace Xs : Hid _ := Xs.out.below hb3
  replace Xg : Hid _ := Xg.out.below hb3
  replace hbw := Below.on hbw hb3
  clear hb3
  obtain ⟨cs0, cs1, cs2, cs3, cs4, cs5, fs0, fs1, fs2, fs3, fs4, fs5⟩ := Xs.out
  have hnes : gs < v3.heap.size := World.block_lt_of_cell? v3 _ cs0
  obtain ⟨cg0, cg1, cg2, fg0, fg1, fg2⟩ := Xg.out
  have hneg : gg < v3.heap.size := World.block_lt_of_cell? v3 _ cg0
  go_wp2_with fail
  clear cs0 cs1 cs2 cs3 cs4 cs5 fs0 fs1 fs2 fs3 fs4 fs5 hnes
  clear cg0 cg1 cg2 fg0 fg1 fg2 hneg
  refine (nearest_ok HJN.out (B.out.zn.below hbw) HE.out.2 (TB.out.below hbw)).mono ?_
  rintro e v4 ⟨rfl, hb4⟩
  rw [HR.out.2]
  replace Xs : Hid _ := Xs.out.below hb4
  replace Xg : Hid _ := Xg.out.below hb4
  replace hbw := Below.on hbw hb4
  clear hb4
  obtain ⟨cs0, cs1, cs2, cs3, cs4, cs5, fs0, fs1, fs2, fs3, fs4, fs5⟩ := Xs.out
  have hnes : gs < v4.heap.size := World.block_lt_of_cell? v4 _ cs0
  obtain ⟨cg0, cg1, cg2, fg0, fg1, fg2⟩ := Xg.out
  have hneg : gg < v4.heap.size := World.block_lt_of_cell? v4 _ cg0
  go_wp2_with fail
  clear cs0 cs1 cs2 cs3 cs4 cs5 fs0 fs1 fs2 fs3 fs4 fs5 hnes
  clear cg0 cg1 cg2 fg0 fg1 fg2 hneg
  refine bodyPost_ret (v := .tuple #[U ra, .bool true, .int .i64 0]) (by rw [results_t3 rfl]; go_simp) rfl ⟨rfl, hbw⟩
set_option maxRecDepth 20000 in
set_option maxHeartbeats 8000000 in
theorem decide_n {f p m l : Int} {S I H sd : Nat} {Be : Int} (J : Jn f p m l S I H sd Be) {s1 s2 : Bool} {p1 p2 : Option Addr} {m1 m2 c1 c2 : Nat} {e1 e2 : Int} {w : World} {x y : Int} (h : DN w s1 p1 m1 c1 e1 x) (k : DN w s2 p2 m2 c2 e2 y) (hc : dv x e1 ≤ dv y e2) (hq : ¬ rnp l sd Be S I x e1 = rnp l sd Be S I y e2) (hT : Tab w) :
    Calls Tryd.prog 7 #[.int .i64 f, SV s1 p1 m1 c1 e1 s2 p2 m2 c2 e2] w fun en w' => en = .returned (.tuple #[.int .u64 0, .bool false, .int .i64 0]) ∧ Below w.heap.size w w' := by
  have HJN : Hid (Jn f p m l S I H sd Be) := J
  have A : Hid (DN w s1 p1 m1 c1 e1 x) := h
  have B : Hid (DN w s2 p2 m2 c2 e2 y) := k
  have HC : Hid (dv x e1 ≤ dv y e2) := hc
  have TB : Hid (Tab w) := hT
  have HE : Hid ((-4194304 ≤ e1 ∧ e1 ≤ 4194304) ∧ -4194304 ≤ e2 ∧ e2 ≤ 4194304) := by
    refine ⟨?_, ?_⟩
    · rcases h.fm with ⟨_, h2⟩ | ⟨_, h2, h3⟩ <;> omega
    · rcases k.fm with ⟨_, h2⟩ | ⟨_, h2, h3⟩ <;> omega
  obtain ⟨ra, hra⟩ : ∃ r, r = rnp l sd Be S I x e1 := ⟨_, rfl⟩
  obtain ⟨rb, hrb⟩ : ∃ r, r = rnp l sd Be S I y e2 := ⟨_, rfl⟩
  rw [← hra, ← hrb] at hq
  skip
  have HR : Hid (rnp l sd Be S I x e1 = ra ∧ rnp l sd Be S I y e2 = rb) := ⟨hra.symm, hrb.symm⟩
  have q1 : ((ra : Int) == (rb : Int)) = false := by simp; omega
  clear J h k hc hT hra hrb
  clear hq
  go_enter Tryd.func7, Tryd.ntmps7
  go_wp2_with fail
  obtain ⟨W0, hW0⟩ : ∃ W0, W0 = (w.alloc (.cells #[.bool s1, .slice p1 m1 c1, .int .i64 e1, .bool s2, .slice p2 m2 c2, .int .i64 e2] 28)) := ⟨_, rfl⟩
  have Xs : Hid (B6q W0 (w.heap.size) (.bool s1) (.slice p1 m1 c1) (.int .i64 e1) (.bool s2) (.slice p2 m2 c2) (.int .i64 e2)) := by rw [hW0]; exact ⟨by go_simp, by go_simp, by go_simp, by go_simp, by go_simp, by go_simp, by go_simp, by go_simp, by go_simp, by go_simp, by go_simp, by go_simp⟩
  have hb0 : Below w.heap.size w W0 := by rw [hW0]; exact below1 w _
  rw [← hW0]
  clear hW0
  have hbw : Below w.heap.size w w := Below.refl _ _
  obtain ⟨gs, hgs⟩ : ∃ g, g = w.heap.size := ⟨_, rfl⟩
  have HGs : Hid (w.heap.size ≤ gs) := by rw [hgs]; show _ ≤ _; omega
  rw [← hgs] at Xs
  try rw [← hgs]
  clear hgs
  replace hbw := Below.on hbw hb0
  clear hb0
  refine (HJN.out.jm.pm.fm.of _).mono ?_
  rintro e v1 ⟨rfl, hb1⟩
  replace Xs : Hid _ := Xs.out.below hb1
  replace hbw := Below.on hbw hb1
  clear hb1
  obtain ⟨cs0, cs1, cs2, cs3, cs4, cs5, fs0, fs1, fs2, fs3, fs4, fs5⟩ := Xs.out
  have hnes : gs < v1.heap.size := World.block_lt_of_cell? v1 _ cs0
  go_wp2_with fail
  clear cs0 cs1 cs2 cs3 cs4 cs5 fs0 fs1 fs2 fs3 fs4 fs5 hnes
  have Xg0 : Hid (B3q (v1.alloc (.cells #[.int .i64 p, .int .i64 m, .int .i64 l] 55)) v1.heap.size (.int .i64 p) (.int .i64 m) (.int .i64 l)) := B3q.new v1 _ _ _ _
  have hbn : Below v1.heap.size v1 (v1.alloc (.cells #[.int .i64 p, .int .i64 m, .int .i64 l] 55)) := below1 v1 _
  generalize v1.alloc (.cells #[.int .i64 p, .int .i64 m, .int .i64 l] 55) = Wg at *
  have HGg : Hid (w.heap.size ≤ v1.heap.size) := hbw.size
  replace Xs : Hid _ := Xs.out.below hbn
  replace hbw := Below.on hbw hbn
  clear hbn
  generalize v1.heap.size = gg at *
  have Xg := Xg0
  clear Xg0
  refine (sform_t (A.out.below hbw) (B.out.below hbw) HC.out).mono ?_
  rintro e v2 ⟨rfl, hb2⟩
  replace Xs : Hid _ := Xs.out.below hb2
  replace Xg : Hid _ := Xg.out.below hb2
  replace hbw := Below.on hbw hb2
  clear hb2
  obtain ⟨cs0, cs1, cs2, cs3, cs4, cs5, fs0, fs1, fs2, fs3, fs4, fs5⟩ := Xs.out
  have hnes : gs < v2.heap.size := World.block_lt_of_cell? v2 _ cs0
  obtain ⟨cg0, cg1, cg2, fg0, fg1, fg2⟩ := Xg.out
  have hneg : gg < v2.heap.size := World.block_lt_of_cell? v2 _ cg0
  go_wp2_with fail
  clear cs0 cs1 cs2 cs3 cs4 cs5 fs0 fs1 fs2 fs3 fs4 fs5 hnes
  clear cg0 cg1 cg2 fg0 fg1 fg2 hneg
  refine (nearest_ok HJN.out (A.out.zn.below hbw) HE.out.1 (TB.out.below hbw)).mono ?_
  rintro e v3 ⟨rfl, hb3⟩
  rw [HR.out.1]
  replace Xs : Hid _ := Xs.out.below hb3
  replace Xg : Hid _ := Xg.out.below hb3
  replace hbw := Below.on hbw hb3
  clear hb3
  obtain ⟨cs0, cs1, cs2, cs3, cs4, cs5, fs0, fs1, fs2, fs3, fs4, fs5⟩ := Xs.out
  have hnes : gs < v3.heap.size := World.block_lt_of_cell? v3 _ cs0
  obtain ⟨cg0, cg1, cg2, fg0, fg1, fg2⟩ := Xg.out
  have hneg : gg < v3.heap.size := World.block_lt_of_cell? v3 _ cg0
  go_wp2_with fail
  clear cs0 cs1 cs2 cs3 cs4 cs5 fs0 fs1 fs2 fs3 fs4 fs5 hnes
  clear cg0 cg1 cg2 fg0 fg1 fg2 hneg
  refine (nearest_ok HJN.out (B.out.zn.below hbw) HE.out.2 (TB.out.below hbw)).mono ?_
  rintro e v4 ⟨rfl, hb4⟩
  rw [HR.out.2]
  replace Xs : Hid _ := Xs.out.below hb4
  replace Xg : Hid _ := Xg.out.below hb4
  replace hbw := Below.on hbw hb4
  clear hb4
  obtain ⟨cs0, cs1, cs2, cs3, cs4, cs5, fs0, fs1, fs2, fs3, fs4, fs5⟩ := Xs.out
  have hnes : gs < v4.heap.size := World.block_lt_of_cell? v4 _ cs0
  obtain ⟨cg0, cg1, cg2, fg0, fg1, fg2⟩ := Xg.out
  have hneg : gg < v4.heap.size := World.block_lt_of_cell? v4 _ cg0
  go_wp2_with fail
  clear cs0 cs1 cs2 cs3 cs4 cs5 fs0 fs1 fs2 fs3 fs4 fs5 hnes
  clear cg0 cg1 cg2 fg0 fg1 fg2 hneg
  refine bodyPost_ret (v := .tuple #[.int .u64 0, .bool false, .int .i64 0]) (by rw [results_t3 rfl]; go_simp) rfl ⟨rfl, hbw⟩
end Go.Proofs.YtfkoilaobglddaaDoor

namespace Go.Proofs.YtfkoilaobglddaaDoor
open Go.RowKit Go.Shelf

end Go.Proofs.YtfkoilaobglddaaDoor

namespace Go.Proofs.YtfkoilaobglddaaDoor
open Go.RowKit Go.Shelf

structure Lw (single : Bool) (f : Int) (S I : Nat) : Prop where
  fmt : ∀ w, Calls Tryd.prog 6 #[.bool single] w fun en w' => en = .returned (.int .i64 f) ∧ Below w.heap.size w w'
  fin : ∀ (b : Nat) w, b < 2 * S → Calls Tryd.prog 15 #[.int .i64 f, U b] w fun en w' => en = .returned (.tuple #[.bool (decide (b % S < I)), .bool (decide (b % S = 0))]) ∧ Below w.heap.size w w'
  sg : ∀ w, Calls Tryd.prog 14 #[.int .i64 f] w fun en w' => en = .returned (U S) ∧ Below w.heap.size w w'
  an : ∀ b, b < 2 * S → bits BinOp.and IntKind.u64 (b : Int) (S : Int) = ((if S ≤ b then S else 0 : Nat) : Int)
  xr : ∀ b, b < 2 * S → bits BinOp.xor IntKind.u64 (b : Int) (S : Int) = ((xsS S b : Nat) : Int)
  up : 2 * S ≤ B64
  pt : ∀ b, b < B64 → ∃ b', b' < 2 * S ∧ ∀ w, Calls Tryd.prog 18 #[.bool single, U b] w fun en w' => en = .returned (U b') ∧ Below w.heap.size w w'
theorem lw_32 : Lw true 32 2147483648 2139095040 :=
  ⟨fmt8_32, fun b w hb => fin8_32 b hb w, sign8_32, fun b hb => sign_and b _ 31 (by decide) (by decide) hb, fun b hb => sign_xor b _ 31 (by decide) (by decide) hb, by decide, fun b hb => ⟨b % 4294967296, Nat.mod_lt _ (by decide), fun w => pat8_t b hb w⟩⟩
theorem lw_64 : Lw false 64 9223372036854775808 9218868437227405312 :=
  ⟨fmt8_64, fun b w hb => fin8_64 b hb w, sign8_64, fun b hb => sign_and b _ 63 (by decide) (by decide) hb, fun b hb => sign_xor b _ 63 (by decide) (by decide) hb, by decide, fun b hb => ⟨b, hb, fun w => pat8_f b w⟩⟩
end Go.Proofs.YtfkoilaobglddaaDoor

