import Derived.Test.YthfkkcfjneppmaaDoorJ10
import Derived.Test.YthfkkcfjneppmaaDoorJ11
import Derived.Test.YthfkkcfjneppmaaDoorJ13
import Derived.Test.YthfkkcfjneppmaaDoorJ12
namespace Go.Proofs.YthfkkcfjneppmaaDoor
open Go.RowKit Go.Shelf
set_option maxRecDepth 20000
set_option maxHeartbeats 0
theorem rcls_32_0 (s : Nat) (h0 : s = 0) (w : World) :
    Calls Tryd.prog 47 #[FV 2147483648 24 (-149) 104 2139095040 2143289345, U s] w fun en w' => en = .returned (.int .i64 0) ∧ Below w.heap.size w w' := by
  subst h0
  go_enter Tryd.func47, Tryd.ntmps47
  go_wp2_with fail
  go_ret
  exact ⟨rfl, bwAlloc w _⟩
theorem rcls_32_1 (s : Nat) (h0 : s ≠ 0) (h1 : s < 8388608) (w : World) :
    Calls Tryd.prog 47 #[FV 2147483648 24 (-149) 104 2139095040 2143289345, U s] w fun en w' => en = .returned (.int .i64 1) ∧ Below w.heap.size w w' := by
  have k0 : ((s : Int) == 0) = false := by simp; omega
  have k1 : decide ((s : Int) < 8388608) = true := by exact decide_eq_true (by omega)
  have m1 : ((1 : Int) <<< (23 : Nat)) = 8388608 := by decide
  clear h0 h1
  go_enter Tryd.func47, Tryd.ntmps47
  go_wp2_with fail
  go_ret
  exact ⟨rfl, bwAlloc w _⟩
theorem rcls_32_2 (s : Nat) (h1 : ¬ s < 8388608) (h2 : s < 2139095040) (w : World) :
    Calls Tryd.prog 47 #[FV 2147483648 24 (-149) 104 2139095040 2143289345, U s] w fun en w' => en = .returned (.int .i64 2) ∧ Below w.heap.size w w' := by
  have k0 : ((s : Int) == 0) = false := by simp; omega
  have k1 : decide ((s : Int) < 8388608) = false := by exact decide_eq_false (by omega)
  have k2 : decide ((s : Int) < 2139095040) = true := by exact decide_eq_true (by omega)
  have m1 : ((1 : Int) <<< (23 : Nat)) = 8388608 := by decide
  clear h1 h2
  go_enter Tryd.func47, Tryd.ntmps47
  go_wp2_with fail
  go_ret
  exact ⟨rfl, bwAlloc w _⟩
theorem rcls_32_3 (s : Nat) (h2 : s = 2139095040) (w : World) :
    Calls Tryd.prog 47 #[FV 2147483648 24 (-149) 104 2139095040 2143289345, U s] w fun en w' => en = .returned (.int .i64 3) ∧ Below w.heap.size w w' := by
  have k0 : ((s : Int) == 0) = false := by simp; omega
  have k1 : decide ((s : Int) < 8388608) = false := by exact decide_eq_false (by omega)
  have k2 : decide ((s : Int) < 2139095040) = false := by exact decide_eq_false (by omega)
  have k3 : ((s : Int) == 2139095040) = true := by simp; omega
  have m1 : ((1 : Int) <<< (23 : Nat)) = 8388608 := by decide
  clear h2
  go_enter Tryd.func47, Tryd.ntmps47
  go_wp2_with fail
  go_ret
  exact ⟨rfl, bwAlloc w _⟩
theorem rcls_32_4 (s : Nat) (h2 : 2139095040 < s) (w : World) :
    Calls Tryd.prog 47 #[FV 2147483648 24 (-149) 104 2139095040 2143289345, U s] w fun en w' => en = .returned (.int .i64 4) ∧ Below w.heap.size w w' := by
  have k0 : ((s : Int) == 0) = false := by simp; omega
  have k1 : decide ((s : Int) < 8388608) = false := by exact decide_eq_false (by omega)
  have k2 : decide ((s : Int) < 2139095040) = false := by exact decide_eq_false (by omega)
  have k3 : ((s : Int) == 2139095040) = false := by simp; omega
  have m1 : ((1 : Int) <<< (23 : Nat)) = 8388608 := by decide
  clear h2
  go_enter Tryd.func47, Tryd.ntmps47
  go_wp2_with fail
  go_ret
  exact ⟨rfl, bwAlloc w _⟩
theorem rcls_32 (s : Nat) (w : World) : Calls Tryd.prog 47 #[FV 2147483648 24 (-149) 104 2139095040 2143289345, U s] w fun en w' => en = .returned (.int .i64 (clsN 8388608 2139095040 s)) ∧ Below w.heap.size w w' := by
  unfold clsN
  by_cases h0 : s = 0
  · rw [if_pos h0]; exact rcls_32_0 s h0 w
  · rw [if_neg h0]
    by_cases h1 : s < 8388608
    · rw [if_pos h1]; exact rcls_32_1 s h0 h1 w
    · rw [if_neg h1]
      by_cases h2 : s < 2139095040
      · rw [if_pos h2]; exact rcls_32_2 s h1 h2 w
      · rw [if_neg h2]
        by_cases h3 : s = 2139095040
        · rw [if_pos h3]; exact rcls_32_3 s h3 w
        · rw [if_neg h3]; exact rcls_32_4 s (by omega) w
theorem docclass_32 (b : Nat) (hb : b < 2 * 2147483648) (w : World) :
    Calls Tryd.prog 23 #[.int .i64 32, U b] w fun en w' => en = .returned (.tuple #[.int .i64 (clsN 8388608 2139095040 (b % 2147483648)), .int .i64 0]) ∧ Below w.heap.size w w' := by
  have hbw : Below w.heap.size w w := Below.refl _ _
  have HB : Hid (b < 2 * 2147483648) := hb
  obtain ⟨z, hz⟩ : ∃ z, z = b % 2147483648 := ⟨_, rfl⟩
  obtain ⟨c, hc⟩ : ∃ c, c = clsN 8388608 2139095040 z := ⟨_, rfl⟩
  rw [← hz, ← hc]
  have HZ : Hid (b % 2147483648 = z ∧ clsN 8388608 2139095040 z = c) := ⟨hz.symm, hc.symm⟩
  clear hb hz hc
  go_enter Tryd.func23, Tryd.ntmps23
  go_wp2_with fail
  refine (check_ok rf_32 b HB.out _).mono ?_
  rintro e v1 ⟨rfl, hb1⟩
  replace hbw := Below.on hbw hb1
  clear hb1
  go_wp2_with fail
  refine (rof_32 _).mono ?_
  rintro e v2 ⟨rfl, hb2⟩
  replace hbw := Below.on hbw hb2
  clear hb2
  go_wp2_with fail
  have Xk0 : Hid (B6q (v2.alloc (.cells #[U 2147483648, .int .i64 24, .int .i64 (-149), .int .i64 104, U 2139095040, U 2143289345] 89)) v2.heap.size (U 2147483648) (.int .i64 24) (.int .i64 (-149)) (.int .i64 104) (U 2139095040) (U 2143289345)) := B6q.new v2 _ _ _ _ _ _ _
  have hbn : Below v2.heap.size v2 (v2.alloc (.cells #[U 2147483648, .int .i64 24, .int .i64 (-149), .int .i64 104, U 2139095040, U 2143289345] 89)) := below1 v2 _
  generalize v2.alloc (.cells #[U 2147483648, .int .i64 24, .int .i64 (-149), .int .i64 104, U 2139095040, U 2143289345] 89) = Wk at *
  have HGk : Hid (w.heap.size ≤ v2.heap.size) := hbw.size
  replace hbw := Below.on hbw hbn
  clear hbn
  generalize v2.heap.size = gk at *
  have Xk := Xk0
  clear Xk0
  refine (cut_any (by decide) (by decide) b _).mono ?_
  rintro e v3 ⟨rfl, hb3⟩
  rw [HZ.out.1]
  replace Xk : Hid _ := Xk.out.below hb3
  replace hbw := Below.on hbw hb3
  clear hb3
  obtain ⟨ck0, ck1, ck2, ck3, ck4, ck5, fk0, fk1, fk2, fk3, fk4, fk5⟩ := Xk.out
  have hnek : gk < v3.heap.size := World.block_lt_of_cell? v3 _ ck0
  go_wp2_with fail
  clear ck0 ck1 ck2 ck3 ck4 ck5 fk0 fk1 fk2 fk3 fk4 fk5 hnek
  refine (rcls_32 z _).mono ?_
  rintro e v4 ⟨rfl, hb4⟩
  rw [HZ.out.2]
  replace Xk : Hid _ := Xk.out.below hb4
  replace hbw := Below.on hbw hb4
  clear hb4
  obtain ⟨ck0, ck1, ck2, ck3, ck4, ck5, fk0, fk1, fk2, fk3, fk4, fk5⟩ := Xk.out
  have hnek : gk < v4.heap.size := World.block_lt_of_cell? v4 _ ck0
  go_wp2_with fail
  clear ck0 ck1 ck2 ck3 ck4 ck5 fk0 fk1 fk2 fk3 fk4 fk5 hnek
  go_ret2
  exact ⟨rfl, hbw⟩
theorem rcls_64_0 (s : Nat) (h0 : s = 0) (w : World) :
    Calls Tryd.prog 47 #[FV 9223372036854775808 53 (-1074) 971 9218868437227405312 9221120237041090561, U s] w fun en w' => en = .returned (.int .i64 0) ∧ Below w.heap.size w w' := by
  subst h0
  go_enter Tryd.func47, Tryd.ntmps47
  go_wp2_with fail
  go_ret
  exact ⟨rfl, bwAlloc w _⟩
theorem rcls_64_1 (s : Nat) (h0 : s ≠ 0) (h1 : s < 4503599627370496) (w : World) :
    Calls Tryd.prog 47 #[FV 9223372036854775808 53 (-1074) 971 9218868437227405312 9221120237041090561, U s] w fun en w' => en = .returned (.int .i64 1) ∧ Below w.heap.size w w' := by
  have k0 : ((s : Int) == 0) = false := by simp; omega
  have k1 : decide ((s : Int) < 4503599627370496) = true := by exact decide_eq_true (by omega)
  have m1 : ((1 : Int) <<< (52 : Nat)) = 4503599627370496 := by decide
  clear h0 h1
  go_enter Tryd.func47, Tryd.ntmps47
  go_wp2_with fail
  go_ret
  exact ⟨rfl, bwAlloc w _⟩
theorem rcls_64_2 (s : Nat) (h1 : ¬ s < 4503599627370496) (h2 : s < 9218868437227405312) (w : World) :
    Calls Tryd.prog 47 #[FV 9223372036854775808 53 (-1074) 971 9218868437227405312 9221120237041090561, U s] w fun en w' => en = .returned (.int .i64 2) ∧ Below w.heap.size w w' := by
  have k0 : ((s : Int) == 0) = false := by simp; omega
  have k1 : decide ((s : Int) < 4503599627370496) = false := by exact decide_eq_false (by omega)
  have k2 : decide ((s : Int) < 9218868437227405312) = true := by exact decide_eq_true (by omega)
  have m1 : ((1 : Int) <<< (52 : Nat)) = 4503599627370496 := by decide
  clear h1 h2
  go_enter Tryd.func47, Tryd.ntmps47
  go_wp2_with fail
  go_ret
  exact ⟨rfl, bwAlloc w _⟩
theorem rcls_64_3 (s : Nat) (h2 : s = 9218868437227405312) (w : World) :
    Calls Tryd.prog 47 #[FV 9223372036854775808 53 (-1074) 971 9218868437227405312 9221120237041090561, U s] w fun en w' => en = .returned (.int .i64 3) ∧ Below w.heap.size w w' := by
  have k0 : ((s : Int) == 0) = false := by simp; omega
  have k1 : decide ((s : Int) < 4503599627370496) = false := by exact decide_eq_false (by omega)
  have k2 : decide ((s : Int) < 9218868437227405312) = false := by exact decide_eq_false (by omega)
  have k3 : ((s : Int) == 9218868437227405312) = true := by simp; omega
  have m1 : ((1 : Int) <<< (52 : Nat)) = 4503599627370496 := by decide
  clear h2
  go_enter Tryd.func47, Tryd.ntmps47
  go_wp2_with fail
  go_ret
  exact ⟨rfl, bwAlloc w _⟩
theorem rcls_64_4 (s : Nat) (h2 : 9218868437227405312 < s) (w : World) :
    Calls Tryd.prog 47 #[FV 9223372036854775808 53 (-1074) 971 9218868437227405312 9221120237041090561, U s] w fun en w' => en = .returned (.int .i64 4) ∧ Below w.heap.size w w' := by
  have k0 : ((s : Int) == 0) = false := by simp; omega
  have k1 : decide ((s : Int) < 4503599627370496) = false := by exact decide_eq_false (by omega)
  have k2 : decide ((s : Int) < 9218868437227405312) = false := by exact decide_eq_false (by omega)
  have k3 : ((s : Int) == 9218868437227405312) = false := by simp; omega
  have m1 : ((1 : Int) <<< (52 : Nat)) = 4503599627370496 := by decide
  clear h2
  go_enter Tryd.func47, Tryd.ntmps47
  go_wp2_with fail
  go_ret
  exact ⟨rfl, bwAlloc w _⟩
theorem rcls_64 (s : Nat) (w : World) : Calls Tryd.prog 47 #[FV 9223372036854775808 53 (-1074) 971 9218868437227405312 9221120237041090561, U s] w fun en w' => en = .returned (.int .i64 (clsN 4503599627370496 9218868437227405312 s)) ∧ Below w.heap.size w w' := by
  unfold clsN
  by_cases h0 : s = 0
  · rw [if_pos h0]; exact rcls_64_0 s h0 w
  · rw [if_neg h0]
    by_cases h1 : s < 4503599627370496
    · rw [if_pos h1]; exact rcls_64_1 s h0 h1 w
    · rw [if_neg h1]
      by_cases h2 : s < 9218868437227405312
      · rw [if_pos h2]; exact rcls_64_2 s h1 h2 w
      · rw [if_neg h2]
        by_cases h3 : s = 9218868437227405312
        · rw [if_pos h3]; exact rcls_64_3 s h3 w
        · rw [if_neg h3]; exact rcls_64_4 s (by omega) w
theorem docclass_64 (b : Nat) (hb : b < 2 * 9223372036854775808) (w : World) :
    Calls Tryd.prog 23 #[.int .i64 64, U b] w fun en w' => en = .returned (.tuple #[.int .i64 (clsN 4503599627370496 9218868437227405312 (b % 9223372036854775808)), .int .i64 0]) ∧ Below w.heap.size w w' := by
  have hbw : Below w.heap.size w w := Below.refl _ _
  have HB : Hid (b < 2 * 9223372036854775808) := hb
  obtain ⟨z, hz⟩ : ∃ z, z = b % 9223372036854775808 := ⟨_, rfl⟩
  obtain ⟨c, hc⟩ : ∃ c, c = clsN 4503599627370496 9218868437227405312 z := ⟨_, rfl⟩
  rw [← hz, ← hc]
  have HZ : Hid (b % 9223372036854775808 = z ∧ clsN 4503599627370496 9218868437227405312 z = c) := ⟨hz.symm, hc.symm⟩
  clear hb hz hc
  go_enter Tryd.func23, Tryd.ntmps23
  go_wp2_with fail
  refine (check_ok rf_64 b HB.out _).mono ?_
  rintro e v1 ⟨rfl, hb1⟩
  replace hbw := Below.on hbw hb1
  clear hb1
  go_wp2_with fail
  refine (rof_64 _).mono ?_
  rintro e v2 ⟨rfl, hb2⟩
  replace hbw := Below.on hbw hb2
  clear hb2
  go_wp2_with fail
  have Xk0 : Hid (B6q (v2.alloc (.cells #[U 9223372036854775808, .int .i64 53, .int .i64 (-1074), .int .i64 971, U 9218868437227405312, U 9221120237041090561] 89)) v2.heap.size (U 9223372036854775808) (.int .i64 53) (.int .i64 (-1074)) (.int .i64 971) (U 9218868437227405312) (U 9221120237041090561)) := B6q.new v2 _ _ _ _ _ _ _
  have hbn : Below v2.heap.size v2 (v2.alloc (.cells #[U 9223372036854775808, .int .i64 53, .int .i64 (-1074), .int .i64 971, U 9218868437227405312, U 9221120237041090561] 89)) := below1 v2 _
  generalize v2.alloc (.cells #[U 9223372036854775808, .int .i64 53, .int .i64 (-1074), .int .i64 971, U 9218868437227405312, U 9221120237041090561] 89) = Wk at *
  have HGk : Hid (w.heap.size ≤ v2.heap.size) := hbw.size
  replace hbw := Below.on hbw hbn
  clear hbn
  generalize v2.heap.size = gk at *
  have Xk := Xk0
  clear Xk0
  refine (cut_any (by decide) (by decide) b _).mono ?_
  rintro e v3 ⟨rfl, hb3⟩
  rw [HZ.out.1]
  replace Xk : Hid _ := Xk.out.below hb3
  replace hbw := Below.on hbw hb3
  clear hb3
  obtain ⟨ck0, ck1, ck2, ck3, ck4, ck5, fk0, fk1, fk2, fk3, fk4, fk5⟩ := Xk.out
  have hnek : gk < v3.heap.size := World.block_lt_of_cell? v3 _ ck0
  go_wp2_with fail
  clear ck0 ck1 ck2 ck3 ck4 ck5 fk0 fk1 fk2 fk3 fk4 fk5 hnek
  refine (rcls_64 z _).mono ?_
  rintro e v4 ⟨rfl, hb4⟩
  rw [HZ.out.2]
  replace Xk : Hid _ := Xk.out.below hb4
  replace hbw := Below.on hbw hb4
  clear hb4
  obtain ⟨ck0, ck1, ck2, ck3, ck4, ck5, fk0, fk1, fk2, fk3, fk4, fk5⟩ := Xk.out
  have hnek : gk < v4.heap.size := World.block_lt_of_cell? v4 _ ck0
  go_wp2_with fail
  clear ck0 ck1 ck2 ck3 ck4 ck5 fk0 fk1 fk2 fk3 fk4 fk5 hnek
  go_ret2
  exact ⟨rfl, hbw⟩
theorem rdyad_z {p : Option Addr} {m : Nat} {w : World} {e : Int} (s : Bool) (h : ZR w s p m 0) :
    Calls Tryd.prog 50 #[.agg #[.bool s, .slice p m m], .int .i64 e] w fun en w' => en = .returned (DV false none 0 0 0) ∧ Below w.heap.size w w' := by
  have HS : Hid (ZR w s p m 0) := h
  clear h
  go_enter Tryd.func50, Tryd.ntmps50
  go_wp2_with fail
  obtain ⟨W0, hW0⟩ : ∃ W0, W0 = ((w.alloc (.cells #[.bool s, .slice p m m] 99)).alloc (.cells #[.bool false, .slice none 0 0, .int .i64 0] 35)) := ⟨_, rfl⟩
  have Xm : Hid (Box W0 (w.heap.size) (.bool s) (.slice p m m)) := by rw [hW0]; exact ⟨by go_simp, by go_simp, by go_simp, by go_simp⟩
  have Xr : Hid (B3q W0 (w.heap.size + 1) (.bool false) (.slice none 0 0) (.int .i64 0)) := by rw [hW0]; exact ⟨by go_simp, by go_simp, by go_simp, by go_simp, by go_simp, by go_simp⟩
  have hb0 : Below w.heap.size w W0 := by rw [hW0]; exact below2 w _ _
  rw [← hW0]
  clear hW0
  have hbw : Below w.heap.size w w := Below.refl _ _
  obtain ⟨gr, hgr⟩ : ∃ g, g = w.heap.size + 1 := ⟨_, rfl⟩
  have HGr : Hid (w.heap.size ≤ gr) := by rw [hgr]; show _ ≤ _; omega
  rw [← hgr] at Xr
  try rw [← hgr]
  obtain ⟨gm, hgm⟩ : ∃ g, g = w.heap.size := ⟨_, rfl⟩
  have HGm : Hid (w.heap.size ≤ gm) := by rw [hgm]; show _ ≤ _; omega
  rw [← hgm] at Xm
  try rw [← hgm]
  have HGD : Hid (gm ≠ gr ∧ gr ≠ gm) := by rw [hgm, hgr]; exact ⟨by omega, by omega⟩
  clear hgm hgr
  replace hbw := Below.on hbw hb0
  clear hb0
  refine (rsign04 s (HS.out.below hbw)).mono ?_
  rintro e v9 ⟨rfl, hb9⟩
  rw [show sgnI 0 = 0 from rfl]
  replace Xm : Hid _ := Xm.out.below hb9
  replace Xr : Hid _ := Xr.out.below hb9
  replace hbw := Below.on hbw hb9
  clear hb9
  obtain ⟨cm0, cm1, fm0, fm1⟩ := Xm.out
  have hnem := Xm.out.lt
  obtain ⟨cr0, cr1, cr2, fr0, fr1, fr2⟩ := Xr.out
  have hner : gr < v9.heap.size := World.block_lt_of_cell? v9 _ cr0
  go_wp2_with fail
  refine bodyPost_ret (v := DV false none 0 0 0) (by rw [results_cell1 rfl]; go_simp) rfl ⟨rfl, ?_⟩
  first | exact hbw | exact bSet (bSet (bSet hbw _ _ _ HGr.out) _ _ _ HGr.out) _ _ _ HGr.out
theorem docvalue_e {f : Int} {b : Nat} {er : Int} (hB : ∀ w, Calls Tryd.prog 48 #[.int .i64 f, U b] w fun e w' => e = .returned (.int .i64 er) ∧ Below w.heap.size w w') (he : er ≠ 0) (w : World) :
    Calls Tryd.prog 25 #[.int .i64 f, U b] w fun en w' => en = .returned (.tuple #[DV false none 0 0 0, .int .i64 er]) ∧ Below w.heap.size w w' := by
  have HB : Hid (∀ w, Calls Tryd.prog 48 #[.int .i64 f, U b] w fun e w' => e = .returned (.int .i64 er) ∧ Below w.heap.size w w') := hB
  have e1 : (er == 0) = false := by simp [he]
  have e2 : (er != 0) = true := by simp [he]
  clear hB he
  go_enter Tryd.func25, Tryd.ntmps25
  go_wp2_with fail
  obtain ⟨W0, hW0⟩ : ∃ W0, W0 = (w.alloc (.cells #[.bool false, .slice none 0 0, .int .i64 0] 35)) := ⟨_, rfl⟩
  have Xr : Hid (B3q W0 (w.heap.size) (.bool false) (.slice none 0 0) (.int .i64 0)) := by rw [hW0]; exact ⟨by go_simp, by go_simp, by go_simp, by go_simp, by go_simp, by go_simp⟩
  have hb0 : Below w.heap.size w W0 := by rw [hW0]; exact below1 w _
  rw [← hW0]
  clear hW0
  have hbw : Below w.heap.size w w := Below.refl _ _
  obtain ⟨gr, hgr⟩ : ∃ g, g = w.heap.size := ⟨_, rfl⟩
  have HGr : Hid (w.heap.size ≤ gr) := by rw [hgr]; show _ ≤ _; omega
  rw [← hgr] at Xr
  try rw [← hgr]
  clear hgr
  replace hbw := Below.on hbw hb0
  clear hb0
  refine (HB.out _).mono ?_
  rintro e v1 ⟨rfl, hb1⟩
  replace Xr : Hid _ := Xr.out.below hb1
  replace hbw := Below.on hbw hb1
  clear hb1
  obtain ⟨cr0, cr1, cr2, fr0, fr1, fr2⟩ := Xr.out
  have hner : gr < v1.heap.size := World.block_lt_of_cell? v1 _ cr0
  go_wp2_with fail
  refine bodyPost_ret (v := .tuple #[DV false none 0 0 0, .int .i64 er]) (by rw [results_cell_tmp rfl]; go_simp) rfl ⟨rfl, ?_⟩
  first | exact hbw | exact bSet (bSet (bSet hbw _ _ _ HGr.out) _ _ _ HGr.out) _ _ _ HGr.out
theorem docvalue_z {f P E G : Int} {S I Q H : Nat} (R : Rf f S P E G I Q) (wh : ∀ (b : Nat) w, Calls Tryd.prog 51 #[FV S P E G I Q, U b] w fun en w' => ∃ v, en = .returned v ∧ GotR w.heap.size w' v (svS S H b) 2200 ∧ Below w.heap.size w w') (b : Nat) (hb : b < 2 * S) (hr : b % S < I) (hc : 0 < S ∧ S ≤ 9223372036854775808 ∧ -1074 ≤ E ∧ E ≤ 0) (hz : svS S H b = 0) (w : World) :
    Calls Tryd.prog 25 #[.int .i64 f, U b] w fun en w' => en = .returned (.tuple #[DV false none 0 0 0, .int .i64 0]) ∧ Below w.heap.size w w' := by
  obtain ⟨z, hzz⟩ : ∃ z, z = svS S H b := ⟨_, rfl⟩
  have HC : Hid (Rf f S P E G I Q ∧ b < 2 * S ∧ b % S < I ∧ (0 < S ∧ S ≤ 9223372036854775808 ∧ -1074 ≤ E ∧ E ≤ 0)) := ⟨R, hb, hr, hc⟩
  have HW : Hid (∀ (b : Nat) w, Calls Tryd.prog 51 #[FV S P E G I Q, U b] w fun en w' => ∃ v, en = .returned v ∧ GotR w.heap.size w' v (svS S H b) 2200 ∧ Below w.heap.size w w') := wh
  have HZZ : Hid (svS S H b = z) := hzz.symm
  rw [← hzz] at hz
  have HZ : Hid (z = 0) := hz
  clear R wh hb hr hc hz hzz
  go_enter Tryd.func25, Tryd.ntmps25
  go_wp2_with fail
  obtain ⟨W0, hW0⟩ : ∃ W0, W0 = (w.alloc (.cells #[.bool false, .slice none 0 0, .int .i64 0] 35)) := ⟨_, rfl⟩
  have Xr : Hid (B3q W0 (w.heap.size) (.bool false) (.slice none 0 0) (.int .i64 0)) := by rw [hW0]; exact ⟨by go_simp, by go_simp, by go_simp, by go_simp, by go_simp, by go_simp⟩
  have hb0 : Below w.heap.size w W0 := by rw [hW0]; exact below1 w _
  rw [← hW0]
  clear hW0
  have hbw : Below w.heap.size w w := Below.refl _ _
  obtain ⟨gr, hgr⟩ : ∃ g, g = w.heap.size := ⟨_, rfl⟩
  have HGr : Hid (w.heap.size ≤ gr) := by rw [hgr]; show _ ≤ _; omega
  rw [← hgr] at Xr
  try rw [← hgr]
  clear hgr
  replace hbw := Below.on hbw hb0
  clear hb0
  refine (rfin_o HC.out.1 b HC.out.2.1 HC.out.2.2.1 HC.out.2.2.2.1 HC.out.2.2.2.2.1 _).mono ?_
  rintro e v1 ⟨rfl, hb1⟩
  replace Xr : Hid _ := Xr.out.below hb1
  replace hbw := Below.on hbw hb1
  clear hb1
  go_wp2_with fail
  refine (HC.out.1.of _).mono ?_
  rintro e v2 ⟨rfl, hb2⟩
  replace Xr : Hid _ := Xr.out.below hb2
  replace hbw := Below.on hbw hb2
  clear hb2
  go_wp2_with fail
  have HKR0' : Hid (gr < v2.heap.size) := Xr.out.lt
  have Xk0 : Hid (B6q (v2.alloc (.cells #[U S, .int .i64 P, .int .i64 E, .int .i64 G, U I, U Q] 89)) v2.heap.size (U S) (.int .i64 P) (.int .i64 E) (.int .i64 G) (U I) (U Q)) := B6q.new v2 _ _ _ _ _ _ _
  have hbn : Below v2.heap.size v2 (v2.alloc (.cells #[U S, .int .i64 P, .int .i64 E, .int .i64 G, U I, U Q] 89)) := below1 v2 _
  generalize v2.alloc (.cells #[U S, .int .i64 P, .int .i64 E, .int .i64 G, U I, U Q] 89) = Wk at *
  have HGk : Hid (w.heap.size ≤ v2.heap.size) := hbw.size
  replace Xr : Hid _ := Xr.out.below hbn
  replace hbw := Below.on hbw hbn
  clear hbn
  generalize v2.heap.size = gk at *
  have Xk := Xk0
  clear Xk0
  have HKR0 : Hid (gk ≠ gr) := Nat.ne_of_gt HKR0'.out
  obtain ⟨Wr, hWr⟩ : ∃ W1, W1 = Wk.drew := ⟨_, rfl⟩
  have hbd : Below Wk.heap.size Wk Wr := by rw [hWr]; exact bDrew1 (Below.refl _ _)
  replace Xr : Hid _ := Xr.out.below hbd
  replace Xk : Hid _ := Xk.out.below hbd
  replace hbw := Below.on hbw hbd
  clear hbd
  have HJ : Hid ((fun W' : World => W'.cell? ⟨gk, 0, none⟩ = some (U S) ∧ W'.cell? ⟨gk, 1, none⟩ = some (.int .i64 P) ∧ W'.cell? ⟨gk, 2, none⟩ = some (.int .i64 E) ∧ W'.cell? ⟨gk, 3, none⟩ = some (.int .i64 G) ∧ W'.cell? ⟨gk, 4, none⟩ = some (U I) ∧ W'.cell? ⟨gk, 5, none⟩ = some (U Q)) Wr) := ⟨Xk.out.c0, Xk.out.c1, Xk.out.c2, Xk.out.c3, Xk.out.c4, Xk.out.c5⟩
  refine wp_region_J (fun W' => W'.cell? ⟨gk, 0, none⟩ = some (U S) ∧ W'.cell? ⟨gk, 1, none⟩ = some (.int .i64 P) ∧ W'.cell? ⟨gk, 2, none⟩ = some (.int .i64 E) ∧ W'.cell? ⟨gk, 3, none⟩ = some (.int .i64 G) ∧ W'.cell? ⟨gk, 4, none⟩ = some (U I) ∧ W'.cell? ⟨gk, 5, none⟩ = some (U Q)) (by kernel_rfl) ?_
  rw [← hWr]
  clear hWr
  refine wpJ_tq 0 rfl HJ.out ?_
  refine wpJ_tq 1 rfl HJ.out ?_
  refine wpJ_tq 3 rfl HJ.out ?_
  refine wpJ_tq 4 rfl HJ.out ?_
  refine wpJ_on 2 rfl fun KJ hK => ?_
  go_simp
  refine (HW.out b _).mono ?_
  rintro e9 v3 ⟨v, rfl, ⟨t3, k3_, n3, rfl, _, hz3, hl3⟩, hb3⟩
  rw [HZZ.out] at hz3
  replace Xr : Hid _ := Xr.out.below hb3
  replace Xk : Hid _ := Xk.out.below hb3
  replace hbw := Below.on hbw hb3
  clear hb3
  have Z3 : Hid (ZR v3 t3 (some ⟨k3_, 0, none⟩) n3 z) := hz3
  have HL3 : Hid (n3 ≤ 2200) := hl3
  clear hz3 hl3
  refine hK _ _ ⟨Xk.out.c0, Xk.out.c1, Xk.out.c2, Xk.out.c3, Xk.out.c4, Xk.out.c5⟩ ?_
  clear hK
  refine wpJ_on 5 rfl fun KJ hK => ?_
  go_simp
  have HRB : Hid (gr < v3.heap.size ∧ w.heap.size ≤ v3.heap.size) := ⟨Xr.out.lt, hbw.size⟩
  refine (rdyad_z t3 (Z3.out.cast HZ.out)).mono ?_
  rintro e v4 ⟨rfl, hb4⟩
  replace Xr : Hid _ := Xr.out.below hb4
  replace Xk : Hid _ := Xk.out.below hb4
  replace Z3 : Hid _ := Z3.out.below hb4
  replace hbw := Below.on hbw hb4
  clear hb4
  refine hK _ _ ⟨Xk.out.c0, Xk.out.c1, Xk.out.c2, Xk.out.c3, Xk.out.c4, Xk.out.c5⟩ ?_
  clear hK
  have z1 : gk ≠ gr := HKR0.out
  have z2 := Ne.symm z1
  obtain ⟨cr0, cr1, cr2, fr0, fr1, fr2⟩ := Xr.out
  have hner : gr < v4.heap.size := World.block_lt_of_cell? v4 _ cr0
  obtain ⟨ck0, ck1, ck2, ck3, ck4, ck5, fk0, fk1, fk2, fk3, fk4, fk5⟩ := Xk.out
  have hnek : gk < v4.heap.size := World.block_lt_of_cell? v4 _ ck0
  refine wpJ_on 6 rfl fun KJ hK => ?_
  go_simp
  have HJ2 : Hid ((fun W' : World => W'.cell? ⟨gk, 0, none⟩ = some (U S) ∧ W'.cell? ⟨gk, 1, none⟩ = some (.int .i64 P) ∧ W'.cell? ⟨gk, 2, none⟩ = some (.int .i64 E) ∧ W'.cell? ⟨gk, 3, none⟩ = some (.int .i64 G) ∧ W'.cell? ⟨gk, 4, none⟩ = some (U I) ∧ W'.cell? ⟨gk, 5, none⟩ = some (U Q)) (((v4.setCell ⟨gr, 0, none⟩ (.bool false)).setCell ⟨gr, 1, none⟩ (.slice none 0 0)).setCell ⟨gr, 2, none⟩ (.int .i64 0))) := ⟨by go_simp, by go_simp, by go_simp, by go_simp, by go_simp, by go_simp⟩
  refine hK _ _ HJ2.out ?_
  clear hK HJ
  have HJ := HJ2
  clear HJ2
  refine wpJ_tq 7 rfl HJ.out ?_
  refine wpJ_done (by kernel_rfl) ?_ _
  clear HJ
  go_wp2_with fail
  refine bodyPost_ret (v := .tuple #[DV false none 0 0 0, .int .i64 0]) (by rw [results_cell_tmp rfl]; go_simp) rfl ⟨rfl, ?_⟩
  exact bSet (bSet (bSet hbw _ _ _ HGr.out) _ _ _ HGr.out) _ _ _ HGr.out
theorem docvalue_n {f P E G : Int} {S I Q H : Nat} (R : Rf f S P E G I Q) (wh : ∀ (b : Nat) w, Calls Tryd.prog 51 #[FV S P E G I Q, U b] w fun en w' => ∃ v, en = .returned v ∧ GotR w.heap.size w' v (svS S H b) 2200 ∧ Below w.heap.size w w') (b : Nat) (hb : b < 2 * S) (hr : b % S < I) (hc : 0 < S ∧ S ≤ 9223372036854775808 ∧ -1074 ≤ E ∧ E ≤ 0) {K : Nat} {zo : Int} (hz : svS S H b ≠ 0) (hK : TzIs (svS S H b).natAbs K) (hzo : zo.natAbs = (svS S H b).natAbs / 2 ^ K ∧ zo % 2 = 1 ∧ decide (zo < 0) = decide (svS S H b < 0) ∧ iv (decide (svS S H b < 0)) ((svS S H b).natAbs / 2 ^ K) = zo) (hK9 : K ≤ 2200) (w : World) :
    Calls Tryd.prog 25 #[.int .i64 f, U b] w fun en w' => ∃ s g m' c', en = .returned (.tuple #[DV s (some ⟨g, 0, none⟩) m' c' (E + K), .int .i64 0]) ∧ DN w' s (some ⟨g, 0, none⟩) m' c' (E + K) zo ∧ Below w.heap.size w w' := by
  obtain ⟨z, hzz⟩ : ∃ z, z = svS S H b := ⟨_, rfl⟩
  have HC : Hid (Rf f S P E G I Q ∧ b < 2 * S ∧ b % S < I ∧ (0 < S ∧ S ≤ 9223372036854775808 ∧ -1074 ≤ E ∧ E ≤ 0)) := ⟨R, hb, hr, hc⟩
  have HW : Hid (∀ (b : Nat) w, Calls Tryd.prog 51 #[FV S P E G I Q, U b] w fun en w' => ∃ v, en = .returned v ∧ GotR w.heap.size w' v (svS S H b) 2200 ∧ Below w.heap.size w w') := wh
  have HZZ : Hid (svS S H b = z) := hzz.symm
  rw [← hzz] at hz
  rw [← hzz] at hK hzo
  have HZ : Hid (z ≠ 0 ∧ TzIs z.natAbs K ∧ (zo.natAbs = z.natAbs / 2 ^ K ∧ zo % 2 = 1 ∧ decide (zo < 0) = decide (z < 0) ∧ iv (decide (z < 0)) (z.natAbs / 2 ^ K) = zo) ∧ K ≤ 2200) := ⟨hz, hK, hzo, hK9⟩
  clear R wh hb hr hc hz hzz hK hzo hK9
  go_enter Tryd.func25, Tryd.ntmps25
  go_wp2_with fail
  obtain ⟨W0, hW0⟩ : ∃ W0, W0 = (w.alloc (.cells #[.bool false, .slice none 0 0, .int .i64 0] 35)) := ⟨_, rfl⟩
  have Xr : Hid (B3q W0 (w.heap.size) (.bool false) (.slice none 0 0) (.int .i64 0)) := by rw [hW0]; exact ⟨by go_simp, by go_simp, by go_simp, by go_simp, by go_simp, by go_simp⟩
  have hb0 : Below w.heap.size w W0 := by rw [hW0]; exact below1 w _
  rw [← hW0]
  clear hW0
  have hbw : Below w.heap.size w w := Below.refl _ _
  obtain ⟨gr, hgr⟩ : ∃ g, g = w.heap.size := ⟨_, rfl⟩
  have HGr : Hid (w.heap.size ≤ gr) := by rw [hgr]; show _ ≤ _; omega
  rw [← hgr] at Xr
  try rw [← hgr]
  clear hgr
  replace hbw := Below.on hbw hb0
  clear hb0
  refine (rfin_o HC.out.1 b HC.out.2.1 HC.out.2.2.1 HC.out.2.2.2.1 HC.out.2.2.2.2.1 _).mono ?_
  rintro e v1 ⟨rfl, hb1⟩
  replace Xr : Hid _ := Xr.out.below hb1
  replace hbw := Below.on hbw hb1
  clear hb1
  go_wp2_with fail
  refine (HC.out.1.of _).mono ?_
  rintro e v2 ⟨rfl, hb2⟩
  replace Xr : Hid _ := Xr.out.below hb2
  replace hbw := Below.on hbw hb2
  clear hb2
  go_wp2_with fail
  have HKR0' : Hid (gr < v2.heap.size) := Xr.out.lt
  have Xk0 : Hid (B6q (v2.alloc (.cells #[U S, .int .i64 P, .int .i64 E, .int .i64 G, U I, U Q] 89)) v2.heap.size (U S) (.int .i64 P) (.int .i64 E) (.int .i64 G) (U I) (U Q)) := B6q.new v2 _ _ _ _ _ _ _
  have hbn : Below v2.heap.size v2 (v2.alloc (.cells #[U S, .int .i64 P, .int .i64 E, .int .i64 G, U I, U Q] 89)) := below1 v2 _
  generalize v2.alloc (.cells #[U S, .int .i64 P, .int .i64 E, .int .i64 G, U I, U Q] 89) = Wk at *
  have HGk : Hid (w.heap.size ≤ v2.heap.size) := hbw.size
  replace Xr : Hid _ := Xr.out.below hbn
  replace hbw := Below.on hbw hbn
  clear hbn
  generalize v2.heap.size = gk at *
  have Xk := Xk0
  clear Xk0
  have HKR0 : Hid (gk ≠ gr) := Nat.ne_of_gt HKR0'.out
  obtain ⟨Wr, hWr⟩ : ∃ W1, W1 = Wk.drew := ⟨_, rfl⟩
  have hbd : Below Wk.heap.size Wk Wr := by rw [hWr]; exact bDrew1 (Below.refl _ _)
  replace Xr : Hid _ := Xr.out.below hbd
  replace Xk : Hid _ := Xk.out.below hbd
  replace hbw := Below.on hbw hbd
  clear hbd
  have HJ : Hid ((fun W' : World => W'.cell? ⟨gk, 0, none⟩ = some (U S) ∧ W'.cell? ⟨gk, 1, none⟩ = some (.int .i64 P) ∧ W'.cell? ⟨gk, 2, none⟩ = some (.int .i64 E) ∧ W'.cell? ⟨gk, 3, none⟩ = some (.int .i64 G) ∧ W'.cell? ⟨gk, 4, none⟩ = some (U I) ∧ W'.cell? ⟨gk, 5, none⟩ = some (U Q)) Wr) := ⟨Xk.out.c0, Xk.out.c1, Xk.out.c2, Xk.out.c3, Xk.out.c4, Xk.out.c5⟩
  refine wp_region_J (fun W' => W'.cell? ⟨gk, 0, none⟩ = some (U S) ∧ W'.cell? ⟨gk, 1, none⟩ = some (.int .i64 P) ∧ W'.cell? ⟨gk, 2, none⟩ = some (.int .i64 E) ∧ W'.cell? ⟨gk, 3, none⟩ = some (.int .i64 G) ∧ W'.cell? ⟨gk, 4, none⟩ = some (U I) ∧ W'.cell? ⟨gk, 5, none⟩ = some (U Q)) (by kernel_rfl) ?_
  rw [← hWr]
  clear hWr
  refine wpJ_tq 0 rfl HJ.out ?_
  refine wpJ_tq 1 rfl HJ.out ?_
  refine wpJ_tq 3 rfl HJ.out ?_
  refine wpJ_tq 4 rfl HJ.out ?_
  refine wpJ_on 2 rfl fun KJ hK => ?_
  go_simp
  refine (HW.out b _).mono ?_
  rintro e9 v3 ⟨v, rfl, ⟨t3, k3_, n3, rfl, _, hz3, hl3⟩, hb3⟩
  rw [HZZ.out] at hz3
  replace Xr : Hid _ := Xr.out.below hb3
  replace Xk : Hid _ := Xk.out.below hb3
  replace hbw := Below.on hbw hb3
  clear hb3
  have Z3 : Hid (ZR v3 t3 (some ⟨k3_, 0, none⟩) n3 z) := hz3
  have HL3 : Hid (n3 ≤ 2200) := hl3
  clear hz3 hl3
  refine hK _ _ ⟨Xk.out.c0, Xk.out.c1, Xk.out.c2, Xk.out.c3, Xk.out.c4, Xk.out.c5⟩ ?_
  clear hK
  refine wpJ_on 5 rfl fun KJ hK => ?_
  go_simp
  have HRB : Hid (gr < v3.heap.size ∧ w.heap.size ≤ v3.heap.size) := ⟨Xr.out.lt, hbw.size⟩
  refine (rdyad_n t3 Z3.out HZ.out.1 HZ.out.2.1 HZ.out.2.2.1 (by have := HL3.out; omega) (by have := HC.out; omega) (by have := HC.out; have := HZ.out; omega)).mono ?_
  rintro e9 v5 ⟨g5, m5, c5, rfl, hg5, hd5, hb5⟩
  have HR5 : Hid (gr < g5) := Nat.lt_of_lt_of_le HRB.out.1 hg5
  replace Xr : Hid _ := Xr.out.below hb5
  replace Xk : Hid _ := Xk.out.below hb5
  replace Z3 : Hid _ := Z3.out.below hb5
  replace hbw := Below.on hbw hb5
  clear hb5
  have D5 : Hid (DN v5 t3 (some ⟨g5, 0, none⟩) m5 c5 (E + (K : Int)) zo) := hd5
  clear hd5 hg5
  refine hK _ _ ⟨Xk.out.c0, Xk.out.c1, Xk.out.c2, Xk.out.c3, Xk.out.c4, Xk.out.c5⟩ ?_
  clear hK
  have z1 : gk ≠ gr := HKR0.out
  have z2 := Ne.symm z1
  obtain ⟨cr0, cr1, cr2, fr0, fr1, fr2⟩ := Xr.out
  have hner : gr < v5.heap.size := World.block_lt_of_cell? v5 _ cr0
  obtain ⟨ck0, ck1, ck2, ck3, ck4, ck5, fk0, fk1, fk2, fk3, fk4, fk5⟩ := Xk.out
  have hnek : gk < v5.heap.size := World.block_lt_of_cell? v5 _ ck0
  refine wpJ_on 6 rfl fun KJ hK => ?_
  go_simp
  have HJ2 : Hid ((fun W' : World => W'.cell? ⟨gk, 0, none⟩ = some (U S) ∧ W'.cell? ⟨gk, 1, none⟩ = some (.int .i64 P) ∧ W'.cell? ⟨gk, 2, none⟩ = some (.int .i64 E) ∧ W'.cell? ⟨gk, 3, none⟩ = some (.int .i64 G) ∧ W'.cell? ⟨gk, 4, none⟩ = some (U I) ∧ W'.cell? ⟨gk, 5, none⟩ = some (U Q)) (((v5.setCell ⟨gr, 0, none⟩ (.bool t3)).setCell ⟨gr, 1, none⟩ (.slice (some ⟨g5, 0, none⟩) m5 c5)).setCell ⟨gr, 2, none⟩ (.int .i64 (E + (K : Int))))) := ⟨by go_simp, by go_simp, by go_simp, by go_simp, by go_simp, by go_simp⟩
  refine hK _ _ HJ2.out ?_
  clear hK HJ
  have HJ := HJ2
  clear HJ2
  refine wpJ_tq 7 rfl HJ.out ?_
  refine wpJ_done (by kernel_rfl) ?_ _
  clear HJ
  go_wp2_with fail
  refine bodyPost_ret (v := .tuple #[DV t3 (some ⟨g5, 0, none⟩) m5 c5 (E + (K : Int)), .int .i64 0]) (by rw [results_cell_tmp rfl]; go_simp) rfl ⟨t3, g5, m5, c5, rfl, ?_, ?_⟩
  · have := HR5.out
    exact ((D5.out.set _ _ _ (by omega)).set _ _ _ (by omega)).set _ _ _ (by omega)
  · exact bSet (bSet (bSet hbw _ _ _ HGr.out) _ _ _ HGr.out) _ _ _ HGr.out
theorem cls_e {f : Int} {b : Nat} {er : Int} (hB : ∀ w, Calls Tryd.prog 21 #[.int .i64 f, U b] w fun e w' => e = .returned (.tuple #[PV 0 0 0 false 0, .int .i64 er]) ∧ Below w.heap.size w w') (he : er ≠ 0) (w : World) :
    Calls Tryd.prog 8 #[.int .i64 f, U b] w fun en w' => en = .returned (.tuple #[.int .i64 0, .int .i64 er]) ∧ Below w.heap.size w w' := by
  have HB : Hid (∀ w, Calls Tryd.prog 21 #[.int .i64 f, U b] w fun e w' => e = .returned (.tuple #[PV 0 0 0 false 0, .int .i64 er]) ∧ Below w.heap.size w w') := hB
  have e1 : (er == 0) = false := by simp [he]
  have e2 : (er != 0) = true := by simp [he]
  have hbw : Below w.heap.size w w := Below.refl _ _
  clear hB he
  go_enter Tryd.func8, Tryd.ntmps8
  go_wp2_with fail
  refine (HB.out _).mono ?_
  rintro e v1 ⟨rfl, hb1⟩
  replace hbw := Below.on hbw hb1
  clear hb1
  go_wp2_with fail
  go_ret2
  refine ⟨rfl, ?_⟩
  first | exact hbw | exact Below.on hbw (below1 _ _)
theorem docclass_e {f : Int} {b : Nat} {er : Int} (hB : ∀ w, Calls Tryd.prog 44 #[.int .i64 f, U b] w fun e w' => e = .returned (.int .i64 er) ∧ Below w.heap.size w w') (he : er ≠ 0) (w : World) :
    Calls Tryd.prog 23 #[.int .i64 f, U b] w fun en w' => en = .returned (.tuple #[.int .i64 0, .int .i64 er]) ∧ Below w.heap.size w w' := by
  have HB : Hid (∀ w, Calls Tryd.prog 44 #[.int .i64 f, U b] w fun e w' => e = .returned (.int .i64 er) ∧ Below w.heap.size w w') := hB
  have e1 : (er == 0) = false := by simp [he]
  have e2 : (er != 0) = true := by simp [he]
  have hbw : Below w.heap.size w w := Below.refl _ _
  clear hB he
  go_enter Tryd.func23, Tryd.ntmps23
  go_wp2_with fail
  refine (HB.out _).mono ?_
  rintro e v1 ⟨rfl, hb1⟩
  replace hbw := Below.on hbw hb1
  clear hb1
  go_wp2_with fail
  go_ret2
  refine ⟨rfl, ?_⟩
  first | exact hbw | exact Below.on hbw (below1 _ _)
theorem docsplit_e {f : Int} {b : Nat} {er : Int} (hB : ∀ w, Calls Tryd.prog 48 #[.int .i64 f, U b] w fun e w' => e = .returned (.int .i64 er) ∧ Below w.heap.size w w') (he : er ≠ 0) (w : World) :
    Calls Tryd.prog 24 #[.int .i64 f, U b] w fun en w' => en = .returned (.tuple #[.bool false, .int .u64 0, .int .i64 0, .int .i64 er]) ∧ Below w.heap.size w w' := by
  have HB : Hid (∀ w, Calls Tryd.prog 48 #[.int .i64 f, U b] w fun e w' => e = .returned (.int .i64 er) ∧ Below w.heap.size w w') := hB
  have e1 : (er == 0) = false := by simp [he]
  have e2 : (er != 0) = true := by simp [he]
  have hbw : Below w.heap.size w w := Below.refl _ _
  clear hB he
  go_enter Tryd.func24, Tryd.ntmps24
  go_wp2_with fail
  refine (HB.out _).mono ?_
  rintro e v1 ⟨rfl, hb1⟩
  replace hbw := Below.on hbw hb1
  clear hb1
  go_wp2_with fail
  refine bodyPost_ret (v := .tuple #[.bool false, .int .u64 0, .int .i64 0, .int .i64 er]) (by rw [results_t4 rfl]; go_simp) rfl ⟨rfl, ?_⟩
  first | exact hbw | exact Below.on hbw (below1 _ _)
theorem quiet_x (f : Int) (h1 : f ≠ 32) (h2 : f ≠ 64) (w : World) :
    Calls Tryd.prog 55 #[.int .i64 f] w fun en w' => en = .returned (.tuple #[.int .u64 0, .int .i64 1]) ∧ Below w.heap.size w w' := by
  have H : Hid (f ≠ 32 ∧ f ≠ 64) := ⟨h1, h2⟩
  have hbw : Below w.heap.size w w := Below.refl _ _
  clear h1 h2
  go_enter Tryd.func55, Tryd.ntmps55
  go_wp2_with fail
  refine (of_x f H.out.1 H.out.2 _).mono ?_
  rintro e v1 ⟨rfl, hb1⟩
  replace hbw := Below.on hbw hb1
  clear hb1
  go_wp2_with fail
  go_ret2
  refine ⟨rfl, ?_⟩
  first | exact hbw | exact Below.on hbw (below1 _ _)
theorem docquiet_x (f : Int) (h1 : f ≠ 32) (h2 : f ≠ 64) (w : World) :
    Calls Tryd.prog 60 #[.int .i64 f] w fun en w' => en = .returned (.tuple #[.int .u64 0, .int .i64 1]) ∧ Below w.heap.size w w' := by
  have H : Hid (f ≠ 32 ∧ f ≠ 64) := ⟨h1, h2⟩
  have hbw : Below w.heap.size w w := Below.refl _ _
  clear h1 h2
  go_enter Tryd.func60, Tryd.ntmps60
  go_wp2_with fail
  refine (rof_x f H.out.1 H.out.2 _).mono ?_
  rintro e v1 ⟨rfl, hb1⟩
  replace hbw := Below.on hbw hb1
  clear hb1
  go_wp2_with fail
  go_ret2
  refine ⟨rfl, ?_⟩
  first | exact hbw | exact Below.on hbw (below1 _ _)
theorem docquiet_o {f P E G : Int} {S I Q : Nat} (R : Rf f S P E G I Q) (w : World) :
    Calls Tryd.prog 60 #[.int .i64 f] w fun en w' => en = .returned (.tuple #[U Q, .int .i64 0]) ∧ Below w.heap.size w w' := by
  have H : Hid (Rf f S P E G I Q) := R
  have hbw : Below w.heap.size w w := Below.refl _ _
  clear R
  go_enter Tryd.func60, Tryd.ntmps60
  go_wp2_with fail
  refine (H.out.of _).mono ?_
  rintro e v1 ⟨rfl, hb1⟩
  replace hbw := Below.on hbw hb1
  clear hb1
  go_wp2_with fail
  go_ret2
  refine ⟨rfl, ?_⟩
  first | exact hbw | exact Below.on hbw (below1 _ _)
theorem join_x (f : Int) (h1 : f ≠ 32) (h2 : f ≠ 64) (neg : Bool) (man : Nat) (ex : Int) (w : World) :
    Calls Tryd.prog 6 #[.int .i64 f, .bool neg, U man, .int .i64 ex] w fun en w' => en = .returned (.tuple #[.int .u64 0, .int .i64 1]) ∧ Below w.heap.size w w' := by
  have H : Hid (f ≠ 32 ∧ f ≠ 64) := ⟨h1, h2⟩
  have hbw : Below w.heap.size w w := Below.refl _ _
  clear h1 h2
  go_enter Tryd.func6, Tryd.ntmps6
  go_wp2_with fail
  refine (of_x f H.out.1 H.out.2 _).mono ?_
  rintro e v1 ⟨rfl, hb1⟩
  replace hbw := Below.on hbw hb1
  clear hb1
  go_wp2_with fail
  go_ret2
  refine ⟨rfl, ?_⟩
  first | exact hbw | exact Below.on hbw (below1 _ _)
theorem docjoin_x (f : Int) (h1 : f ≠ 32) (h2 : f ≠ 64) (neg : Bool) (man : Nat) (ex : Int) (w : World) :
    Calls Tryd.prog 61 #[.int .i64 f, .bool neg, U man, .int .i64 ex] w fun en w' => en = .returned (.tuple #[.int .u64 0, .int .i64 1]) ∧ Below w.heap.size w w' := by
  have H : Hid (f ≠ 32 ∧ f ≠ 64) := ⟨h1, h2⟩
  have hbw : Below w.heap.size w w := Below.refl _ _
  clear h1 h2
  go_enter Tryd.func61, Tryd.ntmps61
  go_wp2_with fail
  refine (rof_x f H.out.1 H.out.2 _).mono ?_
  rintro e v1 ⟨rfl, hb1⟩
  replace hbw := Below.on hbw hb1
  clear hb1
  go_wp2_with fail
  go_ret2
  refine ⟨rfl, ?_⟩
  first | exact hbw | exact Below.on hbw (below1 _ _)
theorem docsplit_o {f P E G : Int} {S I Q H : Nat} (R : Rf f S P E G I Q) (pt : ∀ (s : Nat) w, s < S → Calls Tryd.prog 49 #[FV S P E G I Q, U s] w fun e w' => e = .returned (.tuple #[U (s - (s / H - 1) * H), .int .i64 (E + ((s / H - 1 : Nat) : Int))]) ∧ Below w.heap.size w w') (b : Nat) (hb : b < 2 * S) (hr : b % S < I) (hc : 0 < S ∧ S ≤ 9223372036854775808) (w : World) :
    Calls Tryd.prog 24 #[.int .i64 f, U b] w fun en w' => en = .returned (.tuple #[.bool (decide (S ≤ b)), U (b % S - (b % S / H - 1) * H), .int .i64 (E + ((b % S / H - 1 : Nat) : Int)), .int .i64 0]) ∧ Below w.heap.size w w' := by
  have HC : Hid (Rf f S P E G I Q ∧ b < 2 * S ∧ b % S < I ∧ (0 < S ∧ S ≤ 9223372036854775808)) := ⟨R, hb, hr, hc⟩
  have hps := fun w => pt (b % S) w (Nat.mod_lt _ hc.1)
  obtain ⟨mn, hmn⟩ : ∃ mn, mn = b % S - (b % S / H - 1) * H := ⟨_, rfl⟩
  obtain ⟨eo, heo⟩ : ∃ eo, eo = E + ((b % S / H - 1 : Nat) : Int) := ⟨_, rfl⟩
  obtain ⟨sg, hsg⟩ : ∃ sg, sg = decide (S ≤ b) := ⟨_, rfl⟩
  obtain ⟨z, hz⟩ : ∃ z, z = b % S := ⟨_, rfl⟩
  simp only [← hmn, ← heo] at hps
  rw [← hmn, ← heo, ← hsg]
  simp only [← hz] at hps
  have HP : Hid (∀ w, Calls Tryd.prog 49 #[FV S P E G I Q, U z] w fun e w' => e = .returned (.tuple #[U mn, .int .i64 eo]) ∧ Below w.heap.size w w') := hps
  have HZ : Hid (b % S = z ∧ decide (S ≤ b) = sg) := ⟨hz.symm, hsg.symm⟩
  have hbw : Below w.heap.size w w := Below.refl _ _
  clear R pt hb hr hc hps hmn heo hsg hz
  go_enter Tryd.func24, Tryd.ntmps24
  go_wp2_with fail
  refine (rfin_o HC.out.1 b HC.out.2.1 HC.out.2.2.1 HC.out.2.2.2.1 HC.out.2.2.2.2 _).mono ?_
  rintro e v1 ⟨rfl, hb1⟩
  replace hbw := Below.on hbw hb1
  clear hb1
  go_wp2_with fail
  refine (HC.out.1.of _).mono ?_
  rintro e v2 ⟨rfl, hb2⟩
  replace hbw := Below.on hbw hb2
  clear hb2
  go_wp2_with fail
  have Xk0 : Hid (B6q (v2.alloc (.cells #[U S, .int .i64 P, .int .i64 E, .int .i64 G, U I, U Q] 89)) v2.heap.size (U S) (.int .i64 P) (.int .i64 E) (.int .i64 G) (U I) (U Q)) := B6q.new v2 _ _ _ _ _ _ _
  have hbn : Below v2.heap.size v2 (v2.alloc (.cells #[U S, .int .i64 P, .int .i64 E, .int .i64 G, U I, U Q] 89)) := below1 v2 _
  generalize v2.alloc (.cells #[U S, .int .i64 P, .int .i64 E, .int .i64 G, U I, U Q] 89) = Wk at *
  have HGk : Hid (w.heap.size ≤ v2.heap.size) := hbw.size
  replace hbw := Below.on hbw hbn
  clear hbn
  generalize v2.heap.size = gk at *
  have Xk := Xk0
  clear Xk0
  refine (cut_any HC.out.2.2.2.1 HC.out.2.2.2.2 b _).mono ?_
  rintro e v3 ⟨rfl, hb3⟩
  rw [HZ.out.1, HZ.out.2]
  replace Xk : Hid _ := Xk.out.below hb3
  replace hbw := Below.on hbw hb3
  clear hb3
  obtain ⟨ck0, ck1, ck2, ck3, ck4, ck5, fk0, fk1, fk2, fk3, fk4, fk5⟩ := Xk.out
  have hnek : gk < v3.heap.size := World.block_lt_of_cell? v3 _ ck0
  go_wp2_with fail
  clear ck0 ck1 ck2 ck3 ck4 ck5 fk0 fk1 fk2 fk3 fk4 fk5 hnek
  refine (HP.out _).mono ?_
  rintro e v4 ⟨rfl, hb4⟩
  replace Xk : Hid _ := Xk.out.below hb4
  replace hbw := Below.on hbw hb4
  clear hb4
  obtain ⟨ck0, ck1, ck2, ck3, ck4, ck5, fk0, fk1, fk2, fk3, fk4, fk5⟩ := Xk.out
  have hnek : gk < v4.heap.size := World.block_lt_of_cell? v4 _ ck0
  go_wp2_with fail
  clear ck0 ck1 ck2 ck3 ck4 ck5 fk0 fk1 fk2 fk3 fk4 fk5 hnek
  refine bodyPost_ret (v := .tuple #[.bool sg, U mn, .int .i64 eo, .int .i64 0]) (by rw [results_t4 rfl]; go_simp) rfl ⟨rfl, hbw⟩
def ClsB (f : Int) (b : Nat) : Prop := ∃ c er : Int, (∀ w, Calls Tryd.prog 8 #[.int .i64 f, U b] w fun en w' => en = .returned (.tuple #[.int .i64 c, .int .i64 er]) ∧ Below w.heap.size w w') ∧ (∀ w, Calls Tryd.prog 23 #[.int .i64 f, U b] w fun en w' => en = .returned (.tuple #[.int .i64 c, .int .i64 er]) ∧ Below w.heap.size w w')
theorem cls_all (f : Int) {b : Nat} (hb9 : b < B64) : ClsB f b := by
  by_cases h1 : f = 32
  · subst h1
    by_cases h2 : b < 2 * 2147483648
    · exact ⟨_, _, clsof_32 b h2, docclass_32 b h2⟩
    · exact ⟨_, 2, cls_e (fun w => fm_32.big b w hb9 (by omega)) (by decide), docclass_e (check_big rf_32 b hb9 (by omega)) (by decide)⟩
  by_cases h2 : f = 64
  · subst h2
    exact ⟨_, _, clsof_64 b (by rw [B64_eq] at hb9; omega), docclass_64 b (by rw [B64_eq] at hb9; omega)⟩
  · exact ⟨_, 1, cls_e (fun w => patternOf_x f h1 h2 b w) (by decide), docclass_e (fun w => check_x f h1 h2 b w) (by decide)⟩
def QtB (f : Int) : Prop := ∃ v er : Int, (∀ w, Calls Tryd.prog 55 #[.int .i64 f] w fun en w' => en = .returned (.tuple #[.int .u64 v, .int .i64 er]) ∧ Below w.heap.size w w') ∧ (∀ w, Calls Tryd.prog 60 #[.int .i64 f] w fun en w' => en = .returned (.tuple #[.int .u64 v, .int .i64 er]) ∧ Below w.heap.size w w')
theorem quiet_all (f : Int) : QtB f := by
  by_cases h1 : f = 32
  · subst h1; exact ⟨_, _, quiet_32, docquiet_o rf_32⟩
  by_cases h2 : f = 64
  · subst h2; exact ⟨_, _, quiet_64, docquiet_o rf_64⟩
  · exact ⟨_, _, quiet_x f h1 h2, docquiet_x f h1 h2⟩
def SplB (f : Int) (b : Nat) : Prop := ∃ (s : Bool) (mn e er : Int), (∀ w, Calls Tryd.prog 18 #[.int .i64 f, U b] w fun en w' => en = .returned (.tuple #[.bool s, .int .u64 mn, .int .i64 e, .int .i64 er]) ∧ Below w.heap.size w w') ∧ (∀ w, Calls Tryd.prog 24 #[.int .i64 f, U b] w fun en w' => en = .returned (.tuple #[.bool s, .int .u64 mn, .int .i64 e, .int .i64 er]) ∧ Below w.heap.size w w')
def FinB (f : Int) (b : Nat) : Prop := ∃ er : Int, er ≠ 0 ∧ (∀ w, Calls Tryd.prog 37 #[.int .i64 f, U b] w fun e w' => e = .returned (.tuple #[PV 0 0 0 false 0, .int .i64 er]) ∧ Below w.heap.size w w') ∧ (∀ w, Calls Tryd.prog 48 #[.int .i64 f, U b] w fun e w' => e = .returned (.int .i64 er) ∧ Below w.heap.size w w')
theorem finb_fmt {f p m l P G : Int} {S I Q H : Nat} (F : Pm f p m l S I H) (R : Rf f S P l G I Q) (hc : I < S ∧ S ≤ 9223372036854775808) {b : Nat} (hb9 : b < B64) (h : ¬ (b < 2 * S ∧ b % S < I)) : FinB f b := by
  by_cases h1 : b < 2 * S
  · have h3 : I ≤ b % S := by omega
    refine ⟨6, by decide, fun w => ?_, fun w => rfin_i R b h1 h3 (by omega) hc.2 w⟩
    rcases Nat.eq_or_lt_of_le h3 with h4 | h4
    · exact finite_i F b h1 h4.symm w
    · exact finite_e (fun w => ranked_nan F.fm b h1 h4 w) (by decide) w
  · exact ⟨2, by decide, fun w => finite_e (fun w => ranked_bad (fun w => F.fm.big b w hb9 (by omega)) (by decide) w) (by decide) w, fun w => rfin_b R b hb9 (by omega) w⟩
theorem finb_x (f : Int) (h1 : f ≠ 32) (h2 : f ≠ 64) (b : Nat) : FinB f b :=
  ⟨1, by decide, fun w => finite_e (fun w => ranked_bad (fun w => patternOf_x f h1 h2 b w) (by decide) w) (by decide) w, fun w => rfin_x f h1 h2 b w⟩
theorem spl_err {f : Int} {b : Nat} (h : FinB f b) : SplB f b := by
  obtain ⟨er, h1, h2, h3⟩ := h
  exact ⟨_, _, _, _, split_e h2 h1, docsplit_e h3 h1⟩
theorem split_all (f : Int) {b : Nat} (hb9 : b < B64) : SplB f b := by
  by_cases h1 : f = 32
  · subst h1
    by_cases h : b < 2 * 2147483648 ∧ b % 2147483648 < 2139095040
    · exact ⟨_, _, _, _, split_ok pm_32 b h.1 h.2, docsplit_o rf_32 (fun s w hs => rparts_all32 s hs w) b h.1 h.2 (by decide)⟩
    · exact spl_err (finb_fmt pm_32 rf_32 (by decide) hb9 h)
  by_cases h2 : f = 64
  · subst h2
    by_cases h : b < 2 * 9223372036854775808 ∧ b % 9223372036854775808 < 9218868437227405312
    · exact ⟨_, _, _, _, split_ok pm_64 b h.1 h.2, docsplit_o rf_64 (fun s w hs => rparts_all64 s hs w) b h.1 h.2 (by decide)⟩
    · exact spl_err (finb_fmt pm_64 rf_64 (by decide) hb9 h)
  · exact spl_err (finb_x f h1 h2 b)
def ValB (f : Int) (b : Nat) : Prop := ∃ er z e : Int, (∀ w, Tab w → Calls Tryd.prog 7 #[.int .i64 f, U b] w fun en w' => ∃ s p m c, en = .returned (.tuple #[DV s p m c e, .int .i64 er]) ∧ DN w' s p m c e z ∧ Below w.heap.size w w') ∧ (∀ w, Calls Tryd.prog 25 #[.int .i64 f, U b] w fun en w' => ∃ s p m c, en = .returned (.tuple #[DV s p m c e, .int .i64 er]) ∧ DN w' s p m c e z ∧ Below w.heap.size w w')
theorem val_err {f : Int} {b : Nat} (h : FinB f b) : ValB f b := by
  obtain ⟨er, h1, h2, h3⟩ := h
  exact ⟨er, 0, 0, fun w _ => (value_e h2 h1 w).mono fun _ w' ⟨h3, h4⟩ => ⟨_, _, _, _, h3, dn_z0 w', h4⟩, fun w => (docvalue_e h3 h1 w).mono fun _ w' ⟨h3, h4⟩ => ⟨_, _, _, _, h3, dn_z0 w', h4⟩⟩
theorem hk9 {v K L : Nat} (hv : v < 2 ^ L) (hK : TzIs v K) : K < L := by
  have h1 : 2 ^ K ≤ v := by
    rcases Nat.lt_or_ge v (2 ^ K) with e | e
    · have h2 := hK.2
      rw [Nat.div_eq_of_lt e] at h2
      omega
    · exact e
  exact (Nat.pow_lt_pow_iff_right (by omega : 1 < 2)).1 (Nat.lt_of_le_of_lt h1 hv)
theorem val_fmt {f p m l P G : Int} {S I Q H L : Nat} (hL : L ≤ 2200) (hLv : ∀ b, (svS S H b).natAbs < 2 ^ L) (F : Pm f p m l S I H) (R : Rf f S P l G I Q) (wh : ∀ (b : Nat) w, Calls Tryd.prog 51 #[FV S P l G I Q, U b] w fun en w' => ∃ v, en = .returned v ∧ GotR w.heap.size w' v (svS S H b) 2200 ∧ Below w.heap.size w w') (hc : I < S ∧ S ≤ 9223372036854775808) {b : Nat} (h1 : b < 2 * S) (h2 : b % S < I) : ValB f b := by
  have hlo := F.lo
  have hp : ∀ {zo eo : Int}, VF S H l b zo eo → ∀ w, Tab w → Calls Tryd.prog 7 #[.int .i64 f, U b] w fun en w' => ∃ s p m c, en = .returned (.tuple #[DV s p m c eo, .int .i64 0]) ∧ DN w' s p m c eo zo ∧ Below w.heap.size w w' := by
    intro zo eo hv w hT
    refine (value_v F h1 h2 hv w hT).mono fun en w' ⟨v, h5, h6, h7⟩ => ?_
    obtain ⟨s, p, m, rfl, h8⟩ := h6.dn hv.fm
    exact ⟨s, p, m, m, h5, h8, h7⟩
  by_cases hz : svS S H b = 0
  · have hv : VF S H l b 0 0 := ⟨.inl ⟨rfl, rfl⟩, by rw [hz, dv_zero, dv_zero]⟩
    exact ⟨0, 0, 0, hp hv, fun w => (docvalue_z R wh b h1 h2 (by omega) hz w).mono fun _ w' ⟨h3, h4⟩ => ⟨_, _, _, _, h3, dn_z0 w', h4⟩⟩
  · obtain ⟨K, hK⟩ := TzIs.ex (svS S H b).natAbs (by omega)
    obtain ⟨zo, g1, g2, g3, g4, g5⟩ := tz_vale hz hK
    have hK9 : K ≤ 2200 := by have := hk9 (hLv b) hK; omega
    have hv : VF S H l b zo (l + K) := ⟨.inr ⟨g2, by omega, by omega⟩, by rw [dv_up _ (by omega), g3]⟩
    exact ⟨0, zo, l + K, hp hv, fun w => (docvalue_n R wh b h1 h2 (by omega) hz hK ⟨g1, g2, g4, g5⟩ hK9 w).mono fun _ w' ⟨s, g, m', c', h3, h4, h5⟩ => ⟨_, _, _, _, h3, h4, h5⟩⟩
theorem value_all (f : Int) {b : Nat} (hb9 : b < B64) : ValB f b := by
  obtain ⟨L, hL⟩ : ∃ L, L = 2200 := ⟨_, rfl⟩
  by_cases h1 : f = 32
  · subst h1
    by_cases h : b < 2 * 2147483648 ∧ b % 2147483648 < 2139095040
    · exact val_fmt (L := L) (by omega) (fun b => svS_lt b (a := 23) (c := 256) (by decide) (by decide) (by decide) (by decide) (by omega)) pm_32 rf_32 (fun b w => rwhole_32 w) (by decide) h.1 h.2
    · exact val_err (finb_fmt pm_32 rf_32 (by decide) hb9 h)
  by_cases h2 : f = 64
  · subst h2
    by_cases h : b < 2 * 9223372036854775808 ∧ b % 9223372036854775808 < 9218868437227405312
    · exact val_fmt (L := L) (by omega) (fun b => svS_lt b (a := 52) (c := 2048) (by decide) (by decide) (by decide) (by decide) (by omega)) pm_64 rf_64 (fun b w => rwhole_64 w) (by decide) h.1 h.2
    · exact val_err (finb_fmt pm_64 rf_64 (by decide) hb9 h)
  · exact val_err (finb_x f h1 h2 b)
theorem rj_32 : Rj 32 2147483648 24 (-149) 104 2139095040 2143289345 8388608 23 254 128 :=
  ⟨rf_32, fun b w => rwhole_32 w, by decide, by decide, by decide, by decide, by decide, by decide, by decide, by decide⟩
theorem rj_64 : Rj 64 9223372036854775808 53 (-1074) 971 9218868437227405312 9221120237041090561 4503599627370496 52 2046 1024 :=
  ⟨rf_64, fun b w => rwhole_64 w, by decide, by decide, by decide, by decide, by decide, by decide, by decide, by decide⟩
theorem JA.ex (S H I : Nat) (l : Int) (neg : Bool) (man : Nat) (ex : Int) : ∃ r er, JA S H I l neg man ex r er := by
  by_cases h : ∃ s, JnR H I l man ex s
  · obtain ⟨s, hs⟩ := h
    exact ⟨_, 0, .inl ⟨rfl, s, hs, rfl⟩⟩
  · exact ⟨0, 5, .inr ⟨rfl, rfl, fun s hs => h ⟨s, hs⟩⟩⟩
theorem docjoin_all {f : Int} {S : Nat} {P E G : Int} {I Q H sd n : Nat} {Be : Int} (R : Rj f S P E G I Q H sd n Be) (neg : Bool) {man : Nat} (h9 : man < B64) (ex : Int) (hx : -9223372036854775808 ≤ ex ∧ ex ≤ 9223372036854775807) (w : World) :
    Calls Tryd.prog 61 #[.int .i64 f, .bool neg, U man, .int .i64 ex] w fun en w' => ∃ r er, en = .returned (.tuple #[U r, .int .i64 er]) ∧ JA S H I E neg man ex r er ∧ Below w.heap.size w w' := by
  by_cases h0 : man = 0
  · subst h0
    have hJ : ∀ neg, JA S H I E neg 0 ex (if neg then S else 0) 0 := fun neg => .inl ⟨rfl, 0, ⟨by rw [R.hI, R.hs]; exact Nat.mul_pos (by omega) (Nat.two_pow_pos _), by rw [vs_zero, Nat.zero_mul, Nat.zero_mul]⟩, by cases neg <;> rfl⟩
    cases neg
    · exact (docjoin_zfalse R.rf ex w).mono fun en w' ⟨h1, h2⟩ => ⟨_, _, h1, hJ false, h2⟩
    · exact (docjoin_ztrue R.rf ex w).mono fun en w' ⟨h1, h2⟩ => ⟨_, _, h1, hJ true, h2⟩
  · cases neg
    · exact docjoin_nfalse R h0 h9 ex hx w
    · exact docjoin_ntrue R h0 h9 ex hx w
def JnB (f : Int) (neg : Bool) (b : Nat) (n : Int) : Prop := ∃ v er : Int, (∀ w, Tab w → Calls Tryd.prog 6 #[.int .i64 f, .bool neg, U b, .int .i64 n] w fun en w' => en = .returned (.tuple #[.int .u64 v, .int .i64 er]) ∧ Below w.heap.size w w') ∧ (∀ w, Calls Tryd.prog 61 #[.int .i64 f, .bool neg, U b, .int .i64 n] w fun en w' => en = .returned (.tuple #[.int .u64 v, .int .i64 er]) ∧ Below w.heap.size w w')
theorem jn_fmt {f p m l : Int} {S I H sd : Nat} {Be P G : Int} {Q n' : Nat} (J : Jm f p m l S I H sd Be) (R : Rj f S P l G I Q H sd n' Be) (neg : Bool) {b : Nat} (hb : b < B64) (n : Int) (hx : -9223372036854775808 ≤ n ∧ n ≤ 9223372036854775807) : JnB f neg b n := by
  obtain ⟨r, er, hA⟩ := JA.ex S H I l neg b n
  refine ⟨r, er, fun w hT => (join_all J R.hn R.hI R.n1 neg hb n w hT).mono fun en w' ⟨r', er', h1, h2, h3⟩ => ⟨?_, h3⟩, fun w => (docjoin_all R neg hb n hx w).mono fun en w' ⟨r', er', h1, h2, h3⟩ => ⟨?_, h3⟩⟩
  · obtain ⟨e1, e2⟩ := hA.uniq J.pm.hp h2
    rw [h1, e1, e2]
  · obtain ⟨e1, e2⟩ := hA.uniq J.pm.hp h2
    rw [h1, e1, e2]
theorem jn_all (f : Int) (neg : Bool) {b : Nat} (hb : b < B64) (n : Int) (hx : -9223372036854775808 ≤ n ∧ n ≤ 9223372036854775807) : JnB f neg b n := by
  by_cases h1 : f = 32
  · subst h1; exact jn_fmt jm_32 rj_32 neg hb n hx
  by_cases h2 : f = 64
  · subst h2; exact jn_fmt jm_64 rj_64 neg hb n hx
  · exact ⟨0, 1, fun w _ => join_x f h1 h2 neg b n w, fun w => docjoin_x f h1 h2 neg b n w⟩
theorem bplays_1 {f : Int} {b : Nat} {neg : Bool} {n : Int} (hb9 : b < B64) (_hn : -9223372036854775808 ≤ n ∧ n ≤ 9223372036854775807) (w : World) (_hT : Tab w) :
    Calls Tryd.prog 10 #[OV 1 f b neg n] w fun en w' => en = .returned (.bool true) ∧ Below w.heap.size w w' := by
  obtain ⟨c, er, h1, h2⟩ := cls_all f hb9
  have H1 : Hid (∀ w, Calls Tryd.prog 8 #[.int .i64 f, U b] w fun en w' => en = .returned (.tuple #[.int .i64 c, .int .i64 er]) ∧ Below w.heap.size w w') := h1
  have H2 : Hid (∀ w, Calls Tryd.prog 23 #[.int .i64 f, U b] w fun en w' => en = .returned (.tuple #[.int .i64 c, .int .i64 er]) ∧ Below w.heap.size w w') := h2
  have q0 : (c == c) = true := by simp
  have q1 : (er == er) = true := by simp
  clear h1 h2 hb9
  go_enter Tryd.func10, Tryd.ntmps10
  go_wp2_with fail
  obtain ⟨W0, hW0⟩ : ∃ W0, W0 = (w.alloc (.cells #[.int .i64 1, .int .i64 f, U b, .bool neg, .int .i64 n] 44)) := ⟨_, rfl⟩
  have Xo : Hid (B5q W0 (w.heap.size) (.int .i64 1) (.int .i64 f) (U b) (.bool neg) (.int .i64 n)) := by rw [hW0]; exact ⟨by go_simp, by go_simp, by go_simp, by go_simp, by go_simp, by go_simp, by go_simp, by go_simp, by go_simp, by go_simp⟩
  have hb0 : Below w.heap.size w W0 := by rw [hW0]; exact below1 w _
  rw [← hW0]
  clear hW0
  have hbw : Below w.heap.size w w := Below.refl _ _
  obtain ⟨go, hgo⟩ : ∃ g, g = w.heap.size := ⟨_, rfl⟩
  have HGo : Hid (w.heap.size ≤ go) := by rw [hgo]; show _ ≤ _; omega
  rw [← hgo] at Xo
  try rw [← hgo]
  clear hgo
  replace hbw := Below.on hbw hb0
  clear hb0
  obtain ⟨co0, co1, co2, co3, co4, fo0, fo1, fo2, fo3, fo4⟩ := Xo.out
  have hneo : go < W0.heap.size := World.block_lt_of_cell? W0 _ co0
  go_wp2_with fail
  clear co0 co1 co2 co3 co4 fo0 fo1 fo2 fo3 fo4 hneo
  refine (H1.out _).mono ?_
  rintro e v1 ⟨rfl, hb1⟩
  replace Xo : Hid _ := Xo.out.below hb1
  replace hbw := Below.on hbw hb1
  clear hb1
  obtain ⟨co0, co1, co2, co3, co4, fo0, fo1, fo2, fo3, fo4⟩ := Xo.out
  have hneo : go < v1.heap.size := World.block_lt_of_cell? v1 _ co0
  go_wp2_with fail
  clear co0 co1 co2 co3 co4 fo0 fo1 fo2 fo3 fo4 hneo
  refine (H2.out _).mono ?_
  rintro e v2 ⟨rfl, hb2⟩
  replace Xo : Hid _ := Xo.out.below hb2
  replace hbw := Below.on hbw hb2
  clear hb2
  obtain ⟨co0, co1, co2, co3, co4, fo0, fo1, fo2, fo3, fo4⟩ := Xo.out
  have hneo : go < v2.heap.size := World.block_lt_of_cell? v2 _ co0
  go_wp2_with fail
  clear co0 co1 co2 co3 co4 fo0 fo1 fo2 fo3 fo4 hneo
  go_ret
  exact ⟨rfl, hbw⟩
theorem bplays_3 {f : Int} {b : Nat} {neg : Bool} {n : Int} (hb9 : b < B64) (_hn : -9223372036854775808 ≤ n ∧ n ≤ 9223372036854775807) (w : World) (_hT : Tab w) :
    Calls Tryd.prog 10 #[OV 3 f b neg n] w fun en w' => en = .returned (.bool true) ∧ Below w.heap.size w w' := by
  obtain ⟨s, mn, e, er, h1, h2⟩ := split_all f hb9
  have H1 : Hid (∀ w, Calls Tryd.prog 18 #[.int .i64 f, U b] w fun en w' => en = .returned (.tuple #[.bool s, .int .u64 mn, .int .i64 e, .int .i64 er]) ∧ Below w.heap.size w w') := h1
  have H2 : Hid (∀ w, Calls Tryd.prog 24 #[.int .i64 f, U b] w fun en w' => en = .returned (.tuple #[.bool s, .int .u64 mn, .int .i64 e, .int .i64 er]) ∧ Below w.heap.size w w') := h2
  have q0 : (s == s) = true := by simp
  have q1 : (mn == mn) = true := by simp
  have q2 : (e == e) = true := by simp
  have q3 : (er == er) = true := by simp
  clear h1 h2 hb9
  go_enter Tryd.func10, Tryd.ntmps10
  go_wp2_with fail
  obtain ⟨W0, hW0⟩ : ∃ W0, W0 = (w.alloc (.cells #[.int .i64 3, .int .i64 f, U b, .bool neg, .int .i64 n] 44)) := ⟨_, rfl⟩
  have Xo : Hid (B5q W0 (w.heap.size) (.int .i64 3) (.int .i64 f) (U b) (.bool neg) (.int .i64 n)) := by rw [hW0]; exact ⟨by go_simp, by go_simp, by go_simp, by go_simp, by go_simp, by go_simp, by go_simp, by go_simp, by go_simp, by go_simp⟩
  have hb0 : Below w.heap.size w W0 := by rw [hW0]; exact below1 w _
  rw [← hW0]
  clear hW0
  have hbw : Below w.heap.size w w := Below.refl _ _
  obtain ⟨go, hgo⟩ : ∃ g, g = w.heap.size := ⟨_, rfl⟩
  have HGo : Hid (w.heap.size ≤ go) := by rw [hgo]; show _ ≤ _; omega
  rw [← hgo] at Xo
  try rw [← hgo]
  clear hgo
  replace hbw := Below.on hbw hb0
  clear hb0
  obtain ⟨co0, co1, co2, co3, co4, fo0, fo1, fo2, fo3, fo4⟩ := Xo.out
  have hneo : go < W0.heap.size := World.block_lt_of_cell? W0 _ co0
  go_wp2_with fail
  clear co0 co1 co2 co3 co4 fo0 fo1 fo2 fo3 fo4 hneo
  refine (H1.out _).mono ?_
  rintro e v1 ⟨rfl, hb1⟩
  replace Xo : Hid _ := Xo.out.below hb1
  replace hbw := Below.on hbw hb1
  clear hb1
  obtain ⟨co0, co1, co2, co3, co4, fo0, fo1, fo2, fo3, fo4⟩ := Xo.out
  have hneo : go < v1.heap.size := World.block_lt_of_cell? v1 _ co0
  go_wp2_with fail
  clear co0 co1 co2 co3 co4 fo0 fo1 fo2 fo3 fo4 hneo
  refine (H2.out _).mono ?_
  rintro e v2 ⟨rfl, hb2⟩
  replace Xo : Hid _ := Xo.out.below hb2
  replace hbw := Below.on hbw hb2
  clear hb2
  obtain ⟨co0, co1, co2, co3, co4, fo0, fo1, fo2, fo3, fo4⟩ := Xo.out
  have hneo : go < v2.heap.size := World.block_lt_of_cell? v2 _ co0
  go_wp2_with fail
  clear co0 co1 co2 co3 co4 fo0 fo1 fo2 fo3 fo4 hneo
  go_ret
  exact ⟨rfl, hbw⟩
theorem patt2 {f : Int} {b : Nat} {neg : Bool} {n v er : Int} (h : ∀ w, Calls Tryd.prog 55 #[.int .i64 f] w fun en w' => en = .returned (.tuple #[.int .u64 v, .int .i64 er]) ∧ Below w.heap.size w w') (w : World) :
    Calls Tryd.prog 31 #[OV 2 f b neg n] w fun en w' => en = .returned (.tuple #[.int .u64 v, .int .i64 er]) ∧ Below w.heap.size w w' := by
  have H1 : Hid (∀ w, Calls Tryd.prog 55 #[.int .i64 f] w fun en w' => en = .returned (.tuple #[.int .u64 v, .int .i64 er]) ∧ Below w.heap.size w w') := h
  clear h
  go_enter Tryd.func31, Tryd.ntmps31
  go_wp2_with fail
  obtain ⟨W0, hW0⟩ : ∃ W0, W0 = (w.alloc (.cells #[.int .i64 2, .int .i64 f, U b, .bool neg, .int .i64 n] 44)) := ⟨_, rfl⟩
  have Xo : Hid (B5q W0 (w.heap.size) (.int .i64 2) (.int .i64 f) (U b) (.bool neg) (.int .i64 n)) := by rw [hW0]; exact ⟨by go_simp, by go_simp, by go_simp, by go_simp, by go_simp, by go_simp, by go_simp, by go_simp, by go_simp, by go_simp⟩
  have hb0 : Below w.heap.size w W0 := by rw [hW0]; exact below1 w _
  rw [← hW0]
  clear hW0
  have hbw : Below w.heap.size w w := Below.refl _ _
  obtain ⟨go, hgo⟩ : ∃ g, g = w.heap.size := ⟨_, rfl⟩
  have HGo : Hid (w.heap.size ≤ go) := by rw [hgo]; show _ ≤ _; omega
  rw [← hgo] at Xo
  try rw [← hgo]
  clear hgo
  replace hbw := Below.on hbw hb0
  clear hb0
  obtain ⟨co0, co1, co2, co3, co4, fo0, fo1, fo2, fo3, fo4⟩ := Xo.out
  have hneo : go < W0.heap.size := World.block_lt_of_cell? W0 _ co0
  go_wp2_with fail
  clear co0 co1 co2 co3 co4 fo0 fo1 fo2 fo3 fo4 hneo
  refine (H1.out _).mono ?_
  rintro e v1 ⟨rfl, hb1⟩
  replace Xo : Hid _ := Xo.out.below hb1
  replace hbw := Below.on hbw hb1
  clear hb1
  obtain ⟨co0, co1, co2, co3, co4, fo0, fo1, fo2, fo3, fo4⟩ := Xo.out
  have hneo : go < v1.heap.size := World.block_lt_of_cell? v1 _ co0
  go_wp2_with fail
  clear co0 co1 co2 co3 co4 fo0 fo1 fo2 fo3 fo4 hneo
  go_ret2
  exact ⟨rfl, hbw⟩
theorem docpatt2 {f : Int} {b : Nat} {neg : Bool} {n v er : Int} (h : ∀ w, Calls Tryd.prog 60 #[.int .i64 f] w fun en w' => en = .returned (.tuple #[.int .u64 v, .int .i64 er]) ∧ Below w.heap.size w w') (w : World) :
    Calls Tryd.prog 32 #[OV 2 f b neg n] w fun en w' => en = .returned (.tuple #[.int .u64 v, .int .i64 er]) ∧ Below w.heap.size w w' := by
  have H1 : Hid (∀ w, Calls Tryd.prog 60 #[.int .i64 f] w fun en w' => en = .returned (.tuple #[.int .u64 v, .int .i64 er]) ∧ Below w.heap.size w w') := h
  clear h
  go_enter Tryd.func32, Tryd.ntmps32
  go_wp2_with fail
  obtain ⟨W0, hW0⟩ : ∃ W0, W0 = (w.alloc (.cells #[.int .i64 2, .int .i64 f, U b, .bool neg, .int .i64 n] 44)) := ⟨_, rfl⟩
  have Xo : Hid (B5q W0 (w.heap.size) (.int .i64 2) (.int .i64 f) (U b) (.bool neg) (.int .i64 n)) := by rw [hW0]; exact ⟨by go_simp, by go_simp, by go_simp, by go_simp, by go_simp, by go_simp, by go_simp, by go_simp, by go_simp, by go_simp⟩
  have hb0 : Below w.heap.size w W0 := by rw [hW0]; exact below1 w _
  rw [← hW0]
  clear hW0
  have hbw : Below w.heap.size w w := Below.refl _ _
  obtain ⟨go, hgo⟩ : ∃ g, g = w.heap.size := ⟨_, rfl⟩
  have HGo : Hid (w.heap.size ≤ go) := by rw [hgo]; show _ ≤ _; omega
  rw [← hgo] at Xo
  try rw [← hgo]
  clear hgo
  replace hbw := Below.on hbw hb0
  clear hb0
  obtain ⟨co0, co1, co2, co3, co4, fo0, fo1, fo2, fo3, fo4⟩ := Xo.out
  have hneo : go < W0.heap.size := World.block_lt_of_cell? W0 _ co0
  go_wp2_with fail
  clear co0 co1 co2 co3 co4 fo0 fo1 fo2 fo3 fo4 hneo
  refine (H1.out _).mono ?_
  rintro e v1 ⟨rfl, hb1⟩
  replace Xo : Hid _ := Xo.out.below hb1
  replace hbw := Below.on hbw hb1
  clear hb1
  obtain ⟨co0, co1, co2, co3, co4, fo0, fo1, fo2, fo3, fo4⟩ := Xo.out
  have hneo : go < v1.heap.size := World.block_lt_of_cell? v1 _ co0
  go_wp2_with fail
  clear co0 co1 co2 co3 co4 fo0 fo1 fo2 fo3 fo4 hneo
  go_ret2
  exact ⟨rfl, hbw⟩
theorem bplays_2 {f : Int} {b : Nat} {neg : Bool} {n : Int} (_hb9 : b < B64) (_hn : -9223372036854775808 ≤ n ∧ n ≤ 9223372036854775807) (w : World) (hT : Tab w) :
    Calls Tryd.prog 10 #[OV 2 f b neg n] w fun en w' => en = .returned (.bool true) ∧ Below w.heap.size w w' := by
  obtain ⟨v, er, h1, h2⟩ := quiet_all f
  have H1 : Hid (∀ w, Calls Tryd.prog 55 #[.int .i64 f] w fun en w' => en = .returned (.tuple #[.int .u64 v, .int .i64 er]) ∧ Below w.heap.size w w') := h1
  have H2 : Hid (∀ w, Calls Tryd.prog 60 #[.int .i64 f] w fun en w' => en = .returned (.tuple #[.int .u64 v, .int .i64 er]) ∧ Below w.heap.size w w') := h2
  have TB : Hid (Tab w) := hT
  have q0 : (v == v) = true := by simp
  have q1 : (er == er) = true := by simp
  clear h1 h2 hT
  go_enter Tryd.func10, Tryd.ntmps10
  go_wp2_with fail
  obtain ⟨W0, hW0⟩ : ∃ W0, W0 = (w.alloc (.cells #[.int .i64 2, .int .i64 f, U b, .bool neg, .int .i64 n] 44)) := ⟨_, rfl⟩
  have Xo : Hid (B5q W0 (w.heap.size) (.int .i64 2) (.int .i64 f) (U b) (.bool neg) (.int .i64 n)) := by rw [hW0]; exact ⟨by go_simp, by go_simp, by go_simp, by go_simp, by go_simp, by go_simp, by go_simp, by go_simp, by go_simp, by go_simp⟩
  have hb0 : Below w.heap.size w W0 := by rw [hW0]; exact below1 w _
  rw [← hW0]
  clear hW0
  have hbw : Below w.heap.size w w := Below.refl _ _
  obtain ⟨go, hgo⟩ : ∃ g, g = w.heap.size := ⟨_, rfl⟩
  have HGo : Hid (w.heap.size ≤ go) := by rw [hgo]; show _ ≤ _; omega
  rw [← hgo] at Xo
  try rw [← hgo]
  clear hgo
  replace hbw := Below.on hbw hb0
  clear hb0
  obtain ⟨co0, co1, co2, co3, co4, fo0, fo1, fo2, fo3, fo4⟩ := Xo.out
  have hneo : go < W0.heap.size := World.block_lt_of_cell? W0 _ co0
  go_wp2_with fail
  clear co0 co1 co2 co3 co4 fo0 fo1 fo2 fo3 fo4 hneo
  refine (patt2 H1.out _).mono ?_
  rintro e v1 ⟨rfl, hb1⟩
  replace Xo : Hid _ := Xo.out.below hb1
  replace hbw := Below.on hbw hb1
  clear hb1
  obtain ⟨co0, co1, co2, co3, co4, fo0, fo1, fo2, fo3, fo4⟩ := Xo.out
  have hneo : go < v1.heap.size := World.block_lt_of_cell? v1 _ co0
  go_wp2_with fail
  clear co0 co1 co2 co3 co4 fo0 fo1 fo2 fo3 fo4 hneo
  refine (docpatt2 H2.out _).mono ?_
  rintro e v2 ⟨rfl, hb2⟩
  replace Xo : Hid _ := Xo.out.below hb2
  replace hbw := Below.on hbw hb2
  clear hb2
  obtain ⟨co0, co1, co2, co3, co4, fo0, fo1, fo2, fo3, fo4⟩ := Xo.out
  have hneo : go < v2.heap.size := World.block_lt_of_cell? v2 _ co0
  go_wp2_with fail
  clear co0 co1 co2 co3 co4 fo0 fo1 fo2 fo3 fo4 hneo
  go_ret
  exact ⟨rfl, hbw⟩
theorem patt4 {f : Int} {b : Nat} {neg : Bool} {n v er : Int} (h : ∀ w, Tab w → Calls Tryd.prog 6 #[.int .i64 f, .bool neg, U b, .int .i64 n] w fun en w' => en = .returned (.tuple #[.int .u64 v, .int .i64 er]) ∧ Below w.heap.size w w') (w : World) (hT : Tab w) :
    Calls Tryd.prog 31 #[OV 4 f b neg n] w fun en w' => en = .returned (.tuple #[.int .u64 v, .int .i64 er]) ∧ Below w.heap.size w w' := by
  have H1 : Hid (∀ w, Tab w → Calls Tryd.prog 6 #[.int .i64 f, .bool neg, U b, .int .i64 n] w fun en w' => en = .returned (.tuple #[.int .u64 v, .int .i64 er]) ∧ Below w.heap.size w w') := h
  have TB : Hid (Tab w) := hT
  clear hT
  clear h
  go_enter Tryd.func31, Tryd.ntmps31
  go_wp2_with fail
  obtain ⟨W0, hW0⟩ : ∃ W0, W0 = (w.alloc (.cells #[.int .i64 4, .int .i64 f, U b, .bool neg, .int .i64 n] 44)) := ⟨_, rfl⟩
  have Xo : Hid (B5q W0 (w.heap.size) (.int .i64 4) (.int .i64 f) (U b) (.bool neg) (.int .i64 n)) := by rw [hW0]; exact ⟨by go_simp, by go_simp, by go_simp, by go_simp, by go_simp, by go_simp, by go_simp, by go_simp, by go_simp, by go_simp⟩
  have hb0 : Below w.heap.size w W0 := by rw [hW0]; exact below1 w _
  rw [← hW0]
  clear hW0
  have hbw : Below w.heap.size w w := Below.refl _ _
  obtain ⟨go, hgo⟩ : ∃ g, g = w.heap.size := ⟨_, rfl⟩
  have HGo : Hid (w.heap.size ≤ go) := by rw [hgo]; show _ ≤ _; omega
  rw [← hgo] at Xo
  try rw [← hgo]
  clear hgo
  replace hbw := Below.on hbw hb0
  clear hb0
  obtain ⟨co0, co1, co2, co3, co4, fo0, fo1, fo2, fo3, fo4⟩ := Xo.out
  have hneo : go < W0.heap.size := World.block_lt_of_cell? W0 _ co0
  go_wp2_with fail
  clear co0 co1 co2 co3 co4 fo0 fo1 fo2 fo3 fo4 hneo
  refine (H1.out _ (TB.out.below hbw)).mono ?_
  rintro e v1 ⟨rfl, hb1⟩
  replace Xo : Hid _ := Xo.out.below hb1
  replace hbw := Below.on hbw hb1
  clear hb1
  obtain ⟨co0, co1, co2, co3, co4, fo0, fo1, fo2, fo3, fo4⟩ := Xo.out
  have hneo : go < v1.heap.size := World.block_lt_of_cell? v1 _ co0
  go_wp2_with fail
  clear co0 co1 co2 co3 co4 fo0 fo1 fo2 fo3 fo4 hneo
  go_ret2
  exact ⟨rfl, hbw⟩
theorem docpatt4 {f : Int} {b : Nat} {neg : Bool} {n v er : Int} (h : ∀ w, Calls Tryd.prog 61 #[.int .i64 f, .bool neg, U b, .int .i64 n] w fun en w' => en = .returned (.tuple #[.int .u64 v, .int .i64 er]) ∧ Below w.heap.size w w') (w : World) :
    Calls Tryd.prog 32 #[OV 4 f b neg n] w fun en w' => en = .returned (.tuple #[.int .u64 v, .int .i64 er]) ∧ Below w.heap.size w w' := by
  have H1 : Hid (∀ w, Calls Tryd.prog 61 #[.int .i64 f, .bool neg, U b, .int .i64 n] w fun en w' => en = .returned (.tuple #[.int .u64 v, .int .i64 er]) ∧ Below w.heap.size w w') := h
  clear h
  go_enter Tryd.func32, Tryd.ntmps32
  go_wp2_with fail
  obtain ⟨W0, hW0⟩ : ∃ W0, W0 = (w.alloc (.cells #[.int .i64 4, .int .i64 f, U b, .bool neg, .int .i64 n] 44)) := ⟨_, rfl⟩
  have Xo : Hid (B5q W0 (w.heap.size) (.int .i64 4) (.int .i64 f) (U b) (.bool neg) (.int .i64 n)) := by rw [hW0]; exact ⟨by go_simp, by go_simp, by go_simp, by go_simp, by go_simp, by go_simp, by go_simp, by go_simp, by go_simp, by go_simp⟩
  have hb0 : Below w.heap.size w W0 := by rw [hW0]; exact below1 w _
  rw [← hW0]
  clear hW0
  have hbw : Below w.heap.size w w := Below.refl _ _
  obtain ⟨go, hgo⟩ : ∃ g, g = w.heap.size := ⟨_, rfl⟩
  have HGo : Hid (w.heap.size ≤ go) := by rw [hgo]; show _ ≤ _; omega
  rw [← hgo] at Xo
  try rw [← hgo]
  clear hgo
  replace hbw := Below.on hbw hb0
  clear hb0
  obtain ⟨co0, co1, co2, co3, co4, fo0, fo1, fo2, fo3, fo4⟩ := Xo.out
  have hneo : go < W0.heap.size := World.block_lt_of_cell? W0 _ co0
  go_wp2_with fail
  clear co0 co1 co2 co3 co4 fo0 fo1 fo2 fo3 fo4 hneo
  refine (H1.out _).mono ?_
  rintro e v1 ⟨rfl, hb1⟩
  replace Xo : Hid _ := Xo.out.below hb1
  replace hbw := Below.on hbw hb1
  clear hb1
  obtain ⟨co0, co1, co2, co3, co4, fo0, fo1, fo2, fo3, fo4⟩ := Xo.out
  have hneo : go < v1.heap.size := World.block_lt_of_cell? v1 _ co0
  go_wp2_with fail
  clear co0 co1 co2 co3 co4 fo0 fo1 fo2 fo3 fo4 hneo
  go_ret2
  exact ⟨rfl, hbw⟩
theorem bplays_4 {f : Int} {b : Nat} {neg : Bool} {n : Int} (hb9 : b < B64) (hn : -9223372036854775808 ≤ n ∧ n ≤ 9223372036854775807) (w : World) (hT : Tab w) :
    Calls Tryd.prog 10 #[OV 4 f b neg n] w fun en w' => en = .returned (.bool true) ∧ Below w.heap.size w w' := by
  obtain ⟨v, er, h1, h2⟩ := jn_all f neg hb9 n hn
  have H1 : Hid (∀ w, Tab w → Calls Tryd.prog 6 #[.int .i64 f, .bool neg, U b, .int .i64 n] w fun en w' => en = .returned (.tuple #[.int .u64 v, .int .i64 er]) ∧ Below w.heap.size w w') := h1
  have H2 : Hid (∀ w, Calls Tryd.prog 61 #[.int .i64 f, .bool neg, U b, .int .i64 n] w fun en w' => en = .returned (.tuple #[.int .u64 v, .int .i64 er]) ∧ Below w.heap.size w w') := h2
  have TB : Hid (Tab w) := hT
  have q0 : (v == v) = true := by simp
  have q1 : (er == er) = true := by simp
  clear h1 h2 hT
  clear hb9 hn
  go_enter Tryd.func10, Tryd.ntmps10
  go_wp2_with fail
  obtain ⟨W0, hW0⟩ : ∃ W0, W0 = (w.alloc (.cells #[.int .i64 4, .int .i64 f, U b, .bool neg, .int .i64 n] 44)) := ⟨_, rfl⟩
  have Xo : Hid (B5q W0 (w.heap.size) (.int .i64 4) (.int .i64 f) (U b) (.bool neg) (.int .i64 n)) := by rw [hW0]; exact ⟨by go_simp, by go_simp, by go_simp, by go_simp, by go_simp, by go_simp, by go_simp, by go_simp, by go_simp, by go_simp⟩
  have hb0 : Below w.heap.size w W0 := by rw [hW0]; exact below1 w _
  rw [← hW0]
  clear hW0
  have hbw : Below w.heap.size w w := Below.refl _ _
  obtain ⟨go, hgo⟩ : ∃ g, g = w.heap.size := ⟨_, rfl⟩
  have HGo : Hid (w.heap.size ≤ go) := by rw [hgo]; show _ ≤ _; omega
  rw [← hgo] at Xo
  try rw [← hgo]
  clear hgo
  replace hbw := Below.on hbw hb0
  clear hb0
  obtain ⟨co0, co1, co2, co3, co4, fo0, fo1, fo2, fo3, fo4⟩ := Xo.out
  have hneo : go < W0.heap.size := World.block_lt_of_cell? W0 _ co0
  go_wp2_with fail
  clear co0 co1 co2 co3 co4 fo0 fo1 fo2 fo3 fo4 hneo
  refine (patt4 H1.out _ (TB.out.below hbw)).mono ?_
  rintro e v1 ⟨rfl, hb1⟩
  replace Xo : Hid _ := Xo.out.below hb1
  replace hbw := Below.on hbw hb1
  clear hb1
  obtain ⟨co0, co1, co2, co3, co4, fo0, fo1, fo2, fo3, fo4⟩ := Xo.out
  have hneo : go < v1.heap.size := World.block_lt_of_cell? v1 _ co0
  go_wp2_with fail
  clear co0 co1 co2 co3 co4 fo0 fo1 fo2 fo3 fo4 hneo
  refine (docpatt4 H2.out _).mono ?_
  rintro e v2 ⟨rfl, hb2⟩
  replace Xo : Hid _ := Xo.out.below hb2
  replace hbw := Below.on hbw hb2
  clear hb2
  obtain ⟨co0, co1, co2, co3, co4, fo0, fo1, fo2, fo3, fo4⟩ := Xo.out
  have hneo : go < v2.heap.size := World.block_lt_of_cell? v2 _ co0
  go_wp2_with fail
  clear co0 co1 co2 co3 co4 fo0 fo1 fo2 fo3 fo4 hneo
  go_ret
  exact ⟨rfl, hbw⟩
theorem bplays_5 {f : Int} {b : Nat} {neg : Bool} {n : Int} (hb9 : b < B64) (_hn : -9223372036854775808 ≤ n ∧ n ≤ 9223372036854775807) (w : World) (hT : Tab w) :
    Calls Tryd.prog 10 #[OV 5 f b neg n] w fun en w' => en = .returned (.bool true) ∧ Below w.heap.size w w' := by
  obtain ⟨er, z, e, h1, h2⟩ := value_all f hb9
  have H1 : Hid (∀ w, Tab w → Calls Tryd.prog 7 #[.int .i64 f, U b] w fun en w' => ∃ s p m c, en = .returned (.tuple #[DV s p m c e, .int .i64 er]) ∧ DN w' s p m c e z ∧ Below w.heap.size w w') := h1
  have H2 : Hid (∀ w, Calls Tryd.prog 25 #[.int .i64 f, U b] w fun en w' => ∃ s p m c, en = .returned (.tuple #[DV s p m c e, .int .i64 er]) ∧ DN w' s p m c e z ∧ Below w.heap.size w w') := h2
  have TB : Hid (Tab w) := hT
  have he : (er == er) = true := by simp
  clear h1 h2 hb9 hT
  go_enter Tryd.func10, Tryd.ntmps10
  go_wp2_with fail
  obtain ⟨W0, hW0⟩ : ∃ W0, W0 = (w.alloc (.cells #[.int .i64 5, .int .i64 f, U b, .bool neg, .int .i64 n] 44)) := ⟨_, rfl⟩
  have Xo : Hid (B5q W0 (w.heap.size) (.int .i64 5) (.int .i64 f) (U b) (.bool neg) (.int .i64 n)) := by rw [hW0]; exact ⟨by go_simp, by go_simp, by go_simp, by go_simp, by go_simp, by go_simp, by go_simp, by go_simp, by go_simp, by go_simp⟩
  have hb0 : Below w.heap.size w W0 := by rw [hW0]; exact below1 w _
  rw [← hW0]
  clear hW0
  have hbw : Below w.heap.size w w := Below.refl _ _
  obtain ⟨go, hgo⟩ : ∃ g, g = w.heap.size := ⟨_, rfl⟩
  have HGo : Hid (w.heap.size ≤ go) := by rw [hgo]; show _ ≤ _; omega
  rw [← hgo] at Xo
  try rw [← hgo]
  clear hgo
  replace hbw := Below.on hbw hb0
  clear hb0
  obtain ⟨co0, co1, co2, co3, co4, fo0, fo1, fo2, fo3, fo4⟩ := Xo.out
  have hneo : go < W0.heap.size := World.block_lt_of_cell? W0 _ co0
  go_wp2_with fail
  clear co0 co1 co2 co3 co4 fo0 fo1 fo2 fo3 fo4 hneo
  refine (H1.out _ (TB.out.below hbw)).mono ?_
  rintro e2 v1 ⟨s1, p1, m1, c1, rfl, hd1, hb1⟩
  replace Xo : Hid _ := Xo.out.below hb1
  replace hbw := Below.on hbw hb1
  clear hb1
  have D1 : Hid (DN v1 s1 p1 m1 c1 e z) := hd1
  clear hd1
  obtain ⟨co0, co1, co2, co3, co4, fo0, fo1, fo2, fo3, fo4⟩ := Xo.out
  have hneo : go < v1.heap.size := World.block_lt_of_cell? v1 _ co0
  go_wp2_with fail
  clear co0 co1 co2 co3 co4 fo0 fo1 fo2 fo3 fo4 hneo
  have Xv0 : Hid (B3q (v1.alloc (.cells #[.bool s1, .slice p1 m1 c1, .int .i64 e] 35)) v1.heap.size (.bool s1) (.slice p1 m1 c1) (.int .i64 e)) := B3q.new v1 _ _ _ _
  have hbn : Below v1.heap.size v1 (v1.alloc (.cells #[.bool s1, .slice p1 m1 c1, .int .i64 e] 35)) := below1 v1 _
  generalize v1.alloc (.cells #[.bool s1, .slice p1 m1 c1, .int .i64 e] 35) = Wv at *
  have HGv : Hid (w.heap.size ≤ v1.heap.size) := hbw.size
  replace Xo : Hid _ := Xo.out.below hbn
  replace D1 : Hid _ := D1.out.below hbn
  replace hbw := Below.on hbw hbn
  clear hbn
  generalize v1.heap.size = gv at *
  have Xv := Xv0
  clear Xv0
  refine (H2.out _).mono ?_
  rintro e2 v2 ⟨s2, p2, m2, c2, rfl, hd2, hb2⟩
  replace Xo : Hid _ := Xo.out.below hb2
  replace Xv : Hid _ := Xv.out.below hb2
  replace D1 : Hid _ := D1.out.below hb2
  replace hbw := Below.on hbw hb2
  clear hb2
  have D2 : Hid (DN v2 s2 p2 m2 c2 e z) := hd2
  clear hd2
  obtain ⟨cv0, cv1, cv2, fv0, fv1, fv2⟩ := Xv.out
  have hnev : gv < v2.heap.size := World.block_lt_of_cell? v2 _ cv0
  go_wp2_with fail
  clear cv0 cv1 cv2 fv0 fv1 fv2 hnev
  have Xu0 : Hid (B3q (v2.alloc (.cells #[.bool s2, .slice p2 m2 c2, .int .i64 e] 35)) v2.heap.size (.bool s2) (.slice p2 m2 c2) (.int .i64 e)) := B3q.new v2 _ _ _ _
  have hbn : Below v2.heap.size v2 (v2.alloc (.cells #[.bool s2, .slice p2 m2 c2, .int .i64 e] 35)) := below1 v2 _
  generalize v2.alloc (.cells #[.bool s2, .slice p2 m2 c2, .int .i64 e] 35) = Wu at *
  have HGu : Hid (w.heap.size ≤ v2.heap.size) := hbw.size
  replace Xo : Hid _ := Xo.out.below hbn
  replace Xv : Hid _ := Xv.out.below hbn
  replace D1 : Hid _ := D1.out.below hbn
  replace D2 : Hid _ := D2.out.below hbn
  replace hbw := Below.on hbw hbn
  clear hbn
  generalize v2.heap.size = gu at *
  have Xu := Xu0
  clear Xu0
  refine (same7 D1.out D2.out).mono ?_
  rintro e v3 ⟨rfl, hb3⟩
  replace Xo : Hid _ := Xo.out.below hb3
  replace Xv : Hid _ := Xv.out.below hb3
  replace Xu : Hid _ := Xu.out.below hb3
  replace D1 : Hid _ := D1.out.below hb3
  replace D2 : Hid _ := D2.out.below hb3
  replace hbw := Below.on hbw hb3
  clear hb3
  go_wp2_with fail
  go_ret
  exact ⟨rfl, hbw⟩
theorem binaryParts_walk {P : Option Addr} {N C : Nat} {its : List Op7} {w : World} (h : Scr7 w P N C its) (hT : Tab w) :
    Calls Tryd.prog 3 #[.slice P N C] w fun en w' => en = .returned (.bool true) ∧ Below w.heap.size w w' := by
  have H : Hid (Scr7 w P N C its) := h
  have TB : Hid (Tab w) := hT
  clear h hT
  go_enter Tryd.func3, Tryd.ntmps3
  go_wp2_with fail
  have hbw : Below w.heap.size w w := Below.refl _ _
  refine (awake7 _ TB.out).mono ?_
  rintro e v3 ⟨rfl, hb3⟩
  replace hbw := Below.on hbw hb3
  clear hb3
  go_wp2_with fail
  have hbk := below1 v3 (.cells #[.int .i64 1, .int .i64 2, .int .i64 3, .int .i64 4, .int .i64 5] 3)
  have hk : Kds (v3.alloc (.cells #[.int .i64 1, .int .i64 2, .int .i64 3, .int .i64 4, .int .i64 5] 3)) v3.heap.size [1, 2, 3, 4, 5] := by
    refine ⟨fun j hj => ?_, by simp⟩
    match j, hj with
    | 0, _ => go_simp
    | 1, _ => go_simp
    | 2, _ => go_simp
    | 3, _ => go_simp
    | 4, _ => go_simp
  refine (all7T (H.out.below (Below.on hbw hbk)) hk rfl (by decide) (TB.out.below (Below.on hbw hbk)) ?_).mono ?_
  · intro k hk f b neg n w hT hb hn1 hn2
    simp only [List.mem_cons, List.not_mem_nil, or_false] at hk
    rcases hk with hk | hk | hk | hk | hk <;> subst hk
    · exact bplays_1 hb ⟨hn1, hn2⟩ w hT
    · exact bplays_2 hb ⟨hn1, hn2⟩ w hT
    · exact bplays_3 hb ⟨hn1, hn2⟩ w hT
    · exact bplays_4 hb ⟨hn1, hn2⟩ w hT
    · exact bplays_5 hb ⟨hn1, hn2⟩ w hT
  rintro e w9 ⟨rfl, hb9⟩
  have hbz := Below.on (Below.on hbw hbk) hb9
  clear hk hbk hb9
  go_wp2_with fail
  go_ret
  exact ⟨rfl, hbz⟩
end Go.Proofs.YthfkkcfjneppmaaDoor
