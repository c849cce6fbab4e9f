import Derived.Test.YtkbjehhabklnpaaDoorJ15
namespace Go.Proofs.YtkbjehhabklnpaaDoor
open Go.RowKit Go.Shelf

structure CellIs (w : World) (g o : Nat) (v : Value) : Prop where
  c : w.cell? ⟨g, o, none⟩ = some v
theorem CellIs.below {w w' : World} {g o : Nat} {v : Value} (h : CellIs w g o v) (hb : Below w.heap.size w w') : CellIs w' g o v :=
  ⟨(hb.cell (p := ⟨g, o, none⟩) (World.block_lt_of_cell? w _ h.c)).trans h.c⟩
set_option maxRecDepth 20000 in
set_option maxHeartbeats 8000000 in
theorem binaryMiddles_x (f : Int) (h1 : f ≠ 32) (h2 : f ≠ 64) (a : Nat) (w : World) (hT : Tab w) :
    Calls Tryd.prog 6 #[.int .i64 f, U a] w fun en w' => en = .returned (.bool true) ∧ Below w.heap.size w w' := by
  have hbw : Below w.heap.size w w := Below.refl _ _
  have TB : Hid (Tab w) := hT
  have HX : Hid (f ≠ 32 ∧ f ≠ 64) := ⟨h1, h2⟩
  clear h1 h2 hT
  go_enter Tryd.func6, Tryd.ntmps6
  go_wp2_with fail
  refine (awake7 _ (TB.out.below hbw)).mono ?_
  rintro e v1 ⟨rfl, hb1⟩
  replace hbw := Below.on hbw hb1
  clear hb1
  go_wp2_with fail
  refine (lfin_x f HX.out.1 HX.out.2 a _).mono ?_
  rintro e v3 ⟨rfl, hb3⟩
  replace hbw := Below.on hbw hb3
  clear hb3
  go_wp2_with fail
  go_ret
  exact ⟨rfl, hbw⟩
set_option maxRecDepth 20000 in
set_option maxHeartbeats 8000000 in
theorem binaryMiddles_f {f p m l : Int} {S I H sd : Nat} {Be : Int} (J : Jm f p m l S I H sd Be) (L : Lf f S I) (a : Nat) (ha : a < B64) (w : World) (hT : Tab w) :
    Calls Tryd.prog 6 #[.int .i64 f, U a] w fun en w' => en = .returned (.bool true) ∧ Below w.heap.size w w' := by
  have hbw : Below w.heap.size w w := Below.refl _ _
  have TB : Hid (Tab w) := hT
  have HJM : Hid (Jm f p m l S I H sd Be) := J
  have HL : Hid (Lf f S I) := L
  have HA9 : Hid (a < B64) := ha
  have HSI : Hid (I < S ∧ 2 < I ∧ S ≤ 9223372036854775808) := ⟨J.pm.fm.lt, J.pm.fm.pos, J.pm.fm.le⟩
  clear J L ha hT
  go_enter Tryd.func6, Tryd.ntmps6
  go_wp2_with fail
  refine (awake7 _ (TB.out.below hbw)).mono ?_
  rintro e v1 ⟨rfl, hb1⟩
  replace hbw := Below.on hbw hb1
  clear hb1
  go_wp2_with fail
  refine (HL.out.fin a _ HA9.out).mono ?_
  rintro e v2 ⟨rfl, hb2⟩
  replace hbw := Below.on hbw hb2
  clear hb2
  by_cases hf : a < 2 * S ∧ a % S < I
  · rw [decide_eq_true hf]
    have HF : Hid (a < 2 * S ∧ a % S < I) := hf
    clear hf
    go_wp2_with fail
    refine (HL.out.sg _).mono ?_
    rintro e v3 ⟨rfl, hb3⟩
    replace hbw := Below.on hbw hb3
    clear hb3
    obtain ⟨z, hz⟩ : ∃ z, z = a % S := ⟨_, rfl⟩
    obtain ⟨z1, hz1⟩ : ∃ z1, z1 = z + 1 := ⟨_, rfl⟩
    have HZ : Hid (z = a % S ∧ z1 = z + 1) := ⟨hz, hz1⟩
    have hS1 : ¬ (S : Int) = 0 := by have := HSI.out; omega
    have hS2 : ¬ S = 0 := by have := HSI.out; omega
    have hS0 : ((S : Int) == 0) = false := by have := HSI.out; simp; omega
    have hm1 : (a : Int).tmod S = (z : Int) := by rw [Int.tmod_eq_emod_of_nonneg (by omega), hz]; omega
    have hm2 : (a : Int) % S = (z : Int) := by rw [hz]; omega
    have hw1 : IntKind.u64.wrap ((z : Int) + 1) = (z1 : Int) := by rw [IntKind.wrap_u64]; have := HSI.out; have := HF.out.2; omega
    clear hz hz1
    go_wp2_with fail
    clear hS0 hS1 hS2 hm1 hm2 hw1
    refine (HL.out.fin z1 _ (by rw [B64_eq]; have := HZ.out; have := HSI.out; have := HF.out.2; omega)).mono ?_
    rintro e v4 ⟨rfl, hb4⟩
    replace hbw := Below.on hbw hb4
    clear hb4
    by_cases hf2 : z1 < 2 * S ∧ z1 % S < I
    · have hr : a % S + 1 < I := by
        have h1 := HZ.out; have h2 := HSI.out; have h3 := HF.out.2
        have h4 := hf2.2
        rw [Nat.mod_eq_of_lt (by omega)] at h4
        omega
      rw [decide_eq_true hf2]
      clear hf2
      obtain ⟨za, ea, zw, ew, man, mn, ex, sg, hmf⟩ := mf_ex HJM.out.pm HF.out.1 hr
      have MM : Hid (MF S I H l a za ea zw ew man mn ex sg) := hmf
      obtain ⟨ng, hng⟩ : ∃ ng, ng = decide (S ≤ a) := ⟨_, rfl⟩
      obtain ⟨zm, hzm⟩ : ∃ zm, zm = iv (decide (S ≤ a)) mn := ⟨_, rfl⟩
      have HZM : Hid (iv (decide (S ≤ a)) mn = zm) := hzm.symm
      have HFM : Hid (DFm zm ex) := by rw [hzm]; exact hmf.fm
      have HD12 : Hid (dv sg ex = dv zm ex - dv za ea ∧ dv sg ex = dv zw ew - dv zm ex) := by rw [hzm]; exact ⟨hmf.d1, hmf.d2⟩
      have HL1 : Hid (zm ≠ 0 → za ≠ 0 → (zm * 2 ^ (ex - min ex ea).toNat).natAbs < LIM ∧ (za * 2 ^ (ea - min ex ea).toNat).natAbs < LIM ∧ (zm * 2 ^ (ex - min ex ea).toNat - za * 2 ^ (ea - min ex ea).toNat).natAbs < LIM) := by rw [hzm]; exact hmf.l1
      have HL2 : Hid (zw ≠ 0 → zm ≠ 0 → (zw * 2 ^ (ew - min ew ex).toNat).natAbs < LIM ∧ (zm * 2 ^ (ex - min ew ex).toNat).natAbs < LIM ∧ (zw * 2 ^ (ew - min ew ex).toNat - zm * 2 ^ (ex - min ew ex).toNat).natAbs < LIM) := by rw [hzm]; exact hmf.l2
      have HAB : Hid (zm.natAbs = mn) := (by rw [hzm, iv_natAbs] : zm.natAbs = mn)
      clear hr hmf hng hzm
      go_wp2_with fail
      refine (mid_ok HJM.out.pm a mn ex HF.out.1 HF.out.2 (by rw [MM.out.hn, MM.out.hm]) MM.out.he _ (TB.out.below hbw)).mono ?_
      rintro e2 v5 ⟨hv, hb5⟩
      obtain ⟨v, rfl, hv2⟩ := hv.form (HFM.out) (by rw [HZM.out])
      obtain ⟨s5, p5, m5, rfl, hd5⟩ := hv2.dn (HFM.out)
      clear hv hv2
      replace hbw := Below.on hbw hb5
      clear hb5
      have D5 : Hid (DN v5 s5 p5 m5 m5 (ex) (zm)) := hd5
      clear hd5
      go_wp2_with fail
      have Xm0 : Hid (B3q (v5.alloc (.cells #[.bool s5, .slice p5 m5 m5, .int .i64 (ex)] 36)) v5.heap.size (.bool s5) (.slice p5 m5 m5) (.int .i64 (ex))) := B3q.new v5 _ _ _ _
      have hbn : Below v5.heap.size v5 (v5.alloc (.cells #[.bool s5, .slice p5 m5 m5, .int .i64 (ex)] 36)) := below1 v5 _
      generalize v5.alloc (.cells #[.bool s5, .slice p5 m5 m5, .int .i64 (ex)] 36) = Wm at *
      have HGm : Hid (w.heap.size ≤ v5.heap.size) := hbw.size
      replace D5 : Hid _ := D5.out.below hbn
      replace hbw := Below.on hbw hbn
      clear hbn
      generalize v5.heap.size = gm at *
      have Xm := Xm0
      clear Xm0
      refine (value_v HJM.out.pm HF.out.1 HF.out.2 MM.out.va _ (TB.out.below hbw)).mono ?_
      rintro e2 v6 ⟨v, rfl, hv, hb6⟩
      obtain ⟨s6, p6, m6, rfl, hd6⟩ := hv.dn (MM.out.va.fm)
      clear hv
      replace Xm : Hid _ := Xm.out.below hb6
      replace D5 : Hid _ := D5.out.below hb6
      replace hbw := Below.on hbw hb6
      clear hb6
      have D6 : Hid (DN v6 s6 p6 m6 m6 (ea) (za)) := hd6
      clear hd6
      obtain ⟨a1, ha1⟩ : ∃ a1, a1 = a + 1 := ⟨_, rfl⟩
      have HA1 : Hid (a + 1 = a1) := ha1.symm
      have hw1 : IntKind.u64.wrap ((a : Int) + 1) = (a1 : Int) := by rw [IntKind.wrap_u64, ha1]; have := MM.out.a2; have := HSI.out; omega
      clear ha1
      go_wp2_with fail
      clear hw1
      have HDmv : Hid (gm ≠ v6.heap.size) := Nat.ne_of_lt Xm.out.lt
      have Xv0 : Hid (B3q (v6.alloc (.cells #[.bool s6, .slice p6 m6 m6, .int .i64 (ea)] 36)) v6.heap.size (.bool s6) (.slice p6 m6 m6) (.int .i64 (ea))) := B3q.new v6 _ _ _ _
      have hbn : Below v6.heap.size v6 (v6.alloc (.cells #[.bool s6, .slice p6 m6 m6, .int .i64 (ea)] 36)) := below1 v6 _
      generalize v6.alloc (.cells #[.bool s6, .slice p6 m6 m6, .int .i64 (ea)] 36) = Wv at *
      have HGv : Hid (w.heap.size ≤ v6.heap.size) := hbw.size
      replace Xm : Hid _ := Xm.out.below hbn
      replace D5 : Hid _ := D5.out.below hbn
      replace D6 : Hid _ := D6.out.below hbn
      replace hbw := Below.on hbw hbn
      clear hbn
      generalize v6.heap.size = gv at *
      have Xv := Xv0
      clear Xv0
      have VW := MM.out.vw
      have A2 := MM.out.a2
      have AM := MM.out.am
      rw [HA1.out] at VW A2 AM
      have HVW : Hid (VF S H l a1 zw ew ∧ a1 < 2 * S ∧ a1 % S < I) := ⟨VW, A2, AM⟩
      clear VW A2 AM
      refine (value_v HJM.out.pm HVW.out.2.1 HVW.out.2.2 HVW.out.1 _ (TB.out.below hbw)).mono ?_
      rintro e2 v7 ⟨v, rfl, hv, hb7⟩
      obtain ⟨s7, p7, m7, rfl, hd7⟩ := hv.dn (HVW.out.1.fm)
      clear hv
      replace Xm : Hid _ := Xm.out.below hb7
      replace Xv : Hid _ := Xv.out.below hb7
      replace D5 : Hid _ := D5.out.below hb7
      replace D6 : Hid _ := D6.out.below hb7
      replace hbw := Below.on hbw hb7
      clear hb7
      have D7 : Hid (DN v7 s7 p7 m7 m7 (ew) (zw)) := hd7
      clear hd7
      obtain ⟨cm0, cm1, cm2, fm0, fm1, fm2⟩ := Xm.out
      have hnem : gm < v7.heap.size := World.block_lt_of_cell? v7 _ cm0
      obtain ⟨cv0, cv1, cv2, fv0, fv1, fv2⟩ := Xv.out
      have hnev : gv < v7.heap.size := World.block_lt_of_cell? v7 _ cv0
      go_wp2_with fail
      clear cm0 cm1 cm2 fm0 fm1 fm2 hnem
      clear cv0 cv1 cv2 fv0 fv1 fv2 hnev
      have HDmw : Hid (gm ≠ v7.heap.size) := Nat.ne_of_lt Xm.out.lt
      have HDvw : Hid (gv ≠ v7.heap.size) := Nat.ne_of_lt Xv.out.lt
      have Xw0 : Hid (B3q (v7.alloc (.cells #[.bool s7, .slice p7 m7 m7, .int .i64 (ew)] 36)) v7.heap.size (.bool s7) (.slice p7 m7 m7) (.int .i64 (ew))) := B3q.new v7 _ _ _ _
      have hbn : Below v7.heap.size v7 (v7.alloc (.cells #[.bool s7, .slice p7 m7 m7, .int .i64 (ew)] 36)) := below1 v7 _
      generalize v7.alloc (.cells #[.bool s7, .slice p7 m7 m7, .int .i64 (ew)] 36) = Ww at *
      have HGw : Hid (w.heap.size ≤ v7.heap.size) := hbw.size
      replace Xm : Hid _ := Xm.out.below hbn
      replace Xv : Hid _ := Xv.out.below hbn
      replace D5 : Hid _ := D5.out.below hbn
      replace D6 : Hid _ := D6.out.below hbn
      replace D7 : Hid _ := D7.out.below hbn
      replace hbw := Below.on hbw hbn
      clear hbn
      generalize v7.heap.size = gw at *
      have Xw := Xw0
      clear Xw0
      refine (dsub_v D5.out D6.out MM.out.fs HD12.out.1 HL1.out (TB.out.below hbw)).mono ?_
      rintro e2 v8 ⟨v, rfl, hv, hb8⟩
      obtain ⟨s8, p8, m8, rfl, hd8⟩ := hv.dn (MM.out.fs)
      clear hv
      replace Xm : Hid _ := Xm.out.below hb8
      replace Xv : Hid _ := Xv.out.below hb8
      replace Xw : Hid _ := Xw.out.below hb8
      replace D5 : Hid _ := D5.out.below hb8
      replace D6 : Hid _ := D6.out.below hb8
      replace D7 : Hid _ := D7.out.below hb8
      replace hbw := Below.on hbw hb8
      clear hb8
      have D8 : Hid (DN v8 s8 p8 m8 m8 (ex) (sg)) := hd8
      clear hd8
      obtain ⟨cw0, cw1, cw2, fw0, fw1, fw2⟩ := Xw.out
      have hnew : gw < v8.heap.size := World.block_lt_of_cell? v8 _ cw0
      obtain ⟨cm0, cm1, cm2, fm0, fm1, fm2⟩ := Xm.out
      have hnem : gm < v8.heap.size := World.block_lt_of_cell? v8 _ cm0
      go_wp2_with fail
      clear cw0 cw1 cw2 fw0 fw1 fw2 hnew
      clear cm0 cm1 cm2 fm0 fm1 fm2 hnem
      have HDmx : Hid (gm ≠ v8.heap.size) := Nat.ne_of_lt Xm.out.lt
      have HDvx : Hid (gv ≠ v8.heap.size) := Nat.ne_of_lt Xv.out.lt
      have HDwx : Hid (gw ≠ v8.heap.size) := Nat.ne_of_lt Xw.out.lt
      have Xx0 : Hid (B3q (v8.alloc (.cells #[.bool s8, .slice p8 m8 m8, .int .i64 (ex)] 36)) v8.heap.size (.bool s8) (.slice p8 m8 m8) (.int .i64 (ex))) := B3q.new v8 _ _ _ _
      have hbn : Below v8.heap.size v8 (v8.alloc (.cells #[.bool s8, .slice p8 m8 m8, .int .i64 (ex)] 36)) := below1 v8 _
      generalize v8.alloc (.cells #[.bool s8, .slice p8 m8 m8, .int .i64 (ex)] 36) = Wx at *
      have HGx : Hid (w.heap.size ≤ v8.heap.size) := hbw.size
      replace Xm : Hid _ := Xm.out.below hbn
      replace Xv : Hid _ := Xv.out.below hbn
      replace Xw : Hid _ := Xw.out.below hbn
      replace D5 : Hid _ := D5.out.below hbn
      replace D6 : Hid _ := D6.out.below hbn
      replace D7 : Hid _ := D7.out.below hbn
      replace D8 : Hid _ := D8.out.below hbn
      replace hbw := Below.on hbw hbn
      clear hbn
      generalize v8.heap.size = gx at *
      have Xx := Xx0
      clear Xx0
      refine (dsub_v D7.out D5.out MM.out.fs HD12.out.2 HL2.out (TB.out.below hbw)).mono ?_
      rintro e2 v9 ⟨v, rfl, hv, hb9⟩
      obtain ⟨s9, p9, m9, rfl, hd9⟩ := hv.dn (MM.out.fs)
      clear hv
      replace Xm : Hid _ := Xm.out.below hb9
      replace Xv : Hid _ := Xv.out.below hb9
      replace Xw : Hid _ := Xw.out.below hb9
      replace Xx : Hid _ := Xx.out.below hb9
      replace D5 : Hid _ := D5.out.below hb9
      replace D6 : Hid _ := D6.out.below hb9
      replace D7 : Hid _ := D7.out.below hb9
      replace D8 : Hid _ := D8.out.below hb9
      replace hbw := Below.on hbw hb9
      clear hb9
      have D9 : Hid (DN v9 s9 p9 m9 m9 (ex) (sg)) := hd9
      clear hd9
      obtain ⟨cx0, cx1, cx2, fx0, fx1, fx2⟩ := Xx.out
      have hnex : gx < v9.heap.size := World.block_lt_of_cell? v9 _ cx0
      go_wp2_with fail
      clear cx0 cx1 cx2 fx0 fx1 fx2 hnex
      have HDmy : Hid (gm ≠ v9.heap.size) := Nat.ne_of_lt Xm.out.lt
      have HDvy : Hid (gv ≠ v9.heap.size) := Nat.ne_of_lt Xv.out.lt
      have HDwy : Hid (gw ≠ v9.heap.size) := Nat.ne_of_lt Xw.out.lt
      have HDxy : Hid (gx ≠ v9.heap.size) := Nat.ne_of_lt Xx.out.lt
      have Xy0 : Hid (B3q (v9.alloc (.cells #[.bool s9, .slice p9 m9 m9, .int .i64 (ex)] 36)) v9.heap.size (.bool s9) (.slice p9 m9 m9) (.int .i64 (ex))) := B3q.new v9 _ _ _ _
      have hbn : Below v9.heap.size v9 (v9.alloc (.cells #[.bool s9, .slice p9 m9 m9, .int .i64 (ex)] 36)) := below1 v9 _
      generalize v9.alloc (.cells #[.bool s9, .slice p9 m9 m9, .int .i64 (ex)] 36) = Wy at *
      have HGy : Hid (w.heap.size ≤ v9.heap.size) := hbw.size
      replace Xm : Hid _ := Xm.out.below hbn
      replace Xv : Hid _ := Xv.out.below hbn
      replace Xw : Hid _ := Xw.out.below hbn
      replace Xx : Hid _ := Xx.out.below hbn
      replace D5 : Hid _ := D5.out.below hbn
      replace D6 : Hid _ := D6.out.below hbn
      replace D7 : Hid _ := D7.out.below hbn
      replace D8 : Hid _ := D8.out.below hbn
      replace D9 : Hid _ := D9.out.below hbn
      replace hbw := Below.on hbw hbn
      clear hbn
      generalize v9.heap.size = gy at *
      have Xy := Xy0
      clear Xy0
      have hm8 : m8 ≠ 0 := by
        obtain ⟨ys, hY⟩ := D8.out.zn.ex
        intro h9
        exact MM.out.s0 (Int.natAbs_eq_zero.1 (hY.zero.1 h9))
      have n1 : ((m8 : Int) == 0) = false := by simp [hm8]
      have n2 : (m8 == 0) = false := by simp [hm8]
      have HM8 : Hid (m8 ≠ 0) := hm8
      clear hm8
      refine (same7 D8.out D9.out).mono ?_
      rintro e v10 ⟨rfl, hb10⟩
      replace Xm : Hid _ := Xm.out.below hb10
      replace Xv : Hid _ := Xv.out.below hb10
      replace Xw : Hid _ := Xw.out.below hb10
      replace Xx : Hid _ := Xx.out.below hb10
      replace Xy : Hid _ := Xy.out.below hb10
      replace D5 : Hid _ := D5.out.below hb10
      replace D6 : Hid _ := D6.out.below hb10
      replace D7 : Hid _ := D7.out.below hb10
      replace D8 : Hid _ := D8.out.below hb10
      replace D9 : Hid _ := D9.out.below hb10
      replace hbw := Below.on hbw hb10
      clear hb10
      obtain ⟨ys, hY⟩ := D5.out.zn.ex
      have hy1 : ys = [mn] := hY.nf.inj B64_one (by rw [HAB.out]; exact nf_one (by rw [B64_eq]; exact MM.out.hl) (by have := MM.out.hn; omega))
      subst hy1
      have hm5 : m5 = 1 := by have := hY.at_.len; simp at this; omega
      obtain ⟨g5, o5, hp5, hc5⟩ := hY.at_.cells.resolve_left (by omega)
      have hc50 := hc5 0 (by omega)
      rw [Nat.add_zero] at hc50
      have hc51 : v10.cell? ⟨g5, o5, none⟩ = some (U mn) := hc50
      clear hY hc5 hc50
      have XC : Hid (CellIs v10 g5 o5 (U mn)) := ⟨hc51⟩
      clear hc51
      obtain ⟨cx0, cx1, cx2, fx0, fx1, fx2⟩ := Xx.out
      have hnex : gx < v10.heap.size := World.block_lt_of_cell? v10 _ cx0
      obtain ⟨cm0, cm1, cm2, fm0, fm1, fm2⟩ := Xm.out
      have hnem : gm < v10.heap.size := World.block_lt_of_cell? v10 _ cm0
      go_wp2_with fail
      clear cx0 cx1 cx2 fx0 fx1 fx2 hnex
      clear cm0 cm1 cm2 fm0 fm1 fm2 hnem
      have HS5 : Hid (s5 = decide (zm < 0)) := D5.out.zn.sg
      clear n1 n2
      obtain ⟨Wr, hWr⟩ : ∃ W1, W1 = v10.drew := ⟨_, rfl⟩
      have hbd : Below v10.heap.size v10 Wr := by rw [hWr]; exact bDrew1 (Below.refl _ _)
      replace Xm : Hid _ := Xm.out.below hbd
      replace Xv : Hid _ := Xv.out.below hbd
      replace Xw : Hid _ := Xw.out.below hbd
      replace Xx : Hid _ := Xx.out.below hbd
      replace Xy : Hid _ := Xy.out.below hbd
      replace D5 : Hid _ := D5.out.below hbd
      replace D6 : Hid _ := D6.out.below hbd
      replace D7 : Hid _ := D7.out.below hbd
      replace D8 : Hid _ := D8.out.below hbd
      replace D9 : Hid _ := D9.out.below hbd
      replace XC : Hid (CellIs Wr g5 o5 (U mn)) := XC.out.below hbd
      replace hbw := Below.on hbw hbd
      clear hbd
      have HJ : Hid ((fun W' : World => W'.cell? ⟨gm, 0, none⟩ = some (.bool s5) ∧ W'.cell? ⟨gm, 1, none⟩ = some (.slice p5 m5 m5) ∧ W'.cell? ⟨gm, 2, none⟩ = some (.int .i64 (ex)) ∧ W'.cell? ⟨g5, o5, none⟩ = some (U mn)) Wr) := ⟨Xm.out.c0, Xm.out.c1, Xm.out.c2, XC.out.c⟩
      refine wp_region_J (fun W' => W'.cell? ⟨gm, 0, none⟩ = some (.bool s5) ∧ W'.cell? ⟨gm, 1, none⟩ = some (.slice p5 m5 m5) ∧ W'.cell? ⟨gm, 2, none⟩ = some (.int .i64 (ex)) ∧ W'.cell? ⟨g5, o5, none⟩ = some (U mn)) (by kernel_rfl) ?_
      rw [← hWr]
      clear hWr
      refine wpJ_take (i := 0) (v := ?v1x0) rfl (by kernel_rfl) (by kernel_rfl) (by kernel_rfl) (fun _ _ _ h => h) (by kernel_rfl) ?hy1x0 HJ.out ?rest1x0
      case hy1x0 => (intro W' hJ; obtain ⟨j0, j1, j2, j3⟩ := hJ; go_simp; first | done | with_reducible rfl)
      refine wpJ_take (i := 1) (v := ?v2x1) rfl (by kernel_rfl) (by kernel_rfl) (by kernel_rfl) (fun _ _ _ h => h) (by kernel_rfl) ?hy2x1 HJ.out ?rest2x1
      case hy2x1 => (intro W' hJ; obtain ⟨j0, j1, j2, j3⟩ := hJ; go_simp; first | done | with_reducible rfl)
      refine wpJ_take (i := 2) (v := ?v3x2) rfl (by kernel_rfl) (by kernel_rfl) (by kernel_rfl) (fun _ _ _ h => h) (by kernel_rfl) ?hy3x2 HJ.out ?rest3x2
      case hy3x2 => (intro W' hJ; obtain ⟨j0, j1, j2, j3⟩ := hJ; go_simp; first | done | with_reducible rfl)
      refine wpJ_take (i := 3) (v := ?v4x3) rfl (by kernel_rfl) (by kernel_rfl) (by kernel_rfl) (fun _ _ _ h => h) (by kernel_rfl) ?hy4x3 HJ.out ?rest4x3
      case hy4x3 => (intro W' hJ; obtain ⟨j0, j1, j2, j3⟩ := hJ; go_simp; first | done | with_reducible rfl)
      refine wpJ_take (i := 4) (v := ?v5x4) rfl (by kernel_rfl) (by kernel_rfl) (by kernel_rfl) (fun _ _ _ h => h) (by kernel_rfl) ?hy5x4 HJ.out ?rest5x4
      case hy5x4 => (intro W' hJ; obtain ⟨j0, j1, j2, j3⟩ := hJ; go_simp; first | done | with_reducible rfl)
      refine wpJ_take (i := 5) (v := ?v6x5) rfl (by kernel_rfl) (by kernel_rfl) (by kernel_rfl) (fun _ _ _ h => h) (by kernel_rfl) ?hy6x5 HJ.out ?rest6x5
      case hy6x5 => (intro W' hJ; obtain ⟨j0, j1, j2, j3⟩ := hJ; go_simp; first | done | with_reducible rfl)
      refine wpJ_take (i := 6) (v := ?v7x6) rfl (by kernel_rfl) (by kernel_rfl) (by kernel_rfl) (fun _ _ _ h => h) (by kernel_rfl) ?hy7x6 HJ.out ?rest7x6
      case hy7x6 => (intro W' hJ; obtain ⟨j0, j1, j2, j3⟩ := hJ; go_simp; first | done | with_reducible rfl)
      refine wpJ_take (i := 7) (v := ?v8x7) rfl (by kernel_rfl) (by kernel_rfl) (by kernel_rfl) (fun _ _ _ h => h) (by kernel_rfl) ?hy8x7 HJ.out ?rest8x7
      case hy8x7 => (intro W' hJ; obtain ⟨j0, j1, j2, j3⟩ := hJ; go_simp; first | done | with_reducible rfl)
      refine wpJ_take (i := 8) (v := ?v9x8) rfl (by kernel_rfl) (by kernel_rfl) (by kernel_rfl) (fun _ _ _ h => h) (by kernel_rfl) ?hy9x8 HJ.out ?rest9x8
      case hy9x8 => (intro W' hJ; obtain ⟨j0, j1, j2, j3⟩ := hJ; go_simp; first | done | with_reducible rfl)
      refine wpJ_take (i := 9) (v := ?v10x9) rfl (by kernel_rfl) (by kernel_rfl) (by kernel_rfl) (fun _ _ _ h => h) (by kernel_rfl) ?hy10x9 HJ.out ?rest10x9
      case hy10x9 => (intro W' hJ; obtain ⟨j0, j1, j2, j3⟩ := hJ; go_simp; first | done | with_reducible rfl)
      refine wpJ_take (i := 10) (v := ?v11x10) rfl (by kernel_rfl) (by kernel_rfl) (by kernel_rfl) (fun _ _ _ h => h) (by kernel_rfl) ?hy11x10 HJ.out ?rest11x10
      case hy11x10 => (intro W' hJ; obtain ⟨j0, j1, j2, j3⟩ := hJ; go_simp; first | done | with_reducible rfl)
      refine wpJ_one (i := 11) (by kernel_rfl) rfl (by kernel_rfl) (fun KJ hK => ?_)
      go_simp
      refine (join_e HJM.out s5 (a % S) man (a % S / H - 1) HF.out.2 rfl MM.out.hm ex MM.out.he mn MM.out.hn _ (TB.out.below hbw)).mono ?_
      rintro e v11 ⟨rfl, hb11⟩
      replace Xm : Hid _ := Xm.out.below hb11
      replace Xv : Hid _ := Xv.out.below hb11
      replace Xw : Hid _ := Xw.out.below hb11
      replace Xx : Hid _ := Xx.out.below hb11
      replace Xy : Hid _ := Xy.out.below hb11
      replace D5 : Hid _ := D5.out.below hb11
      replace D6 : Hid _ := D6.out.below hb11
      replace D7 : Hid _ := D7.out.below hb11
      replace D8 : Hid _ := D8.out.below hb11
      replace D9 : Hid _ := D9.out.below hb11
      replace XC : Hid (CellIs v11 g5 o5 (U mn)) := XC.out.below hb11
      replace hbw := Below.on hbw hb11
      clear hb11
      clear HJ
      have HJ : Hid ((fun W' : World => W'.cell? ⟨gm, 0, none⟩ = some (.bool s5) ∧ W'.cell? ⟨gm, 1, none⟩ = some (.slice p5 m5 m5) ∧ W'.cell? ⟨gm, 2, none⟩ = some (.int .i64 (ex)) ∧ W'.cell? ⟨g5, o5, none⟩ = some (U mn)) v11) := ⟨Xm.out.c0, Xm.out.c1, Xm.out.c2, XC.out.c⟩
      refine hK _ _ HJ.out ?_
      clear hK
      refine wpJ_take (i := 12) (v := ?v12x12) rfl (by kernel_rfl) (by kernel_rfl) (by kernel_rfl) (fun _ _ _ h => h) (by kernel_rfl) ?hy12x12 HJ.out ?rest12x12
      case hy12x12 => (intro W' hJ; obtain ⟨j0, j1, j2, j3⟩ := hJ; go_simp; first | done | with_reducible rfl)
      refine wpJ_take (i := 13) (v := ?v13x13) rfl (by kernel_rfl) (by kernel_rfl) (by kernel_rfl) (fun _ _ _ h => h) (by kernel_rfl) ?hy13x13 HJ.out ?rest13x13
      case hy13x13 => (intro W' hJ; obtain ⟨j0, j1, j2, j3⟩ := hJ; go_simp; first | done | with_reducible rfl)
      refine wpJ_take (i := 14) (v := ?v14x14) rfl (by kernel_rfl) (by kernel_rfl) (by kernel_rfl) (fun _ _ _ h => h) (by kernel_rfl) ?hy14x14 HJ.out ?rest14x14
      case hy14x14 => (intro W' hJ; obtain ⟨j0, j1, j2, j3⟩ := hJ; go_simp; first | done | with_reducible rfl)
      refine wpJ_take (i := 15) (v := ?v15x15) rfl (by kernel_rfl) (by kernel_rfl) (by kernel_rfl) (fun _ _ _ h => h) (by kernel_rfl) ?hy15x15 HJ.out ?rest15x15
      case hy15x15 => (intro W' hJ; obtain ⟨j0, j1, j2, j3⟩ := hJ; go_simp; first | done | with_reducible rfl)
      refine wpJ_take (i := 16) (v := ?v16x16) rfl (by kernel_rfl) (by kernel_rfl) (by kernel_rfl) (fun _ _ _ h => h) (by kernel_rfl) ?hy16x16 HJ.out ?rest16x16
      case hy16x16 => (intro W' hJ; obtain ⟨j0, j1, j2, j3⟩ := hJ; go_simp; first | done | with_reducible rfl)
      refine wpJ_done (by kernel_rfl) ?_ _
      clear HJ
      go_wp2_with fail
      go_ret
      exact ⟨rfl, hbw⟩
    · rw [decide_eq_false hf2]
      clear hf2
      go_wp2_with fail
      go_ret
      exact ⟨rfl, hbw⟩
  · rw [decide_eq_false hf]
    clear hf
    go_wp2_with fail
    go_ret
    exact ⟨rfl, hbw⟩
theorem binaryMiddles_w (f : Int) (a : Nat) (ha : a < B64) (w : World) (hT : Tab w) :
    Calls Tryd.prog 6 #[.int .i64 f, U a] w fun en w' => en = .returned (.bool true) ∧ Below w.heap.size w w' := by
  by_cases h1 : f = 32
  · subst h1; exact binaryMiddles_f jm_32 lf_32 a ha w hT
  by_cases h2 : f = 64
  · subst h2; exact binaryMiddles_f jm_64 lf_64 a ha w hT
  exact binaryMiddles_x f h1 h2 a w hT
end Go.Proofs.YtkbjehhabklnpaaDoor

