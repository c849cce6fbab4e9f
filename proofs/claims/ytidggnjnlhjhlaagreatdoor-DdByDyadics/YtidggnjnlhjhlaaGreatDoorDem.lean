import Derived.Test.YtidggnjnlhjhlaaGreatDoorJ17
import Derived.Test.YtidggnjnlhjhlaaGreatDoorJ15
namespace Go.Proofs.YtidggnjnlhjhlaaGreatDoor
open Go.RowKit Go.Shelf
set_option maxRecDepth 20000
set_option maxHeartbeats 0
theorem db_val {h l : Nat} {z e : Int} (d : DdF h l) (hf : DFm z e) (h : dv z e = dv (ux h + ux l) (-1074)) : DB z e 2100 3174 := by
  obtain ⟨K, hK⟩ : ∃ K, K = 2100 := ⟨_, rfl⟩
  have h1 := db_of hf h (fin_sum hK d)
  rw [hK] at h1
  exact h1
theorem w0 {Z : Int} : dv Z (-1074) = dv Z (-1074 - ((0 : Nat) : Int)) := by rw [show (-1074 : Int) - ((0 : Nat) : Int) = -1074 by omega]
theorem w_add {a b : Int} {zo eo z e y f : Int} (h1 : dv z e = dv a (-1074)) (h2 : dv y f = dv b (-1074)) (h : dv zo eo = dv z e + dv y f) : dv zo eo = dv (a + b) (-1074 - ((0 : Nat) : Int)) := by
  rw [← w0, h, h1, h2, dv_add]
theorem w_sub {a b : Int} {zo eo z e y f : Int} (h1 : dv z e = dv a (-1074)) (h2 : dv y f = dv b (-1074)) (h : dv zo eo = dv z e - dv y f) : dv zo eo = dv (a - b) (-1074 - ((0 : Nat) : Int)) := by
  rw [← w0, h, h1, h2, Int.sub_eq_add_neg, Int.sub_eq_add_neg, dv_add, dv_neg]
theorem w_mul {a b : Int} {zo eo z e y f : Int} (h1 : dv z e = dv a (-1074)) (h2 : dv y f = dv b (-1074)) (he : -2097152 ≤ e) (hf : -2097152 ≤ f) (h : dv zo eo = dv (z * y) (e + f)) : dv zo eo = dv (a * b) (-1074 - ((OneE : Nat) : Int)) := by
  have k1 := dv_mul (z := z) (c := y) he hf
  have k2 := dv_mul (z := a) (c := b) (e := -1074) (f := -1074) (by decide) (by decide)
  rw [h1, h2, ← k2] at k1
  rw [h, Int.eq_of_mul_eq_mul_right (pow_pos_int _) k1]
  rfl
theorem wn_add {a x : Int} (h : 81129638414606681695789005144064 * (a - x).natAbs ≤ 8 * x.natAbs) : (a * ((2 ^ 0 : Nat) : Int) - x).natAbs * 2 ^ 103 ≤ x.natAbs := by
  rw [show ((2 ^ 0 : Nat) : Int) = 1 from rfl]; exact near_of h
theorem wn_mul {a x : Int} (h : 81129638414606681695789005144064 * (a * (UE : Int) - x).natAbs ≤ 16 * x.natAbs) : (a * ((2 ^ OneE : Nat) : Int) - x).natAbs * 2 ^ 102 ≤ x.natAbs := by
  have e : ((2 ^ OneE : Nat) : Int) = (UE : Int) := rfl
  rw [e, show (2 : Nat) ^ 102 = 5070602400912917605986812821504 by decide]
  omega
theorem ddByDyadics_w {h l h2 l2 : Nat} (hh : h < 18446744073709551616) (hl : l < 18446744073709551616) (hh2 : h2 < 18446744073709551616) (hl2 : l2 < 18446744073709551616) (w : World) (hT : Tab w) :
    Calls Tryz.prog 5 #[.agg #[.int .u64 (h : Int), .int .u64 (l : Int)], .agg #[.int .u64 (h2 : Int), .int .u64 (l2 : Int)]] w fun en w' => en = .returned (.bool true) ∧ Below w.heap.size w w' := by
  have hSF : ∀ (w : World) (a : Addr) (b : Nat), (store a (Fv b)).run Tryz.prog w = stored Tryz.prog w a (Fv b) .plain := stF
  have hbw : Below w.heap.size w w := Below.refl _ _
  have TB : Hid (Tab w) := hT
  have HL : Hid (h < 18446744073709551616 ∧ l < 18446744073709551616 ∧ h2 < 18446744073709551616 ∧ l2 < 18446744073709551616) := ⟨hh, hl, hh2, hl2⟩
  have P1 := lpair h l
  have P2 := lpair h2 l2
  clear hT hh hl hh2 hl2
  go_enter Tryz.func5, Tryz.ntmps5
  go_wp2_with fail
  obtain ⟨W0, hW0⟩ : ∃ W0, W0 = ((w.alloc (.cells #[.int .u64 (h : Int), .int .u64 (l : Int)] 28)).alloc (.cells #[.int .u64 (h2 : Int), .int .u64 (l2 : Int)] 28)) := ⟨_, rfl⟩
  have Xa : Hid (Box W0 (w.heap.size) (.int .u64 (h : Int)) (.int .u64 (l : Int))) := by rw [hW0]; exact ⟨by go_simp, by go_simp, by go_simp, by go_simp⟩
  have Xb : Hid (Box W0 (w.heap.size + 1) (.int .u64 (h2 : Int)) (.int .u64 (l2 : Int))) := by rw [hW0]; exact ⟨by go_simp, by go_simp, by go_simp, by go_simp⟩
  have hb0 : Below w.heap.size w W0 := by rw [hW0]; exact below2 w _ _
  rw [← hW0]
  clear hW0
  have hbw : Below w.heap.size w w := Below.refl _ _
  obtain ⟨gb, hgb⟩ : ∃ g, g = w.heap.size + 1 := ⟨_, rfl⟩
  have HGb : Hid (w.heap.size ≤ gb) := by rw [hgb]; show _ ≤ _; omega
  rw [← hgb] at Xb
  try rw [← hgb]
  obtain ⟨ga, hga⟩ : ∃ g, g = w.heap.size := ⟨_, rfl⟩
  have HGa : Hid (w.heap.size ≤ ga) := by rw [hga]; show _ ≤ _; omega
  rw [← hga] at Xa
  try rw [← hga]
  have HGD : Hid (ga ≠ gb ∧ gb ≠ ga) := by rw [hga, hgb]; exact ⟨by omega, by omega⟩
  clear hga hgb
  replace hbw := Below.on hbw hb0
  clear hb0
  refine (awake20 _).mono ?_
  rintro e v1 ⟨rfl, hb1⟩
  replace Xa : Hid _ := Xa.out.below hb1
  replace Xb : Hid _ := Xb.out.below hb1
  replace hbw := Below.on hbw hb1
  clear hb1
  obtain ⟨ca0, ca1, fa0, fa1⟩ := Xa.out
  have hnea := Xa.out.lt
  go_wp2_with fail
  clear ca0 ca1 fa0 fa1 hnea
  refine (fit20q h l HL.out.1 HL.out.2.1 _).mono ?_
  rintro en v2 ⟨⟨r, rfl, hr⟩, hb2⟩
  replace Xa : Hid _ := Xa.out.below hb2
  replace Xb : Hid _ := Xb.out.below hb2
  replace hbw := Below.on hbw hb2
  clear hb2
  cases r
  · clear hr
    obtain ⟨cb0, cb1, fb0, fb1⟩ := Xb.out
    have hneb := Xb.out.lt
    go_wp2_with fail
    clear cb0 cb1 fb0 fb1 hneb
    go_ret
    exact ⟨rfl, hbw⟩
  have HC2 := Hid.mk9 (hr rfl)
  clear hr
  obtain ⟨cb0, cb1, fb0, fb1⟩ := Xb.out
  have hneb := Xb.out.lt
  go_wp2_with fail
  clear cb0 cb1 fb0 fb1 hneb
  refine (fit20q h2 l2 HL.out.2.2.1 HL.out.2.2.2 _).mono ?_
  rintro en v9 ⟨⟨r, rfl, hr⟩, hb9⟩
  replace Xa : Hid _ := Xa.out.below hb9
  replace Xb : Hid _ := Xb.out.below hb9
  replace hbw := Below.on hbw hb9
  clear hb9
  cases r
  · clear hr
    obtain ⟨ca0, ca1, fa0, fa1⟩ := Xa.out
    have hnea := Xa.out.lt
    obtain ⟨cb0, cb1, fb0, fb1⟩ := Xb.out
    have hneb := Xb.out.lt
    go_wp2_with fail
    clear ca0 ca1 fa0 fa1 hnea
    clear cb0 cb1 fb0 fb1 hneb
    go_ret
    exact ⟨rfl, hbw⟩
  have HC9 := Hid.mk9 (hr rfl)
  clear hr
  obtain ⟨ca0, ca1, fa0, fa1⟩ := Xa.out
  have hnea := Xa.out.lt
  obtain ⟨cb0, cb1, fb0, fb1⟩ := Xb.out
  have hneb := Xb.out.lt
  go_wp2_with fail
  clear ca0 ca1 fa0 fa1 hnea
  clear cb0 cb1 fb0 fb1 hneb
  obtain ⟨V1, hV1⟩ : ∃ W1, W1 = v9.drew := ⟨_, rfl⟩
  have hbd : Below v9.heap.size v9 V1 := by rw [hV1]; exact bDrew1 (Below.refl _ _)
  replace Xa : Hid _ := Xa.out.below hbd
  replace Xb : Hid _ := Xb.out.below hbd
  replace hbw := Below.on hbw hbd
  clear hbd
  have HJ : Hid ((fun W' : World => W'.cell? ⟨ga, 0, none⟩ = some (.int .u64 (h : Int)) ∧ W'.cell? ⟨ga, 1, none⟩ = some (.int .u64 (l : Int)) ∧ W'.cell? ⟨gb, 0, none⟩ = some (.int .u64 (h2 : Int)) ∧ W'.cell? ⟨gb, 1, none⟩ = some (.int .u64 (l2 : Int))) V1) := ⟨Xa.out.c0, Xa.out.c1, Xb.out.c0, Xb.out.c1⟩
  refine wp_region_J (fun W' => W'.cell? ⟨ga, 0, none⟩ = some (.int .u64 (h : Int)) ∧ W'.cell? ⟨ga, 1, none⟩ = some (.int .u64 (l : Int)) ∧ W'.cell? ⟨gb, 0, none⟩ = some (.int .u64 (h2 : Int)) ∧ W'.cell? ⟨gb, 1, none⟩ = some (.int .u64 (l2 : Int))) (by kernel_rfl) ?_
  rw [← hV1]
  clear hV1
  refine wpJ_tq 0 rfl HJ.out ?_
  refine wpJ_tq 2 rfl HJ.out ?_
  go_simp
  refine wpJ_nodes fun WP hWP L0 a0 hL ha => ?_
  have N2xy : ∀ (gx : Nat) (gy : Nat) (W' : World), Box W' ga (.int .u64 (h : Int)) (.int .u64 (l : Int)) ∧ Box W' gb (.int .u64 (h2 : Int)) (.int .u64 (l2 : Int)) ∧ Below w.heap.size w W' ∧ Box W' gx (Fv 0) (Fv 0) ∧ w.heap.size ≤ gx ∧ gx ≠ ga ∧ gx ≠ gb ∧ Box W' gy (Fv 0) (Fv 0) ∧ w.heap.size ≤ gy ∧ gy ≠ ga ∧ gy ≠ gb ∧ gx ≠ gy → WP 2 ((((L0.setIfInBounds 1 true).setIfInBounds 3 true).setIfInBounds 4 true).setIfInBounds 5 true) ((((a0.put (some 30) (.agg #[Fv h, Fv l])).put (some 32) (.agg #[Fv h2, Fv l2])).put (some 5) (.pointer (some ⟨gx, 0, none⟩))).put (some 6) (.pointer (some ⟨gy, 0, none⟩))) W' := by
    rintro gx gy W' ⟨xa, xb, hbw, xx, hgx, dxa, dxb, xy, hgy, dya, dyb, dd⟩
    subst hWP hL ha
    have Hxa := Hid.mk9 xa
    have Hxb := Hid.mk9 xb
    have Hxx := Hid.mk9 xx
    have Hhgx := Hid.mk9 hgx
    have Hdxa := Hid.mk9 dxa
    have Hdxb := Hid.mk9 dxb
    have Hxy := Hid.mk9 xy
    have Hhgy := Hid.mk9 hgy
    have Hdya := Hid.mk9 dya
    have Hdyb := Hid.mk9 dyb
    have Hdd := Hid.mk9 dd
    clear xa xb xx hgx dxa dxb xy hgy dya dyb dd
    go_simp
    have Xa := Hxa
    have Xb := Hxb
    have Xx := Hxx
    have Xy := Hxy
    clear Hxa Hxb Hxx Hxy
    have exa := Hdxa.out
    have exb := Hdxb.out
    have eya := Hdya.out
    have eyb := Hdyb.out
    have fxa := Ne.symm exa
    have fxb := Ne.symm exb
    have fya := Ne.symm eya
    have fyb := Ne.symm eyb
    have e5 := Hdd.out
    have f5 := Ne.symm e5
    have HGx : Hid (w.heap.size ≤ gx) := Hhgx.out
    have HGy : Hid (w.heap.size ≤ gy) := Hhgy.out
    obtain ⟨ca0, ca1, fa0, fa1⟩ := Xa.out
    have hnea := Xa.out.lt
    obtain ⟨cb0, cb1, fb0, fb1⟩ := Xb.out
    have hneb := Xb.out.lt
    obtain ⟨cx0, cx1, fx0, fx1⟩ := Xx.out
    have hnex := Xx.out.lt
    obtain ⟨cy0, cy1, fy0, fy1⟩ := Xy.out
    have hney := Xy.out.lt
    refine wpJ_on 6 rfl fun KJ hK => ?_
    go_simp
    refine hK _ _ ⟨by go_simp, by go_simp, by go_simp, by go_simp⟩ ?_
    clear hK
    refine wpJ_on 7 rfl fun KJ hK => ?_
    go_simp
    refine hK _ _ ⟨by go_simp, by go_simp, by go_simp, by go_simp⟩ ?_
    clear hK
    refine wpJ_done (by kernel_rfl) ?_ _
    obtain ⟨Wy, hWy⟩ : ∃ W9, W9 = ((((W'.setCell ⟨gx, 0, none⟩ (Fv h)).setCell ⟨gx, 1, none⟩ (Fv l)).setCell ⟨gy, 0, none⟩ (Fv h2)).setCell ⟨gy, 1, none⟩ (Fv l2)) := ⟨_, rfl⟩
    have Yx : Hid (Box Wy gx (Fv h) (Fv l)) := by rw [hWy]; exact ⟨by go_simp, by go_simp, by go_simp, by go_simp⟩
    have Yy : Hid (Box Wy gy (Fv h2) (Fv l2)) := by rw [hWy]; exact ⟨by go_simp, by go_simp, by go_simp, by go_simp⟩
    have hbw2 : Below w.heap.size w Wy := by rw [hWy]; exact bSet (bSet (bSet (bSet hbw _ _ _ HGx.out) _ _ _ HGx.out) _ _ _ HGy.out) _ _ _ HGy.out
    clear ca0 ca1 fa0 fa1 hnea
    clear cb0 cb1 fb0 fb1 hneb
    clear cx0 cx1 fx0 fx1 hnex
    clear cy0 cy1 fy0 fy1 hney
    rw [← hWy]
    have HXY : Hid (gx ≠ gy) := e5
    clear hWy hbw Xa Xb Xx Xy exa fxa exb fxb eya fya eyb fyb e5 f5
    have hbw := hbw2
    have Xx := Yx
    have Xy := Yy
    clear hbw2 Yx Yy
    obtain ⟨cx0, cx1, fx0, fx1⟩ := Xx.out
    have hnex := Xx.out.lt
    go_wp2_with fail
    clear cx0 cx1 fx0 fx1 hnex
    refine (ddvalue h l (HC2.out.1) _ (TB.out.below hbw)).mono ?_
    rintro en v3 ⟨s3, p3, m3, z3, e3, rfl, hd3, hv3, hb3⟩
    have HV3 := Hid.mk9 (And.intro hv3 (db_val (HC2.out.1) hd3.fm hv3))
    clear hv3
    replace Xx : Hid _ := Xx.out.below hb3
    replace Xy : Hid _ := Xy.out.below hb3
    replace hbw := Below.on hbw hb3
    clear hb3
    have D3 : Hid (DN v3 s3 p3 m3 m3 e3 z3) := hd3.dn
    clear hd3
    obtain ⟨cy0, cy1, fy0, fy1⟩ := Xy.out
    have hney := Xy.out.lt
    go_wp2_with fail
    clear cy0 cy1 fy0 fy1 hney
    have Xv0 : Hid (B3q (v3.alloc (.cells #[.bool s3, .slice p3 m3 m3, .int .i64 e3] 38)) v3.heap.size (.bool s3) (.slice p3 m3 m3) (.int .i64 e3)) := B3q.new v3 _ _ _ _
    have hbn : Below v3.heap.size v3 (v3.alloc (.cells #[.bool s3, .slice p3 m3 m3, .int .i64 e3] 38)) := below1 v3 _
    generalize v3.alloc (.cells #[.bool s3, .slice p3 m3 m3, .int .i64 e3] 38) = Wv at *
    have HGv : Hid (w.heap.size ≤ v3.heap.size) := hbw.size
    replace Xx : Hid _ := Xx.out.below hbn
    replace Xy : Hid _ := Xy.out.below hbn
    replace D3 : Hid _ := D3.out.below hbn
    replace hbw := Below.on hbw hbn
    clear hbn
    generalize v3.heap.size = gv at *
    have Xv := Xv0
    clear Xv0
    refine (ddvalue h2 l2 (HC9.out.1) _ (TB.out.below hbw)).mono ?_
    rintro en v4 ⟨s4, p4, m4, z4, e4, rfl, hd4, hv4, hb4⟩
    have HV4 := Hid.mk9 (And.intro hv4 (db_val (HC9.out.1) hd4.fm hv4))
    clear hv4
    replace Xx : Hid _ := Xx.out.below hb4
    replace Xy : Hid _ := Xy.out.below hb4
    replace Xv : Hid _ := Xv.out.below hb4
    replace D3 : Hid _ := D3.out.below hb4
    replace hbw := Below.on hbw hb4
    clear hb4
    have D4 : Hid (DN v4 s4 p4 m4 m4 e4 z4) := hd4.dn
    clear hd4
    obtain ⟨cv0, cv1, cv2, fv0, fv1, fv2⟩ := Xv.out
    have hnev : gv < v4.heap.size := World.block_lt_of_cell? v4 _ cv0
    go_wp2_with fail
    clear cv0 cv1 cv2 fv0 fv1 fv2 hnev
    have Xu0 : Hid (B3q (v4.alloc (.cells #[.bool s4, .slice p4 m4 m4, .int .i64 e4] 38)) v4.heap.size (.bool s4) (.slice p4 m4 m4) (.int .i64 e4)) := B3q.new v4 _ _ _ _
    have hbn : Below v4.heap.size v4 (v4.alloc (.cells #[.bool s4, .slice p4 m4 m4, .int .i64 e4] 38)) := below1 v4 _
    generalize v4.alloc (.cells #[.bool s4, .slice p4 m4 m4, .int .i64 e4] 38) = Wu at *
    have HGu : Hid (w.heap.size ≤ v4.heap.size) := hbw.size
    replace Xx : Hid _ := Xx.out.below hbn
    replace Xy : Hid _ := Xy.out.below hbn
    replace Xv : Hid _ := Xv.out.below hbn
    replace D3 : Hid _ := D3.out.below hbn
    replace D4 : Hid _ := D4.out.below hbn
    replace hbw := Below.on hbw hbn
    clear hbn
    generalize v4.heap.size = gu at *
    have Xu := Xu0
    clear Xu0
    obtain ⟨cv0, cv1, cv2, fv0, fv1, fv2⟩ := Xv.out
    have hnev : gv < Wu.heap.size := World.block_lt_of_cell? Wu _ cv0
    obtain ⟨cu0, cu1, cu2, fu0, fu1, fu2⟩ := Xu.out
    have hneu : gu < Wu.heap.size := World.block_lt_of_cell? Wu _ cu0
    go_wp2_with fail
    clear cv0 cv1 cv2 fv0 fv1 fv2 hnev
    clear cu0 cu1 cu2 fu0 fu1 fu2 hneu
    refine (dadd_b (K := 2100) (E := 3174) D3.out D4.out HV3.out.2 HV4.out.2 (by decide) (TB.out.below hbw)).mono ?_
    rintro e9 v5 ⟨v9, z5, e5, rfl, ha, hdb, hdv, hb5⟩
    obtain ⟨s5, p5, m5, rfl, hd5⟩ := ha.dn hdb.fm
    clear ha
    have HB5 := Hid.mk9 (And.intro hdb hdv)
    clear hdb hdv
    replace Xx : Hid _ := Xx.out.below hb5
    replace Xy : Hid _ := Xy.out.below hb5
    replace Xv : Hid _ := Xv.out.below hb5
    replace Xu : Hid _ := Xu.out.below hb5
    replace D3 : Hid _ := D3.out.below hb5
    replace D4 : Hid _ := D4.out.below hb5
    replace hbw := Below.on hbw hb5
    clear hb5
    have D5 : Hid (DN v5 s5 p5 m5 m5 e5 z5) := hd5
    clear hd5
    obtain ⟨cv0, cv1, cv2, fv0, fv1, fv2⟩ := Xv.out
    have hnev : gv < v5.heap.size := World.block_lt_of_cell? v5 _ cv0
    obtain ⟨cu0, cu1, cu2, fu0, fu1, fu2⟩ := Xu.out
    have hneu : gu < v5.heap.size := World.block_lt_of_cell? v5 _ cu0
    go_wp2_with fail
    clear cv0 cv1 cv2 fv0 fv1 fv2 hnev
    clear cu0 cu1 cu2 fu0 fu1 fu2 hneu
    have Xs0 : Hid (B3q (v5.alloc (.cells #[.bool s5, .slice p5 m5 m5, .int .i64 e5] 38)) v5.heap.size (.bool s5) (.slice p5 m5 m5) (.int .i64 e5)) := B3q.new v5 _ _ _ _
    have hbn : Below v5.heap.size v5 (v5.alloc (.cells #[.bool s5, .slice p5 m5 m5, .int .i64 e5] 38)) := below1 v5 _
    generalize v5.alloc (.cells #[.bool s5, .slice p5 m5 m5, .int .i64 e5] 38) = Ws at *
    have HGs : Hid (w.heap.size ≤ v5.heap.size) := hbw.size
    replace Xx : Hid _ := Xx.out.below hbn
    replace Xy : Hid _ := Xy.out.below hbn
    replace Xv : Hid _ := Xv.out.below hbn
    replace Xu : Hid _ := Xu.out.below hbn
    replace D3 : Hid _ := D3.out.below hbn
    replace D4 : Hid _ := D4.out.below hbn
    replace D5 : Hid _ := D5.out.below hbn
    replace hbw := Below.on hbw hbn
    clear hbn
    generalize v5.heap.size = gs at *
    have Xs := Xs0
    clear Xs0
    refine (dsub_b (K := 2100) (E := 3174) D3.out D4.out HV3.out.2 HV4.out.2 (by decide) (TB.out.below hbw)).mono ?_
    rintro e9 v6 ⟨v9, z6, e6, rfl, ha, hdb, hdv, hb6⟩
    obtain ⟨s6, p6, m6, rfl, hd6⟩ := ha.dn hdb.fm
    clear ha
    have HB6 := Hid.mk9 (And.intro hdb hdv)
    clear hdb hdv
    replace Xx : Hid _ := Xx.out.below hb6
    replace Xy : Hid _ := Xy.out.below hb6
    replace Xv : Hid _ := Xv.out.below hb6
    replace Xu : Hid _ := Xu.out.below hb6
    replace Xs : Hid _ := Xs.out.below hb6
    replace D3 : Hid _ := D3.out.below hb6
    replace D4 : Hid _ := D4.out.below hb6
    replace D5 : Hid _ := D5.out.below hb6
    replace hbw := Below.on hbw hb6
    clear hb6
    have D6 : Hid (DN v6 s6 p6 m6 m6 e6 z6) := hd6
    clear hd6
    obtain ⟨cv0, cv1, cv2, fv0, fv1, fv2⟩ := Xv.out
    have hnev : gv < v6.heap.size := World.block_lt_of_cell? v6 _ cv0
    obtain ⟨cu0, cu1, cu2, fu0, fu1, fu2⟩ := Xu.out
    have hneu : gu < v6.heap.size := World.block_lt_of_cell? v6 _ cu0
    go_wp2_with fail
    clear cv0 cv1 cv2 fv0 fv1 fv2 hnev
    clear cu0 cu1 cu2 fu0 fu1 fu2 hneu
    have Xd0 : Hid (B3q (v6.alloc (.cells #[.bool s6, .slice p6 m6 m6, .int .i64 e6] 38)) v6.heap.size (.bool s6) (.slice p6 m6 m6) (.int .i64 e6)) := B3q.new v6 _ _ _ _
    have hbn : Below v6.heap.size v6 (v6.alloc (.cells #[.bool s6, .slice p6 m6 m6, .int .i64 e6] 38)) := below1 v6 _
    generalize v6.alloc (.cells #[.bool s6, .slice p6 m6 m6, .int .i64 e6] 38) = Wd at *
    have HGd : Hid (w.heap.size ≤ v6.heap.size) := hbw.size
    replace Xx : Hid _ := Xx.out.below hbn
    replace Xy : Hid _ := Xy.out.below hbn
    replace Xv : Hid _ := Xv.out.below hbn
    replace Xu : Hid _ := Xu.out.below hbn
    replace Xs : Hid _ := Xs.out.below hbn
    replace D3 : Hid _ := D3.out.below hbn
    replace D4 : Hid _ := D4.out.below hbn
    replace D5 : Hid _ := D5.out.below hbn
    replace D6 : Hid _ := D6.out.below hbn
    replace hbw := Below.on hbw hbn
    clear hbn
    generalize v6.heap.size = gd at *
    have Xd := Xd0
    clear Xd0
    refine (dmul_b D3.out D4.out HV3.out.2 HV4.out.2 (by decide) (by decide) (TB.out.below hbw)).mono ?_
    rintro e9 v7 ⟨v9, z7, e7, rfl, ha, hdb, hdv, hb7⟩
    obtain ⟨s7, p7, m7, rfl, hd7⟩ := ha.dn hdb.fm
    clear ha
    have HB7 := Hid.mk9 (And.intro hdb hdv)
    clear hdb hdv
    replace Xx : Hid _ := Xx.out.below hb7
    replace Xy : Hid _ := Xy.out.below hb7
    replace Xv : Hid _ := Xv.out.below hb7
    replace Xu : Hid _ := Xu.out.below hb7
    replace Xs : Hid _ := Xs.out.below hb7
    replace Xd : Hid _ := Xd.out.below hb7
    replace D3 : Hid _ := D3.out.below hb7
    replace D4 : Hid _ := D4.out.below hb7
    replace D5 : Hid _ := D5.out.below hb7
    replace D6 : Hid _ := D6.out.below hb7
    replace hbw := Below.on hbw hb7
    clear hb7
    have D7 : Hid (DN v7 s7 p7 m7 m7 e7 z7) := hd7
    clear hd7
    obtain ⟨cv0, cv1, cv2, fv0, fv1, fv2⟩ := Xv.out
    have hnev : gv < v7.heap.size := World.block_lt_of_cell? v7 _ cv0
    go_wp2_with fail
    clear cv0 cv1 cv2 fv0 fv1 fv2 hnev
    have Xp0 : Hid (B3q (v7.alloc (.cells #[.bool s7, .slice p7 m7 m7, .int .i64 e7] 38)) v7.heap.size (.bool s7) (.slice p7 m7 m7) (.int .i64 e7)) := B3q.new v7 _ _ _ _
    have hbn : Below v7.heap.size v7 (v7.alloc (.cells #[.bool s7, .slice p7 m7 m7, .int .i64 e7] 38)) := below1 v7 _
    generalize v7.alloc (.cells #[.bool s7, .slice p7 m7 m7, .int .i64 e7] 38) = Wp at *
    have HGp : Hid (w.heap.size ≤ v7.heap.size) := hbw.size
    replace Xx : Hid _ := Xx.out.below hbn
    replace Xy : Hid _ := Xy.out.below hbn
    replace Xv : Hid _ := Xv.out.below hbn
    replace Xu : Hid _ := Xu.out.below hbn
    replace Xs : Hid _ := Xs.out.below hbn
    replace Xd : Hid _ := Xd.out.below hbn
    replace D3 : Hid _ := D3.out.below hbn
    replace D4 : Hid _ := D4.out.below hbn
    replace D5 : Hid _ := D5.out.below hbn
    replace D6 : Hid _ := D6.out.below hbn
    replace D7 : Hid _ := D7.out.below hbn
    replace hbw := Below.on hbw hbn
    clear hbn
    generalize v7.heap.size = gp at *
    have Xp := Xp0
    clear Xp0
    refine (dmul_b D3.out D3.out HV3.out.2 HV3.out.2 (by decide) (by decide) (TB.out.below hbw)).mono ?_
    rintro e9 v8 ⟨v9, z8, e8, rfl, ha, hdb, hdv, hb8⟩
    obtain ⟨s8, p8, m8, rfl, hd8⟩ := ha.dn hdb.fm
    clear ha
    have HB8 := Hid.mk9 (And.intro hdb hdv)
    clear hdb hdv
    replace Xx : Hid _ := Xx.out.below hb8
    replace Xy : Hid _ := Xy.out.below hb8
    replace Xv : Hid _ := Xv.out.below hb8
    replace Xu : Hid _ := Xu.out.below hb8
    replace Xs : Hid _ := Xs.out.below hb8
    replace Xd : Hid _ := Xd.out.below hb8
    replace Xp : Hid _ := Xp.out.below hb8
    replace D3 : Hid _ := D3.out.below hb8
    replace D4 : Hid _ := D4.out.below hb8
    replace D5 : Hid _ := D5.out.below hb8
    replace D6 : Hid _ := D6.out.below hb8
    replace D7 : Hid _ := D7.out.below hb8
    replace hbw := Below.on hbw hb8
    clear hb8
    have D8 : Hid (DN v8 s8 p8 m8 m8 e8 z8) := hd8
    clear hd8
    obtain ⟨cx0, cx1, fx0, fx1⟩ := Xx.out
    have hnex := Xx.out.lt
    obtain ⟨cy0, cy1, fy0, fy1⟩ := Xy.out
    have hney := Xy.out.lt
    go_wp2_with fail
    clear cx0 cx1 fx0 fx1 hnex
    clear cy0 cy1 fy0 fy1 hney
    have Xq0 : Hid (B3q (v8.alloc (.cells #[.bool s8, .slice p8 m8 m8, .int .i64 e8] 38)) v8.heap.size (.bool s8) (.slice p8 m8 m8) (.int .i64 e8)) := B3q.new v8 _ _ _ _
    have hbn : Below v8.heap.size v8 (v8.alloc (.cells #[.bool s8, .slice p8 m8 m8, .int .i64 e8] 38)) := below1 v8 _
    generalize v8.alloc (.cells #[.bool s8, .slice p8 m8 m8, .int .i64 e8] 38) = Wq at *
    have HGq : Hid (w.heap.size ≤ v8.heap.size) := hbw.size
    replace Xx : Hid _ := Xx.out.below hbn
    replace Xy : Hid _ := Xy.out.below hbn
    replace Xv : Hid _ := Xv.out.below hbn
    replace Xu : Hid _ := Xu.out.below hbn
    replace Xs : Hid _ := Xs.out.below hbn
    replace Xd : Hid _ := Xd.out.below hbn
    replace Xp : Hid _ := Xp.out.below hbn
    replace D3 : Hid _ := D3.out.below hbn
    replace D4 : Hid _ := D4.out.below hbn
    replace D5 : Hid _ := D5.out.below hbn
    replace D6 : Hid _ := D6.out.below hbn
    replace D7 : Hid _ := D7.out.below hbn
    replace D8 : Hid _ := D8.out.below hbn
    replace hbw := Below.on hbw hbn
    clear hbn
    generalize v8.heap.size = gq at *
    have Xq := Xq0
    clear Xq0
    obtain ⟨Wr, hWr⟩ : ∃ W1, W1 = Wq.drew := ⟨_, rfl⟩
    have hbd : Below Wq.heap.size Wq Wr := by rw [hWr]; exact bDrew1 (Below.refl _ _)
    replace Xx : Hid _ := Xx.out.below hbd
    replace Xy : Hid _ := Xy.out.below hbd
    replace Xv : Hid _ := Xv.out.below hbd
    replace Xu : Hid _ := Xu.out.below hbd
    replace Xs : Hid _ := Xs.out.below hbd
    replace Xd : Hid _ := Xd.out.below hbd
    replace Xp : Hid _ := Xp.out.below hbd
    replace Xq : Hid _ := Xq.out.below hbd
    replace D3 : Hid _ := D3.out.below hbd
    replace D4 : Hid _ := D4.out.below hbd
    replace D5 : Hid _ := D5.out.below hbd
    replace D6 : Hid _ := D6.out.below hbd
    replace D7 : Hid _ := D7.out.below hbd
    replace D8 : Hid _ := D8.out.below hbd
    replace hbw := Below.on hbw hbd
    clear hbd
    have HJ : Hid ((fun W' : World => W'.cell? ⟨gx, 0, none⟩ = some (Fv h) ∧ W'.cell? ⟨gx, 1, none⟩ = some (Fv l) ∧ W'.cell? ⟨gy, 0, none⟩ = some (Fv h2) ∧ W'.cell? ⟨gy, 1, none⟩ = some (Fv l2) ∧ W'.cell? ⟨gs, 0, none⟩ = some (.bool s5) ∧ W'.cell? ⟨gs, 1, none⟩ = some (.slice p5 m5 m5) ∧ W'.cell? ⟨gs, 2, none⟩ = some (.int .i64 e5) ∧ W'.cell? ⟨gd, 0, none⟩ = some (.bool s6) ∧ W'.cell? ⟨gd, 1, none⟩ = some (.slice p6 m6 m6) ∧ W'.cell? ⟨gd, 2, none⟩ = some (.int .i64 e6) ∧ W'.cell? ⟨gp, 0, none⟩ = some (.bool s7) ∧ W'.cell? ⟨gp, 1, none⟩ = some (.slice p7 m7 m7) ∧ W'.cell? ⟨gp, 2, none⟩ = some (.int .i64 e7) ∧ W'.cell? ⟨gq, 0, none⟩ = some (.bool s8) ∧ W'.cell? ⟨gq, 1, none⟩ = some (.slice p8 m8 m8) ∧ W'.cell? ⟨gq, 2, none⟩ = some (.int .i64 e8)) Wr) := ⟨Xx.out.c0, Xx.out.c1, Xy.out.c0, Xy.out.c1, Xs.out.c0, Xs.out.c1, Xs.out.c2, Xd.out.c0, Xd.out.c1, Xd.out.c2, Xp.out.c0, Xp.out.c1, Xp.out.c2, Xq.out.c0, Xq.out.c1, Xq.out.c2⟩
    refine wp_region_J (fun W' => W'.cell? ⟨gx, 0, none⟩ = some (Fv h) ∧ W'.cell? ⟨gx, 1, none⟩ = some (Fv l) ∧ W'.cell? ⟨gy, 0, none⟩ = some (Fv h2) ∧ W'.cell? ⟨gy, 1, none⟩ = some (Fv l2) ∧ W'.cell? ⟨gs, 0, none⟩ = some (.bool s5) ∧ W'.cell? ⟨gs, 1, none⟩ = some (.slice p5 m5 m5) ∧ W'.cell? ⟨gs, 2, none⟩ = some (.int .i64 e5) ∧ W'.cell? ⟨gd, 0, none⟩ = some (.bool s6) ∧ W'.cell? ⟨gd, 1, none⟩ = some (.slice p6 m6 m6) ∧ W'.cell? ⟨gd, 2, none⟩ = some (.int .i64 e6) ∧ W'.cell? ⟨gp, 0, none⟩ = some (.bool s7) ∧ W'.cell? ⟨gp, 1, none⟩ = some (.slice p7 m7 m7) ∧ W'.cell? ⟨gp, 2, none⟩ = some (.int .i64 e7) ∧ W'.cell? ⟨gq, 0, none⟩ = some (.bool s8) ∧ W'.cell? ⟨gq, 1, none⟩ = some (.slice p8 m8 m8) ∧ W'.cell? ⟨gq, 2, none⟩ = some (.int .i64 e8)) (by kernel_rfl) ?_
    rw [← hWr]
    clear hWr
    refine wpJ_tq 0 rfl HJ.out ?_
    refine wpJ_tq 1 rfl HJ.out ?_
    refine wpJ_tq 3 rfl HJ.out ?_
    refine wpJ_on 2 rfl fun KJ hK => ?_
    go_simp
    refine (ddAdd_f HC2.out.1 HC9.out.1 HC2.out.2.hi HC9.out.2.hi _).mono ?_
    rintro e v20 ⟨s20, r20, rfl, hd20, hq20, hb20⟩
    have HR20 := Hid.mk9 (And.intro hd20 hq20)
    clear hd20 hq20
    replace Xx : Hid _ := Xx.out.below hb20
    replace Xy : Hid _ := Xy.out.below hb20
    replace Xv : Hid _ := Xv.out.below hb20
    replace Xu : Hid _ := Xu.out.below hb20
    replace Xs : Hid _ := Xs.out.below hb20
    replace Xd : Hid _ := Xd.out.below hb20
    replace Xp : Hid _ := Xp.out.below hb20
    replace Xq : Hid _ := Xq.out.below hb20
    replace D3 : Hid _ := D3.out.below hb20
    replace D4 : Hid _ := D4.out.below hb20
    replace D5 : Hid _ := D5.out.below hb20
    replace D6 : Hid _ := D6.out.below hb20
    replace D7 : Hid _ := D7.out.below hb20
    replace D8 : Hid _ := D8.out.below hb20
    replace hbw := Below.on hbw hb20
    clear hb20
    refine hK _ _ ⟨Xx.out.c0, Xx.out.c1, Xy.out.c0, Xy.out.c1, Xs.out.c0, Xs.out.c1, Xs.out.c2, Xd.out.c0, Xd.out.c1, Xd.out.c2, Xp.out.c0, Xp.out.c1, Xp.out.c2, Xq.out.c0, Xq.out.c1, Xq.out.c2⟩ ?_
    clear hK
    refine wpJ_on 4 rfl fun KJ hK => ?_
    go_simp
    refine (within20 (c := 0) (k := 103) HR20.out.1 D5.out (HB5.out.1.mono (by decide) (by decide)) (w_add HV3.out.1 HV4.out.1 HB5.out.2) (by decide) (by decide) (wn_add HR20.out.2) (TB.out.below hbw)).mono ?_
    rintro e v21 ⟨rfl, hb21⟩
    replace Xx : Hid _ := Xx.out.below hb21
    replace Xy : Hid _ := Xy.out.below hb21
    replace Xv : Hid _ := Xv.out.below hb21
    replace Xu : Hid _ := Xu.out.below hb21
    replace Xs : Hid _ := Xs.out.below hb21
    replace Xd : Hid _ := Xd.out.below hb21
    replace Xp : Hid _ := Xp.out.below hb21
    replace Xq : Hid _ := Xq.out.below hb21
    replace D3 : Hid _ := D3.out.below hb21
    replace D4 : Hid _ := D4.out.below hb21
    replace D5 : Hid _ := D5.out.below hb21
    replace D6 : Hid _ := D6.out.below hb21
    replace D7 : Hid _ := D7.out.below hb21
    replace D8 : Hid _ := D8.out.below hb21
    replace hbw := Below.on hbw hb21
    clear hb21
    clear HJ
    have HJ : Hid ((fun W' : World => W'.cell? ⟨gx, 0, none⟩ = some (Fv h) ∧ W'.cell? ⟨gx, 1, none⟩ = some (Fv l) ∧ W'.cell? ⟨gy, 0, none⟩ = some (Fv h2) ∧ W'.cell? ⟨gy, 1, none⟩ = some (Fv l2) ∧ W'.cell? ⟨gs, 0, none⟩ = some (.bool s5) ∧ W'.cell? ⟨gs, 1, none⟩ = some (.slice p5 m5 m5) ∧ W'.cell? ⟨gs, 2, none⟩ = some (.int .i64 e5) ∧ W'.cell? ⟨gd, 0, none⟩ = some (.bool s6) ∧ W'.cell? ⟨gd, 1, none⟩ = some (.slice p6 m6 m6) ∧ W'.cell? ⟨gd, 2, none⟩ = some (.int .i64 e6) ∧ W'.cell? ⟨gp, 0, none⟩ = some (.bool s7) ∧ W'.cell? ⟨gp, 1, none⟩ = some (.slice p7 m7 m7) ∧ W'.cell? ⟨gp, 2, none⟩ = some (.int .i64 e7) ∧ W'.cell? ⟨gq, 0, none⟩ = some (.bool s8) ∧ W'.cell? ⟨gq, 1, none⟩ = some (.slice p8 m8 m8) ∧ W'.cell? ⟨gq, 2, none⟩ = some (.int .i64 e8)) v21) := ⟨Xx.out.c0, Xx.out.c1, Xy.out.c0, Xy.out.c1, Xs.out.c0, Xs.out.c1, Xs.out.c2, Xd.out.c0, Xd.out.c1, Xd.out.c2, Xp.out.c0, Xp.out.c1, Xp.out.c2, Xq.out.c0, Xq.out.c1, Xq.out.c2⟩
    refine hK _ _ HJ.out ?_
    clear hK
    refine wpJ_tq 5 rfl HJ.out ?_
    refine wpJ_tq 6 rfl HJ.out ?_
    refine wpJ_tq 7 rfl HJ.out ?_
    refine wpJ_tq 9 rfl HJ.out ?_
    refine wpJ_on 8 rfl fun KJ hK => ?_
    go_simp
    refine (ddSub_f HC2.out.1 HC9.out.1 HC2.out.2.hi HC9.out.2.hi _).mono ?_
    rintro e v22 ⟨s22, r22, rfl, hd22, hq22, hb22⟩
    have HR22 := Hid.mk9 (And.intro hd22 hq22)
    clear hd22 hq22
    replace Xx : Hid _ := Xx.out.below hb22
    replace Xy : Hid _ := Xy.out.below hb22
    replace Xv : Hid _ := Xv.out.below hb22
    replace Xu : Hid _ := Xu.out.below hb22
    replace Xs : Hid _ := Xs.out.below hb22
    replace Xd : Hid _ := Xd.out.below hb22
    replace Xp : Hid _ := Xp.out.below hb22
    replace Xq : Hid _ := Xq.out.below hb22
    replace D3 : Hid _ := D3.out.below hb22
    replace D4 : Hid _ := D4.out.below hb22
    replace D5 : Hid _ := D5.out.below hb22
    replace D6 : Hid _ := D6.out.below hb22
    replace D7 : Hid _ := D7.out.below hb22
    replace D8 : Hid _ := D8.out.below hb22
    replace hbw := Below.on hbw hb22
    clear hb22
    refine hK _ _ ⟨Xx.out.c0, Xx.out.c1, Xy.out.c0, Xy.out.c1, Xs.out.c0, Xs.out.c1, Xs.out.c2, Xd.out.c0, Xd.out.c1, Xd.out.c2, Xp.out.c0, Xp.out.c1, Xp.out.c2, Xq.out.c0, Xq.out.c1, Xq.out.c2⟩ ?_
    clear hK
    refine wpJ_on 10 rfl fun KJ hK => ?_
    go_simp
    refine (within20 (c := 0) (k := 103) HR22.out.1 D6.out (HB6.out.1.mono (by decide) (by decide)) (w_sub HV3.out.1 HV4.out.1 HB6.out.2) (by decide) (by decide) (wn_add HR22.out.2) (TB.out.below hbw)).mono ?_
    rintro e v23 ⟨rfl, hb23⟩
    replace Xx : Hid _ := Xx.out.below hb23
    replace Xy : Hid _ := Xy.out.below hb23
    replace Xv : Hid _ := Xv.out.below hb23
    replace Xu : Hid _ := Xu.out.below hb23
    replace Xs : Hid _ := Xs.out.below hb23
    replace Xd : Hid _ := Xd.out.below hb23
    replace Xp : Hid _ := Xp.out.below hb23
    replace Xq : Hid _ := Xq.out.below hb23
    replace D3 : Hid _ := D3.out.below hb23
    replace D4 : Hid _ := D4.out.below hb23
    replace D5 : Hid _ := D5.out.below hb23
    replace D6 : Hid _ := D6.out.below hb23
    replace D7 : Hid _ := D7.out.below hb23
    replace D8 : Hid _ := D8.out.below hb23
    replace hbw := Below.on hbw hb23
    clear hb23
    clear HJ
    have HJ : Hid ((fun W' : World => W'.cell? ⟨gx, 0, none⟩ = some (Fv h) ∧ W'.cell? ⟨gx, 1, none⟩ = some (Fv l) ∧ W'.cell? ⟨gy, 0, none⟩ = some (Fv h2) ∧ W'.cell? ⟨gy, 1, none⟩ = some (Fv l2) ∧ W'.cell? ⟨gs, 0, none⟩ = some (.bool s5) ∧ W'.cell? ⟨gs, 1, none⟩ = some (.slice p5 m5 m5) ∧ W'.cell? ⟨gs, 2, none⟩ = some (.int .i64 e5) ∧ W'.cell? ⟨gd, 0, none⟩ = some (.bool s6) ∧ W'.cell? ⟨gd, 1, none⟩ = some (.slice p6 m6 m6) ∧ W'.cell? ⟨gd, 2, none⟩ = some (.int .i64 e6) ∧ W'.cell? ⟨gp, 0, none⟩ = some (.bool s7) ∧ W'.cell? ⟨gp, 1, none⟩ = some (.slice p7 m7 m7) ∧ W'.cell? ⟨gp, 2, none⟩ = some (.int .i64 e7) ∧ W'.cell? ⟨gq, 0, none⟩ = some (.bool s8) ∧ W'.cell? ⟨gq, 1, none⟩ = some (.slice p8 m8 m8) ∧ W'.cell? ⟨gq, 2, none⟩ = some (.int .i64 e8)) v23) := ⟨Xx.out.c0, Xx.out.c1, Xy.out.c0, Xy.out.c1, Xs.out.c0, Xs.out.c1, Xs.out.c2, Xd.out.c0, Xd.out.c1, Xd.out.c2, Xp.out.c0, Xp.out.c1, Xp.out.c2, Xq.out.c0, Xq.out.c1, Xq.out.c2⟩
    refine hK _ _ HJ.out ?_
    clear hK
    refine wpJ_tq 11 rfl HJ.out ?_
    refine wpJ_tq 12 rfl HJ.out ?_
    refine wpJ_tq 13 rfl HJ.out ?_
    refine wpJ_tq 14 rfl HJ.out ?_
    refine wpJ_tq 16 rfl HJ.out ?_
    refine wpJ_on 15 rfl fun KJ hK => ?_
    go_simp
    refine (ddMul_f HC2.out.1 HC9.out.1 HC2.out.2 HC9.out.2 _).mono ?_
    rintro e v24 ⟨s24, r24, rfl, hd24, hq24, hb24⟩
    have HR24 := Hid.mk9 (And.intro hd24 hq24)
    clear hd24 hq24
    replace Xx : Hid _ := Xx.out.below hb24
    replace Xy : Hid _ := Xy.out.below hb24
    replace Xv : Hid _ := Xv.out.below hb24
    replace Xu : Hid _ := Xu.out.below hb24
    replace Xs : Hid _ := Xs.out.below hb24
    replace Xd : Hid _ := Xd.out.below hb24
    replace Xp : Hid _ := Xp.out.below hb24
    replace Xq : Hid _ := Xq.out.below hb24
    replace D3 : Hid _ := D3.out.below hb24
    replace D4 : Hid _ := D4.out.below hb24
    replace D5 : Hid _ := D5.out.below hb24
    replace D6 : Hid _ := D6.out.below hb24
    replace D7 : Hid _ := D7.out.below hb24
    replace D8 : Hid _ := D8.out.below hb24
    replace hbw := Below.on hbw hb24
    clear hb24
    refine hK _ _ ⟨Xx.out.c0, Xx.out.c1, Xy.out.c0, Xy.out.c1, Xs.out.c0, Xs.out.c1, Xs.out.c2, Xd.out.c0, Xd.out.c1, Xd.out.c2, Xp.out.c0, Xp.out.c1, Xp.out.c2, Xq.out.c0, Xq.out.c1, Xq.out.c2⟩ ?_
    clear hK
    refine wpJ_on 17 rfl fun KJ hK => ?_
    go_simp
    refine (within20 (c := OneE) (k := 102) HR24.out.1 D7.out (HB7.out.1.mono (by decide) (by decide)) (w_mul HV3.out.1 HV4.out.1 (by have h1 := HV3.out.2.lo; have h2 := HV4.out.2.lo; omega) (by have h1 := HV3.out.2.lo; have h2 := HV4.out.2.lo; omega) HB7.out.2) (by decide) (by decide) (wn_mul HR24.out.2) (TB.out.below hbw)).mono ?_
    rintro e v25 ⟨rfl, hb25⟩
    replace Xx : Hid _ := Xx.out.below hb25
    replace Xy : Hid _ := Xy.out.below hb25
    replace Xv : Hid _ := Xv.out.below hb25
    replace Xu : Hid _ := Xu.out.below hb25
    replace Xs : Hid _ := Xs.out.below hb25
    replace Xd : Hid _ := Xd.out.below hb25
    replace Xp : Hid _ := Xp.out.below hb25
    replace Xq : Hid _ := Xq.out.below hb25
    replace D3 : Hid _ := D3.out.below hb25
    replace D4 : Hid _ := D4.out.below hb25
    replace D5 : Hid _ := D5.out.below hb25
    replace D6 : Hid _ := D6.out.below hb25
    replace D7 : Hid _ := D7.out.below hb25
    replace D8 : Hid _ := D8.out.below hb25
    replace hbw := Below.on hbw hb25
    clear hb25
    clear HJ
    have HJ : Hid ((fun W' : World => W'.cell? ⟨gx, 0, none⟩ = some (Fv h) ∧ W'.cell? ⟨gx, 1, none⟩ = some (Fv l) ∧ W'.cell? ⟨gy, 0, none⟩ = some (Fv h2) ∧ W'.cell? ⟨gy, 1, none⟩ = some (Fv l2) ∧ W'.cell? ⟨gs, 0, none⟩ = some (.bool s5) ∧ W'.cell? ⟨gs, 1, none⟩ = some (.slice p5 m5 m5) ∧ W'.cell? ⟨gs, 2, none⟩ = some (.int .i64 e5) ∧ W'.cell? ⟨gd, 0, none⟩ = some (.bool s6) ∧ W'.cell? ⟨gd, 1, none⟩ = some (.slice p6 m6 m6) ∧ W'.cell? ⟨gd, 2, none⟩ = some (.int .i64 e6) ∧ W'.cell? ⟨gp, 0, none⟩ = some (.bool s7) ∧ W'.cell? ⟨gp, 1, none⟩ = some (.slice p7 m7 m7) ∧ W'.cell? ⟨gp, 2, none⟩ = some (.int .i64 e7) ∧ W'.cell? ⟨gq, 0, none⟩ = some (.bool s8) ∧ W'.cell? ⟨gq, 1, none⟩ = some (.slice p8 m8 m8) ∧ W'.cell? ⟨gq, 2, none⟩ = some (.int .i64 e8)) v25) := ⟨Xx.out.c0, Xx.out.c1, Xy.out.c0, Xy.out.c1, Xs.out.c0, Xs.out.c1, Xs.out.c2, Xd.out.c0, Xd.out.c1, Xd.out.c2, Xp.out.c0, Xp.out.c1, Xp.out.c2, Xq.out.c0, Xq.out.c1, Xq.out.c2⟩
    refine hK _ _ HJ.out ?_
    clear hK
    refine wpJ_tq 18 rfl HJ.out ?_
    refine wpJ_tq 19 rfl HJ.out ?_
    refine wpJ_tq 20 rfl HJ.out ?_
    refine wpJ_tq 22 rfl HJ.out ?_
    refine wpJ_on 21 rfl fun KJ hK => ?_
    go_simp
    refine (ddSqr_f HC2.out.1 HC2.out.2 _).mono ?_
    rintro e v26 ⟨s26, r26, rfl, hd26, hq26, hb26⟩
    have HR26 := Hid.mk9 (And.intro hd26 hq26)
    clear hd26 hq26
    replace Xx : Hid _ := Xx.out.below hb26
    replace Xy : Hid _ := Xy.out.below hb26
    replace Xv : Hid _ := Xv.out.below hb26
    replace Xu : Hid _ := Xu.out.below hb26
    replace Xs : Hid _ := Xs.out.below hb26
    replace Xd : Hid _ := Xd.out.below hb26
    replace Xp : Hid _ := Xp.out.below hb26
    replace Xq : Hid _ := Xq.out.below hb26
    replace D3 : Hid _ := D3.out.below hb26
    replace D4 : Hid _ := D4.out.below hb26
    replace D5 : Hid _ := D5.out.below hb26
    replace D6 : Hid _ := D6.out.below hb26
    replace D7 : Hid _ := D7.out.below hb26
    replace D8 : Hid _ := D8.out.below hb26
    replace hbw := Below.on hbw hb26
    clear hb26
    refine hK _ _ ⟨Xx.out.c0, Xx.out.c1, Xy.out.c0, Xy.out.c1, Xs.out.c0, Xs.out.c1, Xs.out.c2, Xd.out.c0, Xd.out.c1, Xd.out.c2, Xp.out.c0, Xp.out.c1, Xp.out.c2, Xq.out.c0, Xq.out.c1, Xq.out.c2⟩ ?_
    clear hK
    refine wpJ_on 23 rfl fun KJ hK => ?_
    go_simp
    refine (within20 (c := OneE) (k := 102) HR26.out.1 D8.out (HB8.out.1.mono (by decide) (by decide)) (w_mul HV3.out.1 HV3.out.1 (by have h1 := HV3.out.2.lo; have h2 := HV4.out.2.lo; omega) (by have h1 := HV3.out.2.lo; have h2 := HV4.out.2.lo; omega) HB8.out.2) (by decide) (by decide) (wn_mul HR26.out.2) (TB.out.below hbw)).mono ?_
    rintro e v27 ⟨rfl, hb27⟩
    replace Xx : Hid _ := Xx.out.below hb27
    replace Xy : Hid _ := Xy.out.below hb27
    replace Xv : Hid _ := Xv.out.below hb27
    replace Xu : Hid _ := Xu.out.below hb27
    replace Xs : Hid _ := Xs.out.below hb27
    replace Xd : Hid _ := Xd.out.below hb27
    replace Xp : Hid _ := Xp.out.below hb27
    replace Xq : Hid _ := Xq.out.below hb27
    replace D3 : Hid _ := D3.out.below hb27
    replace D4 : Hid _ := D4.out.below hb27
    replace D5 : Hid _ := D5.out.below hb27
    replace D6 : Hid _ := D6.out.below hb27
    replace D7 : Hid _ := D7.out.below hb27
    replace D8 : Hid _ := D8.out.below hb27
    replace hbw := Below.on hbw hb27
    clear hb27
    clear HJ
    have HJ : Hid ((fun W' : World => W'.cell? ⟨gx, 0, none⟩ = some (Fv h) ∧ W'.cell? ⟨gx, 1, none⟩ = some (Fv l) ∧ W'.cell? ⟨gy, 0, none⟩ = some (Fv h2) ∧ W'.cell? ⟨gy, 1, none⟩ = some (Fv l2) ∧ W'.cell? ⟨gs, 0, none⟩ = some (.bool s5) ∧ W'.cell? ⟨gs, 1, none⟩ = some (.slice p5 m5 m5) ∧ W'.cell? ⟨gs, 2, none⟩ = some (.int .i64 e5) ∧ W'.cell? ⟨gd, 0, none⟩ = some (.bool s6) ∧ W'.cell? ⟨gd, 1, none⟩ = some (.slice p6 m6 m6) ∧ W'.cell? ⟨gd, 2, none⟩ = some (.int .i64 e6) ∧ W'.cell? ⟨gp, 0, none⟩ = some (.bool s7) ∧ W'.cell? ⟨gp, 1, none⟩ = some (.slice p7 m7 m7) ∧ W'.cell? ⟨gp, 2, none⟩ = some (.int .i64 e7) ∧ W'.cell? ⟨gq, 0, none⟩ = some (.bool s8) ∧ W'.cell? ⟨gq, 1, none⟩ = some (.slice p8 m8 m8) ∧ W'.cell? ⟨gq, 2, none⟩ = some (.int .i64 e8)) v27) := ⟨Xx.out.c0, Xx.out.c1, Xy.out.c0, Xy.out.c1, Xs.out.c0, Xs.out.c1, Xs.out.c2, Xd.out.c0, Xd.out.c1, Xd.out.c2, Xp.out.c0, Xp.out.c1, Xp.out.c2, Xq.out.c0, Xq.out.c1, Xq.out.c2⟩
    refine hK _ _ HJ.out ?_
    clear hK
    refine wpJ_tq 24 rfl HJ.out ?_
    refine wpJ_tq 25 rfl HJ.out ?_
    refine wpJ_done (by kernel_rfl) ?_ _
    clear HJ
    go_wp2_with fail
    go_ret
    exact ⟨rfl, hbw⟩
  have N2x : ∀ (gx : Nat) (W' : World), Box W' ga (.int .u64 (h : Int)) (.int .u64 (l : Int)) ∧ Box W' gb (.int .u64 (h2 : Int)) (.int .u64 (l2 : Int)) ∧ Below w.heap.size w W' ∧ Box W' gx (Fv 0) (Fv 0) ∧ w.heap.size ≤ gx ∧ gx ≠ ga ∧ gx ≠ gb → WP 3 (((L0.setIfInBounds 1 true).setIfInBounds 3 true).setIfInBounds 4 true) (((a0.put (some 30) (.agg #[Fv h, Fv l])).put (some 32) (.agg #[Fv h2, Fv l2])).put (some 5) (.pointer (some ⟨gx, 0, none⟩))) W' := by
    rintro gx W' ⟨xa, xb, hbw, xx, hgx, dxa, dxb⟩
    subst hWP hL ha
    have Hxa := Hid.mk9 xa
    have Hxb := Hid.mk9 xb
    have Hxx := Hid.mk9 xx
    have Hhgx := Hid.mk9 hgx
    have Hdxa := Hid.mk9 dxa
    have Hdxb := Hid.mk9 dxb
    clear xa xb xx hgx dxa dxb
    go_simp
    refine wpJ_on 5 rfl fun KJ hK => ?_
    go_simp
    have hb := below1 W' (.cells #[Fv 0, Fv 0] 32)
    refine hK _ _ ⟨(Hxa.out.below hb).c0, (Hxa.out.below hb).c1, (Hxb.out.below hb).c0, (Hxb.out.below hb).c1⟩ ?_
    exact wpJ_same (by kernel_rfl) (by kernel_rfl) (N2xy gx W'.heap.size _ ⟨(Hxa.out.below hb), (Hxb.out.below hb), (Below.on hbw hb), (Hxx.out.below hb), Hhgx.out, Hdxa.out, Hdxb.out, (Box.new W' _ _ _), hbw.size, (Nat.ne_of_gt Hxa.out.lt), (Nat.ne_of_gt Hxb.out.lt), (Nat.ne_of_lt Hxx.out.lt)⟩)
  have N2y : ∀ (gy : Nat) (W' : World), Box W' ga (.int .u64 (h : Int)) (.int .u64 (l : Int)) ∧ Box W' gb (.int .u64 (h2 : Int)) (.int .u64 (l2 : Int)) ∧ Below w.heap.size w W' ∧ Box W' gy (Fv 0) (Fv 0) ∧ w.heap.size ≤ gy ∧ gy ≠ ga ∧ gy ≠ gb → WP 3 (((L0.setIfInBounds 1 true).setIfInBounds 3 true).setIfInBounds 5 true) (((a0.put (some 30) (.agg #[Fv h, Fv l])).put (some 32) (.agg #[Fv h2, Fv l2])).put (some 6) (.pointer (some ⟨gy, 0, none⟩))) W' := by
    rintro gy W' ⟨xa, xb, hbw, xy, hgy, dya, dyb⟩
    subst hWP hL ha
    have Hxa := Hid.mk9 xa
    have Hxb := Hid.mk9 xb
    have Hxy := Hid.mk9 xy
    have Hhgy := Hid.mk9 hgy
    have Hdya := Hid.mk9 dya
    have Hdyb := Hid.mk9 dyb
    clear xa xb xy hgy dya dyb
    go_simp
    refine wpJ_on 4 rfl fun KJ hK => ?_
    go_simp
    have hb := below1 W' (.cells #[Fv 0, Fv 0] 32)
    refine hK _ _ ⟨(Hxa.out.below hb).c0, (Hxa.out.below hb).c1, (Hxb.out.below hb).c0, (Hxb.out.below hb).c1⟩ ?_
    exact wpJ_same (by kernel_rfl) (by kernel_rfl) (N2xy W'.heap.size gy _ ⟨(Hxa.out.below hb), (Hxb.out.below hb), (Below.on hbw hb), (Box.new W' _ _ _), hbw.size, (Nat.ne_of_gt Hxa.out.lt), (Nat.ne_of_gt Hxb.out.lt), (Hxy.out.below hb), Hhgy.out, Hdya.out, Hdyb.out, (Nat.ne_of_gt Hxy.out.lt)⟩)
  have N2 : ∀ (W' : World), Box W' ga (.int .u64 (h : Int)) (.int .u64 (l : Int)) ∧ Box W' gb (.int .u64 (h2 : Int)) (.int .u64 (l2 : Int)) ∧ Below w.heap.size w W' → WP 4 ((L0.setIfInBounds 1 true).setIfInBounds 3 true) ((a0.put (some 30) (.agg #[Fv h, Fv l])).put (some 32) (.agg #[Fv h2, Fv l2])) W' := by
    rintro  W' ⟨xa, xb, hbw⟩
    subst hWP hL ha
    have Hxa := Hid.mk9 xa
    have Hxb := Hid.mk9 xb
    clear xa xb
    go_simp
    refine wpJ_two (i := 4) (k := 5) (by kernel_rfl) rfl rfl (by kernel_rfl) (by kernel_rfl) (fun KJ hK => ?_) (fun KJ hK => ?_)
    · go_simp
      have hb := below1 W' (.cells #[Fv 0, Fv 0] 32)
      refine hK _ _ ⟨(Hxa.out.below hb).c0, (Hxa.out.below hb).c1, (Hxb.out.below hb).c0, (Hxb.out.below hb).c1⟩ ?_
      exact wpJ_same (by kernel_rfl) (by kernel_rfl) (N2x W'.heap.size _ ⟨(Hxa.out.below hb), (Hxb.out.below hb), (Below.on hbw hb), (Box.new W' _ _ _), hbw.size, (Nat.ne_of_gt Hxa.out.lt), (Nat.ne_of_gt Hxb.out.lt)⟩)
    · go_simp
      have hb := below1 W' (.cells #[Fv 0, Fv 0] 32)
      refine hK _ _ ⟨(Hxa.out.below hb).c0, (Hxa.out.below hb).c1, (Hxb.out.below hb).c0, (Hxb.out.below hb).c1⟩ ?_
      exact wpJ_same (by kernel_rfl) (by kernel_rfl) (N2y W'.heap.size _ ⟨(Hxa.out.below hb), (Hxb.out.below hb), (Below.on hbw hb), (Box.new W' _ _ _), hbw.size, (Nat.ne_of_gt Hxa.out.lt), (Nat.ne_of_gt Hxb.out.lt)⟩)
  have N1xy : ∀ (gx : Nat) (gy : Nat) (W' : World), Box W' ga (.int .u64 (h : Int)) (.int .u64 (l : Int)) ∧ Box W' gb (.int .u64 (h2 : Int)) (.int .u64 (l2 : Int)) ∧ Below w.heap.size w W' ∧ Box W' gx (Fv 0) (Fv 0) ∧ w.heap.size ≤ gx ∧ gx ≠ ga ∧ gx ≠ gb ∧ Box W' gy (Fv 0) (Fv 0) ∧ w.heap.size ≤ gy ∧ gy ≠ ga ∧ gy ≠ gb ∧ gx ≠ gy → WP 3 (((L0.setIfInBounds 1 true).setIfInBounds 4 true).setIfInBounds 5 true) (((a0.put (some 30) (.agg #[Fv h, Fv l])).put (some 5) (.pointer (some ⟨gx, 0, none⟩))).put (some 6) (.pointer (some ⟨gy, 0, none⟩))) W' := by
    rintro gx gy W' ⟨xa, xb, hbw, xx, hgx, dxa, dxb, xy, hgy, dya, dyb, dd⟩
    subst hWP hL ha
    have Hxa := Hid.mk9 xa
    have Hxb := Hid.mk9 xb
    have Hxx := Hid.mk9 xx
    have Hhgx := Hid.mk9 hgx
    have Hdxa := Hid.mk9 dxa
    have Hdxb := Hid.mk9 dxb
    have Hxy := Hid.mk9 xy
    have Hhgy := Hid.mk9 hgy
    have Hdya := Hid.mk9 dya
    have Hdyb := Hid.mk9 dyb
    have Hdd := Hid.mk9 dd
    clear xa xb xx hgx dxa dxb xy hgy dya dyb dd
    go_simp
    refine wpJ_on 3 rfl fun KJ hK => ?_
    go_simp
    refine (P2 _).mono ?_
    rintro e W2 ⟨rfl, hb⟩
    refine hK _ _ ⟨(Hxa.out.below hb).c0, (Hxa.out.below hb).c1, (Hxb.out.below hb).c0, (Hxb.out.below hb).c1⟩ ?_
    exact wpJ_same (by kernel_rfl) (by kernel_rfl) (N2xy gx gy W2 ⟨(Hxa.out.below hb), (Hxb.out.below hb), (Below.on hbw hb), (Hxx.out.below hb), Hhgx.out, Hdxa.out, Hdxb.out, (Hxy.out.below hb), Hhgy.out, Hdya.out, Hdyb.out, Hdd.out⟩)
  have N1x : ∀ (gx : Nat) (W' : World), Box W' ga (.int .u64 (h : Int)) (.int .u64 (l : Int)) ∧ Box W' gb (.int .u64 (h2 : Int)) (.int .u64 (l2 : Int)) ∧ Below w.heap.size w W' ∧ Box W' gx (Fv 0) (Fv 0) ∧ w.heap.size ≤ gx ∧ gx ≠ ga ∧ gx ≠ gb → WP 4 ((L0.setIfInBounds 1 true).setIfInBounds 4 true) ((a0.put (some 30) (.agg #[Fv h, Fv l])).put (some 5) (.pointer (some ⟨gx, 0, none⟩))) W' := by
    rintro gx W' ⟨xa, xb, hbw, xx, hgx, dxa, dxb⟩
    subst hWP hL ha
    have Hxa := Hid.mk9 xa
    have Hxb := Hid.mk9 xb
    have Hxx := Hid.mk9 xx
    have Hhgx := Hid.mk9 hgx
    have Hdxa := Hid.mk9 dxa
    have Hdxb := Hid.mk9 dxb
    clear xa xb xx hgx dxa dxb
    go_simp
    refine wpJ_two (i := 3) (k := 5) (by kernel_rfl) rfl rfl (by kernel_rfl) (by kernel_rfl) (fun KJ hK => ?_) (fun KJ hK => ?_)
    · go_simp
      refine (P2 _).mono ?_
      rintro e W2 ⟨rfl, hb⟩
      refine hK _ _ ⟨(Hxa.out.below hb).c0, (Hxa.out.below hb).c1, (Hxb.out.below hb).c0, (Hxb.out.below hb).c1⟩ ?_
      exact wpJ_same (by kernel_rfl) (by kernel_rfl) (N2x gx W2 ⟨(Hxa.out.below hb), (Hxb.out.below hb), (Below.on hbw hb), (Hxx.out.below hb), Hhgx.out, Hdxa.out, Hdxb.out⟩)
    · go_simp
      have hb := below1 W' (.cells #[Fv 0, Fv 0] 32)
      refine hK _ _ ⟨(Hxa.out.below hb).c0, (Hxa.out.below hb).c1, (Hxb.out.below hb).c0, (Hxb.out.below hb).c1⟩ ?_
      exact wpJ_same (by kernel_rfl) (by kernel_rfl) (N1xy gx W'.heap.size _ ⟨(Hxa.out.below hb), (Hxb.out.below hb), (Below.on hbw hb), (Hxx.out.below hb), Hhgx.out, Hdxa.out, Hdxb.out, (Box.new W' _ _ _), hbw.size, (Nat.ne_of_gt Hxa.out.lt), (Nat.ne_of_gt Hxb.out.lt), (Nat.ne_of_lt Hxx.out.lt)⟩)
  have N1y : ∀ (gy : Nat) (W' : World), Box W' ga (.int .u64 (h : Int)) (.int .u64 (l : Int)) ∧ Box W' gb (.int .u64 (h2 : Int)) (.int .u64 (l2 : Int)) ∧ Below w.heap.size w W' ∧ Box W' gy (Fv 0) (Fv 0) ∧ w.heap.size ≤ gy ∧ gy ≠ ga ∧ gy ≠ gb → WP 4 ((L0.setIfInBounds 1 true).setIfInBounds 5 true) ((a0.put (some 30) (.agg #[Fv h, Fv l])).put (some 6) (.pointer (some ⟨gy, 0, none⟩))) W' := by
    rintro gy W' ⟨xa, xb, hbw, xy, hgy, dya, dyb⟩
    subst hWP hL ha
    have Hxa := Hid.mk9 xa
    have Hxb := Hid.mk9 xb
    have Hxy := Hid.mk9 xy
    have Hhgy := Hid.mk9 hgy
    have Hdya := Hid.mk9 dya
    have Hdyb := Hid.mk9 dyb
    clear xa xb xy hgy dya dyb
    go_simp
    refine wpJ_two (i := 3) (k := 4) (by kernel_rfl) rfl rfl (by kernel_rfl) (by kernel_rfl) (fun KJ hK => ?_) (fun KJ hK => ?_)
    · go_simp
      refine (P2 _).mono ?_
      rintro e W2 ⟨rfl, hb⟩
      refine hK _ _ ⟨(Hxa.out.below hb).c0, (Hxa.out.below hb).c1, (Hxb.out.below hb).c0, (Hxb.out.below hb).c1⟩ ?_
      exact wpJ_same (by kernel_rfl) (by kernel_rfl) (N2y gy W2 ⟨(Hxa.out.below hb), (Hxb.out.below hb), (Below.on hbw hb), (Hxy.out.below hb), Hhgy.out, Hdya.out, Hdyb.out⟩)
    · go_simp
      have hb := below1 W' (.cells #[Fv 0, Fv 0] 32)
      refine hK _ _ ⟨(Hxa.out.below hb).c0, (Hxa.out.below hb).c1, (Hxb.out.below hb).c0, (Hxb.out.below hb).c1⟩ ?_
      exact wpJ_same (by kernel_rfl) (by kernel_rfl) (N1xy W'.heap.size gy _ ⟨(Hxa.out.below hb), (Hxb.out.below hb), (Below.on hbw hb), (Box.new W' _ _ _), hbw.size, (Nat.ne_of_gt Hxa.out.lt), (Nat.ne_of_gt Hxb.out.lt), (Hxy.out.below hb), Hhgy.out, Hdya.out, Hdyb.out, (Nat.ne_of_gt Hxy.out.lt)⟩)
  have N1 : ∀ (W' : World), Box W' ga (.int .u64 (h : Int)) (.int .u64 (l : Int)) ∧ Box W' gb (.int .u64 (h2 : Int)) (.int .u64 (l2 : Int)) ∧ Below w.heap.size w W' → WP 5 (L0.setIfInBounds 1 true) (a0.put (some 30) (.agg #[Fv h, Fv l])) W' := by
    rintro  W' ⟨xa, xb, hbw⟩
    subst hWP hL ha
    have Hxa := Hid.mk9 xa
    have Hxb := Hid.mk9 xb
    clear xa xb
    go_simp
    refine wpJ_three (i := 3) (k := 4) (l := 5) (by kernel_rfl) rfl rfl rfl (by kernel_rfl) (by kernel_rfl) (by kernel_rfl) (fun KJ hK => ?_) (fun KJ hK => ?_) (fun KJ hK => ?_)
    · go_simp
      refine (P2 _).mono ?_
      rintro e W2 ⟨rfl, hb⟩
      refine hK _ _ ⟨(Hxa.out.below hb).c0, (Hxa.out.below hb).c1, (Hxb.out.below hb).c0, (Hxb.out.below hb).c1⟩ ?_
      exact wpJ_same (by kernel_rfl) (by kernel_rfl) (N2  W2 ⟨(Hxa.out.below hb), (Hxb.out.below hb), (Below.on hbw hb)⟩)
    · go_simp
      have hb := below1 W' (.cells #[Fv 0, Fv 0] 32)
      refine hK _ _ ⟨(Hxa.out.below hb).c0, (Hxa.out.below hb).c1, (Hxb.out.below hb).c0, (Hxb.out.below hb).c1⟩ ?_
      exact wpJ_same (by kernel_rfl) (by kernel_rfl) (N1x W'.heap.size _ ⟨(Hxa.out.below hb), (Hxb.out.below hb), (Below.on hbw hb), (Box.new W' _ _ _), hbw.size, (Nat.ne_of_gt Hxa.out.lt), (Nat.ne_of_gt Hxb.out.lt)⟩)
    · go_simp
      have hb := below1 W' (.cells #[Fv 0, Fv 0] 32)
      refine hK _ _ ⟨(Hxa.out.below hb).c0, (Hxa.out.below hb).c1, (Hxb.out.below hb).c0, (Hxb.out.below hb).c1⟩ ?_
      exact wpJ_same (by kernel_rfl) (by kernel_rfl) (N1y W'.heap.size _ ⟨(Hxa.out.below hb), (Hxb.out.below hb), (Below.on hbw hb), (Box.new W' _ _ _), hbw.size, (Nat.ne_of_gt Hxa.out.lt), (Nat.ne_of_gt Hxb.out.lt)⟩)
  have N0xy : ∀ (gx : Nat) (gy : Nat) (W' : World), Box W' ga (.int .u64 (h : Int)) (.int .u64 (l : Int)) ∧ Box W' gb (.int .u64 (h2 : Int)) (.int .u64 (l2 : Int)) ∧ Below w.heap.size w W' ∧ Box W' gx (Fv 0) (Fv 0) ∧ w.heap.size ≤ gx ∧ gx ≠ ga ∧ gx ≠ gb ∧ Box W' gy (Fv 0) (Fv 0) ∧ w.heap.size ≤ gy ∧ gy ≠ ga ∧ gy ≠ gb ∧ gx ≠ gy → WP 4 ((L0.setIfInBounds 4 true).setIfInBounds 5 true) ((a0.put (some 5) (.pointer (some ⟨gx, 0, none⟩))).put (some 6) (.pointer (some ⟨gy, 0, none⟩))) W' := by
    rintro gx gy W' ⟨xa, xb, hbw, xx, hgx, dxa, dxb, xy, hgy, dya, dyb, dd⟩
    subst hWP hL ha
    have Hxa := Hid.mk9 xa
    have Hxb := Hid.mk9 xb
    have Hxx := Hid.mk9 xx
    have Hhgx := Hid.mk9 hgx
    have Hdxa := Hid.mk9 dxa
    have Hdxb := Hid.mk9 dxb
    have Hxy := Hid.mk9 xy
    have Hhgy := Hid.mk9 hgy
    have Hdya := Hid.mk9 dya
    have Hdyb := Hid.mk9 dyb
    have Hdd := Hid.mk9 dd
    clear xa xb xx hgx dxa dxb xy hgy dya dyb dd
    go_simp
    refine wpJ_on 1 rfl fun KJ hK => ?_
    go_simp
    refine (P1 _).mono ?_
    rintro e W2 ⟨rfl, hb⟩
    refine hK _ _ ⟨(Hxa.out.below hb).c0, (Hxa.out.below hb).c1, (Hxb.out.below hb).c0, (Hxb.out.below hb).c1⟩ ?_
    exact wpJ_same (by kernel_rfl) (by kernel_rfl) (N1xy gx gy W2 ⟨(Hxa.out.below hb), (Hxb.out.below hb), (Below.on hbw hb), (Hxx.out.below hb), Hhgx.out, Hdxa.out, Hdxb.out, (Hxy.out.below hb), Hhgy.out, Hdya.out, Hdyb.out, Hdd.out⟩)
  have N0x : ∀ (gx : Nat) (W' : World), Box W' ga (.int .u64 (h : Int)) (.int .u64 (l : Int)) ∧ Box W' gb (.int .u64 (h2 : Int)) (.int .u64 (l2 : Int)) ∧ Below w.heap.size w W' ∧ Box W' gx (Fv 0) (Fv 0) ∧ w.heap.size ≤ gx ∧ gx ≠ ga ∧ gx ≠ gb → WP 5 (L0.setIfInBounds 4 true) (a0.put (some 5) (.pointer (some ⟨gx, 0, none⟩))) W' := by
    rintro gx W' ⟨xa, xb, hbw, xx, hgx, dxa, dxb⟩
    subst hWP hL ha
    have Hxa := Hid.mk9 xa
    have Hxb := Hid.mk9 xb
    have Hxx := Hid.mk9 xx
    have Hhgx := Hid.mk9 hgx
    have Hdxa := Hid.mk9 dxa
    have Hdxb := Hid.mk9 dxb
    clear xa xb xx hgx dxa dxb
    go_simp
    refine wpJ_two (i := 1) (k := 5) (by kernel_rfl) rfl rfl (by kernel_rfl) (by kernel_rfl) (fun KJ hK => ?_) (fun KJ hK => ?_)
    · go_simp
      refine (P1 _).mono ?_
      rintro e W2 ⟨rfl, hb⟩
      refine hK _ _ ⟨(Hxa.out.below hb).c0, (Hxa.out.below hb).c1, (Hxb.out.below hb).c0, (Hxb.out.below hb).c1⟩ ?_
      exact wpJ_same (by kernel_rfl) (by kernel_rfl) (N1x gx W2 ⟨(Hxa.out.below hb), (Hxb.out.below hb), (Below.on hbw hb), (Hxx.out.below hb), Hhgx.out, Hdxa.out, Hdxb.out⟩)
    · go_simp
      have hb := below1 W' (.cells #[Fv 0, Fv 0] 32)
      refine hK _ _ ⟨(Hxa.out.below hb).c0, (Hxa.out.below hb).c1, (Hxb.out.below hb).c0, (Hxb.out.below hb).c1⟩ ?_
      exact wpJ_same (by kernel_rfl) (by kernel_rfl) (N0xy gx W'.heap.size _ ⟨(Hxa.out.below hb), (Hxb.out.below hb), (Below.on hbw hb), (Hxx.out.below hb), Hhgx.out, Hdxa.out, Hdxb.out, (Box.new W' _ _ _), hbw.size, (Nat.ne_of_gt Hxa.out.lt), (Nat.ne_of_gt Hxb.out.lt), (Nat.ne_of_lt Hxx.out.lt)⟩)
  have N0y : ∀ (gy : Nat) (W' : World), Box W' ga (.int .u64 (h : Int)) (.int .u64 (l : Int)) ∧ Box W' gb (.int .u64 (h2 : Int)) (.int .u64 (l2 : Int)) ∧ Below w.heap.size w W' ∧ Box W' gy (Fv 0) (Fv 0) ∧ w.heap.size ≤ gy ∧ gy ≠ ga ∧ gy ≠ gb → WP 5 (L0.setIfInBounds 5 true) (a0.put (some 6) (.pointer (some ⟨gy, 0, none⟩))) W' := by
    rintro gy W' ⟨xa, xb, hbw, xy, hgy, dya, dyb⟩
    subst hWP hL ha
    have Hxa := Hid.mk9 xa
    have Hxb := Hid.mk9 xb
    have Hxy := Hid.mk9 xy
    have Hhgy := Hid.mk9 hgy
    have Hdya := Hid.mk9 dya
    have Hdyb := Hid.mk9 dyb
    clear xa xb xy hgy dya dyb
    go_simp
    refine wpJ_two (i := 1) (k := 4) (by kernel_rfl) rfl rfl (by kernel_rfl) (by kernel_rfl) (fun KJ hK => ?_) (fun KJ hK => ?_)
    · go_simp
      refine (P1 _).mono ?_
      rintro e W2 ⟨rfl, hb⟩
      refine hK _ _ ⟨(Hxa.out.below hb).c0, (Hxa.out.below hb).c1, (Hxb.out.below hb).c0, (Hxb.out.below hb).c1⟩ ?_
      exact wpJ_same (by kernel_rfl) (by kernel_rfl) (N1y gy W2 ⟨(Hxa.out.below hb), (Hxb.out.below hb), (Below.on hbw hb), (Hxy.out.below hb), Hhgy.out, Hdya.out, Hdyb.out⟩)
    · go_simp
      have hb := below1 W' (.cells #[Fv 0, Fv 0] 32)
      refine hK _ _ ⟨(Hxa.out.below hb).c0, (Hxa.out.below hb).c1, (Hxb.out.below hb).c0, (Hxb.out.below hb).c1⟩ ?_
      exact wpJ_same (by kernel_rfl) (by kernel_rfl) (N0xy W'.heap.size gy _ ⟨(Hxa.out.below hb), (Hxb.out.below hb), (Below.on hbw hb), (Box.new W' _ _ _), hbw.size, (Nat.ne_of_gt Hxa.out.lt), (Nat.ne_of_gt Hxb.out.lt), (Hxy.out.below hb), Hhgy.out, Hdya.out, Hdyb.out, (Nat.ne_of_gt Hxy.out.lt)⟩)
  have N0 : ∀ (W' : World), Box W' ga (.int .u64 (h : Int)) (.int .u64 (l : Int)) ∧ Box W' gb (.int .u64 (h2 : Int)) (.int .u64 (l2 : Int)) ∧ Below w.heap.size w W' → WP 6 L0 a0 W' := by
    rintro  W' ⟨xa, xb, hbw⟩
    subst hWP hL ha
    have Hxa := Hid.mk9 xa
    have Hxb := Hid.mk9 xb
    clear xa xb
    go_simp
    refine wpJ_three (i := 1) (k := 4) (l := 5) (by kernel_rfl) rfl rfl rfl (by kernel_rfl) (by kernel_rfl) (by kernel_rfl) (fun KJ hK => ?_) (fun KJ hK => ?_) (fun KJ hK => ?_)
    · go_simp
      refine (P1 _).mono ?_
      rintro e W2 ⟨rfl, hb⟩
      refine hK _ _ ⟨(Hxa.out.below hb).c0, (Hxa.out.below hb).c1, (Hxb.out.below hb).c0, (Hxb.out.below hb).c1⟩ ?_
      exact wpJ_same (by kernel_rfl) (by kernel_rfl) (N1  W2 ⟨(Hxa.out.below hb), (Hxb.out.below hb), (Below.on hbw hb)⟩)
    · go_simp
      have hb := below1 W' (.cells #[Fv 0, Fv 0] 32)
      refine hK _ _ ⟨(Hxa.out.below hb).c0, (Hxa.out.below hb).c1, (Hxb.out.below hb).c0, (Hxb.out.below hb).c1⟩ ?_
      exact wpJ_same (by kernel_rfl) (by kernel_rfl) (N0x W'.heap.size _ ⟨(Hxa.out.below hb), (Hxb.out.below hb), (Below.on hbw hb), (Box.new W' _ _ _), hbw.size, (Nat.ne_of_gt Hxa.out.lt), (Nat.ne_of_gt Hxb.out.lt)⟩)
    · go_simp
      have hb := below1 W' (.cells #[Fv 0, Fv 0] 32)
      refine hK _ _ ⟨(Hxa.out.below hb).c0, (Hxa.out.below hb).c1, (Hxb.out.below hb).c0, (Hxb.out.below hb).c1⟩ ?_
      exact wpJ_same (by kernel_rfl) (by kernel_rfl) (N0y W'.heap.size _ ⟨(Hxa.out.below hb), (Hxb.out.below hb), (Below.on hbw hb), (Box.new W' _ _ _), hbw.size, (Nat.ne_of_gt Hxa.out.lt), (Nat.ne_of_gt Hxb.out.lt)⟩)
  exact N0 V1 ⟨Xa.out, Xb.out, hbw⟩
end Go.Proofs.YtidggnjnlhjhlaaGreatDoor
