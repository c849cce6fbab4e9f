import Derived.Test.YtidggnjnlhjhlaaGreatDoorJ17
import Derived.Test.YtidggnjnlhjhlaaGreatDoorJ15
import Derived.Test.YtidggnjnlhjhlaaGreatDoorJ8
namespace Go.Proofs.YtidggnjnlhjhlaaGreatDoor
open Go.RowKit Go.Shelf
set_option maxRecDepth 20000
set_option maxHeartbeats 0
theorem db_val {h l : Nat} {z e : Int} (d : DdF h l) (hf : DFm z e) (h : dv z e = dv (ux h + ux l) (-1074)) : DB z e 2100 3174 := by
  obtain ⟨K, hK⟩ : ∃ K, K = 2100 := ⟨_, rfl⟩
  have h1 := db_of hf h (fin_sum hK d)
  rw [hK] at h1
  exact h1
theorem w0 {Z : Int} : dv Z (-1074) = dv Z (-1074 - ((0 : Nat) : Int)) := by rw [show (-1074 : Int) - ((0 : Nat) : Int) = -1074 by omega]
theorem w_add {a b : Int} {zo eo z e y f : Int} (h1 : dv z e = dv a (-1074)) (h2 : dv y f = dv b (-1074)) (h : dv zo eo = dv z e + dv y f) : dv zo eo = dv (a + b) (-1074 - ((0 : Nat) : Int)) := by
  rw [← w0, h, h1, h2, dv_add]
theorem w_sub {a b : Int} {zo eo z e y f : Int} (h1 : dv z e = dv a (-1074)) (h2 : dv y f = dv b (-1074)) (h : dv zo eo = dv z e - dv y f) : dv zo eo = dv (a - b) (-1074 - ((0 : Nat) : Int)) := by
  rw [← w0, h, h1, h2, Int.sub_eq_add_neg, Int.sub_eq_add_neg, dv_add, dv_neg]
theorem w_mul {a b : Int} {zo eo z e y f : Int} (h1 : dv z e = dv a (-1074)) (h2 : dv y f = dv b (-1074)) (he : -2097152 ≤ e) (hf : -2097152 ≤ f) (h : dv zo eo = dv (z * y) (e + f)) : dv zo eo = dv (a * b) (-1074 - ((OneE : Nat) : Int)) := by
  have k1 := dv_mul (z := z) (c := y) he hf
  have k2 := dv_mul (z := a) (c := b) (e := -1074) (f := -1074) (by decide) (by decide)
  rw [h1, h2, ← k2] at k1
  rw [h, Int.eq_of_mul_eq_mul_right (pow_pos_int _) k1]
  rfl
theorem wn_add {a x : Int} (h : 81129638414606681695789005144064 * (a - x).natAbs ≤ 8 * x.natAbs) : (a * ((2 ^ 0 : Nat) : Int) - x).natAbs * 2 ^ 103 ≤ x.natAbs := by
  rw [show ((2 ^ 0 : Nat) : Int) = 1 from rfl]; exact near_of h
theorem wn_mul {a x : Int} (h : 81129638414606681695789005144064 * (a * (UE : Int) - x).natAbs ≤ 16 * x.natAbs) : (a * ((2 ^ OneE : Nat) : Int) - x).natAbs * 2 ^ 102 ≤ x.natAbs := by
  have e : ((2 ^ OneE : Nat) : Int) = (UE : Int) := rfl
  rw [e, show (2 : Nat) ^ 102 = 5070602400912917605986812821504 by decide]
  omega
theorem ddByDyadics_w {h l h2 l2 : Nat} (hh : h < 18446744073709551616) (hl : l < 18446744073709551616) (hh2 : h2 < 18446744073709551616) (hl2 : l2 < 18446744073709551616) (w : World) (hT : Tab w) :
    Calls Tryz.prog 5 #[.agg #[.int .u64 (h : Int), .int .u64 (l : Int)], .agg #[.int .u64 (h2 : Int), .int .u64 (l2 : Int)]] w fun en w' => en = .returned (.bool true) ∧ Below w.heap.size w w' := by
  have hSF : ∀ (w : World) (a : Addr) (b : Nat), (store a (Fv b)).run Tryz.prog w = stored Tryz.prog w a (Fv b) .plain := stF
  have hbw : Below w.heap.size w w := Below.refl _ _
  have TB : Hid (Tab w) := hT
  have HL : Hid (h < 18446744073709551616 ∧ l < 18446744073709551616 ∧ h2 < 18446744073709551616 ∧ l2 < 18446744073709551616) := ⟨hh, hl, hh2, hl2⟩
  have P1 := lpair h l
  have P2 := lpair h2 l2
  clear hT hh hl hh2 hl2
  go_enter Tryz.func5, Tryz.ntmps5
  go_wp2_with fail
  obtain ⟨W0, hW0⟩ : ∃ W0, W0 = ((w.alloc (.cells #[.int .u64 (h : Int), .int .u64 (l : Int)] 28)).alloc (.cells #[.int .u64 (h2 : Int), .int .u64 (l2 : Int)] 28)) := ⟨_, rfl⟩
  have Xa : Hid (Box W0 (w.heap.size) (.int .u64 (h : Int)) (.int .u64 (l : Int))) := by rw [hW0]; exact ⟨by go_simp, by go_simp, by go_simp, by go_simp⟩
  have Xb : Hid (Box W0 (w.heap.size + 1) (.int .u64 (h2 : Int)) (.int .u64 (l2 : Int))) := by rw [hW0]; exact ⟨by go_simp, by go_simp, by go_simp, by go_simp⟩
  have hb0 : Below w.heap.size w W0 := by rw [hW0]; exact below2 w _ _
  rw [← hW0]
  clear hW0
  have hbw : Below w.heap.size w w := Below.refl _ _
  obtain ⟨gb, hgb⟩ : ∃ g, g = w.heap.size + 1 := ⟨_, rfl⟩
  have HGb : Hid (w.heap.size ≤ gb) := by rw [hgb]; show _ ≤ _; omega
  rw [← hgb] at Xb
  try rw [← hgb]
  obtain ⟨ga, hga⟩ : ∃ g, g = w.heap.size := ⟨_, rfl⟩
  have HGa : Hid (w.heap.size ≤ ga) := by rw [hga]; show _ ≤ _; omega
  rw [← hga] at Xa
  try rw [← hga]
  have HGD : Hid (ga ≠ gb ∧ gb ≠ ga) := by rw [hga, hgb]; exact ⟨by omega, by omega⟩
  clear hga hgb
  replace hbw := Below.on hbw hb0
  clear hb0
  refine (awake20 _).mono ?_
  rintro e v1 ⟨rfl, hb1⟩
  replace Xa : Hid _ := Xa.out.below hb1
  replace Xb : Hid _ := Xb.out.below hb1
  replace hbw := Below.on hbw hb1
  clear hb1
  obtain ⟨ca0, ca1, fa0, fa1⟩ := Xa.out
  have hnea := Xa.out.lt
  go_wp2_with fail
  clear ca0 ca1 fa0 fa1 hnea
  refine (fit20q h l HL.out.1 HL.out.2.1 _).mono ?_
  rintro en v2 ⟨⟨r, rfl, hr⟩, hb2⟩
  replace Xa : Hid _ := Xa.out.below hb2
  replace Xb : Hid _ := Xb.out.below hb2
  replace hbw := Below.on hbw hb2
  clear hb2
  cases r
  · clear hr
    obtain ⟨cb0, cb1, fb0, fb1⟩ := Xb.out
    have hneb := Xb.out.lt
    go_wp2_with fail
    clear cb0 cb1 fb0 fb1 hneb
    go_ret
    exact ⟨rfl, hbw⟩
  have HC2 := Hid.mk9 (hr rfl)
  clear hr
  obtain ⟨cb0, cb1, fb0, fb1⟩ := Xb.out
  have hneb := Xb.out.lt
  go_wp2_with fail
  clear cb0 cb1 fb0 fb1 hneb
  refine (fit20q h2 l2 HL.out.2.2.1 HL.out.2.2.2 _).mono ?_
  rintro en v9 ⟨⟨r, rfl, hr⟩, hb9⟩
  replace Xa : Hid _ := Xa.out.below hb9
  replace Xb : Hid _ := Xb.out.below hb9
  replace hbw := Below.on hbw hb9
  clear hb9
  cases r
  · clear hr
    obtain ⟨ca0, ca1, fa0, fa1⟩ := Xa.out
    have hnea := Xa.out.lt
    obtain ⟨cb0, cb1, fb0, fb1⟩ := Xb.out
    have hneb := Xb.out.lt
    go_wp2_with fail
    clear ca0 ca1 fa0 fa1 hnea
    clear cb0 cb1 fb0 fb1 hneb
    go_ret
    exact ⟨rfl, hbw⟩
  have HC9 := Hid.mk9 (hr rfl)
  clear hr
  obtain ⟨ca0, ca1, fa0, fa1⟩ := Xa.out
  have hnea := Xa.out.lt
  obtain ⟨cb0, cb1, fb0, fb1⟩ := Xb.out
  have hneb := Xb.out.lt
  go_wp2_with fail
  clear ca0 ca1 fa0 fa1 hnea
  clear cb0 cb1 fb0 fb1 hneb
  obtain ⟨V1, hV1⟩ : ∃ W1, W1 = v9.drew := ⟨_, rfl⟩
  have hbd : Below v9.heap.size v9 V1 := by rw [hV1]; exact bDrew1 (Below.refl _ _)
  replace Xa : Hid _ := Xa.out.below hbd
  replace Xb : Hid _ := Xb.out.below hbd
  replace hbw := Below.on hbw hbd
  clear hbd
  have HJ : Hid ((fun W' : World => W'.cell? ⟨ga, 0, none⟩ = some (.int .u64 (h : Int)) ∧ W'.cell? ⟨ga, 1, none⟩ = some (.int .u64 (l : Int)) ∧ W'.cell? ⟨gb, 0, none⟩ = some (.int .u64 (h2 : Int)) ∧ W'.cell? ⟨gb, 1, none⟩ = some (.int .u64 (l2 : Int))) V1) := ⟨Xa.out.c0, Xa.out.c1, Xb.out.c0, Xb.out.c1⟩
  refine wp_region_J (fun W' => W'.cell? ⟨ga, 0, none⟩ = some (.int .u64 (h : Int)) ∧ W'.cell? ⟨ga, 1, none⟩ = some (.int .u64 (l : Int)) ∧ W'.cell? ⟨gb, 0, none⟩ = some (.int .u64 (h2 : Int)) ∧ W'.cell? ⟨gb, 1, none⟩ = some (.int .u64 (l2 : Int))) (by kernel_rfl) ?_
  rw [← hV1]
  clear hV1
  refine wpJ_tq 0 rfl HJ.out ?_
  refine wpJ_tq 2 rfl HJ.out ?_
  go_simp
  refine wpJ_nodes fun WP hWP L0 a0 hL ha => ?_
  have N2xy : ∀ (gx : Nat) (gy : Nat) (W' : World), Box W' ga (.int .u64 (h : Int)) (.int .u64 (l : Int)) ∧ Box W' gb (.int .u64 (h2 : Int)) (.int .u64 (l2 : Int)) ∧ Below w.heap.size w W' ∧ Box W' gx (Fv 0) (Fv 0) ∧ w.heap.size ≤ gx ∧ gx ≠ ga ∧ gx ≠ gb ∧ Box W' gy (Fv 0) (Fv 0) ∧ w.heap.size ≤ gy ∧ gy ≠ ga ∧ gy ≠ gb ∧ gx ≠ gy → WP 2 ((((L0.setIfInBounds 1 true).setIfInBounds 3 true).setIfInBounds 4 true).setIfInBounds 5 true) ((((a0.put (some 30) (.agg #[Fv h, Fv l])).put (some 32) (.agg #[Fv h2, Fv l2])).put (some 5) (.pointer (some ⟨gx, 0, none⟩))).put (some 6) (.pointer (some ⟨gy, 0, none⟩))) W' := by
    rintro gx gy W' ⟨xa, xb, hbw, xx, hgx, dxa, dxb, xy, hgy, dya, dyb, dd⟩
    subst hWP hL ha
    have Hxa := Hid.mk9 xa
    have Hxb := Hid.mk9 xb
    have Hxx := Hid.mk9 xx
    have Hhgx := Hid.mk9 hgx
    have Hdxa := Hid.mk9 dxa
    have Hdxb := Hid.mk9 dxb
    have Hxy := Hid.mk9 xy
    have Hhgy := Hid.mk9 hgy
    have Hdya := Hid.mk9 dya
    have Hdyb := Hid.mk9 dyb
    have Hdd := Hid.mk9 dd
    clear xa xb xx hgx dxa dxb xy hgy dya dyb dd
    go_simp
    have Xa := Hxa
    have Xb := Hxb
    have Xx := Hxx
    have Xy := Hxy
    clear Hxa Hxb Hxx Hxy
    have exa := Hdxa.out
    have exb := Hdxb.out
    have eya := Hdya.out
    have eyb := Hdyb.out
    have fxa := Ne.symm exa
    have fxb := Ne.symm exb
    have fya := Ne.symm eya
    have fyb := Ne.symm eyb
    have e5 := Hdd.out
    have f5 := Ne.symm e5
    have HGx : Hid (w.heap.size ≤ gx) := Hhgx.out
    have HGy : Hid (w.heap.size ≤ gy) := Hhgy.out
    obtain ⟨ca0, ca1, fa0, fa1⟩ := Xa.out
    have hnea := Xa.out.lt
    obtain ⟨cb0, cb1, fb0, fb1⟩ := Xb.out
    have hneb := Xb.out.lt
    obtain ⟨cx0, cx1, fx0, fx1⟩ := Xx.out
    have hnex := Xx.out.lt
    obtain ⟨cy0, cy1, fy0, fy1⟩ := Xy.out
    have hney := Xy.out.lt
    refine wpJ_on 6 rfl fun KJ hK => ?_
    go_simp
    refine hK _ _ ⟨by go_simp, by go_simp, by go_simp, by go_simp⟩ ?_
    clear hK
    refine wpJ_on 7 rfl fun KJ hK => ?_
    go_simp
    refine hK _ _ ⟨by go_simp, by go_simp, by go_simp, by go_simp⟩ ?_
    clear hK
    refine wpJ_done (by kernel_rfl) ?_ _
    obtain ⟨Wy, hWy⟩ : ∃ W9, W9 = ((((W'.setCell ⟨gx, 0, none⟩ (Fv h)).setCell ⟨gx, 1, none⟩ (Fv l)).setCell ⟨gy, 0, none⟩ (Fv h2)).setCell ⟨gy, 1, none⟩ (Fv l2)) := ⟨_, rfl⟩
    have Yx : Hid (Box Wy gx (Fv h) (Fv l)) := by rw [hWy]; exact ⟨by go_simp, by go_simp, by go_simp, by go_simp⟩
    have Yy : Hid (Box Wy gy (Fv h2) (Fv l2)) := by rw [hWy]; exact ⟨by go_simp, by go_simp, by go_simp, by go_simp⟩
    have hbw2 : Below w.heap.size w Wy := by rw [hWy]; exact bSet (bSet (bSet (bSet hbw _ _ _ HGx.out) _ _ _ HGx.out) _ _ _ HGy.out) _ _ _ HGy.out
    clear ca0 ca1 fa0 fa1 hnea
    clear cb0 cb1 fb0 fb1 hneb
    clear cx0 cx1 fx0 fx1 hnex
    clear cy0 cy1 fy0 fy1 hney
    rw [← hWy]
    have HXY : Hid (gx ≠ gy) := e5
    clear hWy hbw Xa Xb Xx Xy exa fxa exb fxb eya fya eyb fyb e5 f5
    have hbw := hbw2
    have Xx := Yx
    have Xy := Yy
    clear hbw2 Yx Yy
    obtain ⟨cx0, cx1, fx0, fx1⟩ := Xx.out
    have hnex := Xx.out.lt
    go_wp2_with fail
    clear cx0 cx1 fx0 fx1 hnex
    refine (ddvalue h l (HC2.out.1) _ (TB.out.below hbw)).mono ?_
    rintro en v3 ⟨s3, p3, m3, z3, e3, rfl, hd3, hv3, hb3⟩
    have HV3 := Hid.mk9 (And.intro hv3 (db_val (HC2.out.1) hd3.fm hv3))
    clear hv3
    replace Xx : Hid _ := Xx.out.below hb3
    replace Xy : Hid _ := Xy.out.below hb3
    replace hbw := Below.on hbw hb3
    clear hb3
    have D3 : Hid (DN v3 s3 p3 m3 m3 e3 z3) := hd3.dn
    clear hd3
    obtain ⟨cy0, cy1, fy0, fy1⟩ := Xy.out
    have hney := Xy.out.lt
    go_wp2_with fail
    clear cy0 cy1 fy0 fy1 hney
    have Xv0 : Hid (B3q (v3.alloc (.cells #[.bool s3, .slice p3 m3 m3, .int .i64 e3] 38)) v3.heap.size (.bool s3) (.slice p3 m3 m3) (.int .i64 e3)) := B3q.new v3 _ _ _ _
    have hbn : Below v3.heap.size v3 (v3.alloc (.cells #[.bool s3, .slice p3 m3 m3, .int .i64 e3] 38)) := below1 v3 _
    generalize v3.alloc (.cells #[.bool s3, .slice p3 m3 m3, .int .i64 e3] 38) = Wv at *
    have HGv : Hid (w.heap.size ≤ v3.heap.size) := hbw.size
    replace Xx : Hid _ := Xx.out.below hbn
    replace Xy : Hid _ := Xy.out.below hbn
    replace D3 : Hid _ := D3.out.below hbn
    replace hbw := Below.on hbw hbn
    clear hbn
    generalize v3.heap.size = gv at *
    have Xv := Xv0
    clear Xv0
    refine (ddvalue h2 l2 (HC9.out.1) _ (TB.out.below hbw)).mono ?_
    rintro en v4 ⟨s4, p4, m4, z4, e4, rfl, hd4, hv4, hb4⟩
    have HV4 := Hid.mk9 (And.intro hv4 (db_val (HC9.out.1) hd4.fm hv4))
    clear hv4
    replace Xx : Hid _ := Xx.out.below hb4
    replace Xy : Hid _ := Xy.out.below hb4
    replace Xv : Hid _ := Xv.out.below hb4
    replace D3 : Hid _ := D3.out.below hb4
    replace hbw := Below.on hbw hb4
    clear hb4
    have D4 : Hid (DN v4 s4 p4 m4 m4 e4 z4) := hd4.dn
    clear hd4
    obtain ⟨cv0, cv1, cv2, fv0, fv1, fv2⟩ := Xv.out
    have hnev : gv < v4.heap.size := World.block_lt_of_cell? v4 _ cv0
    go_wp2_with fail
    clear cv0 cv1 cv2 fv0 fv1 fv2 hnev
    have Xu0 : Hid (B3q (v4.alloc (.cells #[.bool s4, .slice p4 m4 m4, .int .i64 e4] 38)) v4.heap.size (.bool s4) (.slice p4 m4 m4) (.int .i64 e4)) := B3q.new v4 _ _ _ _
    have hbn : Below v4.heap.size v4 (v4.alloc (.cells #[.bool s4, .slice p4 m4 m4, .int .i64 e4] 38)) := below1 v4 _
    generalize v4.alloc (.cells #[.bool s4, .slice p4 m4 m4, .int .i64 e4] 38) = Wu at *
    have HGu : Hid (w.heap.size ≤ v4.heap.size) := hbw.size
    replace Xx : Hid _ := Xx.out.below hbn
    replace Xy : Hid _ := Xy.out.below hbn
    replace Xv : Hid _ := Xv.out.below hbn
    replace D3 : Hid _ := D3.out.below hbn
    replace D4 : Hid _ := D4.out.below hbn
    replace hbw := Below.on hbw hbn
    clear hbn
    generalize v4.heap.size = gu at *
    have Xu := Xu0
    clear Xu0
    obtain ⟨cv0, cv1, cv2, fv0, fv1, fv2⟩ := Xv.out
    have hnev : gv < Wu.heap.size := World.block_lt_of_cell? Wu _ cv0
    obtain ⟨cu0, cu1, cu2, fu0, fu1, fu2⟩ := Xu.out
    have hneu : gu < Wu.heap.size := World.block_lt_of_cell? Wu _ cu0
    go_wp2_with fail
    clear cv0 cv1 cv2 fv0 fv1 fv2 hnev
    clear cu0 cu1 cu2 fu0 fu1 fu2 hneu
    refine (dadd_b (K := 2100) (E := 3174) D3.out D4.out HV3.out.2 HV4.out.2 (by decide) (TB.out.below hbw)).mono ?_
    rintro e9 v5 ⟨v9, z5, e5, rfl, ha, hdb, hdv, hb5⟩
    obtain ⟨s5, p5, m5, rfl, hd5⟩ := ha.dn hdb.fm
    clear ha
    have HB5 := Hid.mk9 (And.intro hdb hdv)
    clear hdb hdv
    replace Xx : Hid _ := Xx.out.below hb5
    replace Xy : Hid _ := Xy.out.below hb5
    replace Xv : Hid _ := Xv.out.below hb5
    replace Xu : Hid _ := Xu.out.below hb5
    replace D3 : Hid _ := D3.out.below hb5
    replace D4 : Hid _ := D4.out.below hb5
    replace hbw := Below.on hbw hb5
    clear hb5
    have D5 : Hid (DN v5 s5 p5 m5 m5 e5 z5) := hd5
    clear hd5
    obtain ⟨cv0, cv1, cv2, fv0, fv1, fv2⟩ := Xv.out
    have hnev : gv < v5.heap.size := World.block_lt_of_cell? v5 _ cv0
    obtain ⟨cu0, cu1, cu2, fu0, fu1, fu2⟩ := Xu.out
    have hneu : gu < v5.heap.size := World.block_lt_of_cell? v5 _ cu0
    go_wp2_with fail
    clear cv0 cv1 cv2 fv0 fv1 fv2 hnev
    clear cu0 cu1 cu2 fu0 fu1 fu2 hneu
    have Xs0 : Hid (B3q (v5.alloc (.cells #[.bool s5, .slice p5 m5 m5, .int .i64 e5] 38)) v5.heap.size (.bool s5) (.slice p5 m5 m5) (.int .i64 e5)) := B3q.new v5 _ _ _ _
    have hbn : Below v5.heap.size v5 (v5.alloc (.cells #[.bool s5, .slice p5 m5 m5, .int .i64 e5] 38)) := below1 v5 _
    generalize v5.alloc (.cells #[.bool s5, .slice p5 m5 m5, .int .i64 e5] 38) = Ws at *
    have HGs : Hid (w.heap.size ≤ v5.heap.size) := hbw.size
    replace Xx : Hid _ := Xx.out.below hbn
    replace Xy : Hid _ := Xy.out.below hbn
    replace Xv : Hid _ := Xv.out.below hbn
    replace Xu : Hid _ := Xu.out.below hbn
    replace D3 : Hid _ := D3.out.below hbn
    replace D4 : Hid _ := D4.out.below hbn
    replace D5 : Hid _ := D5.out.below hbn
    replace hbw := Below.on hbw hbn
    clear hbn
    generalize v5.heap.size = gs at *
    have Xs := Xs0
    clear Xs0
    refine (dsub_b (K := 2100) (E := 3174) D3.out D4.out HV3.out.2 HV4.out.2 (by decide) (TB.out.below hbw)).mono ?_
    rintro e9 v6 ⟨v9, z6, e6, rfl, ha, hdb, hdv, hb6⟩
    obtain ⟨s6, p6, m6, rfl, hd6⟩ := ha.dn hdb.fm
    clear ha
    have HB6 := Hid.mk9 (And.intro hdb hdv)
    clear hdb hdv
    replace Xx : Hid _ := Xx.out.below hb6
    replace Xy : Hid _ := Xy.out.below hb6
    replace Xv : Hid _ := Xv.out.below hb6
    replace Xu : Hid _ := Xu.out.below hb6
    replace Xs : Hid _ := Xs.out.below hb6
    replace D3 : Hid _ := D3.out.below hb6
    replace D4 : Hid _ := D4.out.below hb6
    replace D5 : Hid _ := D5.out.below hb6
    replace hbw := Below.on hbw hb6
    clear hb6
    have D6 : Hid (DN v6 s6 p6 m6 m6 e6 z6) := hd6
    clear hd6
    obtain ⟨cv0, cv1, cv2, fv0, fv1, fv2⟩ := Xv.out
    have hnev : gv < v6.heap.size := World.block_lt_of_cell? v6 _ cv0
    obtain ⟨cu0, cu1, cu2, fu0, fu1, fu2⟩ := Xu.out
    have hneu : gu < v6.heap.size := World.block_lt_of_cell? v6 _ cu0
    go_wp2_with fail
    clear cv0 cv1 cv2 fv0 fv1 fv2 hnev
    clear cu0 cu1 cu2 fu0 fu1 fu2 hneu
    have Xd0 : Hid (B3q (v6.alloc (.cells #[.bool s6, .slice p6 m6 m6, .int .i64 e6] 38)) v6.heap.size (.bool s6) (.slice p6 m6 m6) (.int .i64 e6)) := B3q.new v6 _ _ _ _
    have hbn : Below v6.heap.size v6 (v6.alloc (.cells #[.bool s6, .slice p6 m6 m6, .int .i64 e6] 38)) := below1 v6 _
    generalize v6.alloc (.cells #[.bool s6, .slice p6 m6 m6, .int .i64 e6] 38) = Wd at *
    have HGd : Hid (w.heap.size ≤ v6.heap.size) := hbw.size
    replace Xx : Hid _ := Xx.out.below hbn
    replace Xy : Hid _ := Xy.out.below hbn
    replace Xv : Hid _ := Xv.out.below hbn
    replace Xu : Hid _ := Xu.out.below hbn
    replace Xs : Hid _ := Xs.out.below hbn
    replace D3 : Hid _ := D3.out.below hbn
    replace D4 : Hid _ := D4.out.below hbn
    replace D5 : Hid _ := D5.out.below hbn
    replace D6 : Hid _ := D6.out.below hbn
    replace hbw := Below.on hbw hbn
    clear hbn
    generalize v6.heap.size = gd at *
    have Xd := Xd0
    clear Xd0
    refine (dmul_b D3.out D4.out HV3.out.2 HV4.out.2 (by decide) (by decide) (TB.out.below hbw)).mono ?_
    rintro e9 v7 ⟨v9, z7, e7, rfl, ha, hdb, hdv, hb7⟩
    obtain ⟨s7, p7, m7, rfl, hd7⟩ := ha.dn hdb.fm
    clear ha
    have HB7 := Hid.mk9 (And.intro hdb hdv)
    clear hdb hdv
    replace Xx : Hid _ := Xx.out.below hb7
    replace Xy : Hid _ := Xy.out.below hb7
    replace Xv : Hid _ := Xv.out.below hb7
    replace Xu : Hid _ := Xu.out.below hb7
    replace Xs : Hid _ := Xs.out.below hb7
    replace Xd : Hid _ := Xd.out.below hb7
    replace D3 : Hid _ := D3.out.below hb7
    replace D4 : Hid _ := D4.out.below hb7
    replace D5 : Hid _ := D5.out.below hb7
    replace D6 : Hid _ := D6.out.below hb7
    replace hbw := Below.on hbw hb7
    clear hb7
    have D7 : Hid (DN v7 s7 p7 m7 m7 e7 z7) := hd7
    clear hd7
    obtain ⟨cv0, cv1, cv2, fv0, fv1, fv2⟩ := Xv.out
    have hnev : gv < v7.heap.size := World.block_lt_of_cell? v7 _ cv0
    go_wp2_with fail
    clear cv0 cv1 cv2 fv0 fv1 fv2 hnev
    have Xp0 : Hid (B3q (v7.alloc (.cells #[.bool s7, .slice p7 m7 m7, .int .i64 e7] 38)) v7.heap.size (.bool s7) (.slice p7 m7 m7) (.int .i64 e7)) := B3q.new v7 _ _ _ _
    have hbn : Below v7.heap.size v7 (v7.alloc (.cells #[.bool s7, .slice p7 m7 m7, .int .i64 e7] 38)) := below1 v7 _
    generalize v7.alloc (.cells #[.bool s7, .slice p7 m7 m7, .int .i64 e7] 38) = Wp at *
    have HGp : Hid (w.heap.size ≤ v7.heap.size) := hbw.size
    replace Xx : Hid _ := Xx.out.below hbn
    replace Xy : Hid _ := Xy.out.below hbn
    replace Xv : Hid _ := Xv.out.below hbn
    replace Xu : Hid _ := Xu.out.below hbn
    replace Xs : Hid _ := Xs.out.below hbn
    replace Xd : Hid _ := Xd.out.below hbn
    replace D3 : Hid _ := D3.out.below hbn
    replace D4 : Hid _ := D4.out.below hbn
    replace D5 : Hid _ := D5.out.below hbn
    replace D6 : Hid _ := D6.out.below hbn
    replace D7 : Hid _ := D7.out.below hbn
    replace hbw := Below.on hbw hbn
    clear hbn
    generalize v7.heap.size = gp at *
    have Xp := Xp0
    clear Xp0
    refine (dmul_b D3.out D3.out HV3.out.2 HV3.out.2 (by decide) (by decide) (TB.out.below hbw)).mono ?_
    rintro e9 v8 ⟨v9, z8, e8, rfl, ha, hdb, hdv, hb8⟩
    obtain ⟨s8, p8, m8, rfl, hd8⟩ := ha.dn hdb.fm
    clear ha
    have HB8 := Hid.mk9 (And.intro hdb hdv)
    clear hdb hdv
    replace Xx : Hid _ := Xx.out.below hb8
    replace Xy : Hid _ := Xy.out.below hb8
    replace Xv : Hid _ := Xv.out.below hb8
    replace Xu : Hid _ := Xu.out.below hb8
    replace Xs : Hid _ := Xs.out.below hb8
    replace Xd : Hid _ := Xd.out.below hb8
    replace Xp : Hid _ := Xp.out.below hb8
    replace D3 : Hid _ := D3.out.below hb8
    replace D4 : Hid _ := D4.out.below hb8
    replace D5 : Hid _ := D5.out.below hb8
    replace D6 : Hid _ := D6.out.below hb8
    replace D7 : Hid _ := D7.out.below hb8
    replace hbw := Below.on hbw hb8
    clear hb8
    have D8 : Hid (DN v8 s8 p8 m8 m8 e8 z8) := hd8
    clear hd8
    obtain ⟨cx0, cx1, fx0, fx1⟩ := Xx.out
    have hnex := Xx.out.lt
    obtain ⟨cy0, cy1, fy0, fy1⟩ := Xy.out
    have hney := Xy.out.lt
    go_wp2_with fail
    clear cx0 cx1 fx0 fx1 hnex
    clear cy0 cy1 fy0 fy1 hney
    have Xq0 : Hid (B3q (v8.alloc (.cells #[.bool s8, .slice p8 m8 m8, .int .i64 e8] 38)) v8.heap.size (.bool s8) (.slice p8 m8 m8) (.int .i64 e8)) := B3q.new v8 _ _ _ _
    have hbn : Below v8.heap.size v8 (v8.alloc (.cells #[.bool s8, .slice p8 m8 m8, .int .i64 e8] 38)) := below1 v8 _
    generalize v8.alloc (.cells #[.bool s8, .slice p8 m8 m8, .int .i64 e8] 38) = Wq at *
    have HGq : Hid (w.heap.size ≤ v8.heap.size) := hbw.size
    replace Xx : Hid _ := Xx.out.below hbn
    replace Xy : Hid _ := Xy.out.below hbn
    replace Xv : Hid _ := Xv.out.below hbn
    replace Xu : Hid _ := Xu.out.below hbn
    replace Xs : Hid _ := Xs.out.below hbn
    replace Xd : Hid _ := Xd.out.below hbn
    replace Xp : Hid _ := Xp.out.below hbn
    replace D3 : Hid _ := D3.out.below hbn
    replace D4 : Hid _ := D4.out.below hbn
    replace D5 : Hid _ := D5.out.below hbn
    replace D6 : Hid _ := D6.out.below hbn
    replace D7 : Hid _ := D7.out.below hbn
    replace D8 : Hid _ := D8.out.below hbn
    replace hbw := Below.on hbw hbn
    clear hbn
    generalize v8.heap.size = gq at *
    have Xq := Xq0
    clear Xq0
    obtain ⟨Wr, hWr⟩ : ∃ W1, W1 = Wq.drew := ⟨_, rfl⟩
    have hbd : Below Wq.heap.size Wq Wr := by rw [hWr]; exact bDrew1 (Below.refl _ _)
    replace Xx : Hid _ := Xx.out.below hbd
    replace Xy : Hid _ := Xy.out.below hbd
    replace Xv : Hid _ := Xv.out.below hbd
    replace Xu : Hid _ := Xu.out.below hbd
    replace Xs : Hid _ := Xs.out.below hbd
    replace Xd : Hid _ := Xd.out.below hbd
    replace Xp : Hid _ := Xp.out.below hbd
    replace Xq : Hid _ := Xq.out.below hbd
    replace D3 : Hid _ := D3.out.below hbd
    replace D4 : Hid _ := D4.out.below hbd
    replace D5 : Hid _ := D5.out.below hbd
    replace D6 : Hid _ := D6.out.below hbd
    replace D7 : Hid _ := D7.out.below hbd
    replace D8 : Hid _ := D8.out.below hbd
    replace hbw := Below.on hbw hbd
    clear hbd
    have HJ : Hid ((fun W' : World => W'.cell? ⟨gx, 0, none⟩ = some (Fv h) ∧ W'.cell? ⟨gx, 1, none⟩ = some (Fv l) ∧ W'.cell? ⟨gy, 0, none⟩ = some (Fv h2) ∧ W'.cell? ⟨gy, 1, none⟩ = some (Fv l2) ∧ W'.cell? ⟨gs, 0, none⟩ = some (.bool s5) ∧ W'.cell? ⟨gs, 1, none⟩ = some (.slice p5 m5 m5) ∧ W'.cell? ⟨gs, 2, none⟩ = some (.int .i64 e5) ∧ W'.cell? ⟨gd, 0, none⟩ = some (.bool s6) ∧ W'.cell? ⟨gd, 1, none⟩ = some (.slice p6 m6 m6) ∧ W'.cell? ⟨gd, 2, none⟩ = some (.int .i64 e6) ∧ W'.cell? ⟨gp, 0, none⟩ = some (.bool s7) ∧ W'.cell? ⟨gp, 1, none⟩ = some (.slice p7 m7 m7) ∧ W'.cell? ⟨gp, 2, none⟩ = some (.int .i64 e7) ∧ W'.cell? ⟨gq, 0, none⟩ = some (.bool s8) ∧ W'.cell? ⟨gq, 1, none⟩ = some (.slice p8 m8 m8) ∧ W'.cell? ⟨gq, 2, none⟩ = some (.int .i64 e8)) Wr) := ⟨Xx.out.c0, Xx.out.c1, Xy.out.c0, Xy.out.c1, Xs.out.c0, Xs.out.c1, Xs.out.c2, Xd.out.c0, Xd.out.c1, Xd.out.c2, Xp.out.c0, Xp.out.c1, Xp.out.c2, Xq.out.c0, Xq.out.c1, Xq.out.c2⟩
    refine wp_region_J (fun W' => W'.cell? ⟨gx, 0, none⟩ = some (Fv h) ∧ W'.cell? ⟨gx, 1, none⟩ = some (Fv l) ∧ W'.cell? ⟨gy, 0, none⟩ = some (Fv h2) ∧ W'.cell? ⟨gy, 1, none⟩ = some (Fv l2) ∧ W'.cell? ⟨gs, 0, none⟩ = some (.bool s5) ∧ W'.cell? ⟨gs, 1, none⟩ = some (.slice p5 m5 m5) ∧ W'.cell? ⟨gs, 2, none⟩ = some (.int .i64 e5) ∧ W'.cell? ⟨gd, 0, none⟩ = some (.bool s6) ∧ W'.cell? ⟨gd, 1, none⟩ = some (.slice p6 m6 m6) ∧ W'.cell? ⟨gd, 2, none⟩ = some (.int .i64 e6) ∧ W'.cell? ⟨gp, 0, none⟩ = some (.bool s7) ∧ W'.cell? ⟨gp, 1, none⟩ = some (.slice p7 m7 m7) ∧ W'.cell? ⟨gp, 2, none⟩ = some (.int .i64 e7) ∧ W'.cell? ⟨gq, 0, none⟩ = some (.bool s8) ∧ W'.cell? ⟨gq, 1, none⟩ = some (.slice p8 m8 m8) ∧ W'.cell? ⟨gq, 2, none⟩ = some (.int .i64 e8)) (by kernel_rfl) ?_
    rw [← hWr]
    clear hWr
    refine wpJ_tq 0 rfl HJ.out ?_
    refine wpJ_tq 1 rfl HJ.out ?_
    refine wpJ_tq 3 rfl HJ.out ?_
    refine wpJ_on 2 rfl fun KJ hK => ?_
    go_simp
    refine (ddAdd_f HC2.out.1 HC9.out.1 HC2.out.2.hi HC9.out.2.hi _).mono ?_
    rintro e v20 ⟨s20, r20, rfl, hd20, hq20, hb20⟩
    have HR20 := Hid.mk9 (And.intro hd20 hq20)
    clear hd20 hq20
    replace Xx : Hid _ := Xx.out.below hb20
    replace Xy : Hid _ := Xy.out.below hb20
    replace Xv : Hid _ := Xv.out.below hb20
    replace Xu : Hid _ := Xu.out.below hb20
    replace Xs : Hid _ := Xs.out.below hb20
    replace Xd : Hid _ := Xd.out.below hb20
    replace Xp : Hid _ := Xp.out.below hb20
    replace Xq : Hid _ := Xq.out.below hb20
    replace D3 : Hid _ := D3.out.below hb20
    replace D4 : Hid _ := D4.out.below hb20
    replace D5 : Hid _ := D5.out.below hb20
    replace D6 : Hid _ := D6.out.below hb20
    replace D7 : Hid _ := D7.out.below hb20
    replace D8 : Hid _ := D8.out.below hb20
    replace hbw := Below.on hbw hb20
    clear hb20
    refine hK _ _ ⟨Xx.out.c0, Xx.out.c1, Xy.out.c0, Xy.out.c1, Xs.out.c0, Xs.out.c1, Xs.out.c2, Xd.out.c0, Xd.out.c1, Xd.out.c2, Xp.out.c0, Xp.out.c1, Xp.out.c2, Xq.out.c0, Xq.out.c1, Xq.out.c2⟩ ?_
    clear hK
    refine wpJ_on 4 rfl fun KJ hK => ?_
    go_simp
    refine (within20 (c := 0) (k := 103) HR20.out.1 D5.out (HB5.out.1.mono (by decide) (by decide)) (w_add HV3.out.1 HV4.out.1 HB5.out.2) (by decide) (by decide) (wn_add HR20.out.2) (TB.out.below hbw)).mono ?_
    rintro e v21 ⟨rfl, hb21⟩
    replace Xx : Hid _ := Xx.out.below hb21
    replace Xy : Hid _ := Xy.out.below hb21
    replace Xv : Hid _ := Xv.out.below hb21
    replace Xu : Hid _ := Xu.out.below hb21
    replace Xs : Hid _ := Xs.out.below hb21
    replace Xd : Hid _ := Xd.out.below hb21
    replace Xp : Hid _ := Xp.out.below hb21
    replace Xq : Hid _ := Xq.out.below hb21
    replace D3 : Hid _ := D3.out.below hb21
    replace D4 : Hid _ := D4.out.below hb21
    replace D5 : Hid _ := D5.out.below hb21
    replace D6 : Hid _ := D6.out.below hb21
    replace D7 : Hid _ := D7.out.below hb21
    replace D8 : Hid _ := D8.out.below hb21
    replace hbw := Below.on hbw hb21
    clear hb21
    clear HJ
    have HJ : Hid ((fun W' : World => W'.cell? ⟨gx, 0, none⟩ = some (Fv h) ∧ W'.cell? ⟨gx, 1, none⟩ = some (Fv l) ∧ W'.cell? ⟨gy, 0, none⟩ = some (Fv h2) ∧ W'.cell? ⟨gy, 1, none⟩ = some (Fv l2) ∧ W'.cell? ⟨gs, 0, none⟩ = some (.bool s5) ∧ W'.cell? ⟨gs, 1, none⟩ = some (.slice p5 m5 m5) ∧ W'.cell? ⟨gs, 2, none⟩ = some (.int .i64 e5) ∧ W'.cell? ⟨gd, 0, none⟩ = some (.bool s6) ∧ W'.cell? ⟨gd, 1, none⟩ = some (.slice p6 m6 m6) ∧ W'.cell? ⟨gd, 2, none⟩ = some (.int .i64 e6) ∧ W'.cell? ⟨gp, 0, none⟩ = some (.bool s7) ∧ W'.cell? ⟨gp, 1, none⟩ = some (.slice p7 m7 m7) ∧ W'.cell? ⟨gp, 2, none⟩ = some (.int .i64 e7) ∧ W'.cell? ⟨gq, 0, none⟩ = some (.bool s8) ∧ W'.cell? ⟨gq, 1, none⟩ = some (.slice p8 m8 m8) ∧ W'.cell? ⟨gq, 2, none⟩ = some (.int .i64 e8)) v21) := ⟨Xx.out.c0, Xx.out.c1, Xy.out.c0, Xy.out.c1, Xs.out.c0, Xs.out.c1, Xs.out.c2, Xd.out.c0, Xd.out.c1, Xd.out.c2, Xp.out.c0, Xp.out.c1, Xp.out.c2, Xq.out.c0, Xq.out.c1, Xq.out.c2⟩
    refine hK _ _ HJ.out ?_
    clear hK
    refine wpJ_tq 5 rfl HJ.out ?_
    refine wpJ_tq 6 rfl HJ.out ?_
    refine wpJ_tq 7 rfl HJ.out ?_
    refine wpJ_tq 9 rfl HJ.out ?_
    refine wpJ_on 8 rfl fun KJ hK => ?_
    go_simp
    refine (ddSub_f HC2.out.1 HC9.out.1 HC2.out.2.hi HC9.out.2.hi _).mono ?_
    rintro e v22 ⟨s22, r22, rfl, hd22, hq22, hb22⟩
    have HR22 := Hid.mk9 (And.intro hd22 hq22)
    clear hd22 hq22
    replace Xx : Hid _ := Xx.out.below hb22
    replace Xy : Hid _ := Xy.out.below hb22
    replace Xv : Hid _ := Xv.out.below hb22
    replace Xu : Hid _ := Xu.out.below hb22
    replace Xs : Hid _ := Xs.out.below hb22
    replace Xd : Hid _ := Xd.out.below hb22
    replace Xp : Hid _ := Xp.out.below hb22
    replace Xq : Hid _ := Xq.out.below hb22
    replace D3 : Hid _ := D3.out.below hb22
    replace D4 : Hid _ := D4.out.below hb22
    replace D5 : Hid _ := D5.out.below hb22
    replace D6 : Hid _ := D6.out.below hb22
    replace D7 : Hid _ := D7.out.below hb22
    replace D8 : Hid _ := D8.out.below hb22
    replace hbw := Below.on hbw hb22
    clear hb22
    refine hK _ _ ⟨Xx.out.c0, Xx.out.c1, Xy.out.c0, Xy.out.c1, Xs.out.c0, Xs.out.c1, Xs.out.c2, Xd.out.c0, Xd.out.c1, Xd.out.c2, Xp.out.c0, Xp.out.c1, Xp.out.c2, Xq.out.c0, Xq.out.c1, Xq.out.c2⟩ ?_
    clear hK
    refine wpJ_on 10 rfl fun KJ hK => ?_
    go_simp
    refine (within20 (c := 0) (k := 103) HR22.out.1 D6.out (HB6.out.1.mono (by decide) (by decide)) (w_sub HV3.out.1 HV4.out.1 HB6.out.2) (by decide) (by decide) (wn_add HR22.out.2) (TB.out.below hbw)).mono ?_
    rintro e v23 ⟨rfl, hb23⟩
    replace Xx : Hid _ := Xx.out.below hb23
    replace Xy : Hid _ := Xy.out.below hb23
    replace Xv : Hid _ := Xv.out.below hb23
    replace Xu : Hid _ := Xu.out.below hb23
    replace Xs : Hid _ := Xs.out.below hb23
    replace Xd : Hid _ := Xd.out.below hb23
    replace Xp : Hid _ := Xp.out.below hb23
    replace Xq : Hid _ := Xq.out.below hb23
    replace D3 : Hid _ := D3.out.below hb23
    replace D4 : Hid _ := D4.out.below hb23
    replace D5 : Hid _ := D5.out.below hb23
    replace D6 : Hid _ := D6.out.below hb23
    replace D7 : Hid _ := D7.out.below hb23
    replace D8 : Hid _ := D8.out.below hb23
    replace hbw := Below.on hbw hb23
    clear hb23
    clear HJ
    have HJ : Hid ((fun W' : World => W'.cell? ⟨gx, 0, none⟩ = some (Fv h) ∧ W'.cell? ⟨gx, 1, none⟩ = some (Fv l) ∧ W'.cell? ⟨gy, 0, none⟩ = some (Fv h2) ∧ W'.cell? ⟨gy, 1, none⟩ = some (Fv l2) ∧ W'.cell? ⟨gs, 0, none⟩ = some (.bool s5) ∧ W'.cell? ⟨gs, 1, none⟩ = some (.slice p5 m5 m5) ∧ W'.cell? ⟨gs, 2, none⟩ = some (.int .i64 e5) ∧ W'.cell? ⟨gd, 0, none⟩ = some (.bool s6) ∧ W'.cell? ⟨gd, 1, none⟩ = some (.slice p6 m6 m6) ∧ W'.cell? ⟨gd, 2, none⟩ = some (.int .i64 e6) ∧ W'.cell? ⟨gp, 0, none⟩ = some (.bool s7) ∧ W'.cell? ⟨gp, 1, none⟩ = some (.slice p7 m7 m7) ∧ W'.cell? ⟨gp, 2, none⟩ = some (.int .i64 e7) ∧ W'.cell? ⟨gq, 0, none⟩ = some (.bool s8) ∧ W'.cell? ⟨gq, 1, none⟩ = some (.slice p8 m8 m8) ∧ W'.cell? ⟨gq, 2, none⟩ = some (.int .i64 e8)) v23) := ⟨Xx.out.c0, Xx.out.c1, Xy.out.c0, Xy.out.c1, Xs.out.c0, Xs.out.c1, Xs.out.c2, Xd.out.c0, Xd.out.c1, Xd.out.c2, Xp.out.c0, Xp.out.c1, Xp.out.c2, Xq.out.c0, Xq.out.c1, Xq.out.c2⟩
    refine hK _ _ HJ.out ?_
    clear hK
    refine wpJ_tq 11 rfl HJ.out ?_
    refine wpJ_tq 12 rfl HJ.out ?_
    refine wpJ_tq 13 rfl HJ.out ?_
    refine wpJ_tq 14 rfl HJ.out ?_
    refine wpJ_tq 16 rfl HJ.out ?_
    refine wpJ_on 15 rfl fun KJ hK => ?_
    go_simp
    refine (ddMul_f HC2.out.1 HC9.out.1 HC2.out.2 HC9.out.2 _).mono ?_
    rintro e v24 ⟨s24, r24, rfl, hd24, hq24, hb24⟩
    have HR24 := Hid.mk9 (And.intro hd24 hq24)
    clear hd24 hq24
    replace Xx : Hid _ := Xx.out.below hb24
    replace Xy : Hid _ := Xy.out.below hb24
    replace Xv : Hid _ := Xv.out.below hb24
    replace Xu : Hid _ := Xu.out.below hb24
    replace Xs : Hid _ := Xs.out.below hb24
    replace Xd : Hid _ := Xd.out.below hb24
    replace Xp : Hid _ := Xp.out.below hb24
    replace Xq : Hid _ := Xq.out.below hb24
    replace D3 : Hid _ := D3.out.below hb24
    replace D4 : Hid _ := D4.out.below hb24
    replace D5 : Hid _ := D5.out.below hb24
    replace D6 : Hid _ := D6.out.below hb24
    replace D7 : Hid _ := D7.out.below hb24
    replace D8 : Hid _ := D8.out.below hb24
    replace hbw := Below.on hbw hb24
    clear hb24
    refine hK _ _ ⟨Xx.out.c0, Xx.out.c1, Xy.out.c0, Xy.out.c1, Xs.out.c0, Xs.out.c1, Xs.out.c2, Xd.out.c0, Xd.out.c1, Xd.out.c2, Xp.out.c0, Xp.out.c1, Xp.out.c2, Xq.out.c0, Xq.out.c1, Xq.out.c2⟩ ?_
    clear hK
    refine wpJ_on 17 rfl fun KJ hK => ?_
    go_simp
    refine (within20 (c := OneE) (k := 102) HR24.out.1 D7.out (HB7.out.1.mono (by decide) (by decide)) (w_mul HV3.out.1 HV4.out.1 (by have h1 := HV3.out.2.lo; have h2 := HV4.out.2.lo; omega) (by have h1 := HV3.out.2.lo; have h2 := HV4.out.2.lo; omega) HB7.out.2) (by decide) (by decide) (wn_mul HR24.out.2) (TB.out.below hbw)).mono ?_
    rintro e v25 ⟨rfl, hb25⟩
    replace Xx : Hid _ := Xx.out.below hb25
    replace Xy : Hid _ := Xy.out.below hb25
    replace Xv : Hid _ := Xv.out.below hb25
    replace Xu : Hid _ := Xu.out.below hb25
    replace Xs : Hid _ := Xs.out.below hb25
    replace Xd : Hid _ := Xd.out.below hb25
    replace Xp : Hid _ := Xp.out.below hb25
    replace Xq : Hid _ := Xq.out.below hb25
    replace D3 : Hid _ := D3.out.below hb25
    replace D4 : Hid _ := D4.out.below hb25
    replace D5 : Hid _ := D5.out.below hb25
    replace D6 : Hid _ := D6.out.below hb25
    replace D7 : Hid _ := D7.out.below hb25
    replace D8 : Hid _ := D8.out.below hb25
    replace hbw := Below.on hbw hb25
    clear hb25
    clear HJ
    have HJ : Hid ((fun W' : World => W'.cell? ⟨gx, 0, none⟩ = some (Fv h) ∧ W'.cell? ⟨gx, 1, none⟩ = some (Fv l) ∧ W'.cell? ⟨gy, 0, none⟩ = some (Fv h2) ∧ W'.cell? ⟨gy, 1, none⟩ = some (Fv l2) ∧ W'.cell? ⟨gs, 0, none⟩ = some (.bool s5) ∧ W'.cell? ⟨gs, 1, none⟩ = some (.slice p5 m5 m5) ∧ W'.cell? ⟨gs, 2, none⟩ = some (.int .i64 e5) ∧ W'.cell? ⟨gd, 0, none⟩ = some (.bool s6) ∧ W'.cell? ⟨gd, 1, none⟩ = some (.slice p6 m6 m6) ∧ W'.cell? ⟨gd, 2, none⟩ = some (.int .i64 e6) ∧ W'.cell? ⟨gp, 0, none⟩ = some (.bool s7) ∧ W'.cell? ⟨gp, 1, none⟩ = some (.slice p7 m7 m7) ∧ W'.cell? ⟨gp, 2, none⟩ = some (.int .i64 e7) ∧ W'.cell? ⟨gq, 0, none⟩ = some (.bool s8) ∧ W'.cell? ⟨gq, 1, none⟩ = some (.slice p8 m8 m8) ∧ W'.cell? ⟨gq, 2, none⟩ = some (.int .i64 e8)) v25) := ⟨Xx.out.c0, Xx.out.c1, Xy.out.c0, Xy.out.c1, Xs.out.c0, Xs.out.c1, Xs.out.c2, Xd.out.c0, Xd.out.c1, Xd.out.c2, Xp.out.c0, Xp.out.c1, Xp.out.c2, Xq.out.c0, Xq.out.c1, Xq.out.c2⟩
    refine hK _ _ HJ.out ?_
    clear hK
    refine wpJ_tq 18 rfl HJ.out ?_
    refine wpJ_tq 19 rfl HJ.out ?_
    refine wpJ_tq 20 rfl HJ.out ?_
    refine wpJ_tq 22 rfl HJ.out ?_
    refine wpJ_on 21 rfl fun KJ hK => ?_
    go_simp
    refine (ddSqr_f HC2.out.1 HC2.out.2 _).mono ?_
    rintro e v26 ⟨s26, r26, rfl, hd26, hq26, hb26⟩
    have HR26 := Hid.mk9 (And.intro hd26 hq26)
    clear hd26 hq26
    replace Xx : Hid _ := Xx.out.below hb26
    replace Xy : Hid _ := Xy.out.below hb26
    replace Xv : Hid _ := Xv.out.below hb26
    replace Xu : Hid _ := Xu.out.below hb26
    replace Xs : Hid _ := Xs.out.below hb26
    replace Xd : Hid _ := Xd.out.below hb26
    replace Xp : Hid _ := Xp.out.below hb26
    replace Xq : Hid _ := Xq.out.below hb26
    replace D3 : Hid _ := D3.out.below hb26
    replace D4 : Hid _ := D4.out.below hb26
    replace D5 : Hid _ := D5.out.below hb26
    replace D6 : Hid _ := D6.out.below hb26
    replace D7 : Hid _ := D7.out.below hb26
    replace D8 : Hid _ := D8.out.below hb26
    replace hbw := Below.on hbw hb26
    clear hb26
    refine hK _ _ ⟨Xx.out.c0, Xx.out.c1, Xy.out.c0, Xy.out.c1, Xs.out.c0, Xs.out.c1, Xs.out.c2, Xd.out.c0, Xd.out.c1, Xd.out.c2, Xp.out.c0, Xp.out.c1, Xp.out.c2, Xq.out.c0, Xq.out.c1, Xq.out.c2⟩ ?_
    clear hK
    refine wpJ_on 23 rfl fun KJ hK => ?_
    go_simp
    refine (within20 (c := OneE) (k := 102) HR26.out.1 D8.out (HB8.out.1.mono (by decide) (by decide)) (w_mul HV3.out.1 HV3.out.1 (by have h1 := HV3.out.2.lo; have h2 := HV4.out.2.lo; omega) (by have h1 := HV3.out.2.lo; have h2 := HV4.out.2.lo; omega) HB8.out.2) (by decide) (by decide) (wn_mul HR26.out.2) (TB.out.below hbw)).mono ?_
    rintro e v27 ⟨rfl, hb27⟩
    replace Xx : Hid _ := Xx.out.below hb27
    replace Xy : Hid _ := Xy.out.below hb27
    replace Xv : Hid _ := Xv.out.below hb27
    replace Xu : Hid _ := Xu.out.below hb27
    replace Xs : Hid _ := Xs.out.below hb27
    replace Xd : Hid _ := Xd.out.below hb27
    replace Xp : Hid _ := Xp.out.below hb27
    replace Xq : Hid _ := Xq.out.below hb27
    replace D3 : Hid _ := D3.out.below hb27
    replace D4 : Hid _ := D4.out.below hb27
    replace D5 : Hid _ := D5.out.below hb27
    replace D6 : Hid _ := D6.out.below hb27
    replace D7 : Hid _ := D7.out.below hb27
    replace D8 : Hid _ := D8.out.below hb27
    replace hbw := Below.on hbw hb27
    clear hb27
    clear HJ
    have HJ : Hid ((fun W' : World => W'.cell? ⟨gx, 0, none⟩ = some (Fv h) ∧ W'.cell? ⟨gx, 1, none⟩ = some (Fv l) ∧ W'.cell? ⟨gy, 0, none⟩ = some (Fv h2) ∧ W'.cell? ⟨gy, 1, none⟩ = some (Fv l2) ∧ W'.cell? ⟨gs, 0, none⟩ = some (.bool s5) ∧ W'.cell? ⟨gs, 1, none⟩ = some (.slice p5 m5 m5) ∧ W'.cell? ⟨gs, 2, none⟩ = some (.int .i64 e5) ∧ W'.cell? ⟨gd, 0, none⟩ = some (.bool s6) ∧ W'.cell? ⟨gd, 1, none⟩ = some (.slice p6 m6 m6) ∧ W'.cell? ⟨gd, 2, none⟩ = some (.int .i64 e6) ∧ W'.cell? ⟨gp, 0, none⟩ = some (.bool s7) ∧ W'.cell? ⟨gp, 1, none⟩ = some (.slice p7 m7 m7) ∧ W'.cell? ⟨gp, 2, none⟩ = some (.int .i64 e7) ∧ W'.cell? ⟨gq, 0, none⟩ = some (.bool s8) ∧ W'.cell? ⟨gq, 1, none⟩ = some (.slice p8 m8 m8) ∧ W'.cell? ⟨gq, 2, none⟩ = some (.int .i64 e8)) v27) := ⟨Xx.out.c0, Xx.out.c1, Xy.out.c0, Xy.out.c1, Xs.out.c0, Xs.out.c1, Xs.out.c2, Xd.out.c0, Xd.out.c1, Xd.out.c2, Xp.out.c0, Xp.out.c1, Xp.out.c2, Xq.out.c0, Xq.out.c1, Xq.out.c2⟩
    refine hK _ _ HJ.out ?_
    clear hK
    refine wpJ_tq 24 rfl HJ.out ?_
    refine wpJ_tq 25 rfl HJ.out ?_
    refine wpJ_done (by kernel_rfl) ?_ _
    clear HJ
    go_wp2_with fail
    go_ret
    exact ⟨rfl, hbw⟩
  have N2x : ∀ (gx : Nat) (W' : World), Box W' ga (.int .u64 (h : Int)) (.int .u64 (l : Int)) ∧ Box W' gb (.int .u64 (h2 : Int)) (.int .u64 (l2 : Int)) ∧ Below w.heap.size w W' ∧ Box W' gx (Fv 0) (Fv 0) ∧ w.heap.size ≤ gx ∧ gx ≠ ga ∧ gx ≠ gb → WP 3 (((L0.setIfInBounds 1 true).setIfInBounds 3 true).setIfInBounds 4 true) (((a0.put (some 30) (.agg #[Fv h, Fv l])).put (some 32) (.agg #[Fv h2, Fv l2])).put (some 5) (.pointer (some ⟨gx, 0, none⟩))) W' := by
    rintro gx W' ⟨xa, xb, hbw, xx, hgx, dxa, dxb⟩
    subst hWP hL ha
    have Hxa := Hid.mk9 xa
    have Hxb := Hid.mk9 xb
    have Hxx := Hid.mk9 xx
    have Hhgx := Hid.mk9 hgx
    have Hdxa := Hid.mk9 dxa
    have Hdxb := Hid.mk9 dxb
    clear xa xb xx hgx dxa dxb
    go_simp
    refine wpJ_on 5 rfl fun KJ hK => ?_
    go_simp
    have hb := below1 W' (.cells #[Fv 0, Fv 0] 32)
    refine hK _ _ ⟨(Hxa.out.below hb).c0, (Hxa.out.below hb).c1, (Hxb.out.below hb).c0, (Hxb.out.below hb).c1⟩ ?_
    exact wpJ_same (by kernel_rfl) (by kernel_rfl) (N2xy gx W'.heap.size _ ⟨(Hxa.out.below hb), (Hxb.out.below hb), (Below.on hbw hb), (Hxx.out.below hb), Hhgx.out, Hdxa.out, Hdxb.out, (Box.new W' _ _ _), hbw.size, (Nat.ne_of_gt Hxa.out.lt), (Nat.ne_of_gt Hxb.out.lt), (Nat.ne_of_lt Hxx.out.lt)⟩)
  have N2y : ∀ (gy : Nat) (W' : World), Box W' ga (.int .u64 (h : Int)) (.int .u64 (l : Int)) ∧ Box W' gb (.int .u64 (h2 : Int)) (.int .u64 (l2 : Int)) ∧ Below w.heap.size w W' ∧ Box W' gy (Fv 0) (Fv 0) ∧ w.heap.size ≤ gy ∧ gy ≠ ga ∧ gy ≠ gb → WP 3 (((L0.setIfInBounds 1 true).setIfInBounds 3 true).setIfInBounds 5 true) (((a0.put (some 30) (.agg #[Fv h, Fv l])).put (some 32) (.agg #[Fv h2, Fv l2])).put (some 6) (.pointer (some ⟨gy, 0, none⟩))) W' := by
    rintro gy W' ⟨xa, xb, hbw, xy, hgy, dya, dyb⟩
    subst hWP hL ha
    have Hxa := Hid.mk9 xa
    have Hxb := Hid.mk9 xb
    have Hxy := Hid.mk9 xy
    have Hhgy := Hid.mk9 hgy
    have Hdya := Hid.mk9 dya
    have Hdyb := Hid.mk9 dyb
    clear xa xb xy hgy dya dyb
    go_simp
    refine wpJ_on 4 rfl fun KJ hK => ?_
    go_simp
    have hb := below1 W' (.cells #[Fv 0, Fv 0] 32)
    refine hK _ _ ⟨(Hxa.out.below hb).c0, (Hxa.out.below hb).c1, (Hxb.out.below hb).c0, (Hxb.out.below hb).c1⟩ ?_
    exact wpJ_same (by kernel_rfl) (by kernel_rfl) (N2xy W'.heap.size gy _ ⟨(Hxa.out.below hb), (Hxb.out.below hb), (Below.on hbw hb), (Box.new W' _ _ _), hbw.size, (Nat.ne_of_gt Hxa.out.lt), (Nat.ne_of_gt Hxb.out.lt), (Hxy.out.below hb), Hhgy.out, Hdya.out, Hdyb.out, (Nat.ne_of_gt Hxy.out.lt)⟩)
  have N2 : ∀ (W' : World), Box W' ga (.int .u64 (h : Int)) (.int .u64 (l : Int)) ∧ Box W' gb (.int .u64 (h2 : Int)) (.int .u64 (l2 : Int)) ∧ Below w.heap.size w W' → WP 4 ((L0.setIfInBounds 1 true).setIfInBounds 3 true) ((a0.put (some 30) (.agg #[Fv h, Fv l])).put (some 32) (.agg #[Fv h2, Fv l2])) W' := by
    rintro  W' ⟨xa, xb, hbw⟩
    subst hWP hL ha
    have Hxa := Hid.mk9 xa
    have Hxb := Hid.mk9 xb
    clear xa xb
    go_simp
    refine wpJ_two (i := 4) (k := 5) (by kernel_rfl) rfl rfl (by kernel_rfl) (by kernel_rfl) (fun KJ hK => ?_) (fun KJ hK => ?_)
    · go_simp
      have hb := below1 W' (.cells #[Fv 0, Fv 0] 32)
      refine hK _ _ ⟨(Hxa.out.below hb).c0, (Hxa.out.below hb).c1, (Hxb.out.below hb).c0, (Hxb.out.below hb).c1⟩ ?_
      exact wpJ_same (by kernel_rfl) (by kernel_rfl) (N2x W'.heap.size _ ⟨(Hxa.out.below hb), (Hxb.out.below hb), (Below.on hbw hb), (Box.new W' _ _ _), hbw.size, (Nat.ne_of_gt Hxa.out.lt), (Nat.ne_of_gt Hxb.out.lt)⟩)
    · go_simp
      have hb := below1 W' (.cells #[Fv 0, Fv 0] 32)
      refine hK _ _ ⟨(Hxa.out.below hb).c0, (Hxa.out.below hb).c1, (Hxb.out.below hb).c0, (Hxb.out.below hb).c1⟩ ?_
      exact wpJ_same (by kernel_rfl) (by kernel_rfl) (N2y W'.heap.size _ ⟨(Hxa.out.below hb), (Hxb.out.below hb), (Below.on hbw hb), (Box.new W' _ _ _), hbw.size, (Nat.ne_of_gt Hxa.out.lt), (Nat.ne_of_gt Hxb.out.lt)⟩)
  have N1xy : ∀ (gx : Nat) (gy : Nat) (W' : World), Box W' ga (.int .u64 (h : Int)) (.int .u64 (l : Int)) ∧ Box W' gb (.int .u64 (h2 : Int)) (.int .u64 (l2 : Int)) ∧ Below w.heap.size w W' ∧ Box W' gx (Fv 0) (Fv 0) ∧ w.heap.size ≤ gx ∧ gx ≠ ga ∧ gx ≠ gb ∧ Box W' gy (Fv 0) (Fv 0) ∧ w.heap.size ≤ gy ∧ gy ≠ ga ∧ gy ≠ gb ∧ gx ≠ gy → WP 3 (((L0.setIfInBounds 1 true).setIfInBounds 4 true).setIfInBounds 5 true) (((a0.put (some 30) (.agg #[Fv h, Fv l])).put (some 5) (.pointer (some ⟨gx, 0, none⟩))).put (some 6) (.pointer (some ⟨gy, 0, none⟩))) W' := by
    rintro gx gy W' ⟨xa, xb, hbw, xx, hgx, dxa, dxb, xy, hgy, dya, dyb, dd⟩
    subst hWP hL ha
    have Hxa := Hid.mk9 xa
    have Hxb := Hid.mk9 xb
    have Hxx := Hid.mk9 xx
    have Hhgx := Hid.mk9 hgx
    have Hdxa := Hid.mk9 dxa
    have Hdxb := Hid.mk9 dxb
    have Hxy := Hid.mk9 xy
    have Hhgy := Hid.mk9 hgy
    have Hdya := Hid.mk9 dya
    have Hdyb := Hid.mk9 dyb
    have Hdd := Hid.mk9 dd
    clear xa xb xx hgx dxa dxb xy hgy dya dyb dd
    go_simp
    refine wpJ_on 3 rfl fun KJ hK => ?_
    go_simp
    refine (P2 _).mono ?_
    rintro e W2 ⟨rfl, hb⟩
    refine hK _ _ ⟨(Hxa.out.below hb).c0, (Hxa.out.below hb).c1, (Hxb.out.below hb).c0, (Hxb.out.below hb).c1⟩ ?_
    exact wpJ_same (by kernel_rfl) (by kernel_rfl) (N2xy gx gy W2 ⟨(Hxa.out.below hb), (Hxb.out.below hb), (Below.on hbw hb), (Hxx.out.below hb), Hhgx.out, Hdxa.out, Hdxb.out, (Hxy.out.below hb), Hhgy.out, Hdya.out, Hdyb.out, Hdd.out⟩)
  have N1x : ∀ (gx : Nat) (W' : World), Box W' ga (.int .u64 (h : Int)) (.int .u64 (l : Int)) ∧ Box W' gb (.int .u64 (h2 : Int)) (.int .u64 (l2 : Int)) ∧ Below w.heap.size w W' ∧ Box W' gx (Fv 0) (Fv 0) ∧ w.heap.size ≤ gx ∧ gx ≠ ga ∧ gx ≠ gb → WP 4 ((L0.setIfInBounds 1 true).setIfInBounds 4 true) ((a0.put (some 30) (.agg #[Fv h, Fv l])).put (some 5) (.pointer (some ⟨gx, 0, none⟩))) W' := by
    rintro gx W' ⟨xa, xb, hbw, xx, hgx, dxa, dxb⟩
    subst hWP hL ha
    have Hxa := Hid.mk9 xa
    have Hxb := Hid.mk9 xb
    have Hxx := Hid.mk9 xx
    have Hhgx := Hid.mk9 hgx
    have Hdxa := Hid.mk9 dxa
    have Hdxb := Hid.mk9 dxb
    clear xa xb xx hgx dxa dxb
    go_simp
    refine wpJ_two (i := 3) (k := 5) (by kernel_rfl) rfl rfl (by kernel_rfl) (by kernel_rfl) (fun KJ hK => ?_) (fun KJ hK => ?_)
    · go_simp
      refine (P2 _).mono ?_
      rintro e W2 ⟨rfl, hb⟩
      refine hK _ _ ⟨(Hxa.out.below hb).c0, (Hxa.out.below hb).c1, (Hxb.out.below hb).c0, (Hxb.out.below hb).c1⟩ ?_
      exact wpJ_same (by kernel_rfl) (by kernel_rfl) (N2x gx W2 ⟨(Hxa.out.below hb), (Hxb.out.below hb), (Below.on hbw hb), (Hxx.out.below hb), Hhgx.out, Hdxa.out, Hdxb.out⟩)
    · go_simp
      have hb := below1 W' (.cells #[Fv 0, Fv 0] 32)
      refine hK _ _ ⟨(Hxa.out.below hb).c0, (Hxa.out.below hb).c1, (Hxb.out.below hb).c0, (Hxb.out.below hb).c1⟩ ?_
      exact wpJ_same (by kernel_rfl) (by kernel_rfl) (N1xy gx W'.heap.size _ ⟨(Hxa.out.below hb), (Hxb.out.below hb), (Below.on hbw hb), (Hxx.out.below hb), Hhgx.out, Hdxa.out, Hdxb.out, (Box.new W' _ _ _), hbw.size, (Nat.ne_of_gt Hxa.out.lt), (Nat.ne_of_gt Hxb.out.lt), (Nat.ne_of_lt Hxx.out.lt)⟩)
  have N1y : ∀ (gy : Nat) (W' : World), Box W' ga (.int .u64 (h : Int)) (.int .u64 (l : Int)) ∧ Box W' gb (.int .u64 (h2 : Int)) (.int .u64 (l2 : Int)) ∧ Below w.heap.size w W' ∧ Box W' gy (Fv 0) (Fv 0) ∧ w.heap.size ≤ gy ∧ gy ≠ ga ∧ gy ≠ gb → WP 4 ((L0.setIfInBounds 1 true).setIfInBounds 5 true) ((a0.put (some 30) (.agg #[Fv h, Fv l])).put (some 6) (.pointer (some ⟨gy, 0, none⟩))) W' := by
    rintro gy W' ⟨xa, xb, hbw, xy, hgy, dya, dyb⟩
    subst hWP hL ha
    have Hxa := Hid.mk9 xa
    have Hxb := Hid.mk9 xb
    have Hxy := Hid.mk9 xy
    have Hhgy := Hid.mk9 hgy
    have Hdya := Hid.mk9 dya
    have Hdyb := Hid.mk9 dyb
    clear xa xb xy hgy dya dyb
    go_simp
    refine wpJ_two (i := 3) (k := 4) (by kernel_rfl) rfl rfl (by kernel_rfl) (by kernel_rfl) (fun KJ hK => ?_) (fun KJ hK => ?_)
    · go_simp
      refine (P2 _).mono ?_
      rintro e W2 ⟨rfl, hb⟩
      refine hK _ _ ⟨(Hxa.out.below hb).c0, (Hxa.out.below hb).c1, (Hxb.out.below hb).c0, (Hxb.out.below hb).c1⟩ ?_
      exact wpJ_same (by kernel_rfl) (by kernel_rfl) (N2y gy W2 ⟨(Hxa.out.below hb), (Hxb.out.below hb), (Below.on hbw hb), (Hxy.out.below hb), Hhgy.out, Hdya.out, Hdyb.out⟩)
    · go_simp
      have hb := below1 W' (.cells #[Fv 0, Fv 0] 32)
      refine hK _ _ ⟨(Hxa.out.below hb).c0, (Hxa.out.below hb).c1, (Hxb.out.below hb).c0, (Hxb.out.below hb).c1⟩ ?_
      exact wpJ_same (by kernel_rfl) (by kernel_rfl) (N1xy W'.heap.size gy _ ⟨(Hxa.out.below hb), (Hxb.out.below hb), (Below.on hbw hb), (Box.new W' _ _ _), hbw.size, (Nat.ne_of_gt Hxa.out.lt), (Nat.ne_of_gt Hxb.out.lt), (Hxy.out.below hb), Hhgy.out, Hdya.out, Hdyb.out, (Nat.ne_of_gt Hxy.out.lt)⟩)
  have N1 : ∀ (W' : World), Box W' ga (.int .u64 (h : Int)) (.int .u64 (l : Int)) ∧ Box W' gb (.int .u64 (h2 : Int)) (.int .u64 (l2 : Int)) ∧ Below w.heap.size w W' → WP 5 (L0.setIfInBounds 1 true) (a0.put (some 30) (.agg #[Fv h, Fv l])) W' := by
    rintro  W' ⟨xa, xb, hbw⟩
    subst hWP hL ha
    have Hxa := Hid.mk9 xa
    have Hxb := Hid.mk9 xb
    clear xa xb
    go_simp
    refine wpJ_three (i := 3) (k := 4) (l := 5) (by kernel_rfl) rfl rfl rfl (by kernel_rfl) (by kernel_rfl) (by kernel_rfl) (fun KJ hK => ?_) (fun KJ hK => ?_) (fun KJ hK => ?_)
    · go_simp
      refine (P2 _).mono ?_
      rintro e W2 ⟨rfl, hb⟩
      refine hK _ _ ⟨(Hxa.out.below hb).c0, (Hxa.out.below hb).c1, (Hxb.out.below hb).c0, (Hxb.out.below hb).c1⟩ ?_
      exact wpJ_same (by kernel_rfl) (by kernel_rfl) (N2  W2 ⟨(Hxa.out.below hb), (Hxb.out.below hb), (Below.on hbw hb)⟩)
    · go_simp
      have hb := below1 W' (.cells #[Fv 0, Fv 0] 32)
      refine hK _ _ ⟨(Hxa.out.below hb).c0, (Hxa.out.below hb).c1, (Hxb.out.below hb).c0, (Hxb.out.below hb).c1⟩ ?_
      exact wpJ_same (by kernel_rfl) (by kernel_rfl) (N1x W'.heap.size _ ⟨(Hxa.out.below hb), (Hxb.out.below hb), (Below.on hbw hb), (Box.new W' _ _ _), hbw.size, (Nat.ne_of_gt Hxa.out.lt), (Nat.ne_of_gt Hxb.out.lt)⟩)
    · go_simp
      have hb := below1 W' (.cells #[Fv 0, Fv 0] 32)
      refine hK _ _ ⟨(Hxa.out.below hb).c0, (Hxa.out.below hb).c1, (Hxb.out.below hb).c0, (Hxb.out.below hb).c1⟩ ?_
      exact wpJ_same (by kernel_rfl) (by kernel_rfl) (N1y W'.heap.size _ ⟨(Hxa.out.below hb), (Hxb.out.below hb), (Below.on hbw hb), (Box.new W' _ _ _), hbw.size, (Nat.ne_of_gt Hxa.out.lt), (Nat.ne_of_gt Hxb.out.lt)⟩)
  have N0xy : ∀ (gx : Nat) (gy : Nat) (W' : World), Box W' ga (.int .u64 (h : Int)) (.int .u64 (l : Int)) ∧ Box W' gb (.int .u64 (h2 : Int)) (.int .u64 (l2 : Int)) ∧ Below w.heap.size w W' ∧ Box W' gx (Fv 0) (Fv 0) ∧ w.heap.size ≤ gx ∧ gx ≠ ga ∧ gx ≠ gb ∧ Box W' gy (Fv 0) (Fv 0) ∧ w.heap.size ≤ gy ∧ gy ≠ ga ∧ gy ≠ gb ∧ gx ≠ gy → WP 4 ((L0.setIfInBounds 4 true).setIfInBounds 5 true) ((a0.put (some 5) (.pointer (some ⟨gx, 0, none⟩))).put (some 6) (.pointer (some ⟨gy, 0, none⟩))) W' := by
    rintro gx gy W' ⟨xa, xb, hbw, xx, hgx, dxa, dxb, xy, hgy, dya, dyb, dd⟩
    subst hWP hL ha
    have Hxa := Hid.mk9 xa
    have Hxb := Hid.mk9 xb
    have Hxx := Hid.mk9 xx
    have Hhgx := Hid.mk9 hgx
    have Hdxa := Hid.mk9 dxa
    have Hdxb := Hid.mk9 dxb
    have Hxy := Hid.mk9 xy
    have Hhgy := Hid.mk9 hgy
    have Hdya := Hid.mk9 dya
    have Hdyb := Hid.mk9 dyb
    have Hdd := Hid.mk9 dd
    clear xa xb xx hgx dxa dxb xy hgy dya dyb dd
    go_simp
    refine wpJ_on 1 rfl fun KJ hK => ?_
    go_simp
    refine (P1 _).mono ?_
    rintro e W2 ⟨rfl, hb⟩
    refine hK _ _ ⟨(Hxa.out.below hb).c0, (Hxa.out.below hb).c1, (Hxb.out.below hb).c0, (Hxb.out.below hb).c1⟩ ?_
    exact wpJ_same (by kernel_rfl) (by kernel_rfl) (N1xy gx gy W2 ⟨(Hxa.out.below hb), (Hxb.out.below hb), (Below.on hbw hb), (Hxx.out.below hb), Hhgx.out, Hdxa.out, Hdxb.out, (Hxy.out.below hb), Hhgy.out, Hdya.out, Hdyb.out, Hdd.out⟩)
  have N0x : ∀ (gx : Nat) (W' : World), Box W' ga (.int .u64 (h : Int)) (.int .u64 (l : Int)) ∧ Box W' gb (.int .u64 (h2 : Int)) (.int .u64 (l2 : Int)) ∧ Below w.heap.size w W' ∧ Box W' gx (Fv 0) (Fv 0) ∧ w.heap.size ≤ gx ∧ gx ≠ ga ∧ gx ≠ gb → WP 5 (L0.setIfInBounds 4 true) (a0.put (some 5) (.pointer (some ⟨gx, 0, none⟩))) W' := by
    rintro gx W' ⟨xa, xb, hbw, xx, hgx, dxa, dxb⟩
    subst hWP hL ha
    have Hxa := Hid.mk9 xa
    have Hxb := Hid.mk9 xb
    have Hxx := Hid.mk9 xx
    have Hhgx := Hid.mk9 hgx
    have Hdxa := Hid.mk9 dxa
    have Hdxb := Hid.mk9 dxb
    clear xa xb xx hgx dxa dxb
    go_simp
    refine wpJ_two (i := 1) (k := 5) (by kernel_rfl) rfl rfl (by kernel_rfl) (by kernel_rfl) (fun KJ hK => ?_) (fun KJ hK => ?_)
    · go_simp
      refine (P1 _).mono ?_
      rintro e W2 ⟨rfl, hb⟩
      refine hK _ _ ⟨(Hxa.out.below hb).c0, (Hxa.out.below hb).c1, (Hxb.out.below hb).c0, (Hxb.out.below hb).c1⟩ ?_
      exact wpJ_same (by kernel_rfl) (by kernel_rfl) (N1x gx W2 ⟨(Hxa.out.below hb), (Hxb.out.below hb), (Below.on hbw hb), (Hxx.out.below hb), Hhgx.out, Hdxa.out, Hdxb.out⟩)
    · go_simp
      have hb := below1 W' (.cells #[Fv 0, Fv 0] 32)
      refine hK _ _ ⟨(Hxa.out.below hb).c0, (Hxa.out.below hb).c1, (Hxb.out.below hb).c0, (Hxb.out.below hb).c1⟩ ?_
      exact wpJ_same (by kernel_rfl) (by kernel_rfl) (N0xy gx W'.heap.size _ ⟨(Hxa.out.below hb), (Hxb.out.below hb), (Below.on hbw hb), (Hxx.out.below hb), Hhgx.out, Hdxa.out, Hdxb.out, (Box.new W' _ _ _), hbw.size, (Nat.ne_of_gt Hxa.out.lt), (Nat.ne_of_gt Hxb.out.lt), (Nat.ne_of_lt Hxx.out.lt)⟩)
  have N0y : ∀ (gy : Nat) (W' : World), Box W' ga (.int .u64 (h : Int)) (.int .u64 (l : Int)) ∧ Box W' gb (.int .u64 (h2 : Int)) (.int .u64 (l2 : Int)) ∧ Below w.heap.size w W' ∧ Box W' gy (Fv 0) (Fv 0) ∧ w.heap.size ≤ gy ∧ gy ≠ ga ∧ gy ≠ gb → WP 5 (L0.setIfInBounds 5 true) (a0.put (some 6) (.pointer (some ⟨gy, 0, none⟩))) W' := by
    rintro gy W' ⟨xa, xb, hbw, xy, hgy, dya, dyb⟩
    subst hWP hL ha
    have Hxa := Hid.mk9 xa
    have Hxb := Hid.mk9 xb
    have Hxy := Hid.mk9 xy
    have Hhgy := Hid.mk9 hgy
    have Hdya := Hid.mk9 dya
    have Hdyb := Hid.mk9 dyb
    clear xa xb xy hgy dya dyb
    go_simp
    refine wpJ_two (i := 1) (k := 4) (by kernel_rfl) rfl rfl (by kernel_rfl) (by kernel_rfl) (fun KJ hK => ?_) (fun KJ hK => ?_)
    · go_simp
      refine (P1 _).mono ?_
      rintro e W2 ⟨rfl, hb⟩
      refine hK _ _ ⟨(Hxa.out.below hb).c0, (Hxa.out.below hb).c1, (Hxb.out.below hb).c0, (Hxb.out.below hb).c1⟩ ?_
      exact wpJ_same (by kernel_rfl) (by kernel_rfl) (N1y gy W2 ⟨(Hxa.out.below hb), (Hxb.out.below hb), (Below.on hbw hb), (Hxy.out.below hb), Hhgy.out, Hdya.out, Hdyb.out⟩)
    · go_simp
      have hb := below1 W' (.cells #[Fv 0, Fv 0] 32)
      refine hK _ _ ⟨(Hxa.out.below hb).c0, (Hxa.out.below hb).c1, (Hxb.out.below hb).c0, (Hxb.out.below hb).c1⟩ ?_
      exact wpJ_same (by kernel_rfl) (by kernel_rfl) (N0xy W'.heap.size gy _ ⟨(Hxa.out.below hb), (Hxb.out.below hb), (Below.on hbw hb), (Box.new W' _ _ _), hbw.size, (Nat.ne_of_gt Hxa.out.lt), (Nat.ne_of_gt Hxb.out.lt), (Hxy.out.below hb), Hhgy.out, Hdya.out, Hdyb.out, (Nat.ne_of_gt Hxy.out.lt)⟩)
  have N0 : ∀ (W' : World), Box W' ga (.int .u64 (h : Int)) (.int .u64 (l : Int)) ∧ Box W' gb (.int .u64 (h2 : Int)) (.int .u64 (l2 : Int)) ∧ Below w.heap.size w W' → WP 6 L0 a0 W' := by
    rintro  W' ⟨xa, xb, hbw⟩
    subst hWP hL ha
    have Hxa := Hid.mk9 xa
    have Hxb := Hid.mk9 xb
    clear xa xb
    go_simp
    refine wpJ_three (i := 1) (k := 4) (l := 5) (by kernel_rfl) rfl rfl rfl (by kernel_rfl) (by kernel_rfl) (by kernel_rfl) (fun KJ hK => ?_) (fun KJ hK => ?_) (fun KJ hK => ?_)
    · go_simp
      refine (P1 _).mono ?_
      rintro e W2 ⟨rfl, hb⟩
      refine hK _ _ ⟨(Hxa.out.below hb).c0, (Hxa.out.below hb).c1, (Hxb.out.below hb).c0, (Hxb.out.below hb).c1⟩ ?_
      exact wpJ_same (by kernel_rfl) (by kernel_rfl) (N1  W2 ⟨(Hxa.out.below hb), (Hxb.out.below hb), (Below.on hbw hb)⟩)
    · go_simp
      have hb := below1 W' (.cells #[Fv 0, Fv 0] 32)
      refine hK _ _ ⟨(Hxa.out.below hb).c0, (Hxa.out.below hb).c1, (Hxb.out.below hb).c0, (Hxb.out.below hb).c1⟩ ?_
      exact wpJ_same (by kernel_rfl) (by kernel_rfl) (N0x W'.heap.size _ ⟨(Hxa.out.below hb), (Hxb.out.below hb), (Below.on hbw hb), (Box.new W' _ _ _), hbw.size, (Nat.ne_of_gt Hxa.out.lt), (Nat.ne_of_gt Hxb.out.lt)⟩)
    · go_simp
      have hb := below1 W' (.cells #[Fv 0, Fv 0] 32)
      refine hK _ _ ⟨(Hxa.out.below hb).c0, (Hxa.out.below hb).c1, (Hxb.out.below hb).c0, (Hxb.out.below hb).c1⟩ ?_
      exact wpJ_same (by kernel_rfl) (by kernel_rfl) (N0y W'.heap.size _ ⟨(Hxa.out.below hb), (Hxb.out.below hb), (Below.on hbw hb), (Box.new W' _ _ _), hbw.size, (Nat.ne_of_gt Hxa.out.lt), (Nat.ne_of_gt Hxb.out.lt)⟩)
  exact N0 V1 ⟨Xa.out, Xb.out, hbw⟩
theorem cmp_same20 {b s r : Nat} (d : DdF b 0) (e : DdF s r) (h : ux s + ux r = ux b + ux 0) : cmpD b 0 s r = 0 := by
  unfold cmpD
  rw [ddB_iff.2 d, ddB_iff.2 e, h]
  have q : compare (ux b + ux 0) (ux b + ux 0) = .eq := by
    show compareOfLessAndEq _ _ = _
    unfold compareOfLessAndEq
    rw [if_neg (by omega), if_pos rfl]
  rw [q]
  rfl
theorem ddFloats_w {h l b : Nat} (hh : h < 18446744073709551616) (hl : l < 18446744073709551616) (hb : b < 18446744073709551616) (w : World) (hT : Tab w) :
    Calls Tryz.prog 7 #[.agg #[.int .u64 (h : Int), .int .u64 (l : Int)], .int .u64 (b : Int)] w fun en w' => en = .returned (.bool true) ∧ Below w.heap.size w w' := by
  have hSF : ∀ (w : World) (a : Addr) (b : Nat), (store a (Fv b)).run Tryz.prog w = stored Tryz.prog w a (Fv b) .plain := stF
  have hbw : Below w.heap.size w w := Below.refl _ _
  have TB : Hid (Tab w) := hT
  have HL : Hid (h < 18446744073709551616 ∧ l < 18446744073709551616 ∧ b < 18446744073709551616) := ⟨hh, hl, hb⟩
  have P1 := lpair h l
  clear hT hh hl hb
  go_enter Tryz.func7, Tryz.ntmps7
  go_wp2_with fail
  obtain ⟨W0, hW0⟩ : ∃ W0, W0 = (w.alloc (.cells #[.int .u64 (h : Int), .int .u64 (l : Int)] 28)) := ⟨_, rfl⟩
  have Xa : Hid (Box W0 (w.heap.size) (.int .u64 (h : Int)) (.int .u64 (l : Int))) := by rw [hW0]; exact ⟨by go_simp, by go_simp, by go_simp, by go_simp⟩
  have hb0 : Below w.heap.size w W0 := by rw [hW0]; exact below1 w _
  rw [← hW0]
  clear hW0
  have hbw : Below w.heap.size w w := Below.refl _ _
  obtain ⟨ga, hga⟩ : ∃ g, g = w.heap.size := ⟨_, rfl⟩
  have HGa : Hid (w.heap.size ≤ ga) := by rw [hga]; show _ ≤ _; omega
  rw [← hga] at Xa
  try rw [← hga]
  clear hga
  replace hbw := Below.on hbw hb0
  clear hb0
  refine (awake20 _).mono ?_
  rintro e v1 ⟨rfl, hb1⟩
  replace Xa : Hid _ := Xa.out.below hb1
  replace hbw := Below.on hbw hb1
  clear hb1
  obtain ⟨ca0, ca1, fa0, fa1⟩ := Xa.out
  have hnea := Xa.out.lt
  go_wp2_with fail
  clear ca0 ca1 fa0 fa1 hnea
  refine (fit20q h l HL.out.1 HL.out.2.1 _).mono ?_
  rintro en v2 ⟨⟨r, rfl, hr⟩, hb2⟩
  replace Xa : Hid _ := Xa.out.below hb2
  replace hbw := Below.on hbw hb2
  clear hb2
  cases r
  · clear hr
    go_wp2_with fail
    go_ret
    exact ⟨rfl, hbw⟩
  have HC2 := Hid.mk9 (hr rfl)
  clear hr
  go_wp2_with fail
  refine (fitq20 b _).mono ?_
  rintro en v9 ⟨⟨r, rfl, hr⟩, hb9⟩
  replace Xa : Hid _ := Xa.out.below hb9
  replace hbw := Below.on hbw hb9
  clear hb9
  cases r
  · clear hr
    obtain ⟨ca0, ca1, fa0, fa1⟩ := Xa.out
    have hnea := Xa.out.lt
    go_wp2_with fail
    clear ca0 ca1 fa0 fa1 hnea
    go_ret
    exact ⟨rfl, hbw⟩
  have HC9 := Hid.mk9 (hr rfl)
  clear hr
  obtain ⟨ca0, ca1, fa0, fa1⟩ := Xa.out
  have hnea := Xa.out.lt
  go_wp2_with fail
  clear ca0 ca1 fa0 fa1 hnea
  refine (P1 _).mono ?_
  rintro e v3 ⟨rfl, hb3⟩
  replace Xa : Hid _ := Xa.out.below hb3
  replace hbw := Below.on hbw hb3
  clear hb3
  go_wp2_with fail
  refine (lfloat b _).mono ?_
  rintro e v9' ⟨rfl, hw⟩
  obtain rfl := hw.symm
  clear hw
  go_wp2_with fail
  have Xx0 : Hid (Box (v3.alloc (.cells #[Fv h, Fv l] 32)) v3.heap.size (Fv h) (Fv l)) := Box.new v3 _ _ _
  have hbn : Below v3.heap.size v3 (v3.alloc (.cells #[Fv h, Fv l] 32)) := below1 v3 _
  generalize v3.alloc (.cells #[Fv h, Fv l] 32) = Wx at *
  have HGx : Hid (w.heap.size ≤ v3.heap.size) := hbw.size
  replace Xa : Hid _ := Xa.out.below hbn
  replace hbw := Below.on hbw hbn
  clear hbn
  generalize v3.heap.size = gx at *
  have Xx := Xx0
  clear Xx0
  obtain ⟨cx0, cx1, fx0, fx1⟩ := Xx.out
  have hnex := Xx.out.lt
  go_wp2_with fail
  clear cx0 cx1 fx0 fx1 hnex
  refine (ddvalue h l (HC2.out.1) _ (TB.out.below hbw)).mono ?_
  rintro en v4 ⟨s4, p4, m4, z4, e4, rfl, hd4, hv4, hb4⟩
  have HV4 := Hid.mk9 (And.intro hv4 (db_val (HC2.out.1) hd4.fm hv4))
  clear hv4
  replace Xa : Hid _ := Xa.out.below hb4
  replace Xx : Hid _ := Xx.out.below hb4
  replace hbw := Below.on hbw hb4
  clear hb4
  have D4 : Hid (DN v4 s4 p4 m4 m4 e4 z4) := hd4.dn
  clear hd4
  go_wp2_with fail
  have Xv0 : Hid (B3q (v4.alloc (.cells #[.bool s4, .slice p4 m4 m4, .int .i64 e4] 38)) v4.heap.size (.bool s4) (.slice p4 m4 m4) (.int .i64 e4)) := B3q.new v4 _ _ _ _
  have hbn : Below v4.heap.size v4 (v4.alloc (.cells #[.bool s4, .slice p4 m4 m4, .int .i64 e4] 38)) := below1 v4 _
  generalize v4.alloc (.cells #[.bool s4, .slice p4 m4 m4, .int .i64 e4] 38) = Wv at *
  have HGv : Hid (w.heap.size ≤ v4.heap.size) := hbw.size
  replace Xa : Hid _ := Xa.out.below hbn
  replace Xx : Hid _ := Xx.out.below hbn
  replace D4 : Hid _ := D4.out.below hbn
  replace hbw := Below.on hbw hbn
  clear hbn
  generalize v4.heap.size = gv at *
  have Xv := Xv0
  clear Xv0
  go_wp2_with fail
  have HF : Hid (Fin64 b) := ⟨HL.out.2.2, by have := HC9.out.hi; omega⟩
  refine (ddOf HF.out _).mono ?_
  rintro e v5 ⟨rfl, hb5⟩
  replace Xa : Hid _ := Xa.out.below hb5
  replace Xx : Hid _ := Xx.out.below hb5
  replace Xv : Hid _ := Xv.out.below hb5
  replace D4 : Hid _ := D4.out.below hb5
  replace hbw := Below.on hbw hb5
  clear hb5
  go_wp2_with fail
  have HD0 : Hid (DdF b 0) := ddf_one HF.out HC9.out
  refine (ddvalue b 0 (HD0.out) _ (TB.out.below hbw)).mono ?_
  rintro en v6 ⟨s6, p6, m6, z6, e6, rfl, hd6, hv6, hb6⟩
  have HV6 := Hid.mk9 (And.intro hv6 (db_val (HD0.out) hd6.fm hv6))
  clear hv6
  replace Xa : Hid _ := Xa.out.below hb6
  replace Xx : Hid _ := Xx.out.below hb6
  replace Xv : Hid _ := Xv.out.below hb6
  replace D4 : Hid _ := D4.out.below hb6
  replace hbw := Below.on hbw hb6
  clear hb6
  have D6 : Hid (DN v6 s6 p6 m6 m6 e6 z6) := hd6.dn
  clear hd6
  have HV6b : Hid (dv z6 e6 = dv (ux b) (-1074) ∧ DB z6 e6 2100 3174) := by have := HV6.out; rw [ux_0, Int.add_zero] at this; exact this
  clear HV6
  obtain ⟨cv0, cv1, cv2, fv0, fv1, fv2⟩ := Xv.out
  have hnev : gv < v6.heap.size := World.block_lt_of_cell? v6 _ cv0
  go_wp2_with fail
  clear cv0 cv1 cv2 fv0 fv1 fv2 hnev
  have Xu0 : Hid (B3q (v6.alloc (.cells #[.bool s6, .slice p6 m6 m6, .int .i64 e6] 38)) v6.heap.size (.bool s6) (.slice p6 m6 m6) (.int .i64 e6)) := B3q.new v6 _ _ _ _
  have hbn : Below v6.heap.size v6 (v6.alloc (.cells #[.bool s6, .slice p6 m6 m6, .int .i64 e6] 38)) := below1 v6 _
  generalize v6.alloc (.cells #[.bool s6, .slice p6 m6 m6, .int .i64 e6] 38) = Wu at *
  have HGu : Hid (w.heap.size ≤ v6.heap.size) := hbw.size
  replace Xa : Hid _ := Xa.out.below hbn
  replace Xx : Hid _ := Xx.out.below hbn
  replace Xv : Hid _ := Xv.out.below hbn
  replace D4 : Hid _ := D4.out.below hbn
  replace D6 : Hid _ := D6.out.below hbn
  replace hbw := Below.on hbw hbn
  clear hbn
  generalize v6.heap.size = gu at *
  have Xu := Xu0
  clear Xu0
  obtain ⟨cv0, cv1, cv2, fv0, fv1, fv2⟩ := Xv.out
  have hnev : gv < Wu.heap.size := World.block_lt_of_cell? Wu _ cv0
  obtain ⟨cu0, cu1, cu2, fu0, fu1, fu2⟩ := Xu.out
  have hneu : gu < Wu.heap.size := World.block_lt_of_cell? Wu _ cu0
  go_wp2_with fail
  clear cv0 cv1 cv2 fv0 fv1 fv2 hnev
  clear cu0 cu1 cu2 fu0 fu1 fu2 hneu
  refine (dmul_b D4.out D6.out HV4.out.2 HV6b.out.2 (by decide) (by decide) (TB.out.below hbw)).mono ?_
  rintro e9 v7 ⟨v9, z7, e7, rfl, ha, hdb, hdv, hb7⟩
  obtain ⟨s7, p7, m7, rfl, hd7⟩ := ha.dn hdb.fm
  clear ha
  have HB7 := Hid.mk9 (And.intro hdb hdv)
  clear hdb hdv
  replace Xa : Hid _ := Xa.out.below hb7
  replace Xx : Hid _ := Xx.out.below hb7
  replace Xv : Hid _ := Xv.out.below hb7
  replace Xu : Hid _ := Xu.out.below hb7
  replace D4 : Hid _ := D4.out.below hb7
  replace D6 : Hid _ := D6.out.below hb7
  replace hbw := Below.on hbw hb7
  clear hb7
  have D7 : Hid (DN v7 s7 p7 m7 m7 e7 z7) := hd7
  clear hd7
  obtain ⟨cx0, cx1, fx0, fx1⟩ := Xx.out
  have hnex := Xx.out.lt
  go_wp2_with fail
  clear cx0 cx1 fx0 fx1 hnex
  have Xp0 : Hid (B3q (v7.alloc (.cells #[.bool s7, .slice p7 m7 m7, .int .i64 e7] 38)) v7.heap.size (.bool s7) (.slice p7 m7 m7) (.int .i64 e7)) := B3q.new v7 _ _ _ _
  have hbn : Below v7.heap.size v7 (v7.alloc (.cells #[.bool s7, .slice p7 m7 m7, .int .i64 e7] 38)) := below1 v7 _
  generalize v7.alloc (.cells #[.bool s7, .slice p7 m7 m7, .int .i64 e7] 38) = Wp at *
  have HGp : Hid (w.heap.size ≤ v7.heap.size) := hbw.size
  replace Xa : Hid _ := Xa.out.below hbn
  replace Xx : Hid _ := Xx.out.below hbn
  replace Xv : Hid _ := Xv.out.below hbn
  replace Xu : Hid _ := Xu.out.below hbn
  replace D4 : Hid _ := D4.out.below hbn
  replace D6 : Hid _ := D6.out.below hbn
  replace D7 : Hid _ := D7.out.below hbn
  replace hbw := Below.on hbw hbn
  clear hbn
  generalize v7.heap.size = gp at *
  have Xp := Xp0
  clear Xp0
  obtain ⟨Wr, hWr⟩ : ∃ W1, W1 = Wp.drew := ⟨_, rfl⟩
  have hbd : Below Wp.heap.size Wp Wr := by rw [hWr]; exact bDrew1 (Below.refl _ _)
  replace Xa : Hid _ := Xa.out.below hbd
  replace Xx : Hid _ := Xx.out.below hbd
  replace Xv : Hid _ := Xv.out.below hbd
  replace Xu : Hid _ := Xu.out.below hbd
  replace Xp : Hid _ := Xp.out.below hbd
  replace D4 : Hid _ := D4.out.below hbd
  replace D6 : Hid _ := D6.out.below hbd
  replace D7 : Hid _ := D7.out.below hbd
  replace hbw := Below.on hbw hbd
  clear hbd
  have HJ : Hid ((fun W' : World => W'.cell? ⟨gx, 0, none⟩ = some (Fv h) ∧ W'.cell? ⟨gx, 1, none⟩ = some (Fv l) ∧ W'.cell? ⟨gp, 0, none⟩ = some (.bool s7) ∧ W'.cell? ⟨gp, 1, none⟩ = some (.slice p7 m7 m7) ∧ W'.cell? ⟨gp, 2, none⟩ = some (.int .i64 e7)) Wr) := ⟨Xx.out.c0, Xx.out.c1, Xp.out.c0, Xp.out.c1, Xp.out.c2⟩
  refine wp_region_J (fun W' => W'.cell? ⟨gx, 0, none⟩ = some (Fv h) ∧ W'.cell? ⟨gx, 1, none⟩ = some (Fv l) ∧ W'.cell? ⟨gp, 0, none⟩ = some (.bool s7) ∧ W'.cell? ⟨gp, 1, none⟩ = some (.slice p7 m7 m7) ∧ W'.cell? ⟨gp, 2, none⟩ = some (.int .i64 e7)) (by kernel_rfl) ?_
  rw [← hWr]
  clear hWr
  refine wpJ_tq 0 rfl HJ.out ?_
  refine wpJ_tq 1 rfl HJ.out ?_
  refine wpJ_tq 3 rfl HJ.out ?_
  refine wpJ_on 2 rfl fun KJ hK => ?_
  go_simp
  refine (ddMulF_f HC2.out.1 HL.out.2.2 HC2.out.2 HC9.out _).mono ?_
  rintro e v20 ⟨s20, r20, rfl, hd20, hq20, hb20⟩
  have HR20 := Hid.mk9 (And.intro hd20 hq20)
  clear hd20 hq20
  replace Xa : Hid _ := Xa.out.below hb20
  replace Xx : Hid _ := Xx.out.below hb20
  replace Xv : Hid _ := Xv.out.below hb20
  replace Xu : Hid _ := Xu.out.below hb20
  replace Xp : Hid _ := Xp.out.below hb20
  replace D4 : Hid _ := D4.out.below hb20
  replace D6 : Hid _ := D6.out.below hb20
  replace D7 : Hid _ := D7.out.below hb20
  replace hbw := Below.on hbw hb20
  clear hb20
  refine hK _ _ ⟨Xx.out.c0, Xx.out.c1, Xp.out.c0, Xp.out.c1, Xp.out.c2⟩ ?_
  clear hK
  refine wpJ_on 4 rfl fun KJ hK => ?_
  go_simp
  refine (within20 (c := OneE) (k := 102) HR20.out.1 D7.out (HB7.out.1.mono (by decide) (by decide)) (w_mul HV4.out.1 HV6b.out.1 (by have h1 := HV4.out.2.lo; have h2 := HV6b.out.2.lo; omega) (by have h1 := HV4.out.2.lo; have h2 := HV6b.out.2.lo; omega) HB7.out.2) (by decide) (by decide) (wn_mul HR20.out.2) (TB.out.below hbw)).mono ?_
  rintro e v21 ⟨rfl, hb21⟩
  replace Xa : Hid _ := Xa.out.below hb21
  replace Xx : Hid _ := Xx.out.below hb21
  replace Xv : Hid _ := Xv.out.below hb21
  replace Xu : Hid _ := Xu.out.below hb21
  replace Xp : Hid _ := Xp.out.below hb21
  replace D4 : Hid _ := D4.out.below hb21
  replace D6 : Hid _ := D6.out.below hb21
  replace D7 : Hid _ := D7.out.below hb21
  replace hbw := Below.on hbw hb21
  clear hb21
  clear HJ
  have HJ : Hid ((fun W' : World => W'.cell? ⟨gx, 0, none⟩ = some (Fv h) ∧ W'.cell? ⟨gx, 1, none⟩ = some (Fv l) ∧ W'.cell? ⟨gp, 0, none⟩ = some (.bool s7) ∧ W'.cell? ⟨gp, 1, none⟩ = some (.slice p7 m7 m7) ∧ W'.cell? ⟨gp, 2, none⟩ = some (.int .i64 e7)) v21) := ⟨Xx.out.c0, Xx.out.c1, Xp.out.c0, Xp.out.c1, Xp.out.c2⟩
  refine hK _ _ HJ.out ?_
  clear hK
  refine wpJ_tq 5 rfl HJ.out ?_
  refine wpJ_tq 6 rfl HJ.out ?_
  refine wpJ_tq 7 rfl HJ.out ?_
  refine wpJ_tq 10 rfl HJ.out ?_
  refine wpJ_on 8 rfl fun KJ hK => ?_
  go_simp
  refine (ddOf HF.out _).mono ?_
  rintro e v12 ⟨rfl, hb12⟩
  replace Xa : Hid _ := Xa.out.below hb12
  replace Xx : Hid _ := Xx.out.below hb12
  replace Xv : Hid _ := Xv.out.below hb12
  replace Xu : Hid _ := Xu.out.below hb12
  replace Xp : Hid _ := Xp.out.below hb12
  replace D4 : Hid _ := D4.out.below hb12
  replace D6 : Hid _ := D6.out.below hb12
  replace D7 : Hid _ := D7.out.below hb12
  replace hbw := Below.on hbw hb12
  clear hb12
  refine hK _ _ ⟨Xx.out.c0, Xx.out.c1, Xp.out.c0, Xp.out.c1, Xp.out.c2⟩ ?_
  clear hK
  refine wpJ_on 9 rfl fun KJ hK => ?_
  go_simp
  refine (ddMul_f HC2.out.1 HD0.out HC2.out.2 HC9.out _).mono ?_
  rintro e v22 ⟨s22, r22, rfl, hd22, hq22, hb22⟩
  rw [ux_0, Int.add_zero] at hq22
  have HR22 := Hid.mk9 (And.intro hd22 hq22)
  clear hd22 hq22
  replace Xa : Hid _ := Xa.out.below hb22
  replace Xx : Hid _ := Xx.out.below hb22
  replace Xv : Hid _ := Xv.out.below hb22
  replace Xu : Hid _ := Xu.out.below hb22
  replace Xp : Hid _ := Xp.out.below hb22
  replace D4 : Hid _ := D4.out.below hb22
  replace D6 : Hid _ := D6.out.below hb22
  replace D7 : Hid _ := D7.out.below hb22
  replace hbw := Below.on hbw hb22
  clear hb22
  refine hK _ _ ⟨Xx.out.c0, Xx.out.c1, Xp.out.c0, Xp.out.c1, Xp.out.c2⟩ ?_
  clear hK
  refine wpJ_on 11 rfl fun KJ hK => ?_
  go_simp
  refine (within20 (c := OneE) (k := 102) HR22.out.1 D7.out (HB7.out.1.mono (by decide) (by decide)) (w_mul HV4.out.1 HV6b.out.1 (by have h1 := HV4.out.2.lo; have h2 := HV6b.out.2.lo; omega) (by have h1 := HV4.out.2.lo; have h2 := HV6b.out.2.lo; omega) HB7.out.2) (by decide) (by decide) (wn_mul HR22.out.2) (TB.out.below hbw)).mono ?_
  rintro e v23 ⟨rfl, hb23⟩
  replace Xa : Hid _ := Xa.out.below hb23
  replace Xx : Hid _ := Xx.out.below hb23
  replace Xv : Hid _ := Xv.out.below hb23
  replace Xu : Hid _ := Xu.out.below hb23
  replace Xp : Hid _ := Xp.out.below hb23
  replace D4 : Hid _ := D4.out.below hb23
  replace D6 : Hid _ := D6.out.below hb23
  replace D7 : Hid _ := D7.out.below hb23
  replace hbw := Below.on hbw hb23
  clear hb23
  clear HJ
  have HJ : Hid ((fun W' : World => W'.cell? ⟨gx, 0, none⟩ = some (Fv h) ∧ W'.cell? ⟨gx, 1, none⟩ = some (Fv l) ∧ W'.cell? ⟨gp, 0, none⟩ = some (.bool s7) ∧ W'.cell? ⟨gp, 1, none⟩ = some (.slice p7 m7 m7) ∧ W'.cell? ⟨gp, 2, none⟩ = some (.int .i64 e7)) v23) := ⟨Xx.out.c0, Xx.out.c1, Xp.out.c0, Xp.out.c1, Xp.out.c2⟩
  refine hK _ _ HJ.out ?_
  clear hK
  refine wpJ_tq 12 rfl HJ.out ?_
  refine wpJ_tq 13 rfl HJ.out ?_
  refine wpJ_tq 14 rfl HJ.out ?_
  refine wpJ_tq 16 rfl HJ.out ?_
  refine wpJ_on 15 rfl fun KJ hK => ?_
  go_simp
  refine (ddOf HF.out _).mono ?_
  rintro e v15 ⟨rfl, hb15⟩
  replace Xa : Hid _ := Xa.out.below hb15
  replace Xx : Hid _ := Xx.out.below hb15
  replace Xv : Hid _ := Xv.out.below hb15
  replace Xu : Hid _ := Xu.out.below hb15
  replace Xp : Hid _ := Xp.out.below hb15
  replace D4 : Hid _ := D4.out.below hb15
  replace D6 : Hid _ := D6.out.below hb15
  replace D7 : Hid _ := D7.out.below hb15
  replace hbw := Below.on hbw hb15
  clear hb15
  refine hK _ _ ⟨Xx.out.c0, Xx.out.c1, Xp.out.c0, Xp.out.c1, Xp.out.c2⟩ ?_
  clear hK
  refine wpJ_on 17 rfl fun KJ hK => ?_
  go_simp
  refine (ddSum_g b 0 _).mono ?_
  rintro e9 v16 ⟨s8, r8, rfl, hR8, hb16⟩
  have HQ : Hid (DdF s8 r8 ∧ ux s8 + ux r8 = ux b + ux 0) := by
    have q := hR8.ok HL.out.2.2 (by decide) (BigU.sz (by have := fit_big HC9.out.hi; omega)) (BigU.sz (by rw [ux_0]; exact Nat.zero_le _))
    exact ⟨DdF.of_sm q.1 q.2.1 q.2.2, q.2.2⟩
  clear hR8
  have GC := ddcmp b 0 s8 r8 HL.out.2.2 (by decide) HQ.out.1.hi.lt HQ.out.1.lo.lt
  rw [cmp_same20 HD0.out HQ.out.1 HQ.out.2] at GC
  have HGC := Hid.mk9 GC
  clear GC
  replace Xa : Hid _ := Xa.out.below hb16
  replace Xx : Hid _ := Xx.out.below hb16
  replace Xv : Hid _ := Xv.out.below hb16
  replace Xu : Hid _ := Xu.out.below hb16
  replace Xp : Hid _ := Xp.out.below hb16
  replace D4 : Hid _ := D4.out.below hb16
  replace D6 : Hid _ := D6.out.below hb16
  replace D7 : Hid _ := D7.out.below hb16
  replace hbw := Below.on hbw hb16
  clear hb16
  refine hK _ _ ⟨Xx.out.c0, Xx.out.c1, Xp.out.c0, Xp.out.c1, Xp.out.c2⟩ ?_
  clear hK
  refine wpJ_on 18 rfl fun KJ hK => ?_
  go_simp
  refine (HGC.out _).mono ?_
  rintro e v18 ⟨rfl, hb18⟩
  replace Xa : Hid _ := Xa.out.below hb18
  replace Xx : Hid _ := Xx.out.below hb18
  replace Xv : Hid _ := Xv.out.below hb18
  replace Xu : Hid _ := Xu.out.below hb18
  replace Xp : Hid _ := Xp.out.below hb18
  replace D4 : Hid _ := D4.out.below hb18
  replace D6 : Hid _ := D6.out.below hb18
  replace D7 : Hid _ := D7.out.below hb18
  replace hbw := Below.on hbw hb18
  clear hb18
  clear HJ
  have HJ : Hid ((fun W' : World => W'.cell? ⟨gx, 0, none⟩ = some (Fv h) ∧ W'.cell? ⟨gx, 1, none⟩ = some (Fv l) ∧ W'.cell? ⟨gp, 0, none⟩ = some (.bool s7) ∧ W'.cell? ⟨gp, 1, none⟩ = some (.slice p7 m7 m7) ∧ W'.cell? ⟨gp, 2, none⟩ = some (.int .i64 e7)) v18) := ⟨Xx.out.c0, Xx.out.c1, Xp.out.c0, Xp.out.c1, Xp.out.c2⟩
  refine hK _ _ HJ.out ?_
  clear hK
  refine wpJ_tq 19 rfl HJ.out ?_
  refine wpJ_tq 20 rfl HJ.out ?_
  refine wpJ_tq 21 rfl HJ.out ?_
  refine wpJ_done (by kernel_rfl) ?_ _
  clear HJ
  go_wp2_with fail
  go_ret
  exact ⟨by first | rfl | simp, hbw⟩
theorem quo_mag {D n : Nat} (hn : n ≠ 0) : ((2 * (D / n) + (D % n != 0).toNat) * n : Nat) ≤ 2 * D + n ∧ 2 * D ≤ (2 * (D / n) + (D % n != 0).toNat) * n + n := by
  have h1 := Nat.div_add_mod D n
  have h2 := Nat.mod_lt D (Nat.pos_of_ne_zero hn)
  rw [Nat.add_mul, Nat.mul_assoc, Nat.mul_comm (D / n)]
  by_cases h : D % n = 0
  · rw [h, show ((0 : Nat) != 0).toNat = 0 from rfl, Nat.zero_mul]
    rw [h] at h1
    omega
  · have h3 : (D % n != 0).toNat = 1 := by rw [show (D % n != 0) = true from bne_iff_ne.2 h]; rfl
    rw [h3, Nat.one_mul]
    omega
theorem quo_core {R N A C d : Nat} (h1 : 2 * 9007199254740992 * ((R : Int) - (N : Int)).natAbs ≤ 2 * N + 9007199254740992 * C) (h2 : N ≤ A + d) (h3 : A ≤ N + d) (h4 : 9007199254740992 * (2 * d) ≤ A) :
    2 * 9007199254740992 * ((R : Int) - (A : Int)).natAbs ≤ 4 * A + 9007199254740992 * C := by
  omega
theorem quo_wide {m n more : Nat} (hm : m ≠ 0) (hmore : 54 + n.log2 ≤ m.log2 + more) : 9007199254740992 * n ≤ m * 2 ^ more := by
  have h1 := Nat.log2_self_le hm
  have h2 : n < 2 ^ (n.log2 + 1) := Nat.lt_log2_self
  have h3 : 2 ^ (54 + n.log2) ≤ m * 2 ^ more := by
    refine Nat.le_trans (Nat.pow_le_pow_right (by decide) hmore) ?_
    rw [Nat.pow_add]; exact Nat.mul_le_mul_right _ h1
  have h4 : 9007199254740992 * 2 ^ (n.log2 + 1) = 2 ^ (54 + n.log2) := by
    rw [show (9007199254740992 : Nat) = 2 ^ 53 by decide, ← Nat.pow_add]; congr 1; omega
  have h5 := Nat.mul_le_mul_left 9007199254740992 (Nat.le_of_lt h2)
  omega
theorem int_scale {a b E : Nat} : (((a * E : Nat) : Int) - ((b * E : Nat) : Int)).natAbs = ((a : Int) - (b : Int)).natAbs * E := by
  rw [Int.natCast_mul, Int.natCast_mul, ← Int.sub_mul, na_mul]
theorem quo_cut {a Y Z E : Nat} (hE : 0 < E) (k : 2 * 9007199254740992 * (a * E) ≤ 4 * (Y * E) + 9007199254740992 * (Z * E)) : 2 * 9007199254740992 * a ≤ 4 * Y + 9007199254740992 * Z := by
  refine Nat.le_of_mul_le_mul_right (c := E) ?_ hE
  rw [Nat.add_mul, Nat.mul_assoc, Nat.mul_assoc 4, Nat.mul_assoc 9007199254740992 Z]
  exact k
theorem quo_n {m n q t more K : Nat} (hm : m ≠ 0) (hn : n ≠ 0) (hmore : 54 + n.log2 ≤ m.log2 + more) {N c R : Nat} (hc : c = t + more + 1) (hN : N = (2 * (m * 2 ^ more / n) + (m * 2 ^ more % n != 0).toNat) * 2 ^ (q + K)) (hR : R = vs 4503599627370496 (rgc c N)) (hf : rgc c N < 9218868437227405312) :
    2 * 9007199254740992 * (((R * (n * 2 ^ t) : Nat) : Int) - ((m * 2 ^ q * 2 ^ K : Nat) : Int)).natAbs ≤ 4 * (m * 2 ^ q * 2 ^ K) + 9007199254740992 * (n * 2 ^ t) := by
  have h1 := mul_near hf
  rw [← hR] at h1
  obtain ⟨g1, g2⟩ := quo_mag (D := m * 2 ^ more) hn
  have g3 := quo_wide hm hmore
  obtain ⟨M, hM⟩ : ∃ M, M = 2 * (m * 2 ^ more / n) + (m * 2 ^ more % n != 0).toNat := ⟨_, rfl⟩
  rw [← hM] at g1 g2 hN
  obtain ⟨P, hP⟩ : ∃ P, P = 2 ^ (q + K) := ⟨_, rfl⟩
  rw [← hP] at hN
  have a1 : R * 2 ^ c * n = R * (n * 2 ^ t) * 2 ^ (more + 1) := by
    rw [hc, show t + more + 1 = t + (more + 1) by omega, Nat.pow_add, Nat.mul_assoc R, Nat.mul_assoc (2 ^ t), Nat.mul_comm (2 ^ (more + 1)) n, ← Nat.mul_assoc (2 ^ t), Nat.mul_comm (2 ^ t) n, ← Nat.mul_assoc]
  have a2 : 2 * (m * 2 ^ more) * P = m * 2 ^ q * 2 ^ K * 2 ^ (more + 1) := by
    rw [hP, Nat.pow_add, Nat.pow_succ]
    ac_rfl
  have a3 : 2 ^ c * n = n * 2 ^ t * 2 ^ (more + 1) := by
    rw [hc, show t + more + 1 = t + (more + 1) by omega, Nat.pow_add]
    ac_rfl
  have b1 : 2 * 9007199254740992 * (((R * 2 ^ c * n : Nat) : Int) - ((N * n : Nat) : Int)).natAbs ≤ 2 * (N * n) + 9007199254740992 * (2 ^ c * n) := by
    rw [int_scale, ← Nat.mul_assoc, ← Nat.mul_assoc, ← Nat.mul_assoc 9007199254740992, ← Nat.add_mul]
    exact Nat.mul_le_mul_right _ h1
  have b2 : N * n ≤ 2 * (m * 2 ^ more) * P + n * P := by
    rw [hN, ← Nat.add_mul, Nat.mul_right_comm]; exact Nat.mul_le_mul_right _ g1
  have b3 : 2 * (m * 2 ^ more) * P ≤ N * n + n * P := by
    rw [hN, Nat.mul_right_comm M P n, ← Nat.add_mul]; exact Nat.mul_le_mul_right _ g2
  have b4 : 9007199254740992 * (2 * (n * P)) ≤ 2 * (m * 2 ^ more) * P := by
    rw [← Nat.mul_assoc 2 n, ← Nat.mul_assoc 9007199254740992]
    exact Nat.mul_le_mul_right _ (by omega)
  have k := quo_core b1 b2 b3 b4
  rw [a1, a2, a3, int_scale] at k
  exact quo_cut (Nat.two_pow_pos _) k
theorem fquo_ex {a b : Nat} (ha : Fin64 a) (hb : Fin64 b) (hb0 : ux b ≠ 0) : ∃ m q n t more, m * 2 ^ q = vs 4503599627370496 (a % 9223372036854775808) ∧ n * 2 ^ t = vs 4503599627370496 (b % 9223372036854775808) ∧ n ≠ 0 ∧ 54 + n.log2 ≤ m.log2 + more ∧
    floatBits .quo .f64 a b = some (Ieee.double.word (decide (9223372036854775808 ≤ a) ^^ decide (9223372036854775808 ≤ b)) (rgc (t + more + 1) ((2 * (m * 2 ^ more / n) + (m * 2 ^ more % n != 0).toNat) * 2 ^ (q + 1074)))) := by
  obtain ⟨m, q, h1, h2⟩ := read_fin ha.lt ha.fin
  obtain ⟨n, t, h3, h4⟩ := read_fin hb.lt hb.fin
  have hn : n ≠ 0 := fun h => by
    apply hb0
    have h5 := ux_abs b
    rw [← h4, h, Nat.zero_mul] at h5
    omega
  refine ⟨m, q, n, t, 54 + n.log2 - m.log2, h2, h4, hn, by omega, ?_⟩
  show ((Ieee.double.read a).quotient 54 (Ieee.double.read b)).map Ieee.double.write = _
  rw [h1, h3]
  unfold Ieee.Datum.quotient
  simp only [if_neg hn, Nat.shiftLeft_eq]
  generalize 54 + n.log2 - m.log2 = more
  show some (Ieee.double.nearest _ (2 * (m * 2 ^ more / n) + (m * 2 ^ more % n != 0).toNat) (-1074 + (q : Int) - (-1074 + (t : Int)) - (more : Int) - 1)) = _
  have := nearest_rgc (decide (9223372036854775808 ≤ a) ^^ decide (9223372036854775808 ≤ b)) (2 * (m * 2 ^ more / n) + (m * 2 ^ more % n != 0).toNat) (t + more + 1) (q + 1074)
  rw [show (-1074 : Int) - ((t + more + 1 : Nat) : Int) + ((q + 1074 : Nat) : Int) = -1074 + (q : Int) - (-1074 + (t : Int)) - (more : Int) - 1 by omega] at this
  rw [this]
theorem sg_prod {R X Y U : Nat} (s t : Bool) : ((if (s ^^ t) then -(R : Int) else (R : Int)) * (if t then -(Y : Int) else (Y : Int)) - (if s then -(X : Int) else (X : Int)) * (U : Int)).natAbs = (((R * Y : Nat) : Int) - ((X * U : Nat) : Int)).natAbs := by
  rw [Int.natCast_mul, Int.natCast_mul]
  cases s <;> cases t <;> simp [Int.neg_mul, Int.mul_neg] <;> omega
theorem ux_sg (b : Nat) : ux b = if decide (9223372036854775808 ≤ b) then -(vs 4503599627370496 (b % 9223372036854775808) : Int) else (vs 4503599627370496 (b % 9223372036854775808) : Int) := by
  rw [ux_eq]; by_cases h : 9223372036854775808 ≤ b <;> simp [h]
theorem fquo_near {a b M K : Nat} (hM : M = 2094) (hK : K = 1074) (ha : Fin64 a) (hb : Fin64 b) (hb0 : ux b ≠ 0) (hs : (ux a).natAbs * 2 ^ K ≤ 2 ^ M * (ux b).natAbs) : ∃ r, floatBits .quo .f64 a b = some r ∧ Fin64 r ∧ 2 * 9007199254740992 * (ux r * ux b - ux a * ((2 ^ K : Nat) : Int)).natAbs ≤ 4 * ((ux a).natAbs * 2 ^ K) + 9007199254740992 * (ux b).natAbs := by
  obtain ⟨m, q, n, t, more, h1, h2, hn, hm, hq⟩ := fquo_ex ha hb hb0
  rw [← hK] at hq
  obtain ⟨N, hN⟩ : ∃ N, N = (2 * (m * 2 ^ more / n) + (m * 2 ^ more % n != 0).toNat) * 2 ^ (q + K) := ⟨_, rfl⟩
  rw [← hN] at hq
  rw [ux_abs, ux_abs, ← h1, ← h2] at hs
  obtain ⟨c, hc⟩ : ∃ c, c = t + more + 1 := ⟨_, rfl⟩
  rw [← hc] at hq
  by_cases hm0 : m = 0
  · have hN0 : N = 0 := by rw [hN, hm0, Nat.zero_mul, Nat.zero_div, Nat.zero_mod]; simp
    have hr0 : rgc c N = 0 := by rw [hN0]; rfl
    rw [hr0] at hq
    obtain ⟨w1, w2, w3⟩ := word_facts (decide (9223372036854775808 ≤ a) ^^ decide (9223372036854775808 ≤ b)) (r := 0) (by decide)
    refine ⟨_, hq, ⟨w1, by rw [w2]; decide⟩, ?_⟩
    have ha0 : ux a = 0 := by
      have h5 := ux_abs a
      rw [← h1, hm0, Nat.zero_mul] at h5
      omega
    have hz : ux (Ieee.double.word (decide (9223372036854775808 ≤ a) ^^ decide (9223372036854775808 ≤ b)) 0) = 0 := by
      rw [w3, vs_zero]; split <;> rfl
    rw [hz, ha0, Int.zero_mul, Int.zero_mul]
    exact Nat.zero_le _
  · obtain ⟨g1, _⟩ := quo_mag (D := m * 2 ^ more) hn
    have g3 := quo_wide hm0 hm
    have hb1 : N * n ≤ 2 ^ (M + 1) * 2 ^ c * n := by
      have e1 : N * n ≤ (2 * (m * 2 ^ more) + n) * 2 ^ (q + K) := by
        rw [hN, Nat.mul_right_comm]; exact Nat.mul_le_mul_right _ g1
      have e2 : (2 * (m * 2 ^ more) + n) * 2 ^ (q + K) ≤ 4 * (m * 2 ^ more) * 2 ^ (q + K) := Nat.mul_le_mul_right _ (by omega)
      have e3 : 4 * (m * 2 ^ more) * 2 ^ (q + K) = m * 2 ^ q * 2 ^ K * (2 * 2 ^ (more + 1)) := by
        rw [Nat.pow_add, Nat.pow_succ, show (4 : Nat) = 2 * 2 from rfl]; ac_rfl
      have e4 : m * 2 ^ q * 2 ^ K * (2 * 2 ^ (more + 1)) ≤ 2 ^ M * (n * 2 ^ t) * (2 * 2 ^ (more + 1)) := Nat.mul_le_mul_right _ hs
      have e5 : 2 ^ M * (n * 2 ^ t) * (2 * 2 ^ (more + 1)) = 2 ^ (M + 1) * 2 ^ c * n := by
        rw [hc, show t + more + 1 = t + (more + 1) by omega, Nat.pow_add 2 t, Nat.pow_succ 2 M]; ac_rfl
      rw [e3] at e2
      rw [e5] at e4
      exact Nat.le_trans e1 (Nat.le_trans e2 e4)
    have hb2 := Nat.le_of_mul_le_mul_right hb1 (Nat.pos_of_ne_zero hn)
    obtain ⟨J, hJ⟩ : ∃ J, J = 2096 := ⟨_, rfl⟩
    have hf : rgc c N < 9218868437227405312 := rgc_lt hJ (Nat.lt_of_le_of_lt hb2 (by rw [← Nat.pow_add]; exact Nat.pow_lt_pow_right (by decide) (by omega)))
    obtain ⟨w1, w2, w3⟩ := word_facts (decide (9223372036854775808 ≤ a) ^^ decide (9223372036854775808 ≤ b)) hf
    refine ⟨_, hq, ⟨w1, by rw [w2]; exact hf⟩, ?_⟩
    have k := quo_n (t := t) hm0 hn hm hc hN rfl hf
    rw [w3, ux_sg b, ux_sg a, sg_prod, ← h1, ← h2]
    have n1 : ∀ (s : Bool) (x : Nat), (if s then -(x : Int) else (x : Int)).natAbs = x := fun s x => by cases s <;> simp
    rw [n1, n1]
    exact k
theorem dv_b {P B Y : Nat} (h : 2 * 9007199254740992 * B ≤ 4 * P + 9007199254740992 * Y) (hY : 1152921504606846976 * (81129638414606681695789005144064 * Y) ≤ P) : 9007199254740992 * 1024 * B ≤ 2049 * P ∧ 2 * B ≤ P := by omega
theorem dv_q {P B Q C : Nat} (hB : 9007199254740992 * 1024 * B ≤ 2049 * P) (hQ : Q ≤ P + B) (hC : 9007199254740992 * C ≤ Q) : 9007199254740992 * 1024 * C ≤ 1025 * P ∧ 1024 * (Q + C) ≤ 1025 * P := by omega
theorem dv_d {P Q C D : Nat} (h : 1024 * (Q + C) ≤ 1025 * P) (hD : 81129638414606681695789005144064 * D ≤ 16 * (Q + C)) : 81129638414606681695789005144064 * 64 * D ≤ 1025 * P := by omega
theorem dv_g {P B C D R S G : Nat} (hB : 9007199254740992 * 1024 * B ≤ 2049 * P) (hC : 9007199254740992 * 1024 * C ≤ 1025 * P) (hD : 81129638414606681695789005144064 * 64 * D ≤ 1025 * P) (hR : 9007199254740992 * R ≤ S) (hS : S ≤ P + G) (hG : G ≤ R + D + C + B) : 9007199254740992 * 1024 * G ≤ 4101 * P ∧ 9007199254740992 * 1024 * R ≤ 1025 * P := by omega
theorem dv_v {P A R V e G V3 : Nat} (hA : 9007199254740992 * A ≤ P) (hR : 9007199254740992 * 1024 * R ≤ 1025 * P) (hV : V ≤ A + R) (he : 9007199254740992 * e ≤ V) (hG : 9007199254740992 * 1024 * G ≤ 4101 * P) (h3 : V3 ≤ G + (V + e)) : 81129638414606681695789005144064 * 1024 * e ≤ 2050 * P ∧ 9007199254740992 * 1024 * V3 ≤ 6152 * P := by omega
theorem dv_w {P V3 e3 W B2 Y : Nat} (h3 : 9007199254740992 * 1024 * V3 ≤ 6152 * P) (he : 9007199254740992 * e3 ≤ V3) (hW : W ≤ V3 + e3) (hY : 1152921504606846976 * (81129638414606681695789005144064 * Y) ≤ P) (hB : 2 * 9007199254740992 * B2 ≤ 4 * W + 9007199254740992 * Y) : 81129638414606681695789005144064 * 1024 * e3 ≤ 6152 * P ∧ 9007199254740992 * 1024 * W ≤ 6153 * P ∧ 81129638414606681695789005144064 * 1024 * B2 ≤ 12308 * P := by omega
theorem dv_c {P W B2 C2 : Nat} (hW : 9007199254740992 * 1024 * W ≤ 6153 * P) (hB : 81129638414606681695789005144064 * 1024 * B2 ≤ 12308 * P) (hC : 9007199254740992 * C2 ≤ W + B2) : 81129638414606681695789005144064 * 1024 * C2 ≤ 6154 * P ∧ 9007199254740992 * 1024 * (W + B2) ≤ 6154 * P := by omega
theorem dv_e {P A D B2 C2 e2 e3 E X : Nat} (hA : 9007199254740992 * A ≤ P) (hD : 81129638414606681695789005144064 * 64 * D ≤ 1025 * P) (hB : 81129638414606681695789005144064 * 1024 * B2 ≤ 12308 * P) (hC : 81129638414606681695789005144064 * 1024 * C2 ≤ 6154 * P) (h2 : 81129638414606681695789005144064 * 1024 * e2 ≤ 2050 * P) (h3 : 81129638414606681695789005144064 * 1024 * e3 ≤ 6152 * P) (hE : E ≤ D + B2 + C2 + e2 + e3) (hX : P ≤ X + A) : 81129638414606681695789005144064 * E ≤ 64 * X := by omega
theorem na4 {a b c d : Int} : (a + b + c + d).natAbs ≤ a.natAbs + b.natAbs + c.natAbs + d.natAbs := by omega
theorem dd_div1 {X Y yl q s r : Int} {U : Nat} (hU0 : 0 < U) (ly : 9007199254740992 * yl.natAbs ≤ Y.natAbs) (hq : 2 * 9007199254740992 * (q * Y - X * (U : Int)).natAbs ≤ 4 * (X.natAbs * U) + 9007199254740992 * Y.natAbs)
    (hm : 81129638414606681695789005144064 * ((s + r) * (U : Int) - (Y + yl) * q).natAbs ≤ 16 * ((Y + yl) * q).natAbs) (lr : 9007199254740992 * r.natAbs ≤ s.natAbs) (hY : 1152921504606846976 * (81129638414606681695789005144064 * Y.natAbs) ≤ X.natAbs * U) :
    (9007199254740992 * 1024 * ((X - s).natAbs * U) ≤ 4101 * (X.natAbs * U) ∧ 9007199254740992 * 1024 * (r.natAbs * U) ≤ 1025 * (X.natAbs * U) ∧ 81129638414606681695789005144064 * 64 * ((s + r) * (U : Int) - (Y + yl) * q).natAbs ≤ 1025 * (X.natAbs * U)) ∧ (X - s).natAbs ≤ X.natAbs ∧ (X - s).natAbs ≤ s.natAbs := by
  obtain ⟨b1, b2⟩ := dv_b hq hY
  have hQ : (q * Y).natAbs ≤ X.natAbs * U + (q * Y - X * (U : Int)).natAbs := by
    have := ab8 (a := q * Y) (b := X * (U : Int)); rwa [na_mul] at this
  have hC : 9007199254740992 * (yl * q).natAbs ≤ (q * Y).natAbs := by
    rw [Int.natAbs_mul, Int.natAbs_mul, Nat.mul_comm q.natAbs, ← Nat.mul_assoc]; exact Nat.mul_le_mul_right _ ly
  obtain ⟨c1, c2⟩ := dv_q b1 hQ hC
  have hYq : ((Y + yl) * q).natAbs ≤ (q * Y).natAbs + (yl * q).natAbs := by
    rw [Int.add_mul, Int.mul_comm Y]; exact ab5
  have d1 := dv_d c2 (Nat.le_trans hm (Nat.mul_le_mul_left _ hYq))
  have hR : 9007199254740992 * (r.natAbs * U) ≤ s.natAbs * U := up_mul lr
  have hS : s.natAbs * U ≤ X.natAbs * U + (X - s).natAbs * U := by
    rw [← Nat.add_mul]; exact Nat.mul_le_mul_right _ ab3
  have hG : (X - s).natAbs * U ≤ r.natAbs * U + ((s + r) * (U : Int) - (Y + yl) * q).natAbs + (yl * q).natAbs + (q * Y - X * (U : Int)).natAbs := by
    have e : (X - s) * (U : Int) = r * (U : Int) + -((s + r) * (U : Int) - (Y + yl) * q) + -(yl * q) + -(q * Y - X * (U : Int)) := by
      rw [Int.sub_mul, Int.add_mul s, Int.add_mul Y, Int.mul_comm Y]; omega
    have h := na4 (a := r * (U : Int)) (b := -((s + r) * (U : Int) - (Y + yl) * q)) (c := -(yl * q)) (d := -(q * Y - X * (U : Int)))
    rw [← e, na_mul, na_mul, Int.natAbs_neg, Int.natAbs_neg, Int.natAbs_neg] at h
    exact h
  obtain ⟨g1, g2⟩ := dv_g b1 c1 d1 hR hS hG
  refine ⟨⟨g1, g2, d1⟩, ?_, ?_⟩
  · refine Nat.le_of_mul_le_mul_right (c := U) ?_ hU0
    omega
  · refine Nat.le_of_mul_le_mul_right (c := U) ?_ hU0
    have h1 : X.natAbs * U ≤ s.natAbs * U + (X - s).natAbs * U := by
      rw [← Nat.add_mul]; exact Nat.mul_le_mul_right _ ab8
    omega
theorem div_err {X xl Y yl q s r d2 rest t V : Int} : (q + t) * (Y + yl) - (X + xl) * V = -((s + r) * V - (Y + yl) * q) + (t * Y - rest * V) + t * yl + -((xl - r - d2) * V) + -((X - s + d2 - rest) * V) := by
  rw [Int.add_mul q t, Int.mul_comm q, Int.mul_add t, Int.add_mul X, Int.sub_mul (xl - r), Int.sub_mul xl, Int.sub_mul (X - s + d2), Int.add_mul (X - s), Int.sub_mul X, Int.add_mul s]
  omega
theorem na5p {a b c d f : Int} : (a + b + c + d + f).natAbs ≤ a.natAbs + b.natAbs + c.natAbs + d.natAbs + f.natAbs := by omega
theorem dd_div2 {X xl Y yl q s r d2 rest t : Int} {U : Nat} (lx : 9007199254740992 * xl.natAbs ≤ X.natAbs) (ly : 9007199254740992 * yl.natAbs ≤ Y.natAbs) (hq : 2 * 9007199254740992 * (q * Y - X * (U : Int)).natAbs ≤ 4 * (X.natAbs * U) + 9007199254740992 * Y.natAbs)
    (g : 9007199254740992 * 1024 * ((X - s).natAbs * U) ≤ 4101 * (X.natAbs * U) ∧ 9007199254740992 * 1024 * (r.natAbs * U) ≤ 1025 * (X.natAbs * U) ∧ 81129638414606681695789005144064 * 64 * ((s + r) * (U : Int) - (Y + yl) * q).natAbs ≤ 1025 * (X.natAbs * U)) (h2 : Rn 53 (xl - r) d2) (h3 : Rn 53 (X - s + d2) rest)
    (ht : 2 * 9007199254740992 * (t * Y - rest * (U : Int)).natAbs ≤ 4 * (rest.natAbs * U) + 9007199254740992 * Y.natAbs) (hY0 : Y ≠ 0) (hY : 1152921504606846976 * (81129638414606681695789005144064 * Y.natAbs) ≤ X.natAbs * U) :
    81129638414606681695789005144064 * ((q + t) * (Y + yl) - (X + xl) * (U : Int)).natAbs ≤ 64 * ((X + xl) * (U : Int)).natAbs ∧ t.natAbs ≤ q.natAbs := by
  obtain ⟨g1, g2, d1⟩ := g
  obtain ⟨b1, b2⟩ := dv_b hq hY
  have hA : 9007199254740992 * (xl.natAbs * U) ≤ X.natAbs * U := up_mul lx
  have hV : (xl - r).natAbs * U ≤ xl.natAbs * U + r.natAbs * U := by
    rw [← Nat.add_mul]; exact Nat.mul_le_mul_right _ (by omega)
  have he2 := up_mul (U := U) (rn_rel h2)
  have h33 : (X - s + d2).natAbs * U ≤ (X - s).natAbs * U + ((xl - r).natAbs * U + (xl - r - d2).natAbs * U) := by
    rw [← Nat.add_mul, ← Nat.add_mul]; exact Nat.mul_le_mul_right _ (by omega)
  obtain ⟨v1, v2⟩ := dv_v hA g2 hV he2 g1 h33
  have he3 := up_mul (U := U) (rn_rel h3)
  have hW : rest.natAbs * U ≤ (X - s + d2).natAbs * U + (X - s + d2 - rest).natAbs * U := by
    rw [← Nat.add_mul]; exact Nat.mul_le_mul_right _ ab3
  obtain ⟨w1, w2, w3⟩ := dv_w v2 he3 hW hY ht
  have hty : (t * Y).natAbs ≤ rest.natAbs * U + (t * Y - rest * (U : Int)).natAbs := by
    have := ab8 (a := t * Y) (b := rest * (U : Int)); rwa [na_mul] at this
  have hC2 : 9007199254740992 * (t * yl).natAbs ≤ (t * Y).natAbs := by
    rw [Int.natAbs_mul, Int.natAbs_mul, Nat.mul_left_comm]; exact Nat.mul_le_mul_left _ ly
  obtain ⟨c1, c2⟩ := dv_c w2 w3 (Nat.le_trans hC2 hty)
  refine ⟨?_, ?_⟩
  · have hX : X.natAbs * U ≤ ((X + xl) * (U : Int)).natAbs + xl.natAbs * U := by
      rw [na_mul, ← Nat.add_mul]; exact Nat.mul_le_mul_right _ ab6
    have hE := na5p (a := -((s + r) * (U : Int) - (Y + yl) * q)) (b := t * Y - rest * (U : Int)) (c := t * yl) (d := -((xl - r - d2) * (U : Int))) (f := -((X - s + d2 - rest) * (U : Int)))
    rw [← div_err, Int.natAbs_neg, Int.natAbs_neg, Int.natAbs_neg, na_mul, na_mul] at hE
    exact dv_e hA d1 w3 c1 v1 w1 hE hX
  · have h5 : (t * Y).natAbs ≤ (q * Y).natAbs := by
      have h6 : X.natAbs * U ≤ (q * Y).natAbs + (q * Y - X * (U : Int)).natAbs := by
        have := ab3 (a := X * (U : Int)) (b := q * Y); rwa [na_mul] at this
      omega
    rw [Int.natAbs_mul, Int.natAbs_mul] at h5
    exact Nat.le_of_mul_le_mul_right h5 (by omega)
structure FitP (h x : Nat) : Prop where
  z : ux h * ux x = 0 ∨ 1152921504606846976 * (81129638414606681695789005144064 * UE) ≤ (ux h * ux x).natAbs
  bd : (ux h * ux x).natAbs ≤ BigP * UE
theorem ddw_1 {h h' p e : Nat} (hl : h < 18446744073709551616) (hl' : h' < 18446744073709551616) (s : h % 9223372036854775808 ≤ 9088264048033660928) (s' : h' % 9223372036854775808 ≤ 9088264048033660928) (hp : FitP h h') (T : TPR h h' p e) : Mul1 h h' p e := by
  have hb := hp.bd
  have hV : ux h * ux h' = 0 ∨ ((∀ K, K = 1188 → 2 ^ K ≤ (ux h * ux h').natAbs) ∧ ∀ K, K = 3169 → (ux h * ux h').natAbs ≤ 2 ^ K) := by
    rcases hp.z with h0 | h0
    · exact .inl h0
    · refine .inr ⟨fun K hK => Nat.le_trans ?_ h0, fun K hK => Nat.le_trans hb ?_⟩
      · unfold UE
        rw [show (1152921504606846976 : Nat) = 2 ^ 60 by decide, show (81129638414606681695789005144064 : Nat) = 2 ^ 106 by decide, ← Nat.pow_add, ← Nat.pow_add]
        exact Nat.pow_le_pow_right (by decide) (by rw [hK]; decide)
      · have e1 : BigP * UE = 2 ^ (PE + OneE) := by unfold BigP UE; exact (Nat.pow_add 2 PE OneE).symm
        rw [e1]
        exact Nat.pow_le_pow_right (by decide) (by rw [hK]; decide)
  obtain ⟨a1, a2, a3, a4, a5⟩ := T.ok hl hl' s s' hV
  have eq : (ux p + ux e) * (UE : Int) = ux h * ux h' := a3 OneE rfl
  have er : 9007199254740992 * (ux e * (UE : Int)).natAbs ≤ (ux h * ux h').natAbs := by
    by_cases h0 : ux h * ux h' = 0
    · rw [(a4 h0).2]; simp
    · have h1 := rn_rel ((a5 h0).rn OneE rfl)
      have h2 : ux h * ux h' - ux p * ((2 ^ OneE : Nat) : Int) = ux e * (UE : Int) := by
        have h3 : (UE : Int) = ((2 ^ OneE : Nat) : Int) := rfl
        rw [← eq, Int.add_mul, h3]; omega
      rwa [h2] at h1
  have b2 : (ux e).natAbs * UE ≤ BigP * UE := by rw [← na_mul]; omega
  have b3 : (ux p).natAbs * UE ≤ (2 * BigP + 1) * UE := by
    have h1 : (ux p * (UE : Int)).natAbs ≤ (ux h * ux h').natAbs + (ux e * (UE : Int)).natAbs := by
      have h2 : (ux p * (UE : Int) + ux e * (UE : Int)) = ux h * ux h' := by rw [← Int.add_mul]; exact eq
      omega
    rw [na_mul] at h1
    rw [Nat.add_mul, Nat.mul_assoc]
    omega
  have c2 := Nat.le_of_mul_le_mul_right b2 ue_pos
  have c3 := Nat.le_of_mul_le_mul_right b3 ue_pos
  exact ⟨a1, a2, eq, er, a4, c3, by omega⟩
theorem ddw_2 {a b : Nat} (fa : Fin64 a) (fb : Fin64 b) (hp : (ux a * ux b).natAbs ≤ BigP * UE) : ∃ r, floatBits .mul .f64 a b = some r ∧ FMul a b r := by
  obtain ⟨M, hM⟩ : ∃ M, M = 2096 := ⟨_, rfl⟩
  have hs : (ux a * ux b).natAbs < 2 ^ (M + OneE) := by
    have e1 : BigP * UE = 2 ^ (PE + OneE) := by unfold BigP UE; exact (Nat.pow_add 2 PE OneE).symm
    rw [e1] at hp
    have h4 : PE + OneE < M + OneE := by rw [hM]; decide
    exact Nat.lt_of_le_of_lt hp (Nat.pow_lt_pow_right (by decide) h4)
  obtain ⟨r, h1, h2, h3, h4⟩ := fmul_near (c := OneE) rfl hM fa fb hs
  have h3' : 9007199254740992 * (ux r * (UE : Int) - ux a * ux b).natAbs ≤ (ux a * ux b).natAbs + 9007199254740992 * UE := by unfold UE; exact h3
  exact ⟨r, h1, h2, h3', h4, near_bd ue_pos h3' hp⟩
theorem ddw_5 {h l x p e m w s r : Nat} (d : DdF h l) (hp : FitP h x) (A : Mul1 h x p e) (N : FMul l x m) (V : Sm64 (ux e + ux m) w) (F : FSR p w s r) :
    DdF s r ∧ 81129638414606681695789005144064 * ((ux s + ux r) * (UE : Int) - (ux h + ux l) * ux x).natAbs ≤ 16 * ((ux h + ux l) * ux x).natAbs := by
  have lx := form_l d.rn
  have key : 81129638414606681695789005144064 * ((ux p + ux w) * (UE : Int) - (ux h + ux l) * ux x).natAbs ≤ 16 * ((ux h + ux l) * ux x).natAbs ∧ (ux w).natAbs ≤ (ux p).natAbs := by
    by_cases h0 : ux h * ux x = 0
    · have hz : (ux h = 0 ∧ ux l = 0) ∨ ux x = 0 := by
        rcases Int.mul_eq_zero.1 h0 with k0 | k0
        · refine .inl ⟨k0, ?_⟩
          rw [k0] at lx; omega
        · exact .inr k0
      have e2 : ux l * ux x = 0 := by rcases hz with ⟨a, b⟩ | a <;> simp [*]
      have e3 : (ux h + ux l) * ux x = 0 := by rcases hz with ⟨a, b⟩ | a <;> simp [*]
      have z2 := N.z e2
      obtain ⟨z3, z4⟩ := A.z h0
      have z6 : ux w = 0 := by have h1 := rn_two V.rn; rw [z4, z2] at h1; omega
      rw [e3, z3, z6]
      simp
    · have hk : Rn 53 (ux 0 + ux m) (ux m) := by
        rw [ux_0, Int.zero_add]
        exact ⟨N.fin.fl, fun z _ => by rw [Int.sub_self]; exact Nat.zero_le _⟩
      have k := dd_mul (yl := ux 0) ue_pos lx (by rw [ux_0]; exact Nat.zero_le _) A.eq A.er (by rw [ux_0, Int.mul_zero, Int.zero_mul]; exact Nat.zero_le _) N.near hk V.rn (hp.z.resolve_left h0)
      rw [ux_0, Int.add_zero] at k
      exact k
  have b1 : (ux w).natAbs ≤ 2 * BigP + 1 := Nat.le_trans key.2 A.m1
  have m1 := A.m1
  obtain ⟨c1, c2, c3⟩ := F.ok A.fp.lt V.fin.lt (BigP.sz (by omega)) (BigP.sz (by omega)) (.inr (sz_le key.2))
  refine ⟨DdF.of_sm c1 c2 c3, ?_⟩
  rw [c3]; exact key.1
theorem dvp_1 {x y : Int} {J M N c : Nat} (hJ : J = 774) (hM : M = 1400) (hN : N = 2094) (hc : c = 1074) (hx : x.natAbs ≤ 16 * 2 ^ M) (hy : 2 ^ J ≤ y.natAbs) : x.natAbs * 2 ^ c ≤ 2 ^ N * y.natAbs := by
  have h1 : x.natAbs * 2 ^ c ≤ 16 * 2 ^ M * 2 ^ c := Nat.mul_le_mul_right _ hx
  have h2 : 2 ^ N * 2 ^ J ≤ 2 ^ N * y.natAbs := Nat.mul_le_mul_left _ hy
  refine Nat.le_trans h1 (Nat.le_trans ?_ h2)
  rw [show (16 : Nat) = 2 ^ 4 by decide, ← Nat.pow_add, ← Nat.pow_add, ← Nat.pow_add]
  exact Nat.pow_le_pow_right (by decide) (by omega)
theorem dvp_2 {x y : Int} {J M c : Nat} (hJ : J = 774) (hM : M = 1400) (hc : c = 1074) (hy : y.natAbs ≤ 2 ^ M) (hx : 2 ^ J ≤ x.natAbs) : 1152921504606846976 * (81129638414606681695789005144064 * y.natAbs) ≤ x.natAbs * 2 ^ c := by
  have h1 : 1152921504606846976 * (81129638414606681695789005144064 * y.natAbs) ≤ 1152921504606846976 * (81129638414606681695789005144064 * 2 ^ M) := Nat.mul_le_mul_left _ (Nat.mul_le_mul_left _ hy)
  refine Nat.le_trans h1 (Nat.le_trans ?_ (Nat.mul_le_mul_right _ hx))
  rw [show (1152921504606846976 : Nat) = 2 ^ 60 by decide, show (81129638414606681695789005144064 : Nat) = 2 ^ 106 by decide, ← Nat.pow_add, ← Nat.pow_add, ← Nat.pow_add]
  exact Nat.pow_le_pow_right (by decide) (by omega)
theorem dvp_3 {x y q : Int} {J M c K : Nat} (hJ : J = 774) (hM : M = 1400) (hc : c = 1074) (hK : K = 1650) (hx : x.natAbs ≤ 2 ^ M) (hy : 2 ^ J ≤ y.natAbs) (h : (q * y).natAbs ≤ 2 * (x.natAbs * 2 ^ c)) : q.natAbs < 2 ^ (52 + K) := by
  refine Nat.lt_of_not_le fun k => ?_
  have h1 := Nat.mul_le_mul k hy
  rw [← Int.natAbs_mul, ← Nat.pow_add] at h1
  have h2 : 2 * (x.natAbs * 2 ^ c) ≤ 2 ^ (1 + M + c) := by
    rw [Nat.pow_add, Nat.pow_add, Nat.mul_assoc]; exact Nat.mul_le_mul_left _ (Nat.mul_le_mul_right _ hx)
  have h3 : 2 ^ (1 + M + c) < 2 ^ (52 + K + J) := Nat.pow_lt_pow_right (by decide) (by omega)
  omega
theorem dvp_4 {J : Nat} {x : Nat} (hJ : J = 774) (h : 2 ^ J ≤ x) : 2 * (1152921504606846976 * 81129638414606681695789005144064) ≤ x := by
  refine Nat.le_trans ?_ h
  rw [show (2 * (1152921504606846976 * 81129638414606681695789005144064) : Nat) = 2 ^ 167 by decide]
  exact Nat.pow_le_pow_right (by decide) (by omega)
theorem dvp_5 {M N x U : Nat} (hM : M = 1400) (hN : N = 1726) (h : x ≤ 2 ^ M) : 2 * (x * U) ≤ 2 ^ N * U := by
  rw [← Nat.mul_assoc]
  refine Nat.mul_le_mul_right _ (Nat.le_trans (Nat.mul_le_mul_left _ h) ?_)
  rw [show 2 * 2 ^ M = 2 ^ (M + 1) by rw [Nat.pow_succ, Nat.mul_comm]]
  exact Nat.pow_le_pow_right (by decide) (by omega)
theorem quo_0 {q y : Int} {Y : Nat} (hY : Y = y.natAbs) (hy : y ≠ 0) (h : 2 * 9007199254740992 * (q * y - 0).natAbs ≤ 0 + 9007199254740992 * Y) : q = 0 := by
  rw [Int.sub_zero, Int.natAbs_mul, ← hY] at h
  have hp : 0 < Y := by omega
  refine Int.natAbs_eq_zero.1 (Nat.eq_zero_of_not_pos fun k => ?_)
  have h1 : Y ≤ q.natAbs * Y := Nat.le_mul_of_pos_left _ k
  omega
structure Dv0 (h h' q : Nat) : Prop where
  fin : Fin64 q
  near : 2 * 9007199254740992 * (ux q * ux h' - ux h * (UE : Int)).natAbs ≤ 4 * ((ux h).natAbs * UE) + 9007199254740992 * (ux h').natAbs
  sz : q % 9223372036854775808 ≤ 9088264048033660928
  fit : FitP h' q
theorem quo_n2 {h h' N : Nat} (hN : N = 2094) (f : Fin64 h) (f' : Fin64 h') (b0 : ux h' ≠ 0) (q' : FitQ h') (hb : (ux h).natAbs ≤ 16 * BigU) : ∃ r, floatBits .quo .f64 h h' = some r ∧ Fin64 r ∧ 2 * 9007199254740992 * (ux r * ux h' - ux h * (UE : Int)).natAbs ≤ 4 * ((ux h).natAbs * UE) + 9007199254740992 * (ux h').natAbs := by
  obtain ⟨J, hJ⟩ : ∃ J, J = 774 := ⟨_, rfl⟩
  unfold BigU at hb
  have h1 := dvp_1 (M := BigE) (c := OneE) hJ rfl hN rfl hb (q'.low hJ b0)
  exact fquo_near hN (K := OneE) rfl f f' b0 h1
theorem dv_0 {h h' : Nat} (f : Fin64 h) (f' : Fin64 h') (q : FitQ h) (q' : FitQ h') (b0 : ux h' ≠ 0) : ∃ r, floatBits .quo .f64 h h' = some r ∧ Dv0 h h' r := by
  obtain ⟨N, hN⟩ : ∃ N, N = 2094 := ⟨_, rfl⟩
  have hb := fit_big q.hi
  have hb' := fit_big q'.hi
  obtain ⟨r, h1, h2, h3⟩ := quo_n2 hN f f' b0 q' (by omega)
  refine ⟨r, h1, h2, h3, ?_, ?_⟩
  · by_cases h0 : ux h = 0
    · rw [h0, Int.zero_mul, show ((0 : Int).natAbs) = 0 from rfl, Nat.zero_mul, Nat.mul_zero] at h3
      have := sz_0 (quo_0 rfl b0 h3)
      omega
    · obtain ⟨J, hJ⟩ : ∃ J, J = 774 := ⟨_, rfl⟩
      obtain ⟨K, hK⟩ : ∃ K, K = 1650 := ⟨_, rfl⟩
      unfold BigU at hb hb'
      have hY := dvp_2 (M := BigE) (c := OneE) hJ rfl rfl hb' (q.low hJ h0)
      have k := (dv_b h3 hY).2
      have hQ : (ux r * ux h').natAbs ≤ 2 * ((ux h).natAbs * UE) := by
        have := ab8 (a := ux r * ux h') (b := ux h * (UE : Int)); rw [na_mul] at this; omega
      have h5 := sz_of (dvp_3 (M := BigE) (c := OneE) hJ rfl rfl hK hb (q'.low hJ b0) hQ)
      rw [hK] at h5
      omega
  · by_cases h0 : ux h = 0
    · rw [h0, Int.zero_mul, show ((0 : Int).natAbs) = 0 from rfl, Nat.zero_mul, Nat.mul_zero] at h3
      have h4 := quo_0 rfl b0 h3
      refine ⟨.inl (by rw [h4, Int.mul_zero]), by rw [h4, Int.mul_zero]; exact Nat.zero_le _⟩
    · obtain ⟨J, hJ⟩ : ∃ J, J = 774 := ⟨_, rfl⟩
      unfold BigU at hb hb'
      have hY := dvp_2 (M := BigE) (c := OneE) hJ rfl rfl hb' (q.low hJ h0)
      have k := (dv_b h3 hY).2
      have a1 : (ux r * ux h').natAbs ≤ (ux h).natAbs * UE + (ux r * ux h' - ux h * (UE : Int)).natAbs := by
        have := ab8 (a := ux r * ux h') (b := ux h * (UE : Int)); rwa [na_mul] at this
      have a2 : (ux h).natAbs * UE ≤ (ux r * ux h').natAbs + (ux r * ux h' - ux h * (UE : Int)).natAbs := by
        have := ab3 (a := ux h * (UE : Int)) (b := ux r * ux h'); rwa [na_mul] at this
      have a3 := dvp_4 hJ (q.low hJ h0)
      have a4 : 2 * (1152921504606846976 * 81129638414606681695789005144064) * UE ≤ (ux h).natAbs * UE := Nat.mul_le_mul_right _ a3
      have a5 := dvp_5 (U := UE) (M := BigE) (N := PE) rfl rfl hb
      refine ⟨.inr ?_, ?_⟩
      · rw [Int.mul_comm (ux h')]; omega
      · rw [Int.mul_comm (ux h')]; unfold BigP; omega
structure Dv1 (h h' l' q s r : Nat) : Prop where
  ds : DdF s r
  le : (ux h - ux s).natAbs ≤ (ux h).natAbs ∧ (ux h - ux s).natAbs ≤ (ux s).natAbs
  z : ux h = 0 → ux q = 0 ∧ ux s = 0 ∧ ux r = 0
  g : ux h ≠ 0 → (9007199254740992 * 1024 * ((ux h - ux s).natAbs * UE) ≤ 4101 * ((ux h).natAbs * UE) ∧ 9007199254740992 * 1024 * ((ux r).natAbs * UE) ≤ 1025 * ((ux h).natAbs * UE) ∧ 81129638414606681695789005144064 * 64 * ((ux s + ux r) * (UE : Int) - (ux h' + ux l') * ux q).natAbs ≤ 1025 * ((ux h).natAbs * UE))
theorem low_y {h h' : Nat} (q : FitQ h) (q' : FitQ h') (h0 : ux h ≠ 0) : 1152921504606846976 * (81129638414606681695789005144064 * (ux h').natAbs) ≤ (ux h).natAbs * UE := by
  obtain ⟨J, hJ⟩ : ∃ J, J = 774 := ⟨_, rfl⟩
  have hb' := fit_big q'.hi
  unfold BigU at hb'
  exact dvp_2 (M := BigE) (c := OneE) hJ rfl rfl hb' (q.low hJ h0)
theorem dv_1 {h h' l' q s r : Nat} (d' : DdF h' l') (k : FitQ h) (k' : FitQ h') (b0 : ux h' ≠ 0) (A : Dv0 h h' q) (ds : DdF s r) (hm : 81129638414606681695789005144064 * ((ux s + ux r) * (UE : Int) - (ux h' + ux l') * ux q).natAbs ≤ 16 * ((ux h' + ux l') * ux q).natAbs) : Dv1 h h' l' q s r := by
  have lr := form_l ds.rn
  by_cases h0 : ux h = 0
  · have h3 := A.near
    rw [h0, Int.zero_mul, show ((0 : Int).natAbs) = 0 from rfl, Nat.zero_mul, Nat.mul_zero] at h3
    have h4 := quo_0 rfl b0 h3
    rw [h4, Int.mul_zero, Int.sub_zero, na_mul] at hm
    have h5 : (ux s + ux r).natAbs * UE = 0 := by simp at hm; omega
    have h6 : (ux s + ux r).natAbs = 0 := (Nat.mul_eq_zero.1 h5).resolve_right (Nat.ne_of_gt ue_pos)
    have h7 : ux s = 0 ∧ ux r = 0 := by omega
    refine ⟨ds, ?_, fun _ => ⟨h4, h7⟩, fun k0 => absurd h0 k0⟩
    rw [h0, h7.1]; exact ⟨Nat.le_refl _, Nat.le_refl _⟩
  · obtain ⟨g, a, b⟩ := dd_div1 ue_pos (form_l d'.rn) A.near hm lr (low_y k k' h0)
    exact ⟨ds, ⟨a, b⟩, fun k0 => absurd k0 h0, fun _ => g⟩
theorem dv_2 {h l h' l' q s r : Nat} (d : DdF h l) (k : FitQ h) (B : Dv1 h h' l' q s r) : ∃ e1 e2 e3, floatBits .sub .f64 h s = some e1 ∧ floatBits .sub .f64 l r = some e2 ∧ floatBits .add .f64 e1 e2 = some e3 ∧ Fin64 e3 ∧ (ux e3).natAbs ≤ 16 * BigU ∧ Rn 53 (ux l - ux r) (ux e2) ∧ Rn 53 (ux h - ux s + ux e2) (ux e3) := by
  have hb := fit_big k.hi
  have lb := form_lo d hb
  have sb : (ux s).natAbs ≤ 2 * BigU := by have h1 := B.le.1; omega
  have rb := form_l B.ds.rn
  obtain ⟨e1, f1, g1⟩ := fl_sub_fin d.hi B.ds.hi (BigU.max (by have h1 := B.le.1; omega))
  obtain ⟨e2, f2, g2⟩ := fl_sub_fin d.lo B.ds.lo (BigU.max (by omega))
  have x1 : ux e1 = ux h - ux s := by
    refine g1.rn.ex ?_
    have h1 := B.le.1
    have h2 := B.le.2
    rw [Int.sub_eq_add_neg] at h1 h2 ⊢
    exact sterb d.hi.fl B.ds.hi.fl.neg h1 (by rw [Int.natAbs_neg]; exact h2)
  have b2 := rn_two g2.rn
  have h1 := B.le.1
  obtain ⟨e3, f3, g3⟩ := fl_add_fin g1.fin g2.fin (BigU.max (by rw [x1]; omega))
  have b3 := rn_two g3.rn
  rw [x1] at g3 b3
  exact ⟨e1, e2, e3, f1, f2, f3, g3.fin, by omega, g2.rn, g3.rn⟩
theorem dv_3 {h l h' l' q s r e2 e3 t z1 z2 : Nat} (d : DdF h l) (d' : DdF h' l') (k : FitQ h) (k' : FitQ h') (b0 : ux h' ≠ 0) (A : Dv0 h h' q) (B : Dv1 h h' l' q s r) (r2 : Rn 53 (ux l - ux r) (ux e2)) (r3 : Rn 53 (ux h - ux s + ux e2) (ux e3)) (ft : Fin64 t)
    (ht : 2 * 9007199254740992 * (ux t * ux h' - ux e3 * (UE : Int)).natAbs ≤ 4 * ((ux e3).natAbs * UE) + 9007199254740992 * (ux h').natAbs) (F : FSR q t z1 z2) :
    DdF z1 z2 ∧ 81129638414606681695789005144064 * ((ux z1 + ux z2) * (ux h' + ux l') - (ux h + ux l) * (UE : Int)).natAbs ≤ 64 * ((ux h + ux l) * (UE : Int)).natAbs := by
  have key : 81129638414606681695789005144064 * ((ux q + ux t) * (ux h' + ux l') - (ux h + ux l) * (UE : Int)).natAbs ≤ 64 * ((ux h + ux l) * (UE : Int)).natAbs ∧ (ux t).natAbs ≤ (ux q).natAbs := by
    by_cases h0 : ux h = 0
    · have lx := form_l d.rn
      obtain ⟨a, b, c⟩ := B.z h0
      have l0 : ux l = 0 := by rw [h0] at lx; omega
      have e20 : ux e2 = 0 := by have := rn_two r2; rw [l0, c] at this; omega
      have e30 : ux e3 = 0 := by have := rn_two r3; rw [h0, b, e20] at this; omega
      rw [e30, Int.zero_mul, show ((0 : Int).natAbs) = 0 from rfl, Nat.zero_mul, Nat.mul_zero] at ht
      have t0 := quo_0 rfl b0 ht
      rw [a, t0, h0, l0]
      simp
    · exact dd_div2 (form_l d.rn) (form_l d'.rn) A.near (B.g h0) r2 r3 ht b0 (low_y k k' h0)
  have sq := A.sz
  have st := sz_le key.2
  obtain ⟨c1, c2, c3⟩ := F.ok A.fin.lt ft.lt (by omega) (by omega) (.inr st)
  refine ⟨DdF.of_sm c1 c2 c3, ?_⟩
  rw [c3]; exact key.1
theorem ddMulF_w {h l x : Nat} (d : DdF h l) (q : FitQ h) (fx : Fin64 x) (sx : x % 9223372036854775808 ≤ 9088264048033660928) (hp : FitP h x) (w : World) :
    Calls Tryz.prog 30 #[.agg #[Fv h, Fv l], Fv x] w fun en w' => ∃ s r, en = .returned (.agg #[Fv s, Fv r]) ∧ DdF s r ∧ 81129638414606681695789005144064 * ((ux s + ux r) * (UE : Int) - (ux h + ux l) * ux x).natAbs ≤ 16 * ((ux h + ux l) * ux x).natAbs ∧ Below w.heap.size w w' := by
  have hSF : ∀ (w : World) (a : Addr) (b : Nat), (store a (Fv b)).run Tryz.prog w = stored Tryz.prog w a (Fv b) .plain := stF
  have HD : Hid ((DdF h l ∧ Fin64 x) ∧ (FitQ h ∧ x % 9223372036854775808 ≤ 9088264048033660928) ∧ FitP h x) := ⟨⟨d, fx⟩, ⟨q, sx⟩, hp⟩
  have b2 : (ux l * ux x).natAbs ≤ BigP * UE := by
    refine Nat.le_trans ?_ hp.bd
    rw [Int.natAbs_mul, Int.natAbs_mul]
    exact Nat.mul_le_mul_right _ (by have := form_l d.rn; omega)
  obtain ⟨m2, hm2, hN⟩ := ddw_2 d.lo fx b2
  have HMN : Hid (FMul l x m2) := hN
  have r2 : ∀ W : World, (binOp .mul 30 (Fv l) (Fv x)).run Tryz.prog W = .ok (Fv m2) W := fun W => run_float_arith W .mul 30 .f64 l x m2 hm2
  clear d q sx hp b2 hm2 hN fx
  go_enter Tryz.func30, Tryz.ntmps30
  go_wp2_with fail
  obtain ⟨W0, hW0⟩ : ∃ W0, W0 = ((w.alloc (.cells #[Fv h, Fv l] 32)).alloc (.cells #[Fv 0, Fv 0] 32)) := ⟨_, rfl⟩
  have Xa : Hid (Box W0 (w.heap.size) (Fv h) (Fv l)) := by rw [hW0]; exact ⟨by go_simp, by go_simp, by go_simp, by go_simp⟩
  have Xr : Hid (Box W0 (w.heap.size + 1) (Fv 0) (Fv 0)) := by rw [hW0]; exact ⟨by go_simp, by go_simp, by go_simp, by go_simp⟩
  have hb0 : Below w.heap.size w W0 := by rw [hW0]; exact below2 w _ _
  rw [← hW0]
  clear hW0
  have hbw : Below w.heap.size w w := Below.refl _ _
  obtain ⟨gr, hgr⟩ : ∃ g, g = w.heap.size + 1 := ⟨_, rfl⟩
  have HGr : Hid (w.heap.size ≤ gr) := by rw [hgr]; show _ ≤ _; omega
  rw [← hgr] at Xr
  try rw [← hgr]
  obtain ⟨ga, hga⟩ : ∃ g, g = w.heap.size := ⟨_, rfl⟩
  have HGa : Hid (w.heap.size ≤ ga) := by rw [hga]; show _ ≤ _; omega
  rw [← hga] at Xa
  try rw [← hga]
  have HGD : Hid (ga ≠ gr ∧ gr ≠ ga) := by rw [hga, hgr]; exact ⟨by omega, by omega⟩
  clear hga hgr
  replace hbw := Below.on hbw hb0
  clear hb0
  obtain ⟨ca0, ca1, fa0, fa1⟩ := Xa.out
  have hnea := Xa.out.lt
  go_wp2_with fail
  clear ca0 ca1 fa0 fa1 hnea
  refine (twoProd h x _).mono ?_
  rintro e9 v9 ⟨p, e, n9, rfl, rfl, hR⟩
  have A1 := Hid.mk9 (ddw_1 HD.out.1.1.hi.lt HD.out.1.2.lt (by have := HD.out.2.1.1.hi; omega) HD.out.2.1.2 HD.out.2.2 hR)
  clear hR
  obtain ⟨v, hv1, hv2⟩ := ddm_4 A1.out HMN.out.fin (by have := HMN.out.bd; omega)
  have C4 := Hid.mk9 hv2
  have r4 : ∀ W : World, (binOp .add 30 (Fv e) (Fv m2)).run Tryz.prog W = .ok (Fv v) W := fun W => run_float_arith W .add 30 .f64 e m2 v hv1
  clear hv1 hv2
  have hbr := bDrewN (Below.refl W0.heap.size W0) n9
  generalize W0.drewN n9 = V1 at *
  replace Xa : Hid _ := Xa.out.below hbr
  replace Xr : Hid _ := Xr.out.below hbr
  replace hbw := Below.on hbw hbr
  clear hbr
  obtain ⟨ca0, ca1, fa0, fa1⟩ := Xa.out
  have hnea := Xa.out.lt
  go_wp2_with fail
  clear ca0 ca1 fa0 fa1 hnea
  refine (fastTwoSum p v _).mono ?_
  rintro e9 v9 ⟨s4, r5, n9, rfl, rfl, hR⟩
  have HR4 := Hid.mk9 (ddw_5 HD.out.1.1 HD.out.2.2 A1.out HMN.out C4.out hR)
  clear hR r2 r4
  have hbr := bDrewN (Below.refl V1.heap.size V1) n9
  generalize V1.drewN n9 = V4 at *
  replace Xa : Hid _ := Xa.out.below hbr
  replace Xr : Hid _ := Xr.out.below hbr
  replace hbw := Below.on hbw hbr
  clear hbr
  go_wp2_with fail
  refine (ddpair s4 r5 _).mono ?_
  rintro e v5 ⟨rfl, hb5⟩
  replace Xa : Hid _ := Xa.out.below hb5
  replace Xr : Hid _ := Xr.out.below hb5
  replace hbw := Below.on hbw hb5
  clear hb5
  obtain ⟨cr0, cr1, fr0, fr1⟩ := Xr.out
  have hner := Xr.out.lt
  go_wp2_with fail
  refine bodyPost_ret (v := .agg #[Fv s4, Fv r5]) (by rw [results_cell1 rfl]; go_simp) rfl ⟨s4, r5, rfl, HR4.out.1, HR4.out.2, ?_⟩
  exact bSet (bSet (hbw) _ _ _ HGr.out) _ _ _ HGr.out
theorem ddDiv_f {h l h' l' : Nat} (d : DdF h l) (d' : DdF h' l') (q : FitQ h) (q' : FitQ h') (b0 : ux h' ≠ 0) (w : World) :
    Calls Tryz.prog 24 #[.agg #[Fv h, Fv l], .agg #[Fv h', Fv l']] w fun en w' => ∃ z1 z2, en = .returned (.agg #[Fv z1, Fv z2]) ∧ DdF z1 z2 ∧ 81129638414606681695789005144064 * ((ux z1 + ux z2) * (ux h' + ux l') - (ux h + ux l) * (UE : Int)).natAbs ≤ 64 * ((ux h + ux l) * (UE : Int)).natAbs ∧ Below w.heap.size w w' := by
  have hSF : ∀ (w : World) (a : Addr) (b : Nat), (store a (Fv b)).run Tryz.prog w = stored Tryz.prog w a (Fv b) .plain := stF
  have HD : Hid ((DdF h l ∧ DdF h' l') ∧ FitQ h ∧ FitQ h' ∧ ux h' ≠ 0) := ⟨⟨d, d'⟩, q, q', b0⟩
  obtain ⟨q1, hq1, hA⟩ := dv_0 d.hi d'.hi q q' b0
  have HA := Hid.mk9 hA
  have f1 : ∀ W : World, (binOp .quo 30 (Fv h) (Fv h')).run Tryz.prog W = .ok (Fv q1) W := fun W => run_float_arith W .quo 30 .f64 h h' q1 hq1
  clear d d' q q' b0 hq1 hA
  go_enter Tryz.func24, Tryz.ntmps24
  go_wp2_with fail
  obtain ⟨W0, hW0⟩ : ∃ W0, W0 = (((w.alloc (.cells #[Fv h, Fv l] 32)).alloc (.cells #[Fv h', Fv l'] 32)).alloc (.cells #[Fv 0, Fv 0] 32)) := ⟨_, rfl⟩
  have Xa : Hid (Box W0 (w.heap.size) (Fv h) (Fv l)) := by rw [hW0]; exact ⟨by go_simp, by go_simp, by go_simp, by go_simp⟩
  have Xb : Hid (Box W0 (w.heap.size + 1) (Fv h') (Fv l')) := by rw [hW0]; exact ⟨by go_simp, by go_simp, by go_simp, by go_simp⟩
  have Xr : Hid (Box W0 (w.heap.size + 1 + 1) (Fv 0) (Fv 0)) := by rw [hW0]; exact ⟨by go_simp, by go_simp, by go_simp, by go_simp⟩
  have hb0 : Below w.heap.size w W0 := by rw [hW0]; exact below3 w _ _ _
  rw [← hW0]
  clear hW0
  have hbw : Below w.heap.size w w := Below.refl _ _
  obtain ⟨gr, hgr⟩ : ∃ g, g = w.heap.size + 1 + 1 := ⟨_, rfl⟩
  have HGr : Hid (w.heap.size ≤ gr) := by rw [hgr]; show _ ≤ _; omega
  rw [← hgr] at Xr
  try rw [← hgr]
  obtain ⟨gb, hgb⟩ : ∃ g, g = w.heap.size + 1 := ⟨_, rfl⟩
  have HGb : Hid (w.heap.size ≤ gb) := by rw [hgb]; show _ ≤ _; omega
  rw [← hgb] at Xb
  try rw [← hgb]
  obtain ⟨ga, hga⟩ : ∃ g, g = w.heap.size := ⟨_, rfl⟩
  have HGa : Hid (w.heap.size ≤ ga) := by rw [hga]; show _ ≤ _; omega
  rw [← hga] at Xa
  try rw [← hga]
  have HGD : Hid (ga ≠ gb ∧ ga ≠ gr ∧ gb ≠ ga ∧ gb ≠ gr ∧ gr ≠ ga ∧ gr ≠ gb) := by rw [hga, hgb, hgr]; exact ⟨by omega, by omega, by omega, by omega, by omega, by omega⟩
  clear hga hgb hgr
  replace hbw := Below.on hbw hb0
  clear hb0
  obtain ⟨hgd0, hgd1, hgd2, hgd3, hgd4, hgd5⟩ := HGD.out
  obtain ⟨ca0, ca1, fa0, fa1⟩ := Xa.out
  have hnea := Xa.out.lt
  obtain ⟨cb0, cb1, fb0, fb1⟩ := Xb.out
  have hneb := Xb.out.lt
  go_wp2_with fail
  clear ca0 ca1 fa0 fa1 hnea
  clear cb0 cb1 fb0 fb1 hneb
  refine (ddMulF_w HD.out.1.2 HD.out.2.2.1 HA.out.fin HA.out.sz HA.out.fit _).mono ?_
  rintro e1 v1 ⟨s, r, rfl, hds, hms, hb1⟩
  have HB := Hid.mk9 (dv_1 HD.out.1.2 HD.out.2.1 HD.out.2.2.1 HD.out.2.2.2 HA.out hds hms)
  clear hds hms
  obtain ⟨e1, e2, e3, he1, he2, he3, fe3, hbe, r2, r3⟩ := dv_2 HD.out.1.1 HD.out.2.1 HB.out
  obtain ⟨N9, hN9⟩ : ∃ N, N = 2094 := ⟨_, rfl⟩
  obtain ⟨t, ht, ft, htn⟩ := quo_n2 hN9 fe3 HD.out.1.2.hi HD.out.2.2.2 HD.out.2.2.1 hbe
  have HE := Hid.mk9 (And.intro (And.intro r2 r3) (And.intro ft htn))
  clear r2 r3 ft htn fe3 hbe hN9
  have f2 : ∀ W : World, (binOp .sub 30 (Fv h) (Fv s)).run Tryz.prog W = .ok (Fv e1) W := fun W => run_float_arith W .sub 30 .f64 h s e1 he1
  clear he1
  have f3 : ∀ W : World, (binOp .sub 30 (Fv l) (Fv r)).run Tryz.prog W = .ok (Fv e2) W := fun W => run_float_arith W .sub 30 .f64 l r e2 he2
  clear he2
  have f4 : ∀ W : World, (binOp .add 30 (Fv e1) (Fv e2)).run Tryz.prog W = .ok (Fv e3) W := fun W => run_float_arith W .add 30 .f64 e1 e2 e3 he3
  clear he3
  have f5 : ∀ W : World, (binOp .quo 30 (Fv e3) (Fv h')).run Tryz.prog W = .ok (Fv t) W := fun W => run_float_arith W .quo 30 .f64 e3 h' t ht
  clear ht
  replace Xa : Hid _ := Xa.out.below hb1
  replace Xb : Hid _ := Xb.out.below hb1
  replace Xr : Hid _ := Xr.out.below hb1
  replace hbw := Below.on hbw hb1
  clear hb1
  obtain ⟨ca0, ca1, fa0, fa1⟩ := Xa.out
  have hnea := Xa.out.lt
  obtain ⟨cb0, cb1, fb0, fb1⟩ := Xb.out
  have hneb := Xb.out.lt
  go_wp2_with fail
  clear ca0 ca1 fa0 fa1 hnea
  clear cb0 cb1 fb0 fb1 hneb
  have Xk0 : Hid (Box (v1.alloc (.cells #[Fv s, Fv r] 32)) v1.heap.size (Fv s) (Fv r)) := Box.new v1 _ _ _
  have hbn : Below v1.heap.size v1 (v1.alloc (.cells #[Fv s, Fv r] 32)) := below1 v1 _
  generalize v1.alloc (.cells #[Fv s, Fv r] 32) = Wk at *
  have HGk : Hid (w.heap.size ≤ v1.heap.size) := hbw.size
  replace Xa : Hid _ := Xa.out.below hbn
  replace Xb : Hid _ := Xb.out.below hbn
  replace Xr : Hid _ := Xr.out.below hbn
  replace hbw := Below.on hbw hbn
  clear hbn
  generalize v1.heap.size = gk at *
  have Xk := Xk0
  clear Xk0
  obtain ⟨ca0, ca1, fa0, fa1⟩ := Xa.out
  have hnea := Xa.out.lt
  obtain ⟨cb0, cb1, fb0, fb1⟩ := Xb.out
  have hneb := Xb.out.lt
  obtain ⟨ck0, ck1, fk0, fk1⟩ := Xk.out
  have hnek := Xk.out.lt
  go_wp2_with fail
  clear ca0 ca1 fa0 fa1 hnea
  clear cb0 cb1 fb0 fb1 hneb
  clear ck0 ck1 fk0 fk1 hnek
  refine (fastTwoSum q1 t _).mono ?_
  rintro e9 v9 ⟨z1, z2, n9, rfl, rfl, hR⟩
  have HZ := Hid.mk9 (dv_3 HD.out.1.1 HD.out.1.2 HD.out.2.1 HD.out.2.2.1 HD.out.2.2.2 HA.out HB.out HE.out.1.1 HE.out.1.2 HE.out.2.1 HE.out.2.2 hR)
  clear hR f1 f2 f3 f4 f5
  have hbr := bDrewN (Below.refl Wk.heap.size Wk) n9
  generalize Wk.drewN n9 = V2 at *
  replace Xa : Hid _ := Xa.out.below hbr
  replace Xb : Hid _ := Xb.out.below hbr
  replace Xr : Hid _ := Xr.out.below hbr
  replace Xk : Hid _ := Xk.out.below hbr
  replace hbw := Below.on hbw hbr
  clear hbr
  go_wp2_with fail
  refine (ddpair z1 z2 _).mono ?_
  rintro e v3 ⟨rfl, hb3⟩
  replace Xa : Hid _ := Xa.out.below hb3
  replace Xb : Hid _ := Xb.out.below hb3
  replace Xr : Hid _ := Xr.out.below hb3
  replace Xk : Hid _ := Xk.out.below hb3
  replace hbw := Below.on hbw hb3
  clear hb3
  obtain ⟨cr0, cr1, fr0, fr1⟩ := Xr.out
  have hner := Xr.out.lt
  go_wp2_with fail
  refine bodyPost_ret (v := .agg #[Fv z1, Fv z2]) (by rw [results_cell1 rfl]; go_simp) rfl ⟨z1, z2, rfl, HZ.out.1, HZ.out.2, ?_⟩
  exact bSet (bSet (hbw) _ _ _ HGr.out) _ _ _ HGr.out
end Go.Proofs.YtidggnjnlhjhlaaGreatDoor
