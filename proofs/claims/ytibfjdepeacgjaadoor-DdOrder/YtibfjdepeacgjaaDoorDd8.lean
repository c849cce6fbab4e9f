import Derived.Test.YtibfjdepeacgjaaDoorJ13
namespace Go.Proofs.YtibfjdepeacgjaaDoor
open Go.RowKit Go.Shelf
set_option maxRecDepth 20000
set_option maxHeartbeats 0
theorem ddOrder_nn (h l h2 l2 : Nat) (hh : h < 18446744073709551616) (hl : l < 18446744073709551616) (hh2 : h2 < 18446744073709551616) (hl2 : l2 < 18446744073709551616) (d : ddB h l = false) (d2 : ddB h2 l2 = false) (w : World) (hT : Tab w) :
    Calls Tryd.prog 3 #[.agg #[.int .u64 (h : Int), .int .u64 (l : Int)], .agg #[.int .u64 (h2 : Int), .int .u64 (l2 : Int)]] w fun en w' => en = .returned (.bool true) ∧ Below w.heap.size w w' := by
  have hSF : ∀ (w : World) (a : Addr) (b : Nat), (store a (Fv b)).run Tryd.prog w = stored Tryd.prog w a (Fv b) .plain := stF
  have hbw : Below w.heap.size w w := Below.refl _ _
  have TB : Hid (Tab w) := hT
  have P1 := lpair h l
  have P2 := lpair h2 l2
  have G1 := ddform h l hh hl
  have G2 := ddform h2 l2 hh2 hl2
  have C12 := ddcmp h l h2 l2 hh hl hh2 hl2
  have C21 := ddcmp h2 l2 h l hh2 hl2 hh hl
  rw [cmpD_no (.inl d)] at C12
  rw [cmpD_no (.inr d)] at C21
  rw [d] at G1
  rw [d2] at G2
  have NV3 := ddvalue_n h l hh hl d
  have NV4 := ddvalue_n h2 l2 hh2 hl2 d2
  clear hT hh hl hh2 hl2 d d2
  go_enter Tryd.func3, Tryd.ntmps3
  go_wp2_with fail
  obtain ⟨W0, hW0⟩ : ∃ W0, W0 = ((w.alloc (.cells #[.int .u64 (h : Int), .int .u64 (l : Int)] 24)).alloc (.cells #[.int .u64 (h2 : Int), .int .u64 (l2 : Int)] 24)) := ⟨_, rfl⟩
  have Xa : Hid (Box W0 (w.heap.size) (.int .u64 (h : Int)) (.int .u64 (l : Int))) := by rw [hW0]; exact ⟨by go_simp, by go_simp, by go_simp, by go_simp⟩
  have Xb : Hid (Box W0 (w.heap.size + 1) (.int .u64 (h2 : Int)) (.int .u64 (l2 : Int))) := by rw [hW0]; exact ⟨by go_simp, by go_simp, by go_simp, by go_simp⟩
  have hb0 : Below w.heap.size w W0 := by rw [hW0]; exact below2 w _ _
  rw [← hW0]
  clear hW0
  have hbw : Below w.heap.size w w := Below.refl _ _
  obtain ⟨gb, hgb⟩ : ∃ g, g = w.heap.size + 1 := ⟨_, rfl⟩
  have HGb : Hid (w.heap.size ≤ gb) := by rw [hgb]; show _ ≤ _; omega
  rw [← hgb] at Xb
  try rw [← hgb]
  obtain ⟨ga, hga⟩ : ∃ g, g = w.heap.size := ⟨_, rfl⟩
  have HGa : Hid (w.heap.size ≤ ga) := by rw [hga]; show _ ≤ _; omega
  rw [← hga] at Xa
  try rw [← hga]
  have HGD : Hid (ga ≠ gb ∧ gb ≠ ga) := by rw [hga, hgb]; exact ⟨by omega, by omega⟩
  clear hga hgb
  replace hbw := Below.on hbw hb0
  clear hb0
  refine (awake20 _).mono ?_
  rintro e v1 ⟨rfl, hb1⟩
  replace Xa : Hid _ := Xa.out.below hb1
  replace Xb : Hid _ := Xb.out.below hb1
  replace hbw := Below.on hbw hb1
  clear hb1
  obtain ⟨ca0, ca1, fa0, fa1⟩ := Xa.out
  have hnea := Xa.out.lt
  obtain ⟨cb0, cb1, fb0, fb1⟩ := Xb.out
  have hneb := Xb.out.lt
  go_wp2_with fail
  clear ca0 ca1 fa0 fa1 hnea
  clear cb0 cb1 fb0 fb1 hneb
  obtain ⟨V1, hV1⟩ : ∃ W1, W1 = v1.drew := ⟨_, rfl⟩
  have hbd : Below v1.heap.size v1 V1 := by rw [hV1]; exact bDrew1 (Below.refl _ _)
  replace Xa : Hid _ := Xa.out.below hbd
  replace Xb : Hid _ := Xb.out.below hbd
  replace hbw := Below.on hbw hbd
  clear hbd
  have HJ : Hid ((fun W' : World => W'.cell? ⟨ga, 0, none⟩ = some (.int .u64 (h : Int)) ∧ W'.cell? ⟨ga, 1, none⟩ = some (.int .u64 (l : Int)) ∧ W'.cell? ⟨gb, 0, none⟩ = some (.int .u64 (h2 : Int)) ∧ W'.cell? ⟨gb, 1, none⟩ = some (.int .u64 (l2 : Int))) V1) := ⟨Xa.out.c0, Xa.out.c1, Xb.out.c0, Xb.out.c1⟩
  refine wp_region_J (fun W' => W'.cell? ⟨ga, 0, none⟩ = some (.int .u64 (h : Int)) ∧ W'.cell? ⟨ga, 1, none⟩ = some (.int .u64 (l : Int)) ∧ W'.cell? ⟨gb, 0, none⟩ = some (.int .u64 (h2 : Int)) ∧ W'.cell? ⟨gb, 1, none⟩ = some (.int .u64 (l2 : Int))) (by kernel_rfl) ?_
  rw [← hV1]
  clear hV1
  refine wpJ_tq 0 rfl HJ.out ?_
  refine wpJ_tq 2 rfl HJ.out ?_
  go_simp
  refine wpJ_nodes fun WP hWP L0 a0 hL ha => ?_
  have N2xy : ∀ (gx : Nat) (gy : Nat) (W' : World), Box W' ga (.int .u64 (h : Int)) (.int .u64 (l : Int)) ∧ Box W' gb (.int .u64 (h2 : Int)) (.int .u64 (l2 : Int)) ∧ Below w.heap.size w W' ∧ Box W' gx (Fv 0) (Fv 0) ∧ w.heap.size ≤ gx ∧ gx ≠ ga ∧ gx ≠ gb ∧ Box W' gy (Fv 0) (Fv 0) ∧ w.heap.size ≤ gy ∧ gy ≠ ga ∧ gy ≠ gb ∧ gx ≠ gy → WP 2 ((((L0.setIfInBounds 1 true).setIfInBounds 3 true).setIfInBounds 4 true).setIfInBounds 5 true) ((((a0.put (some 16) (.agg #[Fv h, Fv l])).put (some 18) (.agg #[Fv h2, Fv l2])).put (some 5) (.pointer (some ⟨gx, 0, none⟩))).put (some 6) (.pointer (some ⟨gy, 0, none⟩))) W' := by
    rintro gx gy W' ⟨xa, xb, hbw, xx, hgx, dxa, dxb, xy, hgy, dya, dyb, dd⟩
    subst hWP hL ha
    have Hxa := Hid.mk9 xa
    have Hxb := Hid.mk9 xb
    have Hxx := Hid.mk9 xx
    have Hhgx := Hid.mk9 hgx
    have Hdxa := Hid.mk9 dxa
    have Hdxb := Hid.mk9 dxb
    have Hxy := Hid.mk9 xy
    have Hhgy := Hid.mk9 hgy
    have Hdya := Hid.mk9 dya
    have Hdyb := Hid.mk9 dyb
    have Hdd := Hid.mk9 dd
    clear xa xb xx hgx dxa dxb xy hgy dya dyb dd
    go_simp
    have Xa := Hxa
    have Xb := Hxb
    have Xx := Hxx
    have Xy := Hxy
    clear Hxa Hxb Hxx Hxy
    have e1 := Hdxa.out
    have e2 := Hdxb.out
    have e3 := Hdya.out
    have e4 := Hdyb.out
    have e5 := Hdd.out
    have e6 := Ne.symm e1
    have e7 := Ne.symm e2
    have e8 := Ne.symm e3
    have e9 := Ne.symm e4
    have e0 := Ne.symm e5
    have HGx : Hid (w.heap.size ≤ gx) := Hhgx.out
    have HGy : Hid (w.heap.size ≤ gy) := Hhgy.out
    obtain ⟨ca0, ca1, fa0, fa1⟩ := Xa.out
    have hnea := Xa.out.lt
    obtain ⟨cb0, cb1, fb0, fb1⟩ := Xb.out
    have hneb := Xb.out.lt
    obtain ⟨cx0, cx1, fx0, fx1⟩ := Xx.out
    have hnex := Xx.out.lt
    obtain ⟨cy0, cy1, fy0, fy1⟩ := Xy.out
    have hney := Xy.out.lt
    refine wpJ_on 6 rfl fun KJ hK => ?_
    go_simp
    refine hK _ _ ⟨by go_simp, by go_simp, by go_simp, by go_simp⟩ ?_
    clear hK
    refine wpJ_on 7 rfl fun KJ hK => ?_
    go_simp
    refine hK _ _ ⟨by go_simp, by go_simp, by go_simp, by go_simp⟩ ?_
    clear hK
    refine wpJ_done (by kernel_rfl) ?_ _
    obtain ⟨Wy, hWy⟩ : ∃ W9, W9 = ((((W'.setCell ⟨gx, 0, none⟩ (Fv h)).setCell ⟨gx, 1, none⟩ (Fv l)).setCell ⟨gy, 0, none⟩ (Fv h2)).setCell ⟨gy, 1, none⟩ (Fv l2)) := ⟨_, rfl⟩
    have Yx : Hid (Box Wy gx (Fv h) (Fv l)) := by rw [hWy]; exact ⟨by go_simp, by go_simp, by go_simp, by go_simp⟩
    have Yy : Hid (Box Wy gy (Fv h2) (Fv l2)) := by rw [hWy]; exact ⟨by go_simp, by go_simp, by go_simp, by go_simp⟩
    have hbw2 : Below w.heap.size w Wy := by rw [hWy]; exact bSet (bSet (bSet (bSet hbw _ _ _ HGx.out) _ _ _ HGx.out) _ _ _ HGy.out) _ _ _ HGy.out
    clear ca0 ca1 fa0 fa1 hnea
    clear cb0 cb1 fb0 fb1 hneb
    clear cx0 cx1 fx0 fx1 hnex
    clear cy0 cy1 fy0 fy1 hney
    rw [← hWy]
    have HXY : Hid (gx ≠ gy) := e5
    clear hWy hbw Xa Xb Xx Xy e1 e2 e3 e4 e5 e6 e7 e8 e9 e0
    have hbw := hbw2
    have Xx := Yx
    have Xy := Yy
    clear hbw2 Yx Yy
    obtain ⟨cx0, cx1, fx0, fx1⟩ := Xx.out
    have hnex := Xx.out.lt
    go_wp2_with fail
    clear cx0 cx1 fx0 fx1 hnex
    refine (NV3 _).mono ?_
    rintro en v3 ⟨rfl, hb3⟩
    replace Xx : Hid _ := Xx.out.below hb3
    replace Xy : Hid _ := Xy.out.below hb3
    replace hbw := Below.on hbw hb3
    clear hb3
    obtain ⟨cy0, cy1, fy0, fy1⟩ := Xy.out
    have hney := Xy.out.lt
    go_wp2_with fail
    clear cy0 cy1 fy0 fy1 hney
    have Xv0 : Hid (B3q (v3.alloc (.cells #[.bool false, .slice none 0 0, .int .i64 0] 34)) v3.heap.size (.bool false) (.slice none 0 0) (.int .i64 0)) := B3q.new v3 _ _ _ _
    have hbn : Below v3.heap.size v3 (v3.alloc (.cells #[.bool false, .slice none 0 0, .int .i64 0] 34)) := below1 v3 _
    generalize v3.alloc (.cells #[.bool false, .slice none 0 0, .int .i64 0] 34) = Wv at *
    have HGv : Hid (w.heap.size ≤ v3.heap.size) := hbw.size
    replace Xx : Hid _ := Xx.out.below hbn
    replace Xy : Hid _ := Xy.out.below hbn
    replace hbw := Below.on hbw hbn
    clear hbn
    generalize v3.heap.size = gv at *
    have Xv := Xv0
    clear Xv0
    refine (NV4 _).mono ?_
    rintro en v4 ⟨rfl, hb4⟩
    replace Xx : Hid _ := Xx.out.below hb4
    replace Xy : Hid _ := Xy.out.below hb4
    replace Xv : Hid _ := Xv.out.below hb4
    replace hbw := Below.on hbw hb4
    clear hb4
    obtain ⟨cx0, cx1, fx0, fx1⟩ := Xx.out
    have hnex := Xx.out.lt
    go_wp2_with fail
    clear cx0 cx1 fx0 fx1 hnex
    have Xu0 : Hid (B3q (v4.alloc (.cells #[.bool false, .slice none 0 0, .int .i64 0] 34)) v4.heap.size (.bool false) (.slice none 0 0) (.int .i64 0)) := B3q.new v4 _ _ _ _
    have hbn : Below v4.heap.size v4 (v4.alloc (.cells #[.bool false, .slice none 0 0, .int .i64 0] 34)) := below1 v4 _
    generalize v4.alloc (.cells #[.bool false, .slice none 0 0, .int .i64 0] 34) = Wu at *
    have HGu : Hid (w.heap.size ≤ v4.heap.size) := hbw.size
    replace Xx : Hid _ := Xx.out.below hbn
    replace Xy : Hid _ := Xy.out.below hbn
    replace Xv : Hid _ := Xv.out.below hbn
    replace hbw := Below.on hbw hbn
    clear hbn
    generalize v4.heap.size = gu at *
    have Xu := Xu0
    clear Xu0
    obtain ⟨V2, hV2⟩ : ∃ W1, W1 = Wu.drew := ⟨_, rfl⟩
    have hbd : Below Wu.heap.size Wu V2 := by rw [hV2]; exact bDrew1 (Below.refl _ _)
    replace Xx : Hid _ := Xx.out.below hbd
    replace Xy : Hid _ := Xy.out.below hbd
    replace Xv : Hid _ := Xv.out.below hbd
    replace Xu : Hid _ := Xu.out.below hbd
    replace hbw := Below.on hbw hbd
    clear hbd
    have HJ : Hid ((fun W' : World => W'.cell? ⟨gx, 0, none⟩ = some (Fv h) ∧ W'.cell? ⟨gx, 1, none⟩ = some (Fv l) ∧ W'.cell? ⟨gy, 0, none⟩ = some (Fv h2) ∧ W'.cell? ⟨gy, 1, none⟩ = some (Fv l2)) V2) := ⟨Xx.out.c0, Xx.out.c1, Xy.out.c0, Xy.out.c1⟩
    refine wp_region_J (fun W' => W'.cell? ⟨gx, 0, none⟩ = some (Fv h) ∧ W'.cell? ⟨gx, 1, none⟩ = some (Fv l) ∧ W'.cell? ⟨gy, 0, none⟩ = some (Fv h2) ∧ W'.cell? ⟨gy, 1, none⟩ = some (Fv l2)) (by kernel_rfl) ?_
    rw [← hV2]
    clear hV2
    refine wpJ_tq 0 rfl HJ.out ?_
    refine wpJ_tq 2 rfl HJ.out ?_
    refine wpJ_tq 3 rfl HJ.out ?_
    refine wpJ_on 1 rfl fun KJ hK => ?_
    go_simp
    refine (G1 _).mono ?_
    rintro e v5 ⟨rfl, hb5⟩
    replace Xx : Hid _ := Xx.out.below hb5
    replace Xy : Hid _ := Xy.out.below hb5
    replace Xv : Hid _ := Xv.out.below hb5
    replace Xu : Hid _ := Xu.out.below hb5
    replace hbw := Below.on hbw hb5
    clear hb5
    clear HJ
    have HJ : Hid ((fun W' : World => W'.cell? ⟨gx, 0, none⟩ = some (Fv h) ∧ W'.cell? ⟨gx, 1, none⟩ = some (Fv l) ∧ W'.cell? ⟨gy, 0, none⟩ = some (Fv h2) ∧ W'.cell? ⟨gy, 1, none⟩ = some (Fv l2)) v5) := ⟨Xx.out.c0, Xx.out.c1, Xy.out.c0, Xy.out.c1⟩
    refine hK _ _ HJ.out ?_
    clear hK
    refine wpJ_tq 4 rfl HJ.out ?_
    refine wpJ_tq 5 rfl HJ.out ?_
    refine wpJ_tq 6 rfl HJ.out ?_
    refine wpJ_tq 8 rfl HJ.out ?_
    refine wpJ_tq 9 rfl HJ.out ?_
    refine wpJ_on 7 rfl fun KJ hK => ?_
    go_simp
    refine (G2 _).mono ?_
    rintro e v6 ⟨rfl, hb6⟩
    replace Xx : Hid _ := Xx.out.below hb6
    replace Xy : Hid _ := Xy.out.below hb6
    replace Xv : Hid _ := Xv.out.below hb6
    replace Xu : Hid _ := Xu.out.below hb6
    replace hbw := Below.on hbw hb6
    clear hb6
    clear HJ
    have HJ : Hid ((fun W' : World => W'.cell? ⟨gx, 0, none⟩ = some (Fv h) ∧ W'.cell? ⟨gx, 1, none⟩ = some (Fv l) ∧ W'.cell? ⟨gy, 0, none⟩ = some (Fv h2) ∧ W'.cell? ⟨gy, 1, none⟩ = some (Fv l2)) v6) := ⟨Xx.out.c0, Xx.out.c1, Xy.out.c0, Xy.out.c1⟩
    refine hK _ _ HJ.out ?_
    clear hK
    refine wpJ_tq 10 rfl HJ.out ?_
    refine wpJ_tq 11 rfl HJ.out ?_
    refine wpJ_tq 12 rfl HJ.out ?_
    refine wpJ_tq 13 rfl HJ.out ?_
    refine wpJ_tq 14 rfl HJ.out ?_
    go_simp
    refine wpJ_tq 16 rfl HJ.out ?_
    refine wpJ_tq 17 rfl HJ.out ?_
    refine wpJ_on 15 rfl fun KJ hK => ?_
    go_simp
    refine (C12 _).mono ?_
    rintro e v7 ⟨rfl, hb7⟩
    replace Xx : Hid _ := Xx.out.below hb7
    replace Xy : Hid _ := Xy.out.below hb7
    replace Xv : Hid _ := Xv.out.below hb7
    replace Xu : Hid _ := Xu.out.below hb7
    replace hbw := Below.on hbw hb7
    clear hb7
    refine hK _ _ ⟨Xx.out.c0, Xx.out.c1, Xy.out.c0, Xy.out.c1⟩ ?_
    clear hK
    refine wpJ_on 18 rfl fun KJ hK => ?_
    go_simp
    refine (C21 _).mono ?_
    rintro e v8 ⟨rfl, hb8⟩
    replace Xx : Hid _ := Xx.out.below hb8
    replace Xy : Hid _ := Xy.out.below hb8
    replace Xv : Hid _ := Xv.out.below hb8
    replace Xu : Hid _ := Xu.out.below hb8
    replace hbw := Below.on hbw hb8
    clear hb8
    clear HJ
    have HJ : Hid ((fun W' : World => W'.cell? ⟨gx, 0, none⟩ = some (Fv h) ∧ W'.cell? ⟨gx, 1, none⟩ = some (Fv l) ∧ W'.cell? ⟨gy, 0, none⟩ = some (Fv h2) ∧ W'.cell? ⟨gy, 1, none⟩ = some (Fv l2)) v8) := ⟨Xx.out.c0, Xx.out.c1, Xy.out.c0, Xy.out.c1⟩
    refine hK _ _ HJ.out ?_
    clear hK
    refine wpJ_tq 19 rfl HJ.out ?_
    refine wpJ_tq 20 rfl HJ.out ?_
    refine wpJ_tq 21 rfl HJ.out ?_
    refine wpJ_done (by kernel_rfl) ?_ _
    clear HJ
    obtain ⟨cx0, cx1, fx0, fx1⟩ := Xx.out
    have hnex := Xx.out.lt
    obtain ⟨cy0, cy1, fy0, fy1⟩ := Xy.out
    have hney := Xy.out.lt
    go_wp2_with fail
    clear cx0 cx1 fx0 fx1 hnex
    clear cy0 cy1 fy0 fy1 hney
    refine (C12 _).mono ?_
    rintro e v9 ⟨rfl, hb9⟩
    replace Xx : Hid _ := Xx.out.below hb9
    replace Xy : Hid _ := Xy.out.below hb9
    replace Xv : Hid _ := Xv.out.below hb9
    replace Xu : Hid _ := Xu.out.below hb9
    replace hbw := Below.on hbw hb9
    clear hb9
    go_wp2_with fail
    go_ret
    exact ⟨by kernel_rfl, hbw⟩
  have N2x : ∀ (gx : Nat) (W' : World), Box W' ga (.int .u64 (h : Int)) (.int .u64 (l : Int)) ∧ Box W' gb (.int .u64 (h2 : Int)) (.int .u64 (l2 : Int)) ∧ Below w.heap.size w W' ∧ Box W' gx (Fv 0) (Fv 0) ∧ w.heap.size ≤ gx ∧ gx ≠ ga ∧ gx ≠ gb → WP 3 (((L0.setIfInBounds 1 true).setIfInBounds 3 true).setIfInBounds 4 true) (((a0.put (some 16) (.agg #[Fv h, Fv l])).put (some 18) (.agg #[Fv h2, Fv l2])).put (some 5) (.pointer (some ⟨gx, 0, none⟩))) W' := by
    rintro gx W' ⟨xa, xb, hbw, xx, hgx, dxa, dxb⟩
    subst hWP hL ha
    have Hxa := Hid.mk9 xa
    have Hxb := Hid.mk9 xb
    have Hxx := Hid.mk9 xx
    have Hhgx := Hid.mk9 hgx
    have Hdxa := Hid.mk9 dxa
    have Hdxb := Hid.mk9 dxb
    clear xa xb xx hgx dxa dxb
    go_simp
    refine wpJ_on 5 rfl fun KJ hK => ?_
    go_simp
    have hb := below1 W' (.cells #[Fv 0, Fv 0] 28)
    refine hK _ _ ⟨(Hxa.out.below hb).c0, (Hxa.out.below hb).c1, (Hxb.out.below hb).c0, (Hxb.out.below hb).c1⟩ ?_
    exact wpJ_same (by kernel_rfl) (by kernel_rfl) (N2xy gx W'.heap.size _ ⟨(Hxa.out.below hb), (Hxb.out.below hb), (Below.on hbw hb), (Hxx.out.below hb), Hhgx.out, Hdxa.out, Hdxb.out, (Box.new W' _ _ _), hbw.size, (Nat.ne_of_gt Hxa.out.lt), (Nat.ne_of_gt Hxb.out.lt), (Nat.ne_of_lt Hxx.out.lt)⟩)
  have N2y : ∀ (gy : Nat) (W' : World), Box W' ga (.int .u64 (h : Int)) (.int .u64 (l : Int)) ∧ Box W' gb (.int .u64 (h2 : Int)) (.int .u64 (l2 : Int)) ∧ Below w.heap.size w W' ∧ Box W' gy (Fv 0) (Fv 0) ∧ w.heap.size ≤ gy ∧ gy ≠ ga ∧ gy ≠ gb → WP 3 (((L0.setIfInBounds 1 true).setIfInBounds 3 true).setIfInBounds 5 true) (((a0.put (some 16) (.agg #[Fv h, Fv l])).put (some 18) (.agg #[Fv h2, Fv l2])).put (some 6) (.pointer (some ⟨gy, 0, none⟩))) W' := by
    rintro gy W' ⟨xa, xb, hbw, xy, hgy, dya, dyb⟩
    subst hWP hL ha
    have Hxa := Hid.mk9 xa
    have Hxb := Hid.mk9 xb
    have Hxy := Hid.mk9 xy
    have Hhgy := Hid.mk9 hgy
    have Hdya := Hid.mk9 dya
    have Hdyb := Hid.mk9 dyb
    clear xa xb xy hgy dya dyb
    go_simp
    refine wpJ_on 4 rfl fun KJ hK => ?_
    go_simp
    have hb := below1 W' (.cells #[Fv 0, Fv 0] 28)
    refine hK _ _ ⟨(Hxa.out.below hb).c0, (Hxa.out.below hb).c1, (Hxb.out.below hb).c0, (Hxb.out.below hb).c1⟩ ?_
    exact wpJ_same (by kernel_rfl) (by kernel_rfl) (N2xy W'.heap.size gy _ ⟨(Hxa.out.below hb), (Hxb.out.below hb), (Below.on hbw hb), (Box.new W' _ _ _), hbw.size, (Nat.ne_of_gt Hxa.out.lt), (Nat.ne_of_gt Hxb.out.lt), (Hxy.out.below hb), Hhgy.out, Hdya.out, Hdyb.out, (Nat.ne_of_gt Hxy.out.lt)⟩)
  have N2 : ∀ (W' : World), Box W' ga (.int .u64 (h : Int)) (.int .u64 (l : Int)) ∧ Box W' gb (.int .u64 (h2 : Int)) (.int .u64 (l2 : Int)) ∧ Below w.heap.size w W' → WP 4 ((L0.setIfInBounds 1 true).setIfInBounds 3 true) ((a0.put (some 16) (.agg #[Fv h, Fv l])).put (some 18) (.agg #[Fv h2, Fv l2])) W' := by
    rintro  W' ⟨xa, xb, hbw⟩
    subst hWP hL ha
    have Hxa := Hid.mk9 xa
    have Hxb := Hid.mk9 xb
    clear xa xb
    go_simp
    refine wpJ_two (i := 4) (k := 5) (by kernel_rfl) rfl rfl (by kernel_rfl) (by kernel_rfl) (fun KJ hK => ?_) (fun KJ hK => ?_)
    · go_simp
      have hb := below1 W' (.cells #[Fv 0, Fv 0] 28)
      refine hK _ _ ⟨(Hxa.out.below hb).c0, (Hxa.out.below hb).c1, (Hxb.out.below hb).c0, (Hxb.out.below hb).c1⟩ ?_
      exact wpJ_same (by kernel_rfl) (by kernel_rfl) (N2x W'.heap.size _ ⟨(Hxa.out.below hb), (Hxb.out.below hb), (Below.on hbw hb), (Box.new W' _ _ _), hbw.size, (Nat.ne_of_gt Hxa.out.lt), (Nat.ne_of_gt Hxb.out.lt)⟩)
    · go_simp
      have hb := below1 W' (.cells #[Fv 0, Fv 0] 28)
      refine hK _ _ ⟨(Hxa.out.below hb).c0, (Hxa.out.below hb).c1, (Hxb.out.below hb).c0, (Hxb.out.below hb).c1⟩ ?_
      exact wpJ_same (by kernel_rfl) (by kernel_rfl) (N2y W'.heap.size _ ⟨(Hxa.out.below hb), (Hxb.out.below hb), (Below.on hbw hb), (Box.new W' _ _ _), hbw.size, (Nat.ne_of_gt Hxa.out.lt), (Nat.ne_of_gt Hxb.out.lt)⟩)
  have N1xy : ∀ (gx : Nat) (gy : Nat) (W' : World), Box W' ga (.int .u64 (h : Int)) (.int .u64 (l : Int)) ∧ Box W' gb (.int .u64 (h2 : Int)) (.int .u64 (l2 : Int)) ∧ Below w.heap.size w W' ∧ Box W' gx (Fv 0) (Fv 0) ∧ w.heap.size ≤ gx ∧ gx ≠ ga ∧ gx ≠ gb ∧ Box W' gy (Fv 0) (Fv 0) ∧ w.heap.size ≤ gy ∧ gy ≠ ga ∧ gy ≠ gb ∧ gx ≠ gy → WP 3 (((L0.setIfInBounds 1 true).setIfInBounds 4 true).setIfInBounds 5 true) (((a0.put (some 16) (.agg #[Fv h, Fv l])).put (some 5) (.pointer (some ⟨gx, 0, none⟩))).put (some 6) (.pointer (some ⟨gy, 0, none⟩))) W' := by
    rintro gx gy W' ⟨xa, xb, hbw, xx, hgx, dxa, dxb, xy, hgy, dya, dyb, dd⟩
    subst hWP hL ha
    have Hxa := Hid.mk9 xa
    have Hxb := Hid.mk9 xb
    have Hxx := Hid.mk9 xx
    have Hhgx := Hid.mk9 hgx
    have Hdxa := Hid.mk9 dxa
    have Hdxb := Hid.mk9 dxb
    have Hxy := Hid.mk9 xy
    have Hhgy := Hid.mk9 hgy
    have Hdya := Hid.mk9 dya
    have Hdyb := Hid.mk9 dyb
    have Hdd := Hid.mk9 dd
    clear xa xb xx hgx dxa dxb xy hgy dya dyb dd
    go_simp
    refine wpJ_on 3 rfl fun KJ hK => ?_
    go_simp
    refine (P2 _).mono ?_
    rintro e W2 ⟨rfl, hb⟩
    refine hK _ _ ⟨(Hxa.out.below hb).c0, (Hxa.out.below hb).c1, (Hxb.out.below hb).c0, (Hxb.out.below hb).c1⟩ ?_
    exact wpJ_same (by kernel_rfl) (by kernel_rfl) (N2xy gx gy W2 ⟨(Hxa.out.below hb), (Hxb.out.below hb), (Below.on hbw hb), (Hxx.out.below hb), Hhgx.out, Hdxa.out, Hdxb.out, (Hxy.out.below hb), Hhgy.out, Hdya.out, Hdyb.out, Hdd.out⟩)
  have N1x : ∀ (gx : Nat) (W' : World), Box W' ga (.int .u64 (h : Int)) (.int .u64 (l : Int)) ∧ Box W' gb (.int .u64 (h2 : Int)) (.int .u64 (l2 : Int)) ∧ Below w.heap.size w W' ∧ Box W' gx (Fv 0) (Fv 0) ∧ w.heap.size ≤ gx ∧ gx ≠ ga ∧ gx ≠ gb → WP 4 ((L0.setIfInBounds 1 true).setIfInBounds 4 true) ((a0.put (some 16) (.agg #[Fv h, Fv l])).put (some 5) (.pointer (some ⟨gx, 0, none⟩))) W' := by
    rintro gx W' ⟨xa, xb, hbw, xx, hgx, dxa, dxb⟩
    subst hWP hL ha
    have Hxa := Hid.mk9 xa
    have Hxb := Hid.mk9 xb
    have Hxx := Hid.mk9 xx
    have Hhgx := Hid.mk9 hgx
    have Hdxa := Hid.mk9 dxa
    have Hdxb := Hid.mk9 dxb
    clear xa xb xx hgx dxa dxb
    go_simp
    refine wpJ_two (i := 3) (k := 5) (by kernel_rfl) rfl rfl (by kernel_rfl) (by kernel_rfl) (fun KJ hK => ?_) (fun KJ hK => ?_)
    · go_simp
      refine (P2 _).mono ?_
      rintro e W2 ⟨rfl, hb⟩
      refine hK _ _ ⟨(Hxa.out.below hb).c0, (Hxa.out.below hb).c1, (Hxb.out.below hb).c0, (Hxb.out.below hb).c1⟩ ?_
      exact wpJ_same (by kernel_rfl) (by kernel_rfl) (N2x gx W2 ⟨(Hxa.out.below hb), (Hxb.out.below hb), (Below.on hbw hb), (Hxx.out.below hb), Hhgx.out, Hdxa.out, Hdxb.out⟩)
    · go_simp
      have hb := below1 W' (.cells #[Fv 0, Fv 0] 28)
      refine hK _ _ ⟨(Hxa.out.below hb).c0, (Hxa.out.below hb).c1, (Hxb.out.below hb).c0, (Hxb.out.below hb).c1⟩ ?_
      exact wpJ_same (by kernel_rfl) (by kernel_rfl) (N1xy gx W'.heap.size _ ⟨(Hxa.out.below hb), (Hxb.out.below hb), (Below.on hbw hb), (Hxx.out.below hb), Hhgx.out, Hdxa.out, Hdxb.out, (Box.new W' _ _ _), hbw.size, (Nat.ne_of_gt Hxa.out.lt), (Nat.ne_of_gt Hxb.out.lt), (Nat.ne_of_lt Hxx.out.lt)⟩)
  have N1y : ∀ (gy : Nat) (W' : World), Box W' ga (.int .u64 (h : Int)) (.int .u64 (l : Int)) ∧ Box W' gb (.int .u64 (h2 : Int)) (.int .u64 (l2 : Int)) ∧ Below w.heap.size w W' ∧ Box W' gy (Fv 0) (Fv 0) ∧ w.heap.size ≤ gy ∧ gy ≠ ga ∧ gy ≠ gb → WP 4 ((L0.setIfInBounds 1 true).setIfInBounds 5 true) ((a0.put (some 16) (.agg #[Fv h, Fv l])).put (some 6) (.pointer (some ⟨gy, 0, none⟩))) W' := by
    rintro gy W' ⟨xa, xb, hbw, xy, hgy, dya, dyb⟩
    subst hWP hL ha
    have Hxa := Hid.mk9 xa
    have Hxb := Hid.mk9 xb
    have Hxy := Hid.mk9 xy
    have Hhgy := Hid.mk9 hgy
    have Hdya := Hid.mk9 dya
    have Hdyb := Hid.mk9 dyb
    clear xa xb xy hgy dya dyb
    go_simp
    refine wpJ_two (i := 3) (k := 4) (by kernel_rfl) rfl rfl (by kernel_rfl) (by kernel_rfl) (fun KJ hK => ?_) (fun KJ hK => ?_)
    · go_simp
      refine (P2 _).mono ?_
      rintro e W2 ⟨rfl, hb⟩
      refine hK _ _ ⟨(Hxa.out.below hb).c0, (Hxa.out.below hb).c1, (Hxb.out.below hb).c0, (Hxb.out.below hb).c1⟩ ?_
      exact wpJ_same (by kernel_rfl) (by kernel_rfl) (N2y gy W2 ⟨(Hxa.out.below hb), (Hxb.out.below hb), (Below.on hbw hb), (Hxy.out.below hb), Hhgy.out, Hdya.out, Hdyb.out⟩)
    · go_simp
      have hb := below1 W' (.cells #[Fv 0, Fv 0] 28)
      refine hK _ _ ⟨(Hxa.out.below hb).c0, (Hxa.out.below hb).c1, (Hxb.out.below hb).c0, (Hxb.out.below hb).c1⟩ ?_
      exact wpJ_same (by kernel_rfl) (by kernel_rfl) (N1xy W'.heap.size gy _ ⟨(Hxa.out.below hb), (Hxb.out.below hb), (Below.on hbw hb), (Box.new W' _ _ _), hbw.size, (Nat.ne_of_gt Hxa.out.lt), (Nat.ne_of_gt Hxb.out.lt), (Hxy.out.below hb), Hhgy.out, Hdya.out, Hdyb.out, (Nat.ne_of_gt Hxy.out.lt)⟩)
  have N1 : ∀ (W' : World), Box W' ga (.int .u64 (h : Int)) (.int .u64 (l : Int)) ∧ Box W' gb (.int .u64 (h2 : Int)) (.int .u64 (l2 : Int)) ∧ Below w.heap.size w W' → WP 5 (L0.setIfInBounds 1 true) (a0.put (some 16) (.agg #[Fv h, Fv l])) W' := by
    rintro  W' ⟨xa, xb, hbw⟩
    subst hWP hL ha
    have Hxa := Hid.mk9 xa
    have Hxb := Hid.mk9 xb
    clear xa xb
    go_simp
    refine wpJ_three (i := 3) (k := 4) (l := 5) (by kernel_rfl) rfl rfl rfl (by kernel_rfl) (by kernel_rfl) (by kernel_rfl) (fun KJ hK => ?_) (fun KJ hK => ?_) (fun KJ hK => ?_)
    · go_simp
      refine (P2 _).mono ?_
      rintro e W2 ⟨rfl, hb⟩
      refine hK _ _ ⟨(Hxa.out.below hb).c0, (Hxa.out.below hb).c1, (Hxb.out.below hb).c0, (Hxb.out.below hb).c1⟩ ?_
      exact wpJ_same (by kernel_rfl) (by kernel_rfl) (N2  W2 ⟨(Hxa.out.below hb), (Hxb.out.below hb), (Below.on hbw hb)⟩)
    · go_simp
      have hb := below1 W' (.cells #[Fv 0, Fv 0] 28)
      refine hK _ _ ⟨(Hxa.out.below hb).c0, (Hxa.out.below hb).c1, (Hxb.out.below hb).c0, (Hxb.out.below hb).c1⟩ ?_
      exact wpJ_same (by kernel_rfl) (by kernel_rfl) (N1x W'.heap.size _ ⟨(Hxa.out.below hb), (Hxb.out.below hb), (Below.on hbw hb), (Box.new W' _ _ _), hbw.size, (Nat.ne_of_gt Hxa.out.lt), (Nat.ne_of_gt Hxb.out.lt)⟩)
    · go_simp
      have hb := below1 W' (.cells #[Fv 0, Fv 0] 28)
      refine hK _ _ ⟨(Hxa.out.below hb).c0, (Hxa.out.below hb).c1, (Hxb.out.below hb).c0, (Hxb.out.below hb).c1⟩ ?_
      exact wpJ_same (by kernel_rfl) (by kernel_rfl) (N1y W'.heap.size _ ⟨(Hxa.out.below hb), (Hxb.out.below hb), (Below.on hbw hb), (Box.new W' _ _ _), hbw.size, (Nat.ne_of_gt Hxa.out.lt), (Nat.ne_of_gt Hxb.out.lt)⟩)
  have N0xy : ∀ (gx : Nat) (gy : Nat) (W' : World), Box W' ga (.int .u64 (h : Int)) (.int .u64 (l : Int)) ∧ Box W' gb (.int .u64 (h2 : Int)) (.int .u64 (l2 : Int)) ∧ Below w.heap.size w W' ∧ Box W' gx (Fv 0) (Fv 0) ∧ w.heap.size ≤ gx ∧ gx ≠ ga ∧ gx ≠ gb ∧ Box W' gy (Fv 0) (Fv 0) ∧ w.heap.size ≤ gy ∧ gy ≠ ga ∧ gy ≠ gb ∧ gx ≠ gy → WP 4 ((L0.setIfInBounds 4 true).setIfInBounds 5 true) ((a0.put (some 5) (.pointer (some ⟨gx, 0, none⟩))).put (some 6) (.pointer (some ⟨gy, 0, none⟩))) W' := by
    rintro gx gy W' ⟨xa, xb, hbw, xx, hgx, dxa, dxb, xy, hgy, dya, dyb, dd⟩
    subst hWP hL ha
    have Hxa := Hid.mk9 xa
    have Hxb := Hid.mk9 xb
    have Hxx := Hid.mk9 xx
    have Hhgx := Hid.mk9 hgx
    have Hdxa := Hid.mk9 dxa
    have Hdxb := Hid.mk9 dxb
    have Hxy := Hid.mk9 xy
    have Hhgy := Hid.mk9 hgy
    have Hdya := Hid.mk9 dya
    have Hdyb := Hid.mk9 dyb
    have Hdd := Hid.mk9 dd
    clear xa xb xx hgx dxa dxb xy hgy dya dyb dd
    go_simp
    refine wpJ_on 1 rfl fun KJ hK => ?_
    go_simp
    refine (P1 _).mono ?_
    rintro e W2 ⟨rfl, hb⟩
    refine hK _ _ ⟨(Hxa.out.below hb).c0, (Hxa.out.below hb).c1, (Hxb.out.below hb).c0, (Hxb.out.below hb).c1⟩ ?_
    exact wpJ_same (by kernel_rfl) (by kernel_rfl) (N1xy gx gy W2 ⟨(Hxa.out.below hb), (Hxb.out.below hb), (Below.on hbw hb), (Hxx.out.below hb), Hhgx.out, Hdxa.out, Hdxb.out, (Hxy.out.below hb), Hhgy.out, Hdya.out, Hdyb.out, Hdd.out⟩)
  have N0x : ∀ (gx : Nat) (W' : World), Box W' ga (.int .u64 (h : Int)) (.int .u64 (l : Int)) ∧ Box W' gb (.int .u64 (h2 : Int)) (.int .u64 (l2 : Int)) ∧ Below w.heap.size w W' ∧ Box W' gx (Fv 0) (Fv 0) ∧ w.heap.size ≤ gx ∧ gx ≠ ga ∧ gx ≠ gb → WP 5 (L0.setIfInBounds 4 true) (a0.put (some 5) (.pointer (some ⟨gx, 0, none⟩))) W' := by
    rintro gx W' ⟨xa, xb, hbw, xx, hgx, dxa, dxb⟩
    subst hWP hL ha
    have Hxa := Hid.mk9 xa
    have Hxb := Hid.mk9 xb
    have Hxx := Hid.mk9 xx
    have Hhgx := Hid.mk9 hgx
    have Hdxa := Hid.mk9 dxa
    have Hdxb := Hid.mk9 dxb
    clear xa xb xx hgx dxa dxb
    go_simp
    refine wpJ_two (i := 1) (k := 5) (by kernel_rfl) rfl rfl (by kernel_rfl) (by kernel_rfl) (fun KJ hK => ?_) (fun KJ hK => ?_)
    · go_simp
      refine (P1 _).mono ?_
      rintro e W2 ⟨rfl, hb⟩
      refine hK _ _ ⟨(Hxa.out.below hb).c0, (Hxa.out.below hb).c1, (Hxb.out.below hb).c0, (Hxb.out.below hb).c1⟩ ?_
      exact wpJ_same (by kernel_rfl) (by kernel_rfl) (N1x gx W2 ⟨(Hxa.out.below hb), (Hxb.out.below hb), (Below.on hbw hb), (Hxx.out.below hb), Hhgx.out, Hdxa.out, Hdxb.out⟩)
    · go_simp
      have hb := below1 W' (.cells #[Fv 0, Fv 0] 28)
      refine hK _ _ ⟨(Hxa.out.below hb).c0, (Hxa.out.below hb).c1, (Hxb.out.below hb).c0, (Hxb.out.below hb).c1⟩ ?_
      exact wpJ_same (by kernel_rfl) (by kernel_rfl) (N0xy gx W'.heap.size _ ⟨(Hxa.out.below hb), (Hxb.out.below hb), (Below.on hbw hb), (Hxx.out.below hb), Hhgx.out, Hdxa.out, Hdxb.out, (Box.new W' _ _ _), hbw.size, (Nat.ne_of_gt Hxa.out.lt), (Nat.ne_of_gt Hxb.out.lt), (Nat.ne_of_lt Hxx.out.lt)⟩)
  have N0y : ∀ (gy : Nat) (W' : World), Box W' ga (.int .u64 (h : Int)) (.int .u64 (l : Int)) ∧ Box W' gb (.int .u64 (h2 : Int)) (.int .u64 (l2 : Int)) ∧ Below w.heap.size w W' ∧ Box W' gy (Fv 0) (Fv 0) ∧ w.heap.size ≤ gy ∧ gy ≠ ga ∧ gy ≠ gb → WP 5 (L0.setIfInBounds 5 true) (a0.put (some 6) (.pointer (some ⟨gy, 0, none⟩))) W' := by
    rintro gy W' ⟨xa, xb, hbw, xy, hgy, dya, dyb⟩
    subst hWP hL ha
    have Hxa := Hid.mk9 xa
    have Hxb := Hid.mk9 xb
    have Hxy := Hid.mk9 xy
    have Hhgy := Hid.mk9 hgy
    have Hdya := Hid.mk9 dya
    have Hdyb := Hid.mk9 dyb
    clear xa xb xy hgy dya dyb
    go_simp
    refine wpJ_two (i := 1) (k := 4) (by kernel_rfl) rfl rfl (by kernel_rfl) (by kernel_rfl) (fun KJ hK => ?_) (fun KJ hK => ?_)
    · go_simp
      refine (P1 _).mono ?_
      rintro e W2 ⟨rfl, hb⟩
      refine hK _ _ ⟨(Hxa.out.below hb).c0, (Hxa.out.below hb).c1, (Hxb.out.below hb).c0, (Hxb.out.below hb).c1⟩ ?_
      exact wpJ_same (by kernel_rfl) (by kernel_rfl) (N1y gy W2 ⟨(Hxa.out.below hb), (Hxb.out.below hb), (Below.on hbw hb), (Hxy.out.below hb), Hhgy.out, Hdya.out, Hdyb.out⟩)
    · go_simp
      have hb := below1 W' (.cells #[Fv 0, Fv 0] 28)
      refine hK _ _ ⟨(Hxa.out.below hb).c0, (Hxa.out.below hb).c1, (Hxb.out.below hb).c0, (Hxb.out.below hb).c1⟩ ?_
      exact wpJ_same (by kernel_rfl) (by kernel_rfl) (N0xy W'.heap.size gy _ ⟨(Hxa.out.below hb), (Hxb.out.below hb), (Below.on hbw hb), (Box.new W' _ _ _), hbw.size, (Nat.ne_of_gt Hxa.out.lt), (Nat.ne_of_gt Hxb.out.lt), (Hxy.out.below hb), Hhgy.out, Hdya.out, Hdyb.out, (Nat.ne_of_gt Hxy.out.lt)⟩)
  have N0 : ∀ (W' : World), Box W' ga (.int .u64 (h : Int)) (.int .u64 (l : Int)) ∧ Box W' gb (.int .u64 (h2 : Int)) (.int .u64 (l2 : Int)) ∧ Below w.heap.size w W' → WP 6 L0 a0 W' := by
    rintro  W' ⟨xa, xb, hbw⟩
    subst hWP hL ha
    have Hxa := Hid.mk9 xa
    have Hxb := Hid.mk9 xb
    clear xa xb
    go_simp
    refine wpJ_three (i := 1) (k := 4) (l := 5) (by kernel_rfl) rfl rfl rfl (by kernel_rfl) (by kernel_rfl) (by kernel_rfl) (fun KJ hK => ?_) (fun KJ hK => ?_) (fun KJ hK => ?_)
    · go_simp
      refine (P1 _).mono ?_
      rintro e W2 ⟨rfl, hb⟩
      refine hK _ _ ⟨(Hxa.out.below hb).c0, (Hxa.out.below hb).c1, (Hxb.out.below hb).c0, (Hxb.out.below hb).c1⟩ ?_
      exact wpJ_same (by kernel_rfl) (by kernel_rfl) (N1  W2 ⟨(Hxa.out.below hb), (Hxb.out.below hb), (Below.on hbw hb)⟩)
    · go_simp
      have hb := below1 W' (.cells #[Fv 0, Fv 0] 28)
      refine hK _ _ ⟨(Hxa.out.below hb).c0, (Hxa.out.below hb).c1, (Hxb.out.below hb).c0, (Hxb.out.below hb).c1⟩ ?_
      exact wpJ_same (by kernel_rfl) (by kernel_rfl) (N0x W'.heap.size _ ⟨(Hxa.out.below hb), (Hxb.out.below hb), (Below.on hbw hb), (Box.new W' _ _ _), hbw.size, (Nat.ne_of_gt Hxa.out.lt), (Nat.ne_of_gt Hxb.out.lt)⟩)
    · go_simp
      have hb := below1 W' (.cells #[Fv 0, Fv 0] 28)
      refine hK _ _ ⟨(Hxa.out.below hb).c0, (Hxa.out.below hb).c1, (Hxb.out.below hb).c0, (Hxb.out.below hb).c1⟩ ?_
      exact wpJ_same (by kernel_rfl) (by kernel_rfl) (N0y W'.heap.size _ ⟨(Hxa.out.below hb), (Hxb.out.below hb), (Below.on hbw hb), (Box.new W' _ _ _), hbw.size, (Nat.ne_of_gt Hxa.out.lt), (Nat.ne_of_gt Hxb.out.lt)⟩)
  exact N0 V1 ⟨Xa.out, Xb.out, hbw⟩
theorem ddOrder_ny (h l h2 l2 : Nat) (hh : h < 18446744073709551616) (hl : l < 18446744073709551616) (hh2 : h2 < 18446744073709551616) (hl2 : l2 < 18446744073709551616) (d : ddB h l = false) (d2 : DdF h2 l2) (w : World) (hT : Tab w) :
    Calls Tryd.prog 3 #[.agg #[.int .u64 (h : Int), .int .u64 (l : Int)], .agg #[.int .u64 (h2 : Int), .int .u64 (l2 : Int)]] w fun en w' => en = .returned (.bool true) ∧ Below w.heap.size w w' := by
  have hSF : ∀ (w : World) (a : Addr) (b : Nat), (store a (Fv b)).run Tryd.prog w = stored Tryd.prog w a (Fv b) .plain := stF
  have hbw : Below w.heap.size w w := Below.refl _ _
  have TB : Hid (Tab w) := hT
  have P1 := lpair h l
  have P2 := lpair h2 l2
  have G1 := ddform h l hh hl
  have G2 := ddform h2 l2 hh2 hl2
  have C12 := ddcmp h l h2 l2 hh hl hh2 hl2
  have C21 := ddcmp h2 l2 h l hh2 hl2 hh hl
  rw [cmpD_no (.inl d)] at C12
  rw [cmpD_no (.inr d)] at C21
  rw [d] at G1
  rw [ddB_iff.2 d2] at G2
  have NV3 := ddvalue_n h l hh hl d
  have HD : Hid (DdF h2 l2) := d2
  clear hT hh hl hh2 hl2 d d2
  go_enter Tryd.func3, Tryd.ntmps3
  go_wp2_with fail
  obtain ⟨W0, hW0⟩ : ∃ W0, W0 = ((w.alloc (.cells #[.int .u64 (h : Int), .int .u64 (l : Int)] 24)).alloc (.cells #[.int .u64 (h2 : Int), .int .u64 (l2 : Int)] 24)) := ⟨_, rfl⟩
  have Xa : Hid (Box W0 (w.heap.size) (.int .u64 (h : Int)) (.int .u64 (l : Int))) := by rw [hW0]; exact ⟨by go_simp, by go_simp, by go_simp, by go_simp⟩
  have Xb : Hid (Box W0 (w.heap.size + 1) (.int .u64 (h2 : Int)) (.int .u64 (l2 : Int))) := by rw [hW0]; exact ⟨by go_simp, by go_simp, by go_simp, by go_simp⟩
  have hb0 : Below w.heap.size w W0 := by rw [hW0]; exact below2 w _ _
  rw [← hW0]
  clear hW0
  have hbw : Below w.heap.size w w := Below.refl _ _
  obtain ⟨gb, hgb⟩ : ∃ g, g = w.heap.size + 1 := ⟨_, rfl⟩
  have HGb : Hid (w.heap.size ≤ gb) := by rw [hgb]; show _ ≤ _; omega
  rw [← hgb] at Xb
  try rw [← hgb]
  obtain ⟨ga, hga⟩ : ∃ g, g = w.heap.size := ⟨_, rfl⟩
  have HGa : Hid (w.heap.size ≤ ga) := by rw [hga]; show _ ≤ _; omega
  rw [← hga] at Xa
  try rw [← hga]
  have HGD : Hid (ga ≠ gb ∧ gb ≠ ga) := by rw [hga, hgb]; exact ⟨by omega, by omega⟩
  clear hga hgb
  replace hbw := Below.on hbw hb0
  clear hb0
  refine (awake20 _).mono ?_
  rintro e v1 ⟨rfl, hb1⟩
  replace Xa : Hid _ := Xa.out.below hb1
  replace Xb : Hid _ := Xb.out.below hb1
  replace hbw := Below.on hbw hb1
  clear hb1
  obtain ⟨ca0, ca1, fa0, fa1⟩ := Xa.out
  have hnea := Xa.out.lt
  obtain ⟨cb0, cb1, fb0, fb1⟩ := Xb.out
  have hneb := Xb.out.lt
  go_wp2_with fail
  clear ca0 ca1 fa0 fa1 hnea
  clear cb0 cb1 fb0 fb1 hneb
  obtain ⟨V1, hV1⟩ : ∃ W1, W1 = v1.drew := ⟨_, rfl⟩
  have hbd : Below v1.heap.size v1 V1 := by rw [hV1]; exact bDrew1 (Below.refl _ _)
  replace Xa : Hid _ := Xa.out.below hbd
  replace Xb : Hid _ := Xb.out.below hbd
  replace hbw := Below.on hbw hbd
  clear hbd
  have HJ : Hid ((fun W' : World => W'.cell? ⟨ga, 0, none⟩ = some (.int .u64 (h : Int)) ∧ W'.cell? ⟨ga, 1, none⟩ = some (.int .u64 (l : Int)) ∧ W'.cell? ⟨gb, 0, none⟩ = some (.int .u64 (h2 : Int)) ∧ W'.cell? ⟨gb, 1, none⟩ = some (.int .u64 (l2 : Int))) V1) := ⟨Xa.out.c0, Xa.out.c1, Xb.out.c0, Xb.out.c1⟩
  refine wp_region_J (fun W' => W'.cell? ⟨ga, 0, none⟩ = some (.int .u64 (h : Int)) ∧ W'.cell? ⟨ga, 1, none⟩ = some (.int .u64 (l : Int)) ∧ W'.cell? ⟨gb, 0, none⟩ = some (.int .u64 (h2 : Int)) ∧ W'.cell? ⟨gb, 1, none⟩ = some (.int .u64 (l2 : Int))) (by kernel_rfl) ?_
  rw [← hV1]
  clear hV1
  refine wpJ_tq 0 rfl HJ.out ?_
  refine wpJ_tq 2 rfl HJ.out ?_
  go_simp
  refine wpJ_nodes fun WP hWP L0 a0 hL ha => ?_
  have N2xy : ∀ (gx : Nat) (gy : Nat) (W' : World), Box W' ga (.int .u64 (h : Int)) (.int .u64 (l : Int)) ∧ Box W' gb (.int .u64 (h2 : Int)) (.int .u64 (l2 : Int)) ∧ Below w.heap.size w W' ∧ Box W' gx (Fv 0) (Fv 0) ∧ w.heap.size ≤ gx ∧ gx ≠ ga ∧ gx ≠ gb ∧ Box W' gy (Fv 0) (Fv 0) ∧ w.heap.size ≤ gy ∧ gy ≠ ga ∧ gy ≠ gb ∧ gx ≠ gy → WP 2 ((((L0.setIfInBounds 1 true).setIfInBounds 3 true).setIfInBounds 4 true).setIfInBounds 5 true) ((((a0.put (some 16) (.agg #[Fv h, Fv l])).put (some 18) (.agg #[Fv h2, Fv l2])).put (some 5) (.pointer (some ⟨gx, 0, none⟩))).put (some 6) (.pointer (some ⟨gy, 0, none⟩))) W' := by
    rintro gx gy W' ⟨xa, xb, hbw, xx, hgx, dxa, dxb, xy, hgy, dya, dyb, dd⟩
    subst hWP hL ha
    have Hxa := Hid.mk9 xa
    have Hxb := Hid.mk9 xb
    have Hxx := Hid.mk9 xx
    have Hhgx := Hid.mk9 hgx
    have Hdxa := Hid.mk9 dxa
    have Hdxb := Hid.mk9 dxb
    have Hxy := Hid.mk9 xy
    have Hhgy := Hid.mk9 hgy
    have Hdya := Hid.mk9 dya
    have Hdyb := Hid.mk9 dyb
    have Hdd := Hid.mk9 dd
    clear xa xb xx hgx dxa dxb xy hgy dya dyb dd
    go_simp
    have Xa := Hxa
    have Xb := Hxb
    have Xx := Hxx
    have Xy := Hxy
    clear Hxa Hxb Hxx Hxy
    have e1 := Hdxa.out
    have e2 := Hdxb.out
    have e3 := Hdya.out
    have e4 := Hdyb.out
    have e5 := Hdd.out
    have e6 := Ne.symm e1
    have e7 := Ne.symm e2
    have e8 := Ne.symm e3
    have e9 := Ne.symm e4
    have e0 := Ne.symm e5
    have HGx : Hid (w.heap.size ≤ gx) := Hhgx.out
    have HGy : Hid (w.heap.size ≤ gy) := Hhgy.out
    obtain ⟨ca0, ca1, fa0, fa1⟩ := Xa.out
    have hnea := Xa.out.lt
    obtain ⟨cb0, cb1, fb0, fb1⟩ := Xb.out
    have hneb := Xb.out.lt
    obtain ⟨cx0, cx1, fx0, fx1⟩ := Xx.out
    have hnex := Xx.out.lt
    obtain ⟨cy0, cy1, fy0, fy1⟩ := Xy.out
    have hney := Xy.out.lt
    refine wpJ_on 6 rfl fun KJ hK => ?_
    go_simp
    refine hK _ _ ⟨by go_simp, by go_simp, by go_simp, by go_simp⟩ ?_
    clear hK
    refine wpJ_on 7 rfl fun KJ hK => ?_
    go_simp
    refine hK _ _ ⟨by go_simp, by go_simp, by go_simp, by go_simp⟩ ?_
    clear hK
    refine wpJ_done (by kernel_rfl) ?_ _
    obtain ⟨Wy, hWy⟩ : ∃ W9, W9 = ((((W'.setCell ⟨gx, 0, none⟩ (Fv h)).setCell ⟨gx, 1, none⟩ (Fv l)).setCell ⟨gy, 0, none⟩ (Fv h2)).setCell ⟨gy, 1, none⟩ (Fv l2)) := ⟨_, rfl⟩
    have Yx : Hid (Box Wy gx (Fv h) (Fv l)) := by rw [hWy]; exact ⟨by go_simp, by go_simp, by go_simp, by go_simp⟩
    have Yy : Hid (Box Wy gy (Fv h2) (Fv l2)) := by rw [hWy]; exact ⟨by go_simp, by go_simp, by go_simp, by go_simp⟩
    have hbw2 : Below w.heap.size w Wy := by rw [hWy]; exact bSet (bSet (bSet (bSet hbw _ _ _ HGx.out) _ _ _ HGx.out) _ _ _ HGy.out) _ _ _ HGy.out
    clear ca0 ca1 fa0 fa1 hnea
    clear cb0 cb1 fb0 fb1 hneb
    clear cx0 cx1 fx0 fx1 hnex
    clear cy0 cy1 fy0 fy1 hney
    rw [← hWy]
    have HXY : Hid (gx ≠ gy) := e5
    clear hWy hbw Xa Xb Xx Xy e1 e2 e3 e4 e5 e6 e7 e8 e9 e0
    have hbw := hbw2
    have Xx := Yx
    have Xy := Yy
    clear hbw2 Yx Yy
    obtain ⟨cx0, cx1, fx0, fx1⟩ := Xx.out
    have hnex := Xx.out.lt
    go_wp2_with fail
    clear cx0 cx1 fx0 fx1 hnex
    refine (NV3 _).mono ?_
    rintro en v3 ⟨rfl, hb3⟩
    replace Xx : Hid _ := Xx.out.below hb3
    replace Xy : Hid _ := Xy.out.below hb3
    replace hbw := Below.on hbw hb3
    clear hb3
    obtain ⟨cy0, cy1, fy0, fy1⟩ := Xy.out
    have hney := Xy.out.lt
    go_wp2_with fail
    clear cy0 cy1 fy0 fy1 hney
    have Xv0 : Hid (B3q (v3.alloc (.cells #[.bool false, .slice none 0 0, .int .i64 0] 34)) v3.heap.size (.bool false) (.slice none 0 0) (.int .i64 0)) := B3q.new v3 _ _ _ _
    have hbn : Below v3.heap.size v3 (v3.alloc (.cells #[.bool false, .slice none 0 0, .int .i64 0] 34)) := below1 v3 _
    generalize v3.alloc (.cells #[.bool false, .slice none 0 0, .int .i64 0] 34) = Wv at *
    have HGv : Hid (w.heap.size ≤ v3.heap.size) := hbw.size
    replace Xx : Hid _ := Xx.out.below hbn
    replace Xy : Hid _ := Xy.out.below hbn
    replace hbw := Below.on hbw hbn
    clear hbn
    generalize v3.heap.size = gv at *
    have Xv := Xv0
    clear Xv0
    refine (ddvalue h2 l2 HD.out _ (TB.out.below hbw)).mono ?_
    rintro en v4 ⟨s4, p4, m4, z4, e4, rfl, hd4, hv4, hb4⟩
    clear hd4 hv4
    replace Xx : Hid _ := Xx.out.below hb4
    replace Xy : Hid _ := Xy.out.below hb4
    replace Xv : Hid _ := Xv.out.below hb4
    replace hbw := Below.on hbw hb4
    clear hb4
    obtain ⟨cx0, cx1, fx0, fx1⟩ := Xx.out
    have hnex := Xx.out.lt
    go_wp2_with fail
    clear cx0 cx1 fx0 fx1 hnex
    have Xu0 : Hid (B3q (v4.alloc (.cells #[.bool s4, .slice p4 m4 m4, .int .i64 e4] 34)) v4.heap.size (.bool s4) (.slice p4 m4 m4) (.int .i64 e4)) := B3q.new v4 _ _ _ _
    have hbn : Below v4.heap.size v4 (v4.alloc (.cells #[.bool s4, .slice p4 m4 m4, .int .i64 e4] 34)) := below1 v4 _
    generalize v4.alloc (.cells #[.bool s4, .slice p4 m4 m4, .int .i64 e4] 34) = Wu at *
    have HGu : Hid (w.heap.size ≤ v4.heap.size) := hbw.size
    replace Xx : Hid _ := Xx.out.below hbn
    replace Xy : Hid _ := Xy.out.below hbn
    replace Xv : Hid _ := Xv.out.below hbn
    replace hbw := Below.on hbw hbn
    clear hbn
    generalize v4.heap.size = gu at *
    have Xu := Xu0
    clear Xu0
    obtain ⟨V2, hV2⟩ : ∃ W1, W1 = Wu.drew := ⟨_, rfl⟩
    have hbd : Below Wu.heap.size Wu V2 := by rw [hV2]; exact bDrew1 (Below.refl _ _)
    replace Xx : Hid _ := Xx.out.below hbd
    replace Xy : Hid _ := Xy.out.below hbd
    replace Xv : Hid _ := Xv.out.below hbd
    replace Xu : Hid _ := Xu.out.below hbd
    replace hbw := Below.on hbw hbd
    clear hbd
    have HJ : Hid ((fun W' : World => W'.cell? ⟨gx, 0, none⟩ = some (Fv h) ∧ W'.cell? ⟨gx, 1, none⟩ = some (Fv l) ∧ W'.cell? ⟨gy, 0, none⟩ = some (Fv h2) ∧ W'.cell? ⟨gy, 1, none⟩ = some (Fv l2)) V2) := ⟨Xx.out.c0, Xx.out.c1, Xy.out.c0, Xy.out.c1⟩
    refine wp_region_J (fun W' => W'.cell? ⟨gx, 0, none⟩ = some (Fv h) ∧ W'.cell? ⟨gx, 1, none⟩ = some (Fv l) ∧ W'.cell? ⟨gy, 0, none⟩ = some (Fv h2) ∧ W'.cell? ⟨gy, 1, none⟩ = some (Fv l2)) (by kernel_rfl) ?_
    rw [← hV2]
    clear hV2
    refine wpJ_tq 0 rfl HJ.out ?_
    refine wpJ_tq 2 rfl HJ.out ?_
    refine wpJ_tq 3 rfl HJ.out ?_
    refine wpJ_on 1 rfl fun KJ hK => ?_
    go_simp
    refine (G1 _).mono ?_
    rintro e v5 ⟨rfl, hb5⟩
    replace Xx : Hid _ := Xx.out.below hb5
    replace Xy : Hid _ := Xy.out.below hb5
    replace Xv : Hid _ := Xv.out.below hb5
    replace Xu : Hid _ := Xu.out.below hb5
    replace hbw := Below.on hbw hb5
    clear hb5
    clear HJ
    have HJ : Hid ((fun W' : World => W'.cell? ⟨gx, 0, none⟩ = some (Fv h) ∧ W'.cell? ⟨gx, 1, none⟩ = some (Fv l) ∧ W'.cell? ⟨gy, 0, none⟩ = some (Fv h2) ∧ W'.cell? ⟨gy, 1, none⟩ = some (Fv l2)) v5) := ⟨Xx.out.c0, Xx.out.c1, Xy.out.c0, Xy.out.c1⟩
    refine hK _ _ HJ.out ?_
    clear hK
    refine wpJ_tq 4 rfl HJ.out ?_
    refine wpJ_tq 5 rfl HJ.out ?_
    refine wpJ_tq 6 rfl HJ.out ?_
    refine wpJ_tq 8 rfl HJ.out ?_
    refine wpJ_tq 9 rfl HJ.out ?_
    refine wpJ_on 7 rfl fun KJ hK => ?_
    go_simp
    refine (G2 _).mono ?_
    rintro e v6 ⟨rfl, hb6⟩
    replace Xx : Hid _ := Xx.out.below hb6
    replace Xy : Hid _ := Xy.out.below hb6
    replace Xv : Hid _ := Xv.out.below hb6
    replace Xu : Hid _ := Xu.out.below hb6
    replace hbw := Below.on hbw hb6
    clear hb6
    clear HJ
    have HJ : Hid ((fun W' : World => W'.cell? ⟨gx, 0, none⟩ = some (Fv h) ∧ W'.cell? ⟨gx, 1, none⟩ = some (Fv l) ∧ W'.cell? ⟨gy, 0, none⟩ = some (Fv h2) ∧ W'.cell? ⟨gy, 1, none⟩ = some (Fv l2)) v6) := ⟨Xx.out.c0, Xx.out.c1, Xy.out.c0, Xy.out.c1⟩
    refine hK _ _ HJ.out ?_
    clear hK
    refine wpJ_tq 10 rfl HJ.out ?_
    refine wpJ_tq 11 rfl HJ.out ?_
    refine wpJ_tq 12 rfl HJ.out ?_
    refine wpJ_tq 13 rfl HJ.out ?_
    refine wpJ_tq 14 rfl HJ.out ?_
    go_simp
    refine wpJ_tq 16 rfl HJ.out ?_
    refine wpJ_tq 17 rfl HJ.out ?_
    refine wpJ_on 15 rfl fun KJ hK => ?_
    go_simp
    refine (C12 _).mono ?_
    rintro e v7 ⟨rfl, hb7⟩
    replace Xx : Hid _ := Xx.out.below hb7
    replace Xy : Hid _ := Xy.out.below hb7
    replace Xv : Hid _ := Xv.out.below hb7
    replace Xu : Hid _ := Xu.out.below hb7
    replace hbw := Below.on hbw hb7
    clear hb7
    refine hK _ _ ⟨Xx.out.c0, Xx.out.c1, Xy.out.c0, Xy.out.c1⟩ ?_
    clear hK
    refine wpJ_on 18 rfl fun KJ hK => ?_
    go_simp
    refine (C21 _).mono ?_
    rintro e v8 ⟨rfl, hb8⟩
    replace Xx : Hid _ := Xx.out.below hb8
    replace Xy : Hid _ := Xy.out.below hb8
    replace Xv : Hid _ := Xv.out.below hb8
    replace Xu : Hid _ := Xu.out.below hb8
    replace hbw := Below.on hbw hb8
    clear hb8
    clear HJ
    have HJ : Hid ((fun W' : World => W'.cell? ⟨gx, 0, none⟩ = some (Fv h) ∧ W'.cell? ⟨gx, 1, none⟩ = some (Fv l) ∧ W'.cell? ⟨gy, 0, none⟩ = some (Fv h2) ∧ W'.cell? ⟨gy, 1, none⟩ = some (Fv l2)) v8) := ⟨Xx.out.c0, Xx.out.c1, Xy.out.c0, Xy.out.c1⟩
    refine hK _ _ HJ.out ?_
    clear hK
    refine wpJ_tq 19 rfl HJ.out ?_
    refine wpJ_tq 20 rfl HJ.out ?_
    refine wpJ_tq 21 rfl HJ.out ?_
    refine wpJ_done (by kernel_rfl) ?_ _
    clear HJ
    obtain ⟨cx0, cx1, fx0, fx1⟩ := Xx.out
    have hnex := Xx.out.lt
    obtain ⟨cy0, cy1, fy0, fy1⟩ := Xy.out
    have hney := Xy.out.lt
    go_wp2_with fail
    clear cx0 cx1 fx0 fx1 hnex
    clear cy0 cy1 fy0 fy1 hney
    refine (C12 _).mono ?_
    rintro e v9 ⟨rfl, hb9⟩
    replace Xx : Hid _ := Xx.out.below hb9
    replace Xy : Hid _ := Xy.out.below hb9
    replace Xv : Hid _ := Xv.out.below hb9
    replace Xu : Hid _ := Xu.out.below hb9
    replace hbw := Below.on hbw hb9
    clear hb9
    go_wp2_with fail
    go_ret
    exact ⟨by kernel_rfl, hbw⟩
  have N2x : ∀ (gx : Nat) (W' : World), Box W' ga (.int .u64 (h : Int)) (.int .u64 (l : Int)) ∧ Box W' gb (.int .u64 (h2 : Int)) (.int .u64 (l2 : Int)) ∧ Below w.heap.size w W' ∧ Box W' gx (Fv 0) (Fv 0) ∧ w.heap.size ≤ gx ∧ gx ≠ ga ∧ gx ≠ gb → WP 3 (((L0.setIfInBounds 1 true).setIfInBounds 3 true).setIfInBounds 4 true) (((a0.put (some 16) (.agg #[Fv h, Fv l])).put (some 18) (.agg #[Fv h2, Fv l2])).put (some 5) (.pointer (some ⟨gx, 0, none⟩))) W' := by
    rintro gx W' ⟨xa, xb, hbw, xx, hgx, dxa, dxb⟩
    subst hWP hL ha
    have Hxa := Hid.mk9 xa
    have Hxb := Hid.mk9 xb
    have Hxx := Hid.mk9 xx
    have Hhgx := Hid.mk9 hgx
    have Hdxa := Hid.mk9 dxa
    have Hdxb := Hid.mk9 dxb
    clear xa xb xx hgx dxa dxb
    go_simp
    refine wpJ_on 5 rfl fun KJ hK => ?_
    go_simp
    have hb := below1 W' (.cells #[Fv 0, Fv 0] 28)
    refine hK _ _ ⟨(Hxa.out.below hb).c0, (Hxa.out.below hb).c1, (Hxb.out.below hb).c0, (Hxb.out.below hb).c1⟩ ?_
    exact wpJ_same (by kernel_rfl) (by kernel_rfl) (N2xy gx W'.heap.size _ ⟨(Hxa.out.below hb), (Hxb.out.below hb), (Below.on hbw hb), (Hxx.out.below hb), Hhgx.out, Hdxa.out, Hdxb.out, (Box.new W' _ _ _), hbw.size, (Nat.ne_of_gt Hxa.out.lt), (Nat.ne_of_gt Hxb.out.lt), (Nat.ne_of_lt Hxx.out.lt)⟩)
  have N2y : ∀ (gy : Nat) (W' : World), Box W' ga (.int .u64 (h : Int)) (.int .u64 (l : Int)) ∧ Box W' gb (.int .u64 (h2 : Int)) (.int .u64 (l2 : Int)) ∧ Below w.heap.size w W' ∧ Box W' gy (Fv 0) (Fv 0) ∧ w.heap.size ≤ gy ∧ gy ≠ ga ∧ gy ≠ gb → WP 3 (((L0.setIfInBounds 1 true).setIfInBounds 3 true).setIfInBounds 5 true) (((a0.put (some 16) (.agg #[Fv h, Fv l])).put (some 18) (.agg #[Fv h2, Fv l2])).put (some 6) (.pointer (some ⟨gy, 0, none⟩))) W' := by
    rintro gy W' ⟨xa, xb, hbw, xy, hgy, dya, dyb⟩
    subst hWP hL ha
    have Hxa := Hid.mk9 xa
    have Hxb := Hid.mk9 xb
    have Hxy := Hid.mk9 xy
    have Hhgy := Hid.mk9 hgy
    have Hdya := Hid.mk9 dya
    have Hdyb := Hid.mk9 dyb
    clear xa xb xy hgy dya dyb
    go_simp
    refine wpJ_on 4 rfl fun KJ hK => ?_
    go_simp
    have hb := below1 W' (.cells #[Fv 0, Fv 0] 28)
    refine hK _ _ ⟨(Hxa.out.below hb).c0, (Hxa.out.below hb).c1, (Hxb.out.below hb).c0, (Hxb.out.below hb).c1⟩ ?_
    exact wpJ_same (by kernel_rfl) (by kernel_rfl) (N2xy W'.heap.size gy _ ⟨(Hxa.out.below hb), (Hxb.out.below hb), (Below.on hbw hb), (Box.new W' _ _ _), hbw.size, (Nat.ne_of_gt Hxa.out.lt), (Nat.ne_of_gt Hxb.out.lt), (Hxy.out.below hb), Hhgy.out, Hdya.out, Hdyb.out, (Nat.ne_of_gt Hxy.out.lt)⟩)
  have N2 : ∀ (W' : World), Box W' ga (.int .u64 (h : Int)) (.int .u64 (l : Int)) ∧ Box W' gb (.int .u64 (h2 : Int)) (.int .u64 (l2 : Int)) ∧ Below w.heap.size w W' → WP 4 ((L0.setIfInBounds 1 true).setIfInBounds 3 true) ((a0.put (some 16) (.agg #[Fv h, Fv l])).put (some 18) (.agg #[Fv h2, Fv l2])) W' := by
    rintro  W' ⟨xa, xb, hbw⟩
    subst hWP hL ha
    have Hxa := Hid.mk9 xa
    have Hxb := Hid.mk9 xb
    clear xa xb
    go_simp
    refine wpJ_two (i := 4) (k := 5) (by kernel_rfl) rfl rfl (by kernel_rfl) (by kernel_rfl) (fun KJ hK => ?_) (fun KJ hK => ?_)
    · go_simp
      have hb := below1 W' (.cells #[Fv 0, Fv 0] 28)
      refine hK _ _ ⟨(Hxa.out.below hb).c0, (Hxa.out.below hb).c1, (Hxb.out.below hb).c0, (Hxb.out.below hb).c1⟩ ?_
      exact wpJ_same (by kernel_rfl) (by kernel_rfl) (N2x W'.heap.size _ ⟨(Hxa.out.below hb), (Hxb.out.below hb), (Below.on hbw hb), (Box.new W' _ _ _), hbw.size, (Nat.ne_of_gt Hxa.out.lt), (Nat.ne_of_gt Hxb.out.lt)⟩)
    · go_simp
      have hb := below1 W' (.cells #[Fv 0, Fv 0] 28)
      refine hK _ _ ⟨(Hxa.out.below hb).c0, (Hxa.out.below hb).c1, (Hxb.out.below hb).c0, (Hxb.out.below hb).c1⟩ ?_
      exact wpJ_same (by kernel_rfl) (by kernel_rfl) (N2y W'.heap.size _ ⟨(Hxa.out.below hb), (Hxb.out.below hb), (Below.on hbw hb), (Box.new W' _ _ _), hbw.size, (Nat.ne_of_gt Hxa.out.lt), (Nat.ne_of_gt Hxb.out.lt)⟩)
  have N1xy : ∀ (gx : Nat) (gy : Nat) (W' : World), Box W' ga (.int .u64 (h : Int)) (.int .u64 (l : Int)) ∧ Box W' gb (.int .u64 (h2 : Int)) (.int .u64 (l2 : Int)) ∧ Below w.heap.size w W' ∧ Box W' gx (Fv 0) (Fv 0) ∧ w.heap.size ≤ gx ∧ gx ≠ ga ∧ gx ≠ gb ∧ Box W' gy (Fv 0) (Fv 0) ∧ w.heap.size ≤ gy ∧ gy ≠ ga ∧ gy ≠ gb ∧ gx ≠ gy → WP 3 (((L0.setIfInBounds 1 true).setIfInBounds 4 true).setIfInBounds 5 true) (((a0.put (some 16) (.agg #[Fv h, Fv l])).put (some 5) (.pointer (some ⟨gx, 0, none⟩))).put (some 6) (.pointer (some ⟨gy, 0, none⟩))) W' := by
    rintro gx gy W' ⟨xa, xb, hbw, xx, hgx, dxa, dxb, xy, hgy, dya, dyb, dd⟩
    subst hWP hL ha
    have Hxa := Hid.mk9 xa
    have Hxb := Hid.mk9 xb
    have Hxx := Hid.mk9 xx
    have Hhgx := Hid.mk9 hgx
    have Hdxa := Hid.mk9 dxa
    have Hdxb := Hid.mk9 dxb
    have Hxy := Hid.mk9 xy
    have Hhgy := Hid.mk9 hgy
    have Hdya := Hid.mk9 dya
    have Hdyb := Hid.mk9 dyb
    have Hdd := Hid.mk9 dd
    clear xa xb xx hgx dxa dxb xy hgy dya dyb dd
    go_simp
    refine wpJ_on 3 rfl fun KJ hK => ?_
    go_simp
    refine (P2 _).mono ?_
    rintro e W2 ⟨rfl, hb⟩
    refine hK _ _ ⟨(Hxa.out.below hb).c0, (Hxa.out.below hb).c1, (Hxb.out.below hb).c0, (Hxb.out.below hb).c1⟩ ?_
    exact wpJ_same (by kernel_rfl) (by kernel_rfl) (N2xy gx gy W2 ⟨(Hxa.out.below hb), (Hxb.out.below hb), (Below.on hbw hb), (Hxx.out.below hb), Hhgx.out, Hdxa.out, Hdxb.out, (Hxy.out.below hb), Hhgy.out, Hdya.out, Hdyb.out, Hdd.out⟩)
  have N1x : ∀ (gx : Nat) (W' : World), Box W' ga (.int .u64 (h : Int)) (.int .u64 (l : Int)) ∧ Box W' gb (.int .u64 (h2 : Int)) (.int .u64 (l2 : Int)) ∧ Below w.heap.size w W' ∧ Box W' gx (Fv 0) (Fv 0) ∧ w.heap.size ≤ gx ∧ gx ≠ ga ∧ gx ≠ gb → WP 4 ((L0.setIfInBounds 1 true).setIfInBounds 4 true) ((a0.put (some 16) (.agg #[Fv h, Fv l])).put (some 5) (.pointer (some ⟨gx, 0, none⟩))) W' := by
    rintro gx W' ⟨xa, xb, hbw, xx, hgx, dxa, dxb⟩
    subst hWP hL ha
    have Hxa := Hid.mk9 xa
    have Hxb := Hid.mk9 xb
    have Hxx := Hid.mk9 xx
    have Hhgx := Hid.mk9 hgx
    have Hdxa := Hid.mk9 dxa
    have Hdxb := Hid.mk9 dxb
    clear xa xb xx hgx dxa dxb
    go_simp
    refine wpJ_two (i := 3) (k := 5) (by kernel_rfl) rfl rfl (by kernel_rfl) (by kernel_rfl) (fun KJ hK => ?_) (fun KJ hK => ?_)
    · go_simp
      refine (P2 _).mono ?_
      rintro e W2 ⟨rfl, hb⟩
      refine hK _ _ ⟨(Hxa.out.below hb).c0, (Hxa.out.below hb).c1, (Hxb.out.below hb).c0, (Hxb.out.below hb).c1⟩ ?_
      exact wpJ_same (by kernel_rfl) (by kernel_rfl) (N2x gx W2 ⟨(Hxa.out.below hb), (Hxb.out.below hb), (Below.on hbw hb), (Hxx.out.below hb), Hhgx.out, Hdxa.out, Hdxb.out⟩)
    · go_simp
      have hb := below1 W' (.cells #[Fv 0, Fv 0] 28)
      refine hK _ _ ⟨(Hxa.out.below hb).c0, (Hxa.out.below hb).c1, (Hxb.out.below hb).c0, (Hxb.out.below hb).c1⟩ ?_
      exact wpJ_same (by kernel_rfl) (by kernel_rfl) (N1xy gx W'.heap.size _ ⟨(Hxa.out.below hb), (Hxb.out.below hb), (Below.on hbw hb), (Hxx.out.below hb), Hhgx.out, Hdxa.out, Hdxb.out, (Box.new W' _ _ _), hbw.size, (Nat.ne_of_gt Hxa.out.lt), (Nat.ne_of_gt Hxb.out.lt), (Nat.ne_of_lt Hxx.out.lt)⟩)
  have N1y : ∀ (gy : Nat) (W' : World), Box W' ga (.int .u64 (h : Int)) (.int .u64 (l : Int)) ∧ Box W' gb (.int .u64 (h2 : Int)) (.int .u64 (l2 : Int)) ∧ Below w.heap.size w W' ∧ Box W' gy (Fv 0) (Fv 0) ∧ w.heap.size ≤ gy ∧ gy ≠ ga ∧ gy ≠ gb → WP 4 ((L0.setIfInBounds 1 true).setIfInBounds 5 true) ((a0.put (some 16) (.agg #[Fv h, Fv l])).put (some 6) (.pointer (some ⟨gy, 0, none⟩))) W' := by
    rintro gy W' ⟨xa, xb, hbw, xy, hgy, dya, dyb⟩
    subst hWP hL ha
    have Hxa := Hid.mk9 xa
    have Hxb := Hid.mk9 xb
    have Hxy := Hid.mk9 xy
    have Hhgy := Hid.mk9 hgy
    have Hdya := Hid.mk9 dya
    have Hdyb := Hid.mk9 dyb
    clear xa xb xy hgy dya dyb
    go_simp
    refine wpJ_two (i := 3) (k := 4) (by kernel_rfl) rfl rfl (by kernel_rfl) (by kernel_rfl) (fun KJ hK => ?_) (fun KJ hK => ?_)
    · go_simp
      refine (P2 _).mono ?_
      rintro e W2 ⟨rfl, hb⟩
      refine hK _ _ ⟨(Hxa.out.below hb).c0, (Hxa.out.below hb).c1, (Hxb.out.below hb).c0, (Hxb.out.below hb).c1⟩ ?_
      exact wpJ_same (by kernel_rfl) (by kernel_rfl) (N2y gy W2 ⟨(Hxa.out.below hb), (Hxb.out.below hb), (Below.on hbw hb), (Hxy.out.below hb), Hhgy.out, Hdya.out, Hdyb.out⟩)
    · go_simp
      have hb := below1 W' (.cells #[Fv 0, Fv 0] 28)
      refine hK _ _ ⟨(Hxa.out.below hb).c0, (Hxa.out.below hb).c1, (Hxb.out.below hb).c0, (Hxb.out.below hb).c1⟩ ?_
      exact wpJ_same (by kernel_rfl) (by kernel_rfl) (N1xy W'.heap.size gy _ ⟨(Hxa.out.below hb), (Hxb.out.below hb), (Below.on hbw hb), (Box.new W' _ _ _), hbw.size, (Nat.ne_of_gt Hxa.out.lt), (Nat.ne_of_gt Hxb.out.lt), (Hxy.out.below hb), Hhgy.out, Hdya.out, Hdyb.out, (Nat.ne_of_gt Hxy.out.lt)⟩)
  have N1 : ∀ (W' : World), Box W' ga (.int .u64 (h : Int)) (.int .u64 (l : Int)) ∧ Box W' gb (.int .u64 (h2 : Int)) (.int .u64 (l2 : Int)) ∧ Below w.heap.size w W' → WP 5 (L0.setIfInBounds 1 true) (a0.put (some 16) (.agg #[Fv h, Fv l])) W' := by
    rintro  W' ⟨xa, xb, hbw⟩
    subst hWP hL ha
    have Hxa := Hid.mk9 xa
    have Hxb := Hid.mk9 xb
    clear xa xb
    go_simp
    refine wpJ_three (i := 3) (k := 4) (l := 5) (by kernel_rfl) rfl rfl rfl (by kernel_rfl) (by kernel_rfl) (by kernel_rfl) (fun KJ hK => ?_) (fun KJ hK => ?_) (fun KJ hK => ?_)
    · go_simp
      refine (P2 _).mono ?_
      rintro e W2 ⟨rfl, hb⟩
      refine hK _ _ ⟨(Hxa.out.below hb).c0, (Hxa.out.below hb).c1, (Hxb.out.below hb).c0, (Hxb.out.below hb).c1⟩ ?_
      exact wpJ_same (by kernel_rfl) (by kernel_rfl) (N2  W2 ⟨(Hxa.out.below hb), (Hxb.out.below hb), (Below.on hbw hb)⟩)
    · go_simp
      have hb := below1 W' (.cells #[Fv 0, Fv 0] 28)
      refine hK _ _ ⟨(Hxa.out.below hb).c0, (Hxa.out.below hb).c1, (Hxb.out.below hb).c0, (Hxb.out.below hb).c1⟩ ?_
      exact wpJ_same (by kernel_rfl) (by kernel_rfl) (N1x W'.heap.size _ ⟨(Hxa.out.below hb), (Hxb.out.below hb), (Below.on hbw hb), (Box.new W' _ _ _), hbw.size, (Nat.ne_of_gt Hxa.out.lt), (Nat.ne_of_gt Hxb.out.lt)⟩)
    · go_simp
      have hb := below1 W' (.cells #[Fv 0, Fv 0] 28)
      refine hK _ _ ⟨(Hxa.out.below hb).c0, (Hxa.out.below hb).c1, (Hxb.out.below hb).c0, (Hxb.out.below hb).c1⟩ ?_
      exact wpJ_same (by kernel_rfl) (by kernel_rfl) (N1y W'.heap.size _ ⟨(Hxa.out.below hb), (Hxb.out.below hb), (Below.on hbw hb), (Box.new W' _ _ _), hbw.size, (Nat.ne_of_gt Hxa.out.lt), (Nat.ne_of_gt Hxb.out.lt)⟩)
  have N0xy : ∀ (gx : Nat) (gy : Nat) (W' : World), Box W' ga (.int .u64 (h : Int)) (.int .u64 (l : Int)) ∧ Box W' gb (.int .u64 (h2 : Int)) (.int .u64 (l2 : Int)) ∧ Below w.heap.size w W' ∧ Box W' gx (Fv 0) (Fv 0) ∧ w.heap.size ≤ gx ∧ gx ≠ ga ∧ gx ≠ gb ∧ Box W' gy (Fv 0) (Fv 0) ∧ w.heap.size ≤ gy ∧ gy ≠ ga ∧ gy ≠ gb ∧ gx ≠ gy → WP 4 ((L0.setIfInBounds 4 true).setIfInBounds 5 true) ((a0.put (some 5) (.pointer (some ⟨gx, 0, none⟩))).put (some 6) (.pointer (some ⟨gy, 0, none⟩))) W' := by
    rintro gx gy W' ⟨xa, xb, hbw, xx, hgx, dxa, dxb, xy, hgy, dya, dyb, dd⟩
    subst hWP hL ha
    have Hxa := Hid.mk9 xa
    have Hxb := Hid.mk9 xb
    have Hxx := Hid.mk9 xx
    have Hhgx := Hid.mk9 hgx
    have Hdxa := Hid.mk9 dxa
    have Hdxb := Hid.mk9 dxb
    have Hxy := Hid.mk9 xy
    have Hhgy := Hid.mk9 hgy
    have Hdya := Hid.mk9 dya
    have Hdyb := Hid.mk9 dyb
    have Hdd := Hid.mk9 dd
    clear xa xb xx hgx dxa dxb xy hgy dya dyb dd
    go_simp
    refine wpJ_on 1 rfl fun KJ hK => ?_
    go_simp
    refine (P1 _).mono ?_
    rintro e W2 ⟨rfl, hb⟩
    refine hK _ _ ⟨(Hxa.out.below hb).c0, (Hxa.out.below hb).c1, (Hxb.out.below hb).c0, (Hxb.out.below hb).c1⟩ ?_
    exact wpJ_same (by kernel_rfl) (by kernel_rfl) (N1xy gx gy W2 ⟨(Hxa.out.below hb), (Hxb.out.below hb), (Below.on hbw hb), (Hxx.out.below hb), Hhgx.out, Hdxa.out, Hdxb.out, (Hxy.out.below hb), Hhgy.out, Hdya.out, Hdyb.out, Hdd.out⟩)
  have N0x : ∀ (gx : Nat) (W' : World), Box W' ga (.int .u64 (h : Int)) (.int .u64 (l : Int)) ∧ Box W' gb (.int .u64 (h2 : Int)) (.int .u64 (l2 : Int)) ∧ Below w.heap.size w W' ∧ Box W' gx (Fv 0) (Fv 0) ∧ w.heap.size ≤ gx ∧ gx ≠ ga ∧ gx ≠ gb → WP 5 (L0.setIfInBounds 4 true) (a0.put (some 5) (.pointer (some ⟨gx, 0, none⟩))) W' := by
    rintro gx W' ⟨xa, xb, hbw, xx, hgx, dxa, dxb⟩
    subst hWP hL ha
    have Hxa := Hid.mk9 xa
    have Hxb := Hid.mk9 xb
    have Hxx := Hid.mk9 xx
    have Hhgx := Hid.mk9 hgx
    have Hdxa := Hid.mk9 dxa
    have Hdxb := Hid.mk9 dxb
    clear xa xb xx hgx dxa dxb
    go_simp
    refine wpJ_two (i := 1) (k := 5) (by kernel_rfl) rfl rfl (by kernel_rfl) (by kernel_rfl) (fun KJ hK => ?_) (fun KJ hK => ?_)
    · go_simp
      refine (P1 _).mono ?_
      rintro e W2 ⟨rfl, hb⟩
      refine hK _ _ ⟨(Hxa.out.below hb).c0, (Hxa.out.below hb).c1, (Hxb.out.below hb).c0, (Hxb.out.below hb).c1⟩ ?_
      exact wpJ_same (by kernel_rfl) (by kernel_rfl) (N1x gx W2 ⟨(Hxa.out.below hb), (Hxb.out.below hb), (Below.on hbw hb), (Hxx.out.below hb), Hhgx.out, Hdxa.out, Hdxb.out⟩)
    · go_simp
      have hb := below1 W' (.cells #[Fv 0, Fv 0] 28)
      refine hK _ _ ⟨(Hxa.out.below hb).c0, (Hxa.out.below hb).c1, (Hxb.out.below hb).c0, (Hxb.out.below hb).c1⟩ ?_
      exact wpJ_same (by kernel_rfl) (by kernel_rfl) (N0xy gx W'.heap.size _ ⟨(Hxa.out.below hb), (Hxb.out.below hb), (Below.on hbw hb), (Hxx.out.below hb), Hhgx.out, Hdxa.out, Hdxb.out, (Box.new W' _ _ _), hbw.size, (Nat.ne_of_gt Hxa.out.lt), (Nat.ne_of_gt Hxb.out.lt), (Nat.ne_of_lt Hxx.out.lt)⟩)
  have N0y : ∀ (gy : Nat) (W' : World), Box W' ga (.int .u64 (h : Int)) (.int .u64 (l : Int)) ∧ Box W' gb (.int .u64 (h2 : Int)) (.int .u64 (l2 : Int)) ∧ Below w.heap.size w W' ∧ Box W' gy (Fv 0) (Fv 0) ∧ w.heap.size ≤ gy ∧ gy ≠ ga ∧ gy ≠ gb → WP 5 (L0.setIfInBounds 5 true) (a0.put (some 6) (.pointer (some ⟨gy, 0, none⟩))) W' := by
    rintro gy W' ⟨xa, xb, hbw, xy, hgy, dya, dyb⟩
    subst hWP hL ha
    have Hxa := Hid.mk9 xa
    have Hxb := Hid.mk9 xb
    have Hxy := Hid.mk9 xy
    have Hhgy := Hid.mk9 hgy
    have Hdya := Hid.mk9 dya
    have Hdyb := Hid.mk9 dyb
    clear xa xb xy hgy dya dyb
    go_simp
    refine wpJ_two (i := 1) (k := 4) (by kernel_rfl) rfl rfl (by kernel_rfl) (by kernel_rfl) (fun KJ hK => ?_) (fun KJ hK => ?_)
    · go_simp
      refine (P1 _).mono ?_
      rintro e W2 ⟨rfl, hb⟩
      refine hK _ _ ⟨(Hxa.out.below hb).c0, (Hxa.out.below hb).c1, (Hxb.out.below hb).c0, (Hxb.out.below hb).c1⟩ ?_
      exact wpJ_same (by kernel_rfl) (by kernel_rfl) (N1y gy W2 ⟨(Hxa.out.below hb), (Hxb.out.below hb), (Below.on hbw hb), (Hxy.out.below hb), Hhgy.out, Hdya.out, Hdyb.out⟩)
    · go_simp
      have hb := below1 W' (.cells #[Fv 0, Fv 0] 28)
      refine hK _ _ ⟨(Hxa.out.below hb).c0, (Hxa.out.below hb).c1, (Hxb.out.below hb).c0, (Hxb.out.below hb).c1⟩ ?_
      exact wpJ_same (by kernel_rfl) (by kernel_rfl) (N0xy W'.heap.size gy _ ⟨(Hxa.out.below hb), (Hxb.out.below hb), (Below.on hbw hb), (Box.new W' _ _ _), hbw.size, (Nat.ne_of_gt Hxa.out.lt), (Nat.ne_of_gt Hxb.out.lt), (Hxy.out.below hb), Hhgy.out, Hdya.out, Hdyb.out, (Nat.ne_of_gt Hxy.out.lt)⟩)
  have N0 : ∀ (W' : World), Box W' ga (.int .u64 (h : Int)) (.int .u64 (l : Int)) ∧ Box W' gb (.int .u64 (h2 : Int)) (.int .u64 (l2 : Int)) ∧ Below w.heap.size w W' → WP 6 L0 a0 W' := by
    rintro  W' ⟨xa, xb, hbw⟩
    subst hWP hL ha
    have Hxa := Hid.mk9 xa
    have Hxb := Hid.mk9 xb
    clear xa xb
    go_simp
    refine wpJ_three (i := 1) (k := 4) (l := 5) (by kernel_rfl) rfl rfl rfl (by kernel_rfl) (by kernel_rfl) (by kernel_rfl) (fun KJ hK => ?_) (fun KJ hK => ?_) (fun KJ hK => ?_)
    · go_simp
      refine (P1 _).mono ?_
      rintro e W2 ⟨rfl, hb⟩
      refine hK _ _ ⟨(Hxa.out.below hb).c0, (Hxa.out.below hb).c1, (Hxb.out.below hb).c0, (Hxb.out.below hb).c1⟩ ?_
      exact wpJ_same (by kernel_rfl) (by kernel_rfl) (N1  W2 ⟨(Hxa.out.below hb), (Hxb.out.below hb), (Below.on hbw hb)⟩)
    · go_simp
      have hb := below1 W' (.cells #[Fv 0, Fv 0] 28)
      refine hK _ _ ⟨(Hxa.out.below hb).c0, (Hxa.out.below hb).c1, (Hxb.out.below hb).c0, (Hxb.out.below hb).c1⟩ ?_
      exact wpJ_same (by kernel_rfl) (by kernel_rfl) (N0x W'.heap.size _ ⟨(Hxa.out.below hb), (Hxb.out.below hb), (Below.on hbw hb), (Box.new W' _ _ _), hbw.size, (Nat.ne_of_gt Hxa.out.lt), (Nat.ne_of_gt Hxb.out.lt)⟩)
    · go_simp
      have hb := below1 W' (.cells #[Fv 0, Fv 0] 28)
      refine hK _ _ ⟨(Hxa.out.below hb).c0, (Hxa.out.below hb).c1, (Hxb.out.below hb).c0, (Hxb.out.below hb).c1⟩ ?_
      exact wpJ_same (by kernel_rfl) (by kernel_rfl) (N0y W'.heap.size _ ⟨(Hxa.out.below hb), (Hxb.out.below hb), (Below.on hbw hb), (Box.new W' _ _ _), hbw.size, (Nat.ne_of_gt Hxa.out.lt), (Nat.ne_of_gt Hxb.out.lt)⟩)
  exact N0 V1 ⟨Xa.out, Xb.out, hbw⟩
theorem ddOrder_yn (h l h2 l2 : Nat) (hh : h < 18446744073709551616) (hl : l < 18446744073709551616) (hh2 : h2 < 18446744073709551616) (hl2 : l2 < 18446744073709551616) (d : DdF h l) (d2 : ddB h2 l2 = false) (w : World) (hT : Tab w) :
    Calls Tryd.prog 3 #[.agg #[.int .u64 (h : Int), .int .u64 (l : Int)], .agg #[.int .u64 (h2 : Int), .int .u64 (l2 : Int)]] w fun en w' => en = .returned (.bool true) ∧ Below w.heap.size w w' := by
  have hSF : ∀ (w : World) (a : Addr) (b : Nat), (store a (Fv b)).run Tryd.prog w = stored Tryd.prog w a (Fv b) .plain := stF
  have hbw : Below w.heap.size w w := Below.refl _ _
  have TB : Hid (Tab w) := hT
  have P1 := lpair h l
  have P2 := lpair h2 l2
  have G1 := ddform h l hh hl
  have G2 := ddform h2 l2 hh2 hl2
  have C12 := ddcmp h l h2 l2 hh hl hh2 hl2
  have C21 := ddcmp h2 l2 h l hh2 hl2 hh hl
  rw [cmpD_no (.inr d2)] at C12
  rw [cmpD_no (.inl d2)] at C21
  rw [ddB_iff.2 d] at G1
  rw [d2] at G2
  have NV4 := ddvalue_n h2 l2 hh2 hl2 d2
  have HD : Hid (DdF h l) := d
  clear hT hh hl hh2 hl2 d d2
  go_enter Tryd.func3, Tryd.ntmps3
  go_wp2_with fail
  obtain ⟨W0, hW0⟩ : ∃ W0, W0 = ((w.alloc (.cells #[.int .u64 (h : Int), .int .u64 (l : Int)] 24)).alloc (.cells #[.int .u64 (h2 : Int), .int .u64 (l2 : Int)] 24)) := ⟨_, rfl⟩
  have Xa : Hid (Box W0 (w.heap.size) (.int .u64 (h : Int)) (.int .u64 (l : Int))) := by rw [hW0]; exact ⟨by go_simp, by go_simp, by go_simp, by go_simp⟩
  have Xb : Hid (Box W0 (w.heap.size + 1) (.int .u64 (h2 : Int)) (.int .u64 (l2 : Int))) := by rw [hW0]; exact ⟨by go_simp, by go_simp, by go_simp, by go_simp⟩
  have hb0 : Below w.heap.size w W0 := by rw [hW0]; exact below2 w _ _
  rw [← hW0]
  clear hW0
  have hbw : Below w.heap.size w w := Below.refl _ _
  obtain ⟨gb, hgb⟩ : ∃ g, g = w.heap.size + 1 := ⟨_, rfl⟩
  have HGb : Hid (w.heap.size ≤ gb) := by rw [hgb]; show _ ≤ _; omega
  rw [← hgb] at Xb
  try rw [← hgb]
  obtain ⟨ga, hga⟩ : ∃ g, g = w.heap.size := ⟨_, rfl⟩
  have HGa : Hid (w.heap.size ≤ ga) := by rw [hga]; show _ ≤ _; omega
  rw [← hga] at Xa
  try rw [← hga]
  have HGD : Hid (ga ≠ gb ∧ gb ≠ ga) := by rw [hga, hgb]; exact ⟨by omega, by omega⟩
  clear hga hgb
  replace hbw := Below.on hbw hb0
  clear hb0
  refine (awake20 _).mono ?_
  rintro e v1 ⟨rfl, hb1⟩
  replace Xa : Hid _ := Xa.out.below hb1
  replace Xb : Hid _ := Xb.out.below hb1
  replace hbw := Below.on hbw hb1
  clear hb1
  obtain ⟨ca0, ca1, fa0, fa1⟩ := Xa.out
  have hnea := Xa.out.lt
  obtain ⟨cb0, cb1, fb0, fb1⟩ := Xb.out
  have hneb := Xb.out.lt
  go_wp2_with fail
  clear ca0 ca1 fa0 fa1 hnea
  clear cb0 cb1 fb0 fb1 hneb
  obtain ⟨V1, hV1⟩ : ∃ W1, W1 = v1.drew := ⟨_, rfl⟩
  have hbd : Below v1.heap.size v1 V1 := by rw [hV1]; exact bDrew1 (Below.refl _ _)
  replace Xa : Hid _ := Xa.out.below hbd
  replace Xb : Hid _ := Xb.out.below hbd
  replace hbw := Below.on hbw hbd
  clear hbd
  have HJ : Hid ((fun W' : World => W'.cell? ⟨ga, 0, none⟩ = some (.int .u64 (h : Int)) ∧ W'.cell? ⟨ga, 1, none⟩ = some (.int .u64 (l : Int)) ∧ W'.cell? ⟨gb, 0, none⟩ = some (.int .u64 (h2 : Int)) ∧ W'.cell? ⟨gb, 1, none⟩ = some (.int .u64 (l2 : Int))) V1) := ⟨Xa.out.c0, Xa.out.c1, Xb.out.c0, Xb.out.c1⟩
  refine wp_region_J (fun W' => W'.cell? ⟨ga, 0, none⟩ = some (.int .u64 (h : Int)) ∧ W'.cell? ⟨ga, 1, none⟩ = some (.int .u64 (l : Int)) ∧ W'.cell? ⟨gb, 0, none⟩ = some (.int .u64 (h2 : Int)) ∧ W'.cell? ⟨gb, 1, none⟩ = some (.int .u64 (l2 : Int))) (by kernel_rfl) ?_
  rw [← hV1]
  clear hV1
  refine wpJ_tq 0 rfl HJ.out ?_
  refine wpJ_tq 2 rfl HJ.out ?_
  go_simp
  refine wpJ_nodes fun WP hWP L0 a0 hL ha => ?_
  have N2xy : ∀ (gx : Nat) (gy : Nat) (W' : World), Box W' ga (.int .u64 (h : Int)) (.int .u64 (l : Int)) ∧ Box W' gb (.int .u64 (h2 : Int)) (.int .u64 (l2 : Int)) ∧ Below w.heap.size w W' ∧ Box W' gx (Fv 0) (Fv 0) ∧ w.heap.size ≤ gx ∧ gx ≠ ga ∧ gx ≠ gb ∧ Box W' gy (Fv 0) (Fv 0) ∧ w.heap.size ≤ gy ∧ gy ≠ ga ∧ gy ≠ gb ∧ gx ≠ gy → WP 2 ((((L0.setIfInBounds 1 true).setIfInBounds 3 true).setIfInBounds 4 true).setIfInBounds 5 true) ((((a0.put (some 16) (.agg #[Fv h, Fv l])).put (some 18) (.agg #[Fv h2, Fv l2])).put (some 5) (.pointer (some ⟨gx, 0, none⟩))).put (some 6) (.pointer (some ⟨gy, 0, none⟩))) W' := by
    rintro gx gy W' ⟨xa, xb, hbw, xx, hgx, dxa, dxb, xy, hgy, dya, dyb, dd⟩
    subst hWP hL ha
    have Hxa := Hid.mk9 xa
    have Hxb := Hid.mk9 xb
    have Hxx := Hid.mk9 xx
    have Hhgx := Hid.mk9 hgx
    have Hdxa := Hid.mk9 dxa
    have Hdxb := Hid.mk9 dxb
    have Hxy := Hid.mk9 xy
    have Hhgy := Hid.mk9 hgy
    have Hdya := Hid.mk9 dya
    have Hdyb := Hid.mk9 dyb
    have Hdd := Hid.mk9 dd
    clear xa xb xx hgx dxa dxb xy hgy dya dyb dd
    go_simp
    have Xa := Hxa
    have Xb := Hxb
    have Xx := Hxx
    have Xy := Hxy
    clear Hxa Hxb Hxx Hxy
    have e1 := Hdxa.out
    have e2 := Hdxb.out
    have e3 := Hdya.out
    have e4 := Hdyb.out
    have e5 := Hdd.out
    have e6 := Ne.symm e1
    have e7 := Ne.symm e2
    have e8 := Ne.symm e3
    have e9 := Ne.symm e4
    have e0 := Ne.symm e5
    have HGx : Hid (w.heap.size ≤ gx) := Hhgx.out
    have HGy : Hid (w.heap.size ≤ gy) := Hhgy.out
    obtain ⟨ca0, ca1, fa0, fa1⟩ := Xa.out
    have hnea := Xa.out.lt
    obtain ⟨cb0, cb1, fb0, fb1⟩ := Xb.out
    have hneb := Xb.out.lt
    obtain ⟨cx0, cx1, fx0, fx1⟩ := Xx.out
    have hnex := Xx.out.lt
    obtain ⟨cy0, cy1, fy0, fy1⟩ := Xy.out
    have hney := Xy.out.lt
    refine wpJ_on 6 rfl fun KJ hK => ?_
    go_simp
    refine hK _ _ ⟨by go_simp, by go_simp, by go_simp, by go_simp⟩ ?_
    clear hK
    refine wpJ_on 7 rfl fun KJ hK => ?_
    go_simp
    refine hK _ _ ⟨by go_simp, by go_simp, by go_simp, by go_simp⟩ ?_
    clear hK
    refine wpJ_done (by kernel_rfl) ?_ _
    obtain ⟨Wy, hWy⟩ : ∃ W9, W9 = ((((W'.setCell ⟨gx, 0, none⟩ (Fv h)).setCell ⟨gx, 1, none⟩ (Fv l)).setCell ⟨gy, 0, none⟩ (Fv h2)).setCell ⟨gy, 1, none⟩ (Fv l2)) := ⟨_, rfl⟩
    have Yx : Hid (Box Wy gx (Fv h) (Fv l)) := by rw [hWy]; exact ⟨by go_simp, by go_simp, by go_simp, by go_simp⟩
    have Yy : Hid (Box Wy gy (Fv h2) (Fv l2)) := by rw [hWy]; exact ⟨by go_simp, by go_simp, by go_simp, by go_simp⟩
    have hbw2 : Below w.heap.size w Wy := by rw [hWy]; exact bSet (bSet (bSet (bSet hbw _ _ _ HGx.out) _ _ _ HGx.out) _ _ _ HGy.out) _ _ _ HGy.out
    clear ca0 ca1 fa0 fa1 hnea
    clear cb0 cb1 fb0 fb1 hneb
    clear cx0 cx1 fx0 fx1 hnex
    clear cy0 cy1 fy0 fy1 hney
    rw [← hWy]
    have HXY : Hid (gx ≠ gy) := e5
    clear hWy hbw Xa Xb Xx Xy e1 e2 e3 e4 e5 e6 e7 e8 e9 e0
    have hbw := hbw2
    have Xx := Yx
    have Xy := Yy
    clear hbw2 Yx Yy
    obtain ⟨cx0, cx1, fx0, fx1⟩ := Xx.out
    have hnex := Xx.out.lt
    go_wp2_with fail
    clear cx0 cx1 fx0 fx1 hnex
    refine (ddvalue h l HD.out _ (TB.out.below hbw)).mono ?_
    rintro en v3 ⟨s3, p3, m3, z3, e3, rfl, hd3, hv3, hb3⟩
    clear hd3 hv3
    replace Xx : Hid _ := Xx.out.below hb3
    replace Xy : Hid _ := Xy.out.below hb3
    replace hbw := Below.on hbw hb3
    clear hb3
    obtain ⟨cy0, cy1, fy0, fy1⟩ := Xy.out
    have hney := Xy.out.lt
    go_wp2_with fail
    clear cy0 cy1 fy0 fy1 hney
    have Xv0 : Hid (B3q (v3.alloc (.cells #[.bool s3, .slice p3 m3 m3, .int .i64 e3] 34)) v3.heap.size (.bool s3) (.slice p3 m3 m3) (.int .i64 e3)) := B3q.new v3 _ _ _ _
    have hbn : Below v3.heap.size v3 (v3.alloc (.cells #[.bool s3, .slice p3 m3 m3, .int .i64 e3] 34)) := below1 v3 _
    generalize v3.alloc (.cells #[.bool s3, .slice p3 m3 m3, .int .i64 e3] 34) = Wv at *
    have HGv : Hid (w.heap.size ≤ v3.heap.size) := hbw.size
    replace Xx : Hid _ := Xx.out.below hbn
    replace Xy : Hid _ := Xy.out.below hbn
    replace hbw := Below.on hbw hbn
    clear hbn
    generalize v3.heap.size = gv at *
    have Xv := Xv0
    clear Xv0
    refine (NV4 _).mono ?_
    rintro en v4 ⟨rfl, hb4⟩
    replace Xx : Hid _ := Xx.out.below hb4
    replace Xy : Hid _ := Xy.out.below hb4
    replace Xv : Hid _ := Xv.out.below hb4
    replace hbw := Below.on hbw hb4
    clear hb4
    obtain ⟨cx0, cx1, fx0, fx1⟩ := Xx.out
    have hnex := Xx.out.lt
    go_wp2_with fail
    clear cx0 cx1 fx0 fx1 hnex
    have Xu0 : Hid (B3q (v4.alloc (.cells #[.bool false, .slice none 0 0, .int .i64 0] 34)) v4.heap.size (.bool false) (.slice none 0 0) (.int .i64 0)) := B3q.new v4 _ _ _ _
    have hbn : Below v4.heap.size v4 (v4.alloc (.cells #[.bool false, .slice none 0 0, .int .i64 0] 34)) := below1 v4 _
    generalize v4.alloc (.cells #[.bool false, .slice none 0 0, .int .i64 0] 34) = Wu at *
    have HGu : Hid (w.heap.size ≤ v4.heap.size) := hbw.size
    replace Xx : Hid _ := Xx.out.below hbn
    replace Xy : Hid _ := Xy.out.below hbn
    replace Xv : Hid _ := Xv.out.below hbn
    replace hbw := Below.on hbw hbn
    clear hbn
    generalize v4.heap.size = gu at *
    have Xu := Xu0
    clear Xu0
    obtain ⟨V2, hV2⟩ : ∃ W1, W1 = Wu.drew := ⟨_, rfl⟩
    have hbd : Below Wu.heap.size Wu V2 := by rw [hV2]; exact bDrew1 (Below.refl _ _)
    replace Xx : Hid _ := Xx.out.below hbd
    replace Xy : Hid _ := Xy.out.below hbd
    replace Xv : Hid _ := Xv.out.below hbd
    replace Xu : Hid _ := Xu.out.below hbd
    replace hbw := Below.on hbw hbd
    clear hbd
    have HJ : Hid ((fun W' : World => W'.cell? ⟨gx, 0, none⟩ = some (Fv h) ∧ W'.cell? ⟨gx, 1, none⟩ = some (Fv l) ∧ W'.cell? ⟨gy, 0, none⟩ = some (Fv h2) ∧ W'.cell? ⟨gy, 1, none⟩ = some (Fv l2)) V2) := ⟨Xx.out.c0, Xx.out.c1, Xy.out.c0, Xy.out.c1⟩
    refine wp_region_J (fun W' => W'.cell? ⟨gx, 0, none⟩ = some (Fv h) ∧ W'.cell? ⟨gx, 1, none⟩ = some (Fv l) ∧ W'.cell? ⟨gy, 0, none⟩ = some (Fv h2) ∧ W'.cell? ⟨gy, 1, none⟩ = some (Fv l2)) (by kernel_rfl) ?_
    rw [← hV2]
    clear hV2
    refine wpJ_tq 0 rfl HJ.out ?_
    refine wpJ_tq 2 rfl HJ.out ?_
    refine wpJ_tq 3 rfl HJ.out ?_
    refine wpJ_on 1 rfl fun KJ hK => ?_
    go_simp
    refine (G1 _).mono ?_
    rintro e v5 ⟨rfl, hb5⟩
    replace Xx : Hid _ := Xx.out.below hb5
    replace Xy : Hid _ := Xy.out.below hb5
    replace Xv : Hid _ := Xv.out.below hb5
    replace Xu : Hid _ := Xu.out.below hb5
    replace hbw := Below.on hbw hb5
    clear hb5
    clear HJ
    have HJ : Hid ((fun W' : World => W'.cell? ⟨gx, 0, none⟩ = some (Fv h) ∧ W'.cell? ⟨gx, 1, none⟩ = some (Fv l) ∧ W'.cell? ⟨gy, 0, none⟩ = some (Fv h2) ∧ W'.cell? ⟨gy, 1, none⟩ = some (Fv l2)) v5) := ⟨Xx.out.c0, Xx.out.c1, Xy.out.c0, Xy.out.c1⟩
    refine hK _ _ HJ.out ?_
    clear hK
    refine wpJ_tq 4 rfl HJ.out ?_
    refine wpJ_tq 5 rfl HJ.out ?_
    refine wpJ_tq 6 rfl HJ.out ?_
    refine wpJ_tq 8 rfl HJ.out ?_
    refine wpJ_tq 9 rfl HJ.out ?_
    refine wpJ_on 7 rfl fun KJ hK => ?_
    go_simp
    refine (G2 _).mono ?_
    rintro e v6 ⟨rfl, hb6⟩
    replace Xx : Hid _ := Xx.out.below hb6
    replace Xy : Hid _ := Xy.out.below hb6
    replace Xv : Hid _ := Xv.out.below hb6
    replace Xu : Hid _ := Xu.out.below hb6
    replace hbw := Below.on hbw hb6
    clear hb6
    clear HJ
    have HJ : Hid ((fun W' : World => W'.cell? ⟨gx, 0, none⟩ = some (Fv h) ∧ W'.cell? ⟨gx, 1, none⟩ = some (Fv l) ∧ W'.cell? ⟨gy, 0, none⟩ = some (Fv h2) ∧ W'.cell? ⟨gy, 1, none⟩ = some (Fv l2)) v6) := ⟨Xx.out.c0, Xx.out.c1, Xy.out.c0, Xy.out.c1⟩
    refine hK _ _ HJ.out ?_
    clear hK
    refine wpJ_tq 10 rfl HJ.out ?_
    refine wpJ_tq 11 rfl HJ.out ?_
    refine wpJ_tq 12 rfl HJ.out ?_
    refine wpJ_tq 13 rfl HJ.out ?_
    refine wpJ_tq 14 rfl HJ.out ?_
    go_simp
    refine wpJ_tq 16 rfl HJ.out ?_
    refine wpJ_tq 17 rfl HJ.out ?_
    refine wpJ_on 15 rfl fun KJ hK => ?_
    go_simp
    refine (C12 _).mono ?_
    rintro e v7 ⟨rfl, hb7⟩
    replace Xx : Hid _ := Xx.out.below hb7
    replace Xy : Hid _ := Xy.out.below hb7
    replace Xv : Hid _ := Xv.out.below hb7
    replace Xu : Hid _ := Xu.out.below hb7
    replace hbw := Below.on hbw hb7
    clear hb7
    refine hK _ _ ⟨Xx.out.c0, Xx.out.c1, Xy.out.c0, Xy.out.c1⟩ ?_
    clear hK
    refine wpJ_on 18 rfl fun KJ hK => ?_
    go_simp
    refine (C21 _).mono ?_
    rintro e v8 ⟨rfl, hb8⟩
    replace Xx : Hid _ := Xx.out.below hb8
    replace Xy : Hid _ := Xy.out.below hb8
    replace Xv : Hid _ := Xv.out.below hb8
    replace Xu : Hid _ := Xu.out.below hb8
    replace hbw := Below.on hbw hb8
    clear hb8
    clear HJ
    have HJ : Hid ((fun W' : World => W'.cell? ⟨gx, 0, none⟩ = some (Fv h) ∧ W'.cell? ⟨gx, 1, none⟩ = some (Fv l) ∧ W'.cell? ⟨gy, 0, none⟩ = some (Fv h2) ∧ W'.cell? ⟨gy, 1, none⟩ = some (Fv l2)) v8) := ⟨Xx.out.c0, Xx.out.c1, Xy.out.c0, Xy.out.c1⟩
    refine hK _ _ HJ.out ?_
    clear hK
    refine wpJ_tq 19 rfl HJ.out ?_
    refine wpJ_tq 20 rfl HJ.out ?_
    refine wpJ_tq 21 rfl HJ.out ?_
    refine wpJ_done (by kernel_rfl) ?_ _
    clear HJ
    obtain ⟨cx0, cx1, fx0, fx1⟩ := Xx.out
    have hnex := Xx.out.lt
    obtain ⟨cy0, cy1, fy0, fy1⟩ := Xy.out
    have hney := Xy.out.lt
    go_wp2_with fail
    clear cx0 cx1 fx0 fx1 hnex
    clear cy0 cy1 fy0 fy1 hney
    refine (C12 _).mono ?_
    rintro e v9 ⟨rfl, hb9⟩
    replace Xx : Hid _ := Xx.out.below hb9
    replace Xy : Hid _ := Xy.out.below hb9
    replace Xv : Hid _ := Xv.out.below hb9
    replace Xu : Hid _ := Xu.out.below hb9
    replace hbw := Below.on hbw hb9
    clear hb9
    go_wp2_with fail
    go_ret
    exact ⟨by kernel_rfl, hbw⟩
  have N2x : ∀ (gx : Nat) (W' : World), Box W' ga (.int .u64 (h : Int)) (.int .u64 (l : Int)) ∧ Box W' gb (.int .u64 (h2 : Int)) (.int .u64 (l2 : Int)) ∧ Below w.heap.size w W' ∧ Box W' gx (Fv 0) (Fv 0) ∧ w.heap.size ≤ gx ∧ gx ≠ ga ∧ gx ≠ gb → WP 3 (((L0.setIfInBounds 1 true).setIfInBounds 3 true).setIfInBounds 4 true) (((a0.put (some 16) (.agg #[Fv h, Fv l])).put (some 18) (.agg #[Fv h2, Fv l2])).put (some 5) (.pointer (some ⟨gx, 0, none⟩))) W' := by
    rintro gx W' ⟨xa, xb, hbw, xx, hgx, dxa, dxb⟩
    subst hWP hL ha
    have Hxa := Hid.mk9 xa
    have Hxb := Hid.mk9 xb
    have Hxx := Hid.mk9 xx
    have Hhgx := Hid.mk9 hgx
    have Hdxa := Hid.mk9 dxa
    have Hdxb := Hid.mk9 dxb
    clear xa xb xx hgx dxa dxb
    go_simp
    refine wpJ_on 5 rfl fun KJ hK => ?_
    go_simp
    have hb := below1 W' (.cells #[Fv 0, Fv 0] 28)
    refine hK _ _ ⟨(Hxa.out.below hb).c0, (Hxa.out.below hb).c1, (Hxb.out.below hb).c0, (Hxb.out.below hb).c1⟩ ?_
    exact wpJ_same (by kernel_rfl) (by kernel_rfl) (N2xy gx W'.heap.size _ ⟨(Hxa.out.below hb), (Hxb.out.below hb), (Below.on hbw hb), (Hxx.out.below hb), Hhgx.out, Hdxa.out, Hdxb.out, (Box.new W' _ _ _), hbw.size, (Nat.ne_of_gt Hxa.out.lt), (Nat.ne_of_gt Hxb.out.lt), (Nat.ne_of_lt Hxx.out.lt)⟩)
  have N2y : ∀ (gy : Nat) (W' : World), Box W' ga (.int .u64 (h : Int)) (.int .u64 (l : Int)) ∧ Box W' gb (.int .u64 (h2 : Int)) (.int .u64 (l2 : Int)) ∧ Below w.heap.size w W' ∧ Box W' gy (Fv 0) (Fv 0) ∧ w.heap.size ≤ gy ∧ gy ≠ ga ∧ gy ≠ gb → WP 3 (((L0.setIfInBounds 1 true).setIfInBounds 3 true).setIfInBounds 5 true) (((a0.put (some 16) (.agg #[Fv h, Fv l])).put (some 18) (.agg #[Fv h2, Fv l2])).put (some 6) (.pointer (some ⟨gy, 0, none⟩))) W' := by
    rintro gy W' ⟨xa, xb, hbw, xy, hgy, dya, dyb⟩
    subst hWP hL ha
    have Hxa := Hid.mk9 xa
    have Hxb := Hid.mk9 xb
    have Hxy := Hid.mk9 xy
    have Hhgy := Hid.mk9 hgy
    have Hdya := Hid.mk9 dya
    have Hdyb := Hid.mk9 dyb
    clear xa xb xy hgy dya dyb
    go_simp
    refine wpJ_on 4 rfl fun KJ hK => ?_
    go_simp
    have hb := below1 W' (.cells #[Fv 0, Fv 0] 28)
    refine hK _ _ ⟨(Hxa.out.below hb).c0, (Hxa.out.below hb).c1, (Hxb.out.below hb).c0, (Hxb.out.below hb).c1⟩ ?_
    exact wpJ_same (by kernel_rfl) (by kernel_rfl) (N2xy W'.heap.size gy _ ⟨(Hxa.out.below hb), (Hxb.out.below hb), (Below.on hbw hb), (Box.new W' _ _ _), hbw.size, (Nat.ne_of_gt Hxa.out.lt), (Nat.ne_of_gt Hxb.out.lt), (Hxy.out.below hb), Hhgy.out, Hdya.out, Hdyb.out, (Nat.ne_of_gt Hxy.out.lt)⟩)
  have N2 : ∀ (W' : World), Box W' ga (.int .u64 (h : Int)) (.int .u64 (l : Int)) ∧ Box W' gb (.int .u64 (h2 : Int)) (.int .u64 (l2 : Int)) ∧ Below w.heap.size w W' → WP 4 ((L0.setIfInBounds 1 true).setIfInBounds 3 true) ((a0.put (some 16) (.agg #[Fv h, Fv l])).put (some 18) (.agg #[Fv h2, Fv l2])) W' := by
    rintro  W' ⟨xa, xb, hbw⟩
    subst hWP hL ha
    have Hxa := Hid.mk9 xa
    have Hxb := Hid.mk9 xb
    clear xa xb
    go_simp
    refine wpJ_two (i := 4) (k := 5) (by kernel_rfl) rfl rfl (by kernel_rfl) (by kernel_rfl) (fun KJ hK => ?_) (fun KJ hK => ?_)
    · go_simp
      have hb := below1 W' (.cells #[Fv 0, Fv 0] 28)
      refine hK _ _ ⟨(Hxa.out.below hb).c0, (Hxa.out.below hb).c1, (Hxb.out.below hb).c0, (Hxb.out.below hb).c1⟩ ?_
      exact wpJ_same (by kernel_rfl) (by kernel_rfl) (N2x W'.heap.size _ ⟨(Hxa.out.below hb), (Hxb.out.below hb), (Below.on hbw hb), (Box.new W' _ _ _), hbw.size, (Nat.ne_of_gt Hxa.out.lt), (Nat.ne_of_gt Hxb.out.lt)⟩)
    · go_simp
      have hb := below1 W' (.cells #[Fv 0, Fv 0] 28)
      refine hK _ _ ⟨(Hxa.out.below hb).c0, (Hxa.out.below hb).c1, (Hxb.out.below hb).c0, (Hxb.out.below hb).c1⟩ ?_
      exact wpJ_same (by kernel_rfl) (by kernel_rfl) (N2y W'.heap.size _ ⟨(Hxa.out.below hb), (Hxb.out.below hb), (Below.on hbw hb), (Box.new W' _ _ _), hbw.size, (Nat.ne_of_gt Hxa.out.lt), (Nat.ne_of_gt Hxb.out.lt)⟩)
  have N1xy : ∀ (gx : Nat) (gy : Nat) (W' : World), Box W' ga (.int .u64 (h : Int)) (.int .u64 (l : Int)) ∧ Box W' gb (.int .u64 (h2 : Int)) (.int .u64 (l2 : Int)) ∧ Below w.heap.size w W' ∧ Box W' gx (Fv 0) (Fv 0) ∧ w.heap.size ≤ gx ∧ gx ≠ ga ∧ gx ≠ gb ∧ Box W' gy (Fv 0) (Fv 0) ∧ w.heap.size ≤ gy ∧ gy ≠ ga ∧ gy ≠ gb ∧ gx ≠ gy → WP 3 (((L0.setIfInBounds 1 true).setIfInBounds 4 true).setIfInBounds 5 true) (((a0.put (some 16) (.agg #[Fv h, Fv l])).put (some 5) (.pointer (some ⟨gx, 0, none⟩))).put (some 6) (.pointer (some ⟨gy, 0, none⟩))) W' := by
    rintro gx gy W' ⟨xa, xb, hbw, xx, hgx, dxa, dxb, xy, hgy, dya, dyb, dd⟩
    subst hWP hL ha
    have Hxa := Hid.mk9 xa
    have Hxb := Hid.mk9 xb
    have Hxx := Hid.mk9 xx
    have Hhgx := Hid.mk9 hgx
    have Hdxa := Hid.mk9 dxa
    have Hdxb := Hid.mk9 dxb
    have Hxy := Hid.mk9 xy
    have Hhgy := Hid.mk9 hgy
    have Hdya := Hid.mk9 dya
    have Hdyb := Hid.mk9 dyb
    have Hdd := Hid.mk9 dd
    clear xa xb xx hgx dxa dxb xy hgy dya dyb dd
    go_simp
    refine wpJ_on 3 rfl fun KJ hK => ?_
    go_simp
    refine (P2 _).mono ?_
    rintro e W2 ⟨rfl, hb⟩
    refine hK _ _ ⟨(Hxa.out.below hb).c0, (Hxa.out.below hb).c1, (Hxb.out.below hb).c0, (Hxb.out.below hb).c1⟩ ?_
    exact wpJ_same (by kernel_rfl) (by kernel_rfl) (N2xy gx gy W2 ⟨(Hxa.out.below hb), (Hxb.out.below hb), (Below.on hbw hb), (Hxx.out.below hb), Hhgx.out, Hdxa.out, Hdxb.out, (Hxy.out.below hb), Hhgy.out, Hdya.out, Hdyb.out, Hdd.out⟩)
  have N1x : ∀ (gx : Nat) (W' : World), Box W' ga (.int .u64 (h : Int)) (.int .u64 (l : Int)) ∧ Box W' gb (.int .u64 (h2 : Int)) (.int .u64 (l2 : Int)) ∧ Below w.heap.size w W' ∧ Box W' gx (Fv 0) (Fv 0) ∧ w.heap.size ≤ gx ∧ gx ≠ ga ∧ gx ≠ gb → WP 4 ((L0.setIfInBounds 1 true).setIfInBounds 4 true) ((a0.put (some 16) (.agg #[Fv h, Fv l])).put (some 5) (.pointer (some ⟨gx, 0, none⟩))) W' := by
    rintro gx W' ⟨xa, xb, hbw, xx, hgx, dxa, dxb⟩
    subst hWP hL ha
    have Hxa := Hid.mk9 xa
    have Hxb := Hid.mk9 xb
    have Hxx := Hid.mk9 xx
    have Hhgx := Hid.mk9 hgx
    have Hdxa := Hid.mk9 dxa
    have Hdxb := Hid.mk9 dxb
    clear xa xb xx hgx dxa dxb
    go_simp
    refine wpJ_two (i := 3) (k := 5) (by kernel_rfl) rfl rfl (by kernel_rfl) (by kernel_rfl) (fun KJ hK => ?_) (fun KJ hK => ?_)
    · go_simp
      refine (P2 _).mono ?_
      rintro e W2 ⟨rfl, hb⟩
      refine hK _ _ ⟨(Hxa.out.below hb).c0, (Hxa.out.below hb).c1, (Hxb.out.below hb).c0, (Hxb.out.below hb).c1⟩ ?_
      exact wpJ_same (by kernel_rfl) (by kernel_rfl) (N2x gx W2 ⟨(Hxa.out.below hb), (Hxb.out.below hb), (Below.on hbw hb), (Hxx.out.below hb), Hhgx.out, Hdxa.out, Hdxb.out⟩)
    · go_simp
      have hb := below1 W' (.cells #[Fv 0, Fv 0] 28)
      refine hK _ _ ⟨(Hxa.out.below hb).c0, (Hxa.out.below hb).c1, (Hxb.out.below hb).c0, (Hxb.out.below hb).c1⟩ ?_
      exact wpJ_same (by kernel_rfl) (by kernel_rfl) (N1xy gx W'.heap.size _ ⟨(Hxa.out.below hb), (Hxb.out.below hb), (Below.on hbw hb), (Hxx.out.below hb), Hhgx.out, Hdxa.out, Hdxb.out, (Box.new W' _ _ _), hbw.size, (Nat.ne_of_gt Hxa.out.lt), (Nat.ne_of_gt Hxb.out.lt), (Nat.ne_of_lt Hxx.out.lt)⟩)
  have N1y : ∀ (gy : Nat) (W' : World), Box W' ga (.int .u64 (h : Int)) (.int .u64 (l : Int)) ∧ Box W' gb (.int .u64 (h2 : Int)) (.int .u64 (l2 : Int)) ∧ Below w.heap.size w W' ∧ Box W' gy (Fv 0) (Fv 0) ∧ w.heap.size ≤ gy ∧ gy ≠ ga ∧ gy ≠ gb → WP 4 ((L0.setIfInBounds 1 true).setIfInBounds 5 true) ((a0.put (some 16) (.agg #[Fv h, Fv l])).put (some 6) (.pointer (some ⟨gy, 0, none⟩))) W' := by
    rintro gy W' ⟨xa, xb, hbw, xy, hgy, dya, dyb⟩
    subst hWP hL ha
    have Hxa := Hid.mk9 xa
    have Hxb := Hid.mk9 xb
    have Hxy := Hid.mk9 xy
    have Hhgy := Hid.mk9 hgy
    have Hdya := Hid.mk9 dya
    have Hdyb := Hid.mk9 dyb
    clear xa xb xy hgy dya dyb
    go_simp
    refine wpJ_two (i := 3) (k := 4) (by kernel_rfl) rfl rfl (by kernel_rfl) (by kernel_rfl) (fun KJ hK => ?_) (fun KJ hK => ?_)
    · go_simp
      refine (P2 _).mono ?_
      rintro e W2 ⟨rfl, hb⟩
      refine hK _ _ ⟨(Hxa.out.below hb).c0, (Hxa.out.below hb).c1, (Hxb.out.below hb).c0, (Hxb.out.below hb).c1⟩ ?_
      exact wpJ_same (by kernel_rfl) (by kernel_rfl) (N2y gy W2 ⟨(Hxa.out.below hb), (Hxb.out.below hb), (Below.on hbw hb), (Hxy.out.below hb), Hhgy.out, Hdya.out, Hdyb.out⟩)
    · go_simp
      have hb := below1 W' (.cells #[Fv 0, Fv 0] 28)
      refine hK _ _ ⟨(Hxa.out.below hb).c0, (Hxa.out.below hb).c1, (Hxb.out.below hb).c0, (Hxb.out.below hb).c1⟩ ?_
      exact wpJ_same (by kernel_rfl) (by kernel_rfl) (N1xy W'.heap.size gy _ ⟨(Hxa.out.below hb), (Hxb.out.below hb), (Below.on hbw hb), (Box.new W' _ _ _), hbw.size, (Nat.ne_of_gt Hxa.out.lt), (Nat.ne_of_gt Hxb.out.lt), (Hxy.out.below hb), Hhgy.out, Hdya.out, Hdyb.out, (Nat.ne_of_gt Hxy.out.lt)⟩)
  have N1 : ∀ (W' : World), Box W' ga (.int .u64 (h : Int)) (.int .u64 (l : Int)) ∧ Box W' gb (.int .u64 (h2 : Int)) (.int .u64 (l2 : Int)) ∧ Below w.heap.size w W' → WP 5 (L0.setIfInBounds 1 true) (a0.put (some 16) (.agg #[Fv h, Fv l])) W' := by
    rintro  W' ⟨xa, xb, hbw⟩
    subst hWP hL ha
    have Hxa := Hid.mk9 xa
    have Hxb := Hid.mk9 xb
    clear xa xb
    go_simp
    refine wpJ_three (i := 3) (k := 4) (l := 5) (by kernel_rfl) rfl rfl rfl (by kernel_rfl) (by kernel_rfl) (by kernel_rfl) (fun KJ hK => ?_) (fun KJ hK => ?_) (fun KJ hK => ?_)
    · go_simp
      refine (P2 _).mono ?_
      rintro e W2 ⟨rfl, hb⟩
      refine hK _ _ ⟨(Hxa.out.below hb).c0, (Hxa.out.below hb).c1, (Hxb.out.below hb).c0, (Hxb.out.below hb).c1⟩ ?_
      exact wpJ_same (by kernel_rfl) (by kernel_rfl) (N2  W2 ⟨(Hxa.out.below hb), (Hxb.out.below hb), (Below.on hbw hb)⟩)
    · go_simp
      have hb := below1 W' (.cells #[Fv 0, Fv 0] 28)
      refine hK _ _ ⟨(Hxa.out.below hb).c0, (Hxa.out.below hb).c1, (Hxb.out.below hb).c0, (Hxb.out.below hb).c1⟩ ?_
      exact wpJ_same (by kernel_rfl) (by kernel_rfl) (N1x W'.heap.size _ ⟨(Hxa.out.below hb), (Hxb.out.below hb), (Below.on hbw hb), (Box.new W' _ _ _), hbw.size, (Nat.ne_of_gt Hxa.out.lt), (Nat.ne_of_gt Hxb.out.lt)⟩)
    · go_simp
      have hb := below1 W' (.cells #[Fv 0, Fv 0] 28)
      refine hK _ _ ⟨(Hxa.out.below hb).c0, (Hxa.out.below hb).c1, (Hxb.out.below hb).c0, (Hxb.out.below hb).c1⟩ ?_
      exact wpJ_same (by kernel_rfl) (by kernel_rfl) (N1y W'.heap.size _ ⟨(Hxa.out.below hb), (Hxb.out.below hb), (Below.on hbw hb), (Box.new W' _ _ _), hbw.size, (Nat.ne_of_gt Hxa.out.lt), (Nat.ne_of_gt Hxb.out.lt)⟩)
  have N0xy : ∀ (gx : Nat) (gy : Nat) (W' : World), Box W' ga (.int .u64 (h : Int)) (.int .u64 (l : Int)) ∧ Box W' gb (.int .u64 (h2 : Int)) (.int .u64 (l2 : Int)) ∧ Below w.heap.size w W' ∧ Box W' gx (Fv 0) (Fv 0) ∧ w.heap.size ≤ gx ∧ gx ≠ ga ∧ gx ≠ gb ∧ Box W' gy (Fv 0) (Fv 0) ∧ w.heap.size ≤ gy ∧ gy ≠ ga ∧ gy ≠ gb ∧ gx ≠ gy → WP 4 ((L0.setIfInBounds 4 true).setIfInBounds 5 true) ((a0.put (some 5) (.pointer (some ⟨gx, 0, none⟩))).put (some 6) (.pointer (some ⟨gy, 0, none⟩))) W' := by
    rintro gx gy W' ⟨xa, xb, hbw, xx, hgx, dxa, dxb, xy, hgy, dya, dyb, dd⟩
    subst hWP hL ha
    have Hxa := Hid.mk9 xa
    have Hxb := Hid.mk9 xb
    have Hxx := Hid.mk9 xx
    have Hhgx := Hid.mk9 hgx
    have Hdxa := Hid.mk9 dxa
    have Hdxb := Hid.mk9 dxb
    have Hxy := Hid.mk9 xy
    have Hhgy := Hid.mk9 hgy
    have Hdya := Hid.mk9 dya
    have Hdyb := Hid.mk9 dyb
    have Hdd := Hid.mk9 dd
    clear xa xb xx hgx dxa dxb xy hgy dya dyb dd
    go_simp
    refine wpJ_on 1 rfl fun KJ hK => ?_
    go_simp
    refine (P1 _).mono ?_
    rintro e W2 ⟨rfl, hb⟩
    refine hK _ _ ⟨(Hxa.out.below hb).c0, (Hxa.out.below hb).c1, (Hxb.out.below hb).c0, (Hxb.out.below hb).c1⟩ ?_
    exact wpJ_same (by kernel_rfl) (by kernel_rfl) (N1xy gx gy W2 ⟨(Hxa.out.below hb), (Hxb.out.below hb), (Below.on hbw hb), (Hxx.out.below hb), Hhgx.out, Hdxa.out, Hdxb.out, (Hxy.out.below hb), Hhgy.out, Hdya.out, Hdyb.out, Hdd.out⟩)
  have N0x : ∀ (gx : Nat) (W' : World), Box W' ga (.int .u64 (h : Int)) (.int .u64 (l : Int)) ∧ Box W' gb (.int .u64 (h2 : Int)) (.int .u64 (l2 : Int)) ∧ Below w.heap.size w W' ∧ Box W' gx (Fv 0) (Fv 0) ∧ w.heap.size ≤ gx ∧ gx ≠ ga ∧ gx ≠ gb → WP 5 (L0.setIfInBounds 4 true) (a0.put (some 5) (.pointer (some ⟨gx, 0, none⟩))) W' := by
    rintro gx W' ⟨xa, xb, hbw, xx, hgx, dxa, dxb⟩
    subst hWP hL ha
    have Hxa := Hid.mk9 xa
    have Hxb := Hid.mk9 xb
    have Hxx := Hid.mk9 xx
    have Hhgx := Hid.mk9 hgx
    have Hdxa := Hid.mk9 dxa
    have Hdxb := Hid.mk9 dxb
    clear xa xb xx hgx dxa dxb
    go_simp
    refine wpJ_two (i := 1) (k := 5) (by kernel_rfl) rfl rfl (by kernel_rfl) (by kernel_rfl) (fun KJ hK => ?_) (fun KJ hK => ?_)
    · go_simp
      refine (P1 _).mono ?_
      rintro e W2 ⟨rfl, hb⟩
      refine hK _ _ ⟨(Hxa.out.below hb).c0, (Hxa.out.below hb).c1, (Hxb.out.below hb).c0, (Hxb.out.below hb).c1⟩ ?_
      exact wpJ_same (by kernel_rfl) (by kernel_rfl) (N1x gx W2 ⟨(Hxa.out.below hb), (Hxb.out.below hb), (Below.on hbw hb), (Hxx.out.below hb), Hhgx.out, Hdxa.out, Hdxb.out⟩)
    · go_simp
      have hb := below1 W' (.cells #[Fv 0, Fv 0] 28)
      refine hK _ _ ⟨(Hxa.out.below hb).c0, (Hxa.out.below hb).c1, (Hxb.out.below hb).c0, (Hxb.out.below hb).c1⟩ ?_
      exact wpJ_same (by kernel_rfl) (by kernel_rfl) (N0xy gx W'.heap.size _ ⟨(Hxa.out.below hb), (Hxb.out.below hb), (Below.on hbw hb), (Hxx.out.below hb), Hhgx.out, Hdxa.out, Hdxb.out, (Box.new W' _ _ _), hbw.size, (Nat.ne_of_gt Hxa.out.lt), (Nat.ne_of_gt Hxb.out.lt), (Nat.ne_of_lt Hxx.out.lt)⟩)
  have N0y : ∀ (gy : Nat) (W' : World), Box W' ga (.int .u64 (h : Int)) (.int .u64 (l : Int)) ∧ Box W' gb (.int .u64 (h2 : Int)) (.int .u64 (l2 : Int)) ∧ Below w.heap.size w W' ∧ Box W' gy (Fv 0) (Fv 0) ∧ w.heap.size ≤ gy ∧ gy ≠ ga ∧ gy ≠ gb → WP 5 (L0.setIfInBounds 5 true) (a0.put (some 6) (.pointer (some ⟨gy, 0, none⟩))) W' := by
    rintro gy W' ⟨xa, xb, hbw, xy, hgy, dya, dyb⟩
    subst hWP hL ha
    have Hxa := Hid.mk9 xa
    have Hxb := Hid.mk9 xb
    have Hxy := Hid.mk9 xy
    have Hhgy := Hid.mk9 hgy
    have Hdya := Hid.mk9 dya
    have Hdyb := Hid.mk9 dyb
    clear xa xb xy hgy dya dyb
    go_simp
    refine wpJ_two (i := 1) (k := 4) (by kernel_rfl) rfl rfl (by kernel_rfl) (by kernel_rfl) (fun KJ hK => ?_) (fun KJ hK => ?_)
    · go_simp
      refine (P1 _).mono ?_
      rintro e W2 ⟨rfl, hb⟩
      refine hK _ _ ⟨(Hxa.out.below hb).c0, (Hxa.out.below hb).c1, (Hxb.out.below hb).c0, (Hxb.out.below hb).c1⟩ ?_
      exact wpJ_same (by kernel_rfl) (by kernel_rfl) (N1y gy W2 ⟨(Hxa.out.below hb), (Hxb.out.below hb), (Below.on hbw hb), (Hxy.out.below hb), Hhgy.out, Hdya.out, Hdyb.out⟩)
    · go_simp
      have hb := below1 W' (.cells #[Fv 0, Fv 0] 28)
      refine hK _ _ ⟨(Hxa.out.below hb).c0, (Hxa.out.below hb).c1, (Hxb.out.below hb).c0, (Hxb.out.below hb).c1⟩ ?_
      exact wpJ_same (by kernel_rfl) (by kernel_rfl) (N0xy W'.heap.size gy _ ⟨(Hxa.out.below hb), (Hxb.out.below hb), (Below.on hbw hb), (Box.new W' _ _ _), hbw.size, (Nat.ne_of_gt Hxa.out.lt), (Nat.ne_of_gt Hxb.out.lt), (Hxy.out.below hb), Hhgy.out, Hdya.out, Hdyb.out, (Nat.ne_of_gt Hxy.out.lt)⟩)
  have N0 : ∀ (W' : World), Box W' ga (.int .u64 (h : Int)) (.int .u64 (l : Int)) ∧ Box W' gb (.int .u64 (h2 : Int)) (.int .u64 (l2 : Int)) ∧ Below w.heap.size w W' → WP 6 L0 a0 W' := by
    rintro  W' ⟨xa, xb, hbw⟩
    subst hWP hL ha
    have Hxa := Hid.mk9 xa
    have Hxb := Hid.mk9 xb
    clear xa xb
    go_simp
    refine wpJ_three (i := 1) (k := 4) (l := 5) (by kernel_rfl) rfl rfl rfl (by kernel_rfl) (by kernel_rfl) (by kernel_rfl) (fun KJ hK => ?_) (fun KJ hK => ?_) (fun KJ hK => ?_)
    · go_simp
      refine (P1 _).mono ?_
      rintro e W2 ⟨rfl, hb⟩
      refine hK _ _ ⟨(Hxa.out.below hb).c0, (Hxa.out.below hb).c1, (Hxb.out.below hb).c0, (Hxb.out.below hb).c1⟩ ?_
      exact wpJ_same (by kernel_rfl) (by kernel_rfl) (N1  W2 ⟨(Hxa.out.below hb), (Hxb.out.below hb), (Below.on hbw hb)⟩)
    · go_simp
      have hb := below1 W' (.cells #[Fv 0, Fv 0] 28)
      refine hK _ _ ⟨(Hxa.out.below hb).c0, (Hxa.out.below hb).c1, (Hxb.out.below hb).c0, (Hxb.out.below hb).c1⟩ ?_
      exact wpJ_same (by kernel_rfl) (by kernel_rfl) (N0x W'.heap.size _ ⟨(Hxa.out.below hb), (Hxb.out.below hb), (Below.on hbw hb), (Box.new W' _ _ _), hbw.size, (Nat.ne_of_gt Hxa.out.lt), (Nat.ne_of_gt Hxb.out.lt)⟩)
    · go_simp
      have hb := below1 W' (.cells #[Fv 0, Fv 0] 28)
      refine hK _ _ ⟨(Hxa.out.below hb).c0, (Hxa.out.below hb).c1, (Hxb.out.below hb).c0, (Hxb.out.below hb).c1⟩ ?_
      exact wpJ_same (by kernel_rfl) (by kernel_rfl) (N0y W'.heap.size _ ⟨(Hxa.out.below hb), (Hxb.out.below hb), (Below.on hbw hb), (Box.new W' _ _ _), hbw.size, (Nat.ne_of_gt Hxa.out.lt), (Nat.ne_of_gt Hxb.out.lt)⟩)
  exact N0 V1 ⟨Xa.out, Xb.out, hbw⟩
theorem ddOrder (h l h2 l2 : Nat) (hh : h < 18446744073709551616) (hl : l < 18446744073709551616) (hh2 : h2 < 18446744073709551616) (hl2 : l2 < 18446744073709551616) (w : World) (hT : Tab w) : Calls Tryd.prog 3 #[.agg #[.int .u64 (h : Int), .int .u64 (l : Int)], .agg #[.int .u64 (h2 : Int), .int .u64 (l2 : Int)]] w fun en w' => en = .returned (.bool true) ∧ Below w.heap.size w w' := by
  cases hA : ddB h l with
  | false =>
    cases hB : ddB h2 l2 with
    | false => exact ddOrder_nn h l h2 l2 hh hl hh2 hl2 hA hB w hT
    | true => exact ddOrder_ny h l h2 l2 hh hl hh2 hl2 hA (ddB_iff.1 hB) w hT
  | true =>
    cases hB : ddB h2 l2 with
    | false => exact ddOrder_yn h l h2 l2 hh hl hh2 hl2 (ddB_iff.1 hA) hB w hT
    | true => exact ddOrder_y h l h2 l2 hh hl hh2 hl2 (ddB_iff.1 hA) (ddB_iff.1 hB) w hT
end Go.Proofs.YtibfjdepeacgjaaDoor
