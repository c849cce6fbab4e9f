import Derived.Test.YtidggnjnlhjhlaaGreatDoorJ18
namespace Go.Proofs.YtidggnjnlhjhlaaGreatDoor
open Go.RowKit Go.Shelf
set_option maxRecDepth 20000
set_option maxHeartbeats 0
theorem ux_ne20 {b : Nat} (h0 : ¬ b % 9223372036854775808 = 0) : ux b ≠ 0 := by
  have h1 := vs_mono (H := 4503599627370496) (by decide) (s := 0) (t := b % 9223372036854775808) (by omega)
  rw [vs_zero] at h1
  rw [ux_eq]
  split <;> omega
theorem hi_ne20 {h l : Nat} (d : DdF h l) (h0 : ux h ≠ 0) : ux h + ux l ≠ 0 := fun k => by
  have h1 := form_l d.rn
  omega
theorem cut20 {a b Y : Int} {A B : Nat} (hY : Y ≠ 0) (h : A * (a * Y).natAbs ≤ B * (b * Y).natAbs) : A * a.natAbs ≤ B * b.natAbs := by
  rw [Int.natAbs_mul, Int.natAbs_mul, ← Nat.mul_assoc, ← Nat.mul_assoc] at h
  exact Nat.le_of_mul_le_mul_right h (by omega)
theorem wn_one {a Y U : Int} (h : 81129638414606681695789005144064 * (a * Y - Y * U).natAbs ≤ 64 * (Y * U).natAbs) (hY : Y ≠ 0) : (a * ((2 ^ 0 : Nat) : Int) - U).natAbs * 2 ^ 100 ≤ U.natAbs := by
  rw [Int.mul_comm Y U, ← Int.sub_mul] at h
  have h1 := cut20 hY h
  rw [show ((2 ^ 0 : Nat) : Int) = 1 from rfl, Int.mul_one, show (2 : Nat) ^ 100 = 1267650600228229401496703205376 by decide]
  omega
theorem bk_1 {P D E : Nat} (hD : 81129638414606681695789005144064 * D ≤ 64 * P) (hE : 81129638414606681695789005144064 * E ≤ 16 * (P + D)) : 81129638414606681695789005144064 * (D + E) ≤ 81 * P := by omega
theorem bk_2 {P D E : Nat} (hE : 81129638414606681695789005144064 * E ≤ 16 * P) (hD : 81129638414606681695789005144064 * D ≤ 64 * (P + E)) : 81129638414606681695789005144064 * (D + E) ≤ 81 * P := by omega
theorem bk_3 {a x : Int} (h : 81129638414606681695789005144064 * (a - x).natAbs ≤ 81 * x.natAbs) : (a * ((2 ^ 0 : Nat) : Int) - x).natAbs * 2 ^ 99 ≤ x.natAbs := by
  rw [show ((2 ^ 0 : Nat) : Int) = 1 from rfl, Int.mul_one, show (2 : Nat) ^ 99 = 633825300114114700748351602688 by decide]
  omega
theorem wn_back {A Q Y M : Int} (h : 81129638414606681695789005144064 * (Q * Y - A * (UE : Int)).natAbs ≤ 64 * (A * (UE : Int)).natAbs) (k : 81129638414606681695789005144064 * (M * (UE : Int) - Q * Y).natAbs ≤ 16 * (Q * Y).natAbs) : (M * ((2 ^ 0 : Nat) : Int) - A).natAbs * 2 ^ 99 ≤ A.natAbs := by
  have h1 : (Q * Y).natAbs ≤ (A * (UE : Int)).natAbs + (Q * Y - A * (UE : Int)).natAbs := by omega
  have h2 := bk_1 h (Nat.le_trans k (Nat.mul_le_mul_left _ h1))
  have h3 : ((M - A) * (UE : Int)).natAbs ≤ (Q * Y - A * (UE : Int)).natAbs + (M * (UE : Int) - Q * Y).natAbs := by rw [Int.sub_mul]; omega
  refine bk_3 (cut20 (Y := (UE : Int)) (by have := ue_pos; omega) (Nat.le_trans (Nat.mul_le_mul_left _ h3) h2))
theorem wn_back2 {A Y P D : Int} (hY : Y ≠ 0) (h : 81129638414606681695789005144064 * (P * (UE : Int) - A * Y).natAbs ≤ 16 * (A * Y).natAbs) (k : 81129638414606681695789005144064 * (D * Y - P * (UE : Int)).natAbs ≤ 64 * (P * (UE : Int)).natAbs) : (D * ((2 ^ 0 : Nat) : Int) - A).natAbs * 2 ^ 99 ≤ A.natAbs := by
  have h1 : (P * (UE : Int)).natAbs ≤ (A * Y).natAbs + (P * (UE : Int) - A * Y).natAbs := by omega
  have h2 := bk_2 h (Nat.le_trans k (Nat.mul_le_mul_left _ h1))
  have h3 : ((D - A) * Y).natAbs ≤ (D * Y - P * (UE : Int)).natAbs + (P * (UE : Int) - A * Y).natAbs := by rw [Int.sub_mul]; omega
  exact bk_3 (cut20 hY (Nat.le_trans (Nat.mul_le_mul_left _ h3) h2))
theorem db_one : DB 1 0 12000 30000 := (show DB 1 0 1 0 from ⟨.inr ⟨by decide, by decide, by decide⟩, by decide, by decide, by decide⟩).mono (by decide) (by decide)
theorem dv_one : dv 1 0 = dv (UE : Int) (-1074 - ((0 : Nat) : Int)) := by
  have e : UE = 2 ^ ((0 : Int) - -1074).toNat := by
    unfold UE
    rw [show ((0 : Int) - -1074).toNat = OneE from rfl]
  rw [← w0, e, dv_shift (z := 1) (e := 0) (f := -1074) (by decide) (by decide), Int.one_mul]
theorem ddUndoes_w {h l h2 l2 : Nat} (hh : h < 18446744073709551616) (hl : l < 18446744073709551616) (hh2 : h2 < 18446744073709551616) (hl2 : l2 < 18446744073709551616) (w : World) (hT : Tab w) :
    Calls Tryz.prog 6 #[.agg #[.int .u64 (h : Int), .int .u64 (l : Int)], .agg #[.int .u64 (h2 : Int), .int .u64 (l2 : Int)]] w fun en w' => en = .returned (.bool true) ∧ Below w.heap.size w w' := by
  have hSF : ∀ (w : World) (a : Addr) (b : Nat), (store a (Fv b)).run Tryz.prog w = stored Tryz.prog w a (Fv b) .plain := stF
  have hbw : Below w.heap.size w w := Below.refl _ _
  have TB : Hid (Tab w) := hT
  have HL : Hid (h < 18446744073709551616 ∧ l < 18446744073709551616 ∧ h2 < 18446744073709551616 ∧ l2 < 18446744073709551616) := ⟨hh, hl, hh2, hl2⟩
  have P1 := lpair h l
  have P2 := lpair h2 l2
  clear hT hh hl hh2 hl2
  go_enter Tryz.func6, Tryz.ntmps6
  go_wp2_with fail
  obtain ⟨W0, hW0⟩ : ∃ W0, W0 = ((w.alloc (.cells #[.int .u64 (h : Int), .int .u64 (l : Int)] 28)).alloc (.cells #[.int .u64 (h2 : Int), .int .u64 (l2 : Int)] 28)) := ⟨_, rfl⟩
  have Xa : Hid (Box W0 (w.heap.size) (.int .u64 (h : Int)) (.int .u64 (l : Int))) := by rw [hW0]; exact ⟨by go_simp, by go_simp, by go_simp, by go_simp⟩
  have Xb : Hid (Box W0 (w.heap.size + 1) (.int .u64 (h2 : Int)) (.int .u64 (l2 : Int))) := by rw [hW0]; exact ⟨by go_simp, by go_simp, by go_simp, by go_simp⟩
  have hb0 : Below w.heap.size w W0 := by rw [hW0]; exact below2 w _ _
  rw [← hW0]
  clear hW0
  have hbw : Below w.heap.size w w := Below.refl _ _
  obtain ⟨gb, hgb⟩ : ∃ g, g = w.heap.size + 1 := ⟨_, rfl⟩
  have HGb : Hid (w.heap.size ≤ gb) := by rw [hgb]; show _ ≤ _; omega
  rw [← hgb] at Xb
  try rw [← hgb]
  obtain ⟨ga, hga⟩ : ∃ g, g = w.heap.size := ⟨_, rfl⟩
  have HGa : Hid (w.heap.size ≤ ga) := by rw [hga]; show _ ≤ _; omega
  rw [← hga] at Xa
  try rw [← hga]
  have HGD : Hid (ga ≠ gb ∧ gb ≠ ga) := by rw [hga, hgb]; exact ⟨by omega, by omega⟩
  clear hga hgb
  replace hbw := Below.on hbw hb0
  clear hb0
  refine (awake20 _).mono ?_
  rintro e v1 ⟨rfl, hb1⟩
  replace Xa : Hid _ := Xa.out.below hb1
  replace Xb : Hid _ := Xb.out.below hb1
  replace hbw := Below.on hbw hb1
  clear hb1
  obtain ⟨ca0, ca1, fa0, fa1⟩ := Xa.out
  have hnea := Xa.out.lt
  go_wp2_with fail
  clear ca0 ca1 fa0 fa1 hnea
  refine (fit20q h l HL.out.1 HL.out.2.1 _).mono ?_
  rintro en v2 ⟨⟨r, rfl, hr⟩, hb2⟩
  replace Xa : Hid _ := Xa.out.below hb2
  replace Xb : Hid _ := Xb.out.below hb2
  replace hbw := Below.on hbw hb2
  clear hb2
  cases r
  · clear hr
    obtain ⟨cb0, cb1, fb0, fb1⟩ := Xb.out
    have hneb := Xb.out.lt
    go_wp2_with fail
    clear cb0 cb1 fb0 fb1 hneb
    go_ret
    exact ⟨rfl, hbw⟩
  have HC2 := Hid.mk9 (hr rfl)
  clear hr
  obtain ⟨cb0, cb1, fb0, fb1⟩ := Xb.out
  have hneb := Xb.out.lt
  go_wp2_with fail
  clear cb0 cb1 fb0 fb1 hneb
  refine (fit20q h2 l2 HL.out.2.2.1 HL.out.2.2.2 _).mono ?_
  rintro en v9 ⟨⟨r, rfl, hr⟩, hb9⟩
  replace Xa : Hid _ := Xa.out.below hb9
  replace Xb : Hid _ := Xb.out.below hb9
  replace hbw := Below.on hbw hb9
  clear hb9
  cases r
  · clear hr
    obtain ⟨cb0, cb1, fb0, fb1⟩ := Xb.out
    have hneb := Xb.out.lt
    go_wp2_with fail
    clear cb0 cb1 fb0 fb1 hneb
    go_ret
    exact ⟨rfl, hbw⟩
  have HC9 := Hid.mk9 (hr rfl)
  clear hr
  obtain ⟨cb0, cb1, fb0, fb1⟩ := Xb.out
  have hneb := Xb.out.lt
  go_wp2_with fail
  clear cb0 cb1 fb0 fb1 hneb
  refine (nought20 h2 _).mono ?_
  rintro e v9' ⟨rfl, hw⟩
  obtain rfl := hw.symm
  clear hw
  by_cases h0 : h2 % 9223372036854775808 = 0
  · rw [decide_eq_true h0]
    clear h0
    go_wp2_with fail
    go_ret
    exact ⟨rfl, hbw⟩
  rw [decide_eq_false h0]
  have H0 : Hid (ux h2 ≠ 0) := ux_ne20 h0
  clear h0
  obtain ⟨ca0, ca1, fa0, fa1⟩ := Xa.out
  have hnea := Xa.out.lt
  obtain ⟨cb0, cb1, fb0, fb1⟩ := Xb.out
  have hneb := Xb.out.lt
  go_wp2_with fail
  clear ca0 ca1 fa0 fa1 hnea
  clear cb0 cb1 fb0 fb1 hneb
  obtain ⟨V1, hV1⟩ : ∃ W1, W1 = v9.drew := ⟨_, rfl⟩
  have hbd : Below v9.heap.size v9 V1 := by rw [hV1]; exact bDrew1 (Below.refl _ _)
  replace Xa : Hid _ := Xa.out.below hbd
  replace Xb : Hid _ := Xb.out.below hbd
  replace hbw := Below.on hbw hbd
  clear hbd
  have HJ : Hid ((fun W' : World => W'.cell? ⟨ga, 0, none⟩ = some (.int .u64 (h : Int)) ∧ W'.cell? ⟨ga, 1, none⟩ = some (.int .u64 (l : Int)) ∧ W'.cell? ⟨gb, 0, none⟩ = some (.int .u64 (h2 : Int)) ∧ W'.cell? ⟨gb, 1, none⟩ = some (.int .u64 (l2 : Int))) V1) := ⟨Xa.out.c0, Xa.out.c1, Xb.out.c0, Xb.out.c1⟩
  refine wp_region_J (fun W' => W'.cell? ⟨ga, 0, none⟩ = some (.int .u64 (h : Int)) ∧ W'.cell? ⟨ga, 1, none⟩ = some (.int .u64 (l : Int)) ∧ W'.cell? ⟨gb, 0, none⟩ = some (.int .u64 (h2 : Int)) ∧ W'.cell? ⟨gb, 1, none⟩ = some (.int .u64 (l2 : Int))) (by kernel_rfl) ?_
  rw [← hV1]
  clear hV1
  refine wpJ_tq 0 rfl HJ.out ?_
  refine wpJ_tq 2 rfl HJ.out ?_
  go_simp
  refine wpJ_nodes fun WP hWP L0 a0 hL ha => ?_
  have N2xy : ∀ (gx : Nat) (gy : Nat) (W' : World), Box W' ga (.int .u64 (h : Int)) (.int .u64 (l : Int)) ∧ Box W' gb (.int .u64 (h2 : Int)) (.int .u64 (l2 : Int)) ∧ Below w.heap.size w W' ∧ Box W' gx (Fv 0) (Fv 0) ∧ w.heap.size ≤ gx ∧ gx ≠ ga ∧ gx ≠ gb ∧ Box W' gy (Fv 0) (Fv 0) ∧ w.heap.size ≤ gy ∧ gy ≠ ga ∧ gy ≠ gb ∧ gx ≠ gy → WP 2 ((((L0.setIfInBounds 1 true).setIfInBounds 3 true).setIfInBounds 4 true).setIfInBounds 5 true) ((((a0.put (some 29) (.agg #[Fv h, Fv l])).put (some 31) (.agg #[Fv h2, Fv l2])).put (some 5) (.pointer (some ⟨gx, 0, none⟩))).put (some 6) (.pointer (some ⟨gy, 0, none⟩))) W' := by
    rintro gx gy W' ⟨xa, xb, hbw, xx, hgx, dxa, dxb, xy, hgy, dya, dyb, dd⟩
    subst hWP hL ha
    have Hxa := Hid.mk9 xa
    have Hxb := Hid.mk9 xb
    have Hxx := Hid.mk9 xx
    have Hhgx := Hid.mk9 hgx
    have Hdxa := Hid.mk9 dxa
    have Hdxb := Hid.mk9 dxb
    have Hxy := Hid.mk9 xy
    have Hhgy := Hid.mk9 hgy
    have Hdya := Hid.mk9 dya
    have Hdyb := Hid.mk9 dyb
    have Hdd := Hid.mk9 dd
    clear xa xb xx hgx dxa dxb xy hgy dya dyb dd
    go_simp
    have Xa := Hxa
    have Xb := Hxb
    have Xx := Hxx
    have Xy := Hxy
    clear Hxa Hxb Hxx Hxy
    have exa := Hdxa.out
    have exb := Hdxb.out
    have eya := Hdya.out
    have eyb := Hdyb.out
    have fxa := Ne.symm exa
    have fxb := Ne.symm exb
    have fya := Ne.symm eya
    have fyb := Ne.symm eyb
    have e5 := Hdd.out
    have f5 := Ne.symm e5
    have HGx : Hid (w.heap.size ≤ gx) := Hhgx.out
    have HGy : Hid (w.heap.size ≤ gy) := Hhgy.out
    obtain ⟨ca0, ca1, fa0, fa1⟩ := Xa.out
    have hnea := Xa.out.lt
    obtain ⟨cb0, cb1, fb0, fb1⟩ := Xb.out
    have hneb := Xb.out.lt
    obtain ⟨cx0, cx1, fx0, fx1⟩ := Xx.out
    have hnex := Xx.out.lt
    obtain ⟨cy0, cy1, fy0, fy1⟩ := Xy.out
    have hney := Xy.out.lt
    refine wpJ_on 6 rfl fun KJ hK => ?_
    go_simp
    refine hK _ _ ⟨by go_simp, by go_simp, by go_simp, by go_simp⟩ ?_
    clear hK
    refine wpJ_on 7 rfl fun KJ hK => ?_
    go_simp
    refine hK _ _ ⟨by go_simp, by go_simp, by go_simp, by go_simp⟩ ?_
    clear hK
    refine wpJ_done (by kernel_rfl) ?_ _
    obtain ⟨Wy, hWy⟩ : ∃ W9, W9 = ((((W'.setCell ⟨gx, 0, none⟩ (Fv h)).setCell ⟨gx, 1, none⟩ (Fv l)).setCell ⟨gy, 0, none⟩ (Fv h2)).setCell ⟨gy, 1, none⟩ (Fv l2)) := ⟨_, rfl⟩
    have Yx : Hid (Box Wy gx (Fv h) (Fv l)) := by rw [hWy]; exact ⟨by go_simp, by go_simp, by go_simp, by go_simp⟩
    have Yy : Hid (Box Wy gy (Fv h2) (Fv l2)) := by rw [hWy]; exact ⟨by go_simp, by go_simp, by go_simp, by go_simp⟩
    have hbw2 : Below w.heap.size w Wy := by rw [hWy]; exact bSet (bSet (bSet (bSet hbw _ _ _ HGx.out) _ _ _ HGx.out) _ _ _ HGy.out) _ _ _ HGy.out
    clear ca0 ca1 fa0 fa1 hnea
    clear cb0 cb1 fb0 fb1 hneb
    clear cx0 cx1 fx0 fx1 hnex
    clear cy0 cy1 fy0 fy1 hney
    rw [← hWy]
    have HXY : Hid (gx ≠ gy) := e5
    clear hWy hbw Xa Xb Xx Xy exa fxa exb fxb eya fya eyb fyb e5 f5
    have hbw := hbw2
    have Xx := Yx
    have Xy := Yy
    clear hbw2 Yx Yy
    obtain ⟨cx0, cx1, fx0, fx1⟩ := Xx.out
    have hnex := Xx.out.lt
    go_wp2_with fail
    clear cx0 cx1 fx0 fx1 hnex
    refine (ddvalue h l (HC2.out.1) _ (TB.out.below hbw)).mono ?_
    rintro en v3 ⟨s3, p3, m3, z3, e3, rfl, hd3, hv3, hb3⟩
    have HV3 := Hid.mk9 (And.intro hv3 (db_val (HC2.out.1) hd3.fm hv3))
    clear hv3
    replace Xx : Hid _ := Xx.out.below hb3
    replace Xy : Hid _ := Xy.out.below hb3
    replace hbw := Below.on hbw hb3
    clear hb3
    have D3 : Hid (DN v3 s3 p3 m3 m3 e3 z3) := hd3.dn
    clear hd3
    obtain ⟨cy0, cy1, fy0, fy1⟩ := Xy.out
    have hney := Xy.out.lt
    go_wp2_with fail
    clear cy0 cy1 fy0 fy1 hney
    have Xv0 : Hid (B3q (v3.alloc (.cells #[.bool s3, .slice p3 m3 m3, .int .i64 e3] 38)) v3.heap.size (.bool s3) (.slice p3 m3 m3) (.int .i64 e3)) := B3q.new v3 _ _ _ _
    have hbn : Below v3.heap.size v3 (v3.alloc (.cells #[.bool s3, .slice p3 m3 m3, .int .i64 e3] 38)) := below1 v3 _
    generalize v3.alloc (.cells #[.bool s3, .slice p3 m3 m3, .int .i64 e3] 38) = Wv at *
    have HGv : Hid (w.heap.size ≤ v3.heap.size) := hbw.size
    replace Xx : Hid _ := Xx.out.below hbn
    replace Xy : Hid _ := Xy.out.below hbn
    replace D3 : Hid _ := D3.out.below hbn
    replace hbw := Below.on hbw hbn
    clear hbn
    generalize v3.heap.size = gv at *
    have Xv := Xv0
    clear Xv0
    obtain ⟨cy0, cy1, fy0, fy1⟩ := Xy.out
    have hney := Xy.out.lt
    go_wp2_with fail
    clear cy0 cy1 fy0 fy1 hney
    refine (ddSub_f HC9.out.1 HC9.out.1 HC9.out.2.hi HC9.out.2.hi _).mono ?_
    rintro e v10 ⟨s10, r10, rfl, hd10, hq10, hb10⟩
    have HR10 : Hid (DdF s10 r10 ∧ ux s10 + ux r10 = 0) := ⟨hd10, by rw [Int.sub_self] at hq10; omega⟩
    clear hd10 hq10
    replace Xx : Hid _ := Xx.out.below hb10
    replace Xy : Hid _ := Xy.out.below hb10
    replace Xv : Hid _ := Xv.out.below hb10
    replace D3 : Hid _ := D3.out.below hb10
    replace hbw := Below.on hbw hb10
    clear hb10
    go_wp2_with fail
    refine (ddvalue s10 r10 (HR10.out.1) _ (TB.out.below hbw)).mono ?_
    rintro en v4 ⟨s4, p4, m4, z4, e4, rfl, hd4, hv4, hb4⟩
    have HV4 := Hid.mk9 (And.intro hv4 (db_val (HR10.out.1) hd4.fm hv4))
    clear hv4
    replace Xx : Hid _ := Xx.out.below hb4
    replace Xy : Hid _ := Xy.out.below hb4
    replace Xv : Hid _ := Xv.out.below hb4
    replace D3 : Hid _ := D3.out.below hb4
    replace hbw := Below.on hbw hb4
    clear hb4
    have D4 : Hid (DN v4 s4 p4 m4 m4 e4 z4) := hd4.dn
    clear hd4
    have HE4 : Hid (z4 = 0 ∧ e4 = 0) := by
      have q := HV4.out.1
      rw [HR10.out.2, dv_zero] at q
      exact dv_inj D4.out.fm (.inl ⟨rfl, rfl⟩) (by rw [q, dv_zero])
    go_wp2_with fail
    have Xu0 : Hid (B3q (v4.alloc (.cells #[.bool s4, .slice p4 m4 m4, .int .i64 e4] 38)) v4.heap.size (.bool s4) (.slice p4 m4 m4) (.int .i64 e4)) := B3q.new v4 _ _ _ _
    have hbn : Below v4.heap.size v4 (v4.alloc (.cells #[.bool s4, .slice p4 m4 m4, .int .i64 e4] 38)) := below1 v4 _
    generalize v4.alloc (.cells #[.bool s4, .slice p4 m4 m4, .int .i64 e4] 38) = Wu at *
    have HGu : Hid (w.heap.size ≤ v4.heap.size) := hbw.size
    replace Xx : Hid _ := Xx.out.below hbn
    replace Xy : Hid _ := Xy.out.below hbn
    replace Xv : Hid _ := Xv.out.below hbn
    replace D3 : Hid _ := D3.out.below hbn
    replace D4 : Hid _ := D4.out.below hbn
    replace hbw := Below.on hbw hbn
    clear hbn
    generalize v4.heap.size = gu at *
    have Xu := Xu0
    clear Xu0
    obtain ⟨cu0, cu1, cu2, fu0, fu1, fu2⟩ := Xu.out
    have hneu : gu < Wu.heap.size := World.block_lt_of_cell? Wu _ cu0
    obtain ⟨cy0, cy1, fy0, fy1⟩ := Xy.out
    have hney := Xy.out.lt
    go_wp2_with fail
    clear cu0 cu1 cu2 fu0 fu1 fu2 hneu
    clear cy0 cy1 fy0 fy1 hney
    have HM4 : Hid (m4 = 0) := by
      obtain ⟨xs, hX⟩ := D4.out.zn.ex
      exact hX.zero.2 (by rw [HE4.out.1]; rfl)
    refine (nought).mono ?_
    rintro e v5 ⟨rfl, hb5⟩
    rw [decide_eq_true HM4.out]
    replace Xx : Hid _ := Xx.out.below hb5
    replace Xy : Hid _ := Xy.out.below hb5
    replace Xv : Hid _ := Xv.out.below hb5
    replace Xu : Hid _ := Xu.out.below hb5
    replace D3 : Hid _ := D3.out.below hb5
    replace D4 : Hid _ := D4.out.below hb5
    replace hbw := Below.on hbw hb5
    clear hb5
    obtain ⟨cy0, cy1, fy0, fy1⟩ := Xy.out
    have hney := Xy.out.lt
    go_wp2_with fail
    clear cy0 cy1 fy0 fy1 hney
    refine (ddDiv_f HC9.out.1 HC9.out.1 HC9.out.2 HC9.out.2 H0.out _).mono ?_
    rintro e v12 ⟨s12, r12, rfl, hd12, hq12, hb12⟩
    have HR12 := Hid.mk9 (And.intro hd12 (wn_one hq12 (hi_ne20 HC9.out.1 H0.out)))
    clear hd12 hq12
    replace Xx : Hid _ := Xx.out.below hb12
    replace Xy : Hid _ := Xy.out.below hb12
    replace Xv : Hid _ := Xv.out.below hb12
    replace Xu : Hid _ := Xu.out.below hb12
    replace D3 : Hid _ := D3.out.below hb12
    replace D4 : Hid _ := D4.out.below hb12
    replace hbw := Below.on hbw hb12
    clear hb12
    obtain ⟨cy0, cy1, fy0, fy1⟩ := Xy.out
    have hney := Xy.out.lt
    go_wp2_with fail
    clear cy0 cy1 fy0 fy1 hney
    refine (dof_v (zo := 1) (eo := 0) (by decide) (.inr ⟨by decide, by decide, by decide⟩) rfl (TB.out.below hbw)).mono ?_
    rintro e v13 ⟨s13, p13, m13, rfl, hd13, hb13⟩
    replace Xx : Hid _ := Xx.out.below hb13
    replace Xy : Hid _ := Xy.out.below hb13
    replace Xv : Hid _ := Xv.out.below hb13
    replace Xu : Hid _ := Xu.out.below hb13
    replace D3 : Hid _ := D3.out.below hb13
    replace D4 : Hid _ := D4.out.below hb13
    replace hbw := Below.on hbw hb13
    clear hb13
    have D13 : Hid (DN v13 s13 p13 m13 m13 0 1) := hd13.dn
    clear hd13
    obtain ⟨cy0, cy1, fy0, fy1⟩ := Xy.out
    have hney := Xy.out.lt
    go_wp2_with fail
    clear cy0 cy1 fy0 fy1 hney
    refine (within20 (c := 0) (k := 100) HR12.out.1 D13.out db_one dv_one (by decide) (by decide) HR12.out.2 (TB.out.below hbw)).mono ?_
    rintro e v14 ⟨rfl, hb14⟩
    replace Xx : Hid _ := Xx.out.below hb14
    replace Xy : Hid _ := Xy.out.below hb14
    replace Xv : Hid _ := Xv.out.below hb14
    replace Xu : Hid _ := Xu.out.below hb14
    replace D3 : Hid _ := D3.out.below hb14
    replace D4 : Hid _ := D4.out.below hb14
    replace D13 : Hid _ := D13.out.below hb14
    replace hbw := Below.on hbw hb14
    clear hb14
    obtain ⟨cx0, cx1, fx0, fx1⟩ := Xx.out
    have hnex := Xx.out.lt
    obtain ⟨cy0, cy1, fy0, fy1⟩ := Xy.out
    have hney := Xy.out.lt
    go_wp2_with fail
    clear cx0 cx1 fx0 fx1 hnex
    clear cy0 cy1 fy0 fy1 hney
    obtain ⟨V7, hV7⟩ : ∃ W1, W1 = v14.drew := ⟨_, rfl⟩
    have hbd : Below v14.heap.size v14 V7 := by rw [hV7]; exact bDrew1 (Below.refl _ _)
    replace Xx : Hid _ := Xx.out.below hbd
    replace Xy : Hid _ := Xy.out.below hbd
    replace Xv : Hid _ := Xv.out.below hbd
    replace Xu : Hid _ := Xu.out.below hbd
    replace D3 : Hid _ := D3.out.below hbd
    replace D4 : Hid _ := D4.out.below hbd
    replace D13 : Hid _ := D13.out.below hbd
    replace hbw := Below.on hbw hbd
    clear hbd
    have HJ : Hid ((fun W' : World => W'.cell? ⟨gx, 0, none⟩ = some (Fv h) ∧ W'.cell? ⟨gx, 1, none⟩ = some (Fv l) ∧ W'.cell? ⟨gy, 0, none⟩ = some (Fv h2) ∧ W'.cell? ⟨gy, 1, none⟩ = some (Fv l2)) V7) := ⟨Xx.out.c0, Xx.out.c1, Xy.out.c0, Xy.out.c1⟩
    refine wp_region_J (fun W' => W'.cell? ⟨gx, 0, none⟩ = some (Fv h) ∧ W'.cell? ⟨gx, 1, none⟩ = some (Fv l) ∧ W'.cell? ⟨gy, 0, none⟩ = some (Fv h2) ∧ W'.cell? ⟨gy, 1, none⟩ = some (Fv l2)) (by kernel_rfl) ?_
    rw [← hV7]
    clear hV7
    refine wpJ_tq 0 rfl HJ.out ?_
    refine wpJ_tq 1 rfl HJ.out ?_
    refine wpJ_tq 3 rfl HJ.out ?_
    refine wpJ_tq 4 rfl HJ.out ?_
    have HBB : Hid (Below w.heap.size w V7) := hbw
    clear hbw
    have hbw : Below V7.heap.size V7 V7 := Below.refl _ _
    go_simp
    refine wpJ_nodes fun WP hWP L0 a0 hL ha => ?_
    have N2qp : ∀ (s20 : Nat) (r20 : Nat) (s21 : Nat) (r21 : Nat) (gq : Nat) (gp : Nat) (W' : World), (Box W' gx (Fv h) (Fv l)) ∧ (Box W' gy (Fv h2) (Fv l2)) ∧ (B3q W' gv (.bool s3) (.slice p3 m3 m3) (.int .i64 e3)) ∧ (Below V7.heap.size V7 W') ∧ (DdF s20 r20 ∧ 81129638414606681695789005144064 * ((ux s20 + ux r20) * (ux h2 + ux l2) - (ux h + ux l) * (UE : Int)).natAbs ≤ 64 * ((ux h + ux l) * (UE : Int)).natAbs) ∧ (DdF s21 r21 ∧ 81129638414606681695789005144064 * ((ux s21 + ux r21) * (UE : Int) - (ux h + ux l) * (ux h2 + ux l2)).natAbs ≤ 16 * ((ux h + ux l) * (ux h2 + ux l2)).natAbs) ∧ (Box W' gq (Fv 0) (Fv 0)) ∧ (V7.heap.size ≤ gq) ∧ (gq ≠ gx) ∧ (gq ≠ gy) ∧ (gq ≠ gv) ∧ (Box W' gp (Fv 0) (Fv 0)) ∧ (V7.heap.size ≤ gp) ∧ (gp ≠ gx) ∧ (gp ≠ gy) ∧ (gp ≠ gv) ∧ (gq ≠ gp) → WP 2 ((((L0.setIfInBounds 2 true).setIfInBounds 5 true).setIfInBounds 6 true).setIfInBounds 7 true) ((((a0.put (some 65) (.agg #[Fv s20, Fv r20])).put (some 68) (.agg #[Fv s21, Fv r21])).put (some 11) (.pointer (some ⟨gq, 0, none⟩))).put (some 12) (.pointer (some ⟨gp, 0, none⟩))) W' := by
      rintro s20 r20 s21 r21 gq gp W' ⟨xx, xy, xv, hbw, q0, q1, xq, hgq, dqx, dqy, dqv, xp, hgp, dpx, dpy, dpv, dd⟩
      subst hWP hL ha
      have Hxx := Hid.mk9 xx
      have Hxy := Hid.mk9 xy
      have Hxv := Hid.mk9 xv
      have Hq0 := Hid.mk9 q0
      have Hq1 := Hid.mk9 q1
      have Hxq := Hid.mk9 xq
      have Hhgq := Hid.mk9 hgq
      have Hdqx := Hid.mk9 dqx
      have Hdqy := Hid.mk9 dqy
      have Hdqv := Hid.mk9 dqv
      have Hxp := Hid.mk9 xp
      have Hhgp := Hid.mk9 hgp
      have Hdpx := Hid.mk9 dpx
      have Hdpy := Hid.mk9 dpy
      have Hdpv := Hid.mk9 dpv
      have Hdd := Hid.mk9 dd
      clear xx xy xv q0 q1 xq hgq dqx dqy dqv xp hgp dpx dpy dpv dd
      go_simp
      have Xx := Hxx
      have Xy := Hxy
      have Xv := Hxv
      have Xq := Hxq
      have Xp := Hxp
      clear Hxx Hxy Hxv Hxq Hxp
      have eqx := Hdqx.out
      have eqy := Hdqy.out
      have eqv := Hdqv.out
      have epx := Hdpx.out
      have epy := Hdpy.out
      have epv := Hdpv.out
      have fqx := Ne.symm eqx
      have fqy := Ne.symm eqy
      have fqv := Ne.symm eqv
      have fpx := Ne.symm epx
      have fpy := Ne.symm epy
      have fpv := Ne.symm epv
      have e5 := Hdd.out
      have f5 := Ne.symm e5
      obtain ⟨cx0, cx1, fx0, fx1⟩ := Xx.out
      have hnex := Xx.out.lt
      obtain ⟨cy0, cy1, fy0, fy1⟩ := Xy.out
      have hney := Xy.out.lt
      obtain ⟨cv0, cv1, cv2, fv0, fv1, fv2⟩ := Xv.out
      have hnev : gv < W'.heap.size := World.block_lt_of_cell? W' _ cv0
      obtain ⟨cq0, cq1, fq0, fq1⟩ := Xq.out
      have hneq := Xq.out.lt
      obtain ⟨cp0, cp1, fp0, fp1⟩ := Xp.out
      have hnep := Xp.out.lt
      refine wpJ_on 8 rfl fun KJ hK => ?_
      go_simp
      refine hK _ _ ⟨by go_simp, by go_simp, by go_simp, by go_simp⟩ ?_
      clear hK
      refine wpJ_on 9 rfl fun KJ hK => ?_
      go_simp
      refine hK _ _ ⟨by go_simp, by go_simp, by go_simp, by go_simp⟩ ?_
      clear hK
      refine wpJ_done (by kernel_rfl) ?_ _
      obtain ⟨Wy, hWy⟩ : ∃ W9, W9 = ((((W'.setCell ⟨gq, 0, none⟩ (Fv s20)).setCell ⟨gq, 1, none⟩ (Fv r20)).setCell ⟨gp, 0, none⟩ (Fv s21)).setCell ⟨gp, 1, none⟩ (Fv r21)) := ⟨_, rfl⟩
      have Yx : Hid (Box Wy gx (Fv h) (Fv l)) := by rw [hWy]; exact ⟨by go_simp, by go_simp, by go_simp, by go_simp⟩
      have Yy : Hid (Box Wy gy (Fv h2) (Fv l2)) := by rw [hWy]; exact ⟨by go_simp, by go_simp, by go_simp, by go_simp⟩
      have Yv : Hid (B3q Wy gv (.bool s3) (.slice p3 m3 m3) (.int .i64 e3)) := by rw [hWy]; exact ⟨by go_simp, by go_simp, by go_simp, by go_simp, by go_simp, by go_simp⟩
      have Yq : Hid (Box Wy gq (Fv s20) (Fv r20)) := by rw [hWy]; exact ⟨by go_simp, by go_simp, by go_simp, by go_simp⟩
      have Yp : Hid (Box Wy gp (Fv s21) (Fv r21)) := by rw [hWy]; exact ⟨by go_simp, by go_simp, by go_simp, by go_simp⟩
      have hbw2 : Below V7.heap.size V7 Wy := by rw [hWy]; exact bSet (bSet (bSet (bSet hbw _ _ _ Hhgq.out) _ _ _ Hhgq.out) _ _ _ Hhgp.out) _ _ _ Hhgp.out
      clear cx0 cx1 fx0 fx1 hnex
      clear cy0 cy1 fy0 fy1 hney
      clear cv0 cv1 cv2 fv0 fv1 fv2 hnev
      clear cq0 cq1 fq0 fq1 hneq
      clear cp0 cp1 fp0 fp1 hnep
      rw [← hWy]
      clear hWy hbw Xx Xy Xv Xq Xp eqx fqx eqy fqy eqv fqv epx fpx epy fpy epv fpv e5 f5
      have Xx := Yx
      have Xy := Yy
      have Xv := Yv
      have Xq := Yq
      have Xp := Yp
      clear Yx Yy Yv Yq Yp
      replace D3 : Hid _ := D3.out.below hbw2
      have hbw := Below.on HBB.out hbw2
      clear hbw2
      obtain ⟨cq0, cq1, fq0, fq1⟩ := Xq.out
      have hneq := Xq.out.lt
      go_wp2_with fail
      clear cq0 cq1 fq0 fq1 hneq
      obtain ⟨V8, hV8⟩ : ∃ W1, W1 = Wy.drew := ⟨_, rfl⟩
      have hbd : Below Wy.heap.size Wy V8 := by rw [hV8]; exact bDrew1 (Below.refl _ _)
      replace Xx : Hid _ := Xx.out.below hbd
      replace Xy : Hid _ := Xy.out.below hbd
      replace Xv : Hid _ := Xv.out.below hbd
      replace Xq : Hid _ := Xq.out.below hbd
      replace Xp : Hid _ := Xp.out.below hbd
      replace D3 : Hid _ := D3.out.below hbd
      replace hbw := Below.on hbw hbd
      clear hbd
      have HJ : Hid ((fun W' : World => W'.cell? ⟨gq, 0, none⟩ = some (Fv s20) ∧ W'.cell? ⟨gq, 1, none⟩ = some (Fv r20) ∧ W'.cell? ⟨gy, 0, none⟩ = some (Fv h2) ∧ W'.cell? ⟨gy, 1, none⟩ = some (Fv l2) ∧ W'.cell? ⟨gv, 0, none⟩ = some (.bool s3) ∧ W'.cell? ⟨gv, 1, none⟩ = some (.slice p3 m3 m3) ∧ W'.cell? ⟨gv, 2, none⟩ = some (.int .i64 e3)) V8) := ⟨Xq.out.c0, Xq.out.c1, Xy.out.c0, Xy.out.c1, Xv.out.c0, Xv.out.c1, Xv.out.c2⟩
      refine wp_region_J (fun W' => W'.cell? ⟨gq, 0, none⟩ = some (Fv s20) ∧ W'.cell? ⟨gq, 1, none⟩ = some (Fv r20) ∧ W'.cell? ⟨gy, 0, none⟩ = some (Fv h2) ∧ W'.cell? ⟨gy, 1, none⟩ = some (Fv l2) ∧ W'.cell? ⟨gv, 0, none⟩ = some (.bool s3) ∧ W'.cell? ⟨gv, 1, none⟩ = some (.slice p3 m3 m3) ∧ W'.cell? ⟨gv, 2, none⟩ = some (.int .i64 e3)) (by kernel_rfl) ?_
      rw [← hV8]
      clear hV8
      refine wpJ_tq 0 rfl HJ.out ?_
      refine wpJ_on 1 rfl fun KJ hK => ?_
      go_simp
      refine (lbits s20 r20 _).mono ?_
      rintro e v22 ⟨rfl, hb22⟩
      replace Xx : Hid _ := Xx.out.below hb22
      replace Xy : Hid _ := Xy.out.below hb22
      replace Xv : Hid _ := Xv.out.below hb22
      replace Xq : Hid _ := Xq.out.below hb22
      replace Xp : Hid _ := Xp.out.below hb22
      replace D3 : Hid _ := D3.out.below hb22
      replace hbw := Below.on hbw hb22
      clear hb22
      clear HJ
      have HJ : Hid ((fun W' : World => W'.cell? ⟨gq, 0, none⟩ = some (Fv s20) ∧ W'.cell? ⟨gq, 1, none⟩ = some (Fv r20) ∧ W'.cell? ⟨gy, 0, none⟩ = some (Fv h2) ∧ W'.cell? ⟨gy, 1, none⟩ = some (Fv l2) ∧ W'.cell? ⟨gv, 0, none⟩ = some (.bool s3) ∧ W'.cell? ⟨gv, 1, none⟩ = some (.slice p3 m3 m3) ∧ W'.cell? ⟨gv, 2, none⟩ = some (.int .i64 e3)) v22) := ⟨Xq.out.c0, Xq.out.c1, Xy.out.c0, Xy.out.c1, Xv.out.c0, Xv.out.c1, Xv.out.c2⟩
      refine hK _ _ HJ.out ?_
      clear hK
      refine wpJ_on 2 rfl fun KJ hK => ?_
      go_simp
      refine (fit20q s20 r20 Hq0.out.1.hi.lt Hq0.out.1.lo.lt _).mono ?_
      rintro en v23 ⟨⟨r, rfl, hr⟩, hb23⟩
      replace Xx : Hid _ := Xx.out.below hb23
      replace Xy : Hid _ := Xy.out.below hb23
      replace Xv : Hid _ := Xv.out.below hb23
      replace Xq : Hid _ := Xq.out.below hb23
      replace Xp : Hid _ := Xp.out.below hb23
      replace D3 : Hid _ := D3.out.below hb23
      replace hbw := Below.on hbw hb23
      clear hb23
      cases r
      · clear hr
        clear HJ
        have HJ : Hid ((fun W' : World => W'.cell? ⟨gq, 0, none⟩ = some (Fv s20) ∧ W'.cell? ⟨gq, 1, none⟩ = some (Fv r20) ∧ W'.cell? ⟨gy, 0, none⟩ = some (Fv h2) ∧ W'.cell? ⟨gy, 1, none⟩ = some (Fv l2) ∧ W'.cell? ⟨gv, 0, none⟩ = some (.bool s3) ∧ W'.cell? ⟨gv, 1, none⟩ = some (.slice p3 m3 m3) ∧ W'.cell? ⟨gv, 2, none⟩ = some (.int .i64 e3)) v23) := ⟨Xq.out.c0, Xq.out.c1, Xy.out.c0, Xy.out.c1, Xv.out.c0, Xv.out.c1, Xv.out.c2⟩
        refine hK _ _ HJ.out ?_
        clear hK
        refine wpJ_tq 3 rfl HJ.out ?_
        refine wpJ_sk 4 rfl HJ.out ?_
        refine wpJ_sk 5 rfl HJ.out ?_
        refine wpJ_sk 6 rfl HJ.out ?_
        refine wpJ_sk 7 rfl HJ.out ?_
        go_simp
        refine wpJ_sk 8 rfl HJ.out ?_
        refine wpJ_sk 9 rfl HJ.out ?_
        refine wpJ_tq 10 rfl HJ.out ?_
        go_simp
        refine wpJ_done (by kernel_rfl) ?_ _
        clear HJ
        obtain ⟨cp0, cp1, fp0, fp1⟩ := Xp.out
        have hnep := Xp.out.lt
        go_wp2_with fail
        clear cp0 cp1 fp0 fp1 hnep
        obtain ⟨V30, hV30⟩ : ∃ W1, W1 = v23.drew := ⟨_, rfl⟩
        have hbd : Below v23.heap.size v23 V30 := by rw [hV30]; exact bDrew1 (Below.refl _ _)
        replace Xx : Hid _ := Xx.out.below hbd
        replace Xy : Hid _ := Xy.out.below hbd
        replace Xv : Hid _ := Xv.out.below hbd
        replace Xq : Hid _ := Xq.out.below hbd
        replace Xp : Hid _ := Xp.out.below hbd
        replace D3 : Hid _ := D3.out.below hbd
        replace hbw := Below.on hbw hbd
        clear hbd
        have HJ : Hid ((fun W' : World => W'.cell? ⟨gp, 0, none⟩ = some (Fv s21) ∧ W'.cell? ⟨gp, 1, none⟩ = some (Fv r21) ∧ W'.cell? ⟨gy, 0, none⟩ = some (Fv h2) ∧ W'.cell? ⟨gy, 1, none⟩ = some (Fv l2) ∧ W'.cell? ⟨gv, 0, none⟩ = some (.bool s3) ∧ W'.cell? ⟨gv, 1, none⟩ = some (.slice p3 m3 m3) ∧ W'.cell? ⟨gv, 2, none⟩ = some (.int .i64 e3)) V30) := ⟨Xp.out.c0, Xp.out.c1, Xy.out.c0, Xy.out.c1, Xv.out.c0, Xv.out.c1, Xv.out.c2⟩
        refine wp_region_J (fun W' => W'.cell? ⟨gp, 0, none⟩ = some (Fv s21) ∧ W'.cell? ⟨gp, 1, none⟩ = some (Fv r21) ∧ W'.cell? ⟨gy, 0, none⟩ = some (Fv h2) ∧ W'.cell? ⟨gy, 1, none⟩ = some (Fv l2) ∧ W'.cell? ⟨gv, 0, none⟩ = some (.bool s3) ∧ W'.cell? ⟨gv, 1, none⟩ = some (.slice p3 m3 m3) ∧ W'.cell? ⟨gv, 2, none⟩ = some (.int .i64 e3)) (by kernel_rfl) ?_
        rw [← hV30]
        clear hV30
        refine wpJ_tq 0 rfl HJ.out ?_
        refine wpJ_on 1 rfl fun KJ hK => ?_
        go_simp
        refine (lbits s21 r21 _).mono ?_
        rintro e v31 ⟨rfl, hb31⟩
        replace Xx : Hid _ := Xx.out.below hb31
        replace Xy : Hid _ := Xy.out.below hb31
        replace Xv : Hid _ := Xv.out.below hb31
        replace Xq : Hid _ := Xq.out.below hb31
        replace Xp : Hid _ := Xp.out.below hb31
        replace D3 : Hid _ := D3.out.below hb31
        replace hbw := Below.on hbw hb31
        clear hb31
        clear HJ
        have HJ : Hid ((fun W' : World => W'.cell? ⟨gp, 0, none⟩ = some (Fv s21) ∧ W'.cell? ⟨gp, 1, none⟩ = some (Fv r21) ∧ W'.cell? ⟨gy, 0, none⟩ = some (Fv h2) ∧ W'.cell? ⟨gy, 1, none⟩ = some (Fv l2) ∧ W'.cell? ⟨gv, 0, none⟩ = some (.bool s3) ∧ W'.cell? ⟨gv, 1, none⟩ = some (.slice p3 m3 m3) ∧ W'.cell? ⟨gv, 2, none⟩ = some (.int .i64 e3)) v31) := ⟨Xp.out.c0, Xp.out.c1, Xy.out.c0, Xy.out.c1, Xv.out.c0, Xv.out.c1, Xv.out.c2⟩
        refine hK _ _ HJ.out ?_
        clear hK
        refine wpJ_on 2 rfl fun KJ hK => ?_
        go_simp
        refine (fit20q s21 r21 Hq1.out.1.hi.lt Hq1.out.1.lo.lt _).mono ?_
        rintro en v32 ⟨⟨r, rfl, hr⟩, hb32⟩
        replace Xx : Hid _ := Xx.out.below hb32
        replace Xy : Hid _ := Xy.out.below hb32
        replace Xv : Hid _ := Xv.out.below hb32
        replace Xq : Hid _ := Xq.out.below hb32
        replace Xp : Hid _ := Xp.out.below hb32
        replace D3 : Hid _ := D3.out.below hb32
        replace hbw := Below.on hbw hb32
        clear hb32
        cases r
        · clear hr
          clear HJ
          have HJ : Hid ((fun W' : World => W'.cell? ⟨gp, 0, none⟩ = some (Fv s21) ∧ W'.cell? ⟨gp, 1, none⟩ = some (Fv r21) ∧ W'.cell? ⟨gy, 0, none⟩ = some (Fv h2) ∧ W'.cell? ⟨gy, 1, none⟩ = some (Fv l2) ∧ W'.cell? ⟨gv, 0, none⟩ = some (.bool s3) ∧ W'.cell? ⟨gv, 1, none⟩ = some (.slice p3 m3 m3) ∧ W'.cell? ⟨gv, 2, none⟩ = some (.int .i64 e3)) v32) := ⟨Xp.out.c0, Xp.out.c1, Xy.out.c0, Xy.out.c1, Xv.out.c0, Xv.out.c1, Xv.out.c2⟩
          refine hK _ _ HJ.out ?_
          clear hK
          refine wpJ_tq 3 rfl HJ.out ?_
          refine wpJ_tq 4 rfl HJ.out ?_
          refine wpJ_sk 5 rfl HJ.out ?_
          refine wpJ_sk 6 rfl HJ.out ?_
          refine wpJ_sk 7 rfl HJ.out ?_
          go_simp
          refine wpJ_sk 8 rfl HJ.out ?_
          refine wpJ_sk 9 rfl HJ.out ?_
          refine wpJ_tq 10 rfl HJ.out ?_
          refine wpJ_tq 11 rfl HJ.out ?_
          go_simp
          refine wpJ_done (by kernel_rfl) ?_ _
          clear HJ
          go_wp2_with fail
          go_ret
          exact ⟨by first | rfl | simp, hbw⟩
        have HCp := Hid.mk9 (hr rfl)
        clear hr
        clear HJ
        have HJ : Hid ((fun W' : World => W'.cell? ⟨gp, 0, none⟩ = some (Fv s21) ∧ W'.cell? ⟨gp, 1, none⟩ = some (Fv r21) ∧ W'.cell? ⟨gy, 0, none⟩ = some (Fv h2) ∧ W'.cell? ⟨gy, 1, none⟩ = some (Fv l2) ∧ W'.cell? ⟨gv, 0, none⟩ = some (.bool s3) ∧ W'.cell? ⟨gv, 1, none⟩ = some (.slice p3 m3 m3) ∧ W'.cell? ⟨gv, 2, none⟩ = some (.int .i64 e3)) v32) := ⟨Xp.out.c0, Xp.out.c1, Xy.out.c0, Xy.out.c1, Xv.out.c0, Xv.out.c1, Xv.out.c2⟩
        refine hK _ _ HJ.out ?_
        clear hK
        refine wpJ_tq 3 rfl HJ.out ?_
        refine wpJ_tq 4 rfl HJ.out ?_
        refine wpJ_tq 5 rfl HJ.out ?_
        refine wpJ_tq 6 rfl HJ.out ?_
        refine wpJ_tq 8 rfl HJ.out ?_
        go_simp
        refine wpJ_on 7 rfl fun KJ hK => ?_
        go_simp
        refine (ddDiv_f HCp.out.1 HC9.out.1 HCp.out.2 HC9.out.2 H0.out _).mono ?_
        rintro e v34 ⟨sd, rd, rfl, hdd, hqd, hb34⟩
        have HRd := Hid.mk9 (And.intro hdd (wn_back2 (hi_ne20 HC9.out.1 H0.out) Hq1.out.2 hqd))
        clear hdd hqd
        replace Xx : Hid _ := Xx.out.below hb34
        replace Xy : Hid _ := Xy.out.below hb34
        replace Xv : Hid _ := Xv.out.below hb34
        replace Xq : Hid _ := Xq.out.below hb34
        replace Xp : Hid _ := Xp.out.below hb34
        replace D3 : Hid _ := D3.out.below hb34
        replace hbw := Below.on hbw hb34
        clear hb34
        refine hK _ _ ⟨Xp.out.c0, Xp.out.c1, Xy.out.c0, Xy.out.c1, Xv.out.c0, Xv.out.c1, Xv.out.c2⟩ ?_
        clear hK
        refine wpJ_on 9 rfl fun KJ hK => ?_
        go_simp
        refine (within20 (c := 0) (k := 99) HRd.out.1 D3.out (HV3.out.2.mono (by decide) (by decide)) (HV3.out.1.trans w0) (by decide) (by decide) HRd.out.2 (TB.out.below hbw)).mono ?_
        rintro e v35 ⟨rfl, hb35⟩
        replace Xx : Hid _ := Xx.out.below hb35
        replace Xy : Hid _ := Xy.out.below hb35
        replace Xv : Hid _ := Xv.out.below hb35
        replace Xq : Hid _ := Xq.out.below hb35
        replace Xp : Hid _ := Xp.out.below hb35
        replace D3 : Hid _ := D3.out.below hb35
        replace hbw := Below.on hbw hb35
        clear hb35
        clear HJ
        have HJ : Hid ((fun W' : World => W'.cell? ⟨gp, 0, none⟩ = some (Fv s21) ∧ W'.cell? ⟨gp, 1, none⟩ = some (Fv r21) ∧ W'.cell? ⟨gy, 0, none⟩ = some (Fv h2) ∧ W'.cell? ⟨gy, 1, none⟩ = some (Fv l2) ∧ W'.cell? ⟨gv, 0, none⟩ = some (.bool s3) ∧ W'.cell? ⟨gv, 1, none⟩ = some (.slice p3 m3 m3) ∧ W'.cell? ⟨gv, 2, none⟩ = some (.int .i64 e3)) v35) := ⟨Xp.out.c0, Xp.out.c1, Xy.out.c0, Xy.out.c1, Xv.out.c0, Xv.out.c1, Xv.out.c2⟩
        refine hK _ _ HJ.out ?_
        clear hK
        refine wpJ_tq 10 rfl HJ.out ?_
        refine wpJ_tq 11 rfl HJ.out ?_
        refine wpJ_done (by kernel_rfl) ?_ _
        clear HJ
        go_wp2_with fail
        go_ret
        exact ⟨by first | rfl | simp, hbw⟩
      have HC23 := Hid.mk9 (hr rfl)
      clear hr
      clear HJ
      have HJ : Hid ((fun W' : World => W'.cell? ⟨gq, 0, none⟩ = some (Fv s20) ∧ W'.cell? ⟨gq, 1, none⟩ = some (Fv r20) ∧ W'.cell? ⟨gy, 0, none⟩ = some (Fv h2) ∧ W'.cell? ⟨gy, 1, none⟩ = some (Fv l2) ∧ W'.cell? ⟨gv, 0, none⟩ = some (.bool s3) ∧ W'.cell? ⟨gv, 1, none⟩ = some (.slice p3 m3 m3) ∧ W'.cell? ⟨gv, 2, none⟩ = some (.int .i64 e3)) v23) := ⟨Xq.out.c0, Xq.out.c1, Xy.out.c0, Xy.out.c1, Xv.out.c0, Xv.out.c1, Xv.out.c2⟩
      refine hK _ _ HJ.out ?_
      clear hK
      refine wpJ_tq 3 rfl HJ.out ?_
      refine wpJ_tq 4 rfl HJ.out ?_
      refine wpJ_tq 5 rfl HJ.out ?_
      refine wpJ_tq 7 rfl HJ.out ?_
      refine wpJ_on 6 rfl fun KJ hK => ?_
      go_simp
      refine (ddMul_f HC23.out.1 HC9.out.1 HC23.out.2 HC9.out.2 _).mono ?_
      rintro e v24 ⟨s24, r24, rfl, hd24, hq24, hb24⟩
      have HR24 := Hid.mk9 (And.intro hd24 (wn_back Hq0.out.2 hq24))
      clear hd24 hq24
      replace Xx : Hid _ := Xx.out.below hb24
      replace Xy : Hid _ := Xy.out.below hb24
      replace Xv : Hid _ := Xv.out.below hb24
      replace Xq : Hid _ := Xq.out.below hb24
      replace Xp : Hid _ := Xp.out.below hb24
      replace D3 : Hid _ := D3.out.below hb24
      replace hbw := Below.on hbw hb24
      clear hb24
      refine hK _ _ ⟨Xq.out.c0, Xq.out.c1, Xy.out.c0, Xy.out.c1, Xv.out.c0, Xv.out.c1, Xv.out.c2⟩ ?_
      clear hK
      refine wpJ_on 8 rfl fun KJ hK => ?_
      go_simp
      refine (within20 (c := 0) (k := 99) HR24.out.1 D3.out (HV3.out.2.mono (by decide) (by decide)) (HV3.out.1.trans w0) (by decide) (by decide) HR24.out.2 (TB.out.below hbw)).mono ?_
      rintro e v25 ⟨rfl, hb25⟩
      replace Xx : Hid _ := Xx.out.below hb25
      replace Xy : Hid _ := Xy.out.below hb25
      replace Xv : Hid _ := Xv.out.below hb25
      replace Xq : Hid _ := Xq.out.below hb25
      replace Xp : Hid _ := Xp.out.below hb25
      replace D3 : Hid _ := D3.out.below hb25
      replace hbw := Below.on hbw hb25
      clear hb25
      clear HJ
      have HJ : Hid ((fun W' : World => W'.cell? ⟨gq, 0, none⟩ = some (Fv s20) ∧ W'.cell? ⟨gq, 1, none⟩ = some (Fv r20) ∧ W'.cell? ⟨gy, 0, none⟩ = some (Fv h2) ∧ W'.cell? ⟨gy, 1, none⟩ = some (Fv l2) ∧ W'.cell? ⟨gv, 0, none⟩ = some (.bool s3) ∧ W'.cell? ⟨gv, 1, none⟩ = some (.slice p3 m3 m3) ∧ W'.cell? ⟨gv, 2, none⟩ = some (.int .i64 e3)) v25) := ⟨Xq.out.c0, Xq.out.c1, Xy.out.c0, Xy.out.c1, Xv.out.c0, Xv.out.c1, Xv.out.c2⟩
      refine hK _ _ HJ.out ?_
      clear hK
      refine wpJ_tq 9 rfl HJ.out ?_
      refine wpJ_tq 10 rfl HJ.out ?_
      refine wpJ_done (by kernel_rfl) ?_ _
      clear HJ
      obtain ⟨cp0, cp1, fp0, fp1⟩ := Xp.out
      have hnep := Xp.out.lt
      go_wp2_with fail
      clear cp0 cp1 fp0 fp1 hnep
      obtain ⟨V40, hV40⟩ : ∃ W1, W1 = v25.drew := ⟨_, rfl⟩
      have hbd : Below v25.heap.size v25 V40 := by rw [hV40]; exact bDrew1 (Below.refl _ _)
      replace Xx : Hid _ := Xx.out.below hbd
      replace Xy : Hid _ := Xy.out.below hbd
      replace Xv : Hid _ := Xv.out.below hbd
      replace Xq : Hid _ := Xq.out.below hbd
      replace Xp : Hid _ := Xp.out.below hbd
      replace D3 : Hid _ := D3.out.below hbd
      replace hbw := Below.on hbw hbd
      clear hbd
      have HJ : Hid ((fun W' : World => W'.cell? ⟨gp, 0, none⟩ = some (Fv s21) ∧ W'.cell? ⟨gp, 1, none⟩ = some (Fv r21) ∧ W'.cell? ⟨gy, 0, none⟩ = some (Fv h2) ∧ W'.cell? ⟨gy, 1, none⟩ = some (Fv l2) ∧ W'.cell? ⟨gv, 0, none⟩ = some (.bool s3) ∧ W'.cell? ⟨gv, 1, none⟩ = some (.slice p3 m3 m3) ∧ W'.cell? ⟨gv, 2, none⟩ = some (.int .i64 e3)) V40) := ⟨Xp.out.c0, Xp.out.c1, Xy.out.c0, Xy.out.c1, Xv.out.c0, Xv.out.c1, Xv.out.c2⟩
      refine wp_region_J (fun W' => W'.cell? ⟨gp, 0, none⟩ = some (Fv s21) ∧ W'.cell? ⟨gp, 1, none⟩ = some (Fv r21) ∧ W'.cell? ⟨gy, 0, none⟩ = some (Fv h2) ∧ W'.cell? ⟨gy, 1, none⟩ = some (Fv l2) ∧ W'.cell? ⟨gv, 0, none⟩ = some (.bool s3) ∧ W'.cell? ⟨gv, 1, none⟩ = some (.slice p3 m3 m3) ∧ W'.cell? ⟨gv, 2, none⟩ = some (.int .i64 e3)) (by kernel_rfl) ?_
      rw [← hV40]
      clear hV40
      refine wpJ_tq 0 rfl HJ.out ?_
      refine wpJ_on 1 rfl fun KJ hK => ?_
      go_simp
      refine (lbits s21 r21 _).mono ?_
      rintro e v41 ⟨rfl, hb41⟩
      replace Xx : Hid _ := Xx.out.below hb41
      replace Xy : Hid _ := Xy.out.below hb41
      replace Xv : Hid _ := Xv.out.below hb41
      replace Xq : Hid _ := Xq.out.below hb41
      replace Xp : Hid _ := Xp.out.below hb41
      replace D3 : Hid _ := D3.out.below hb41
      replace hbw := Below.on hbw hb41
      clear hb41
      clear HJ
      have HJ : Hid ((fun W' : World => W'.cell? ⟨gp, 0, none⟩ = some (Fv s21) ∧ W'.cell? ⟨gp, 1, none⟩ = some (Fv r21) ∧ W'.cell? ⟨gy, 0, none⟩ = some (Fv h2) ∧ W'.cell? ⟨gy, 1, none⟩ = some (Fv l2) ∧ W'.cell? ⟨gv, 0, none⟩ = some (.bool s3) ∧ W'.cell? ⟨gv, 1, none⟩ = some (.slice p3 m3 m3) ∧ W'.cell? ⟨gv, 2, none⟩ = some (.int .i64 e3)) v41) := ⟨Xp.out.c0, Xp.out.c1, Xy.out.c0, Xy.out.c1, Xv.out.c0, Xv.out.c1, Xv.out.c2⟩
      refine hK _ _ HJ.out ?_
      clear hK
      refine wpJ_on 2 rfl fun KJ hK => ?_
      go_simp
      refine (fit20q s21 r21 Hq1.out.1.hi.lt Hq1.out.1.lo.lt _).mono ?_
      rintro en v42 ⟨⟨r, rfl, hr⟩, hb42⟩
      replace Xx : Hid _ := Xx.out.below hb42
      replace Xy : Hid _ := Xy.out.below hb42
      replace Xv : Hid _ := Xv.out.below hb42
      replace Xq : Hid _ := Xq.out.below hb42
      replace Xp : Hid _ := Xp.out.below hb42
      replace D3 : Hid _ := D3.out.below hb42
      replace hbw := Below.on hbw hb42
      clear hb42
      cases r
      · clear hr
        clear HJ
        have HJ : Hid ((fun W' : World => W'.cell? ⟨gp, 0, none⟩ = some (Fv s21) ∧ W'.cell? ⟨gp, 1, none⟩ = some (Fv r21) ∧ W'.cell? ⟨gy, 0, none⟩ = some (Fv h2) ∧ W'.cell? ⟨gy, 1, none⟩ = some (Fv l2) ∧ W'.cell? ⟨gv, 0, none⟩ = some (.bool s3) ∧ W'.cell? ⟨gv, 1, none⟩ = some (.slice p3 m3 m3) ∧ W'.cell? ⟨gv, 2, none⟩ = some (.int .i64 e3)) v42) := ⟨Xp.out.c0, Xp.out.c1, Xy.out.c0, Xy.out.c1, Xv.out.c0, Xv.out.c1, Xv.out.c2⟩
        refine hK _ _ HJ.out ?_
        clear hK
        refine wpJ_tq 3 rfl HJ.out ?_
        refine wpJ_tq 4 rfl HJ.out ?_
        refine wpJ_sk 5 rfl HJ.out ?_
        refine wpJ_sk 6 rfl HJ.out ?_
        refine wpJ_sk 7 rfl HJ.out ?_
        go_simp
        refine wpJ_sk 8 rfl HJ.out ?_
        refine wpJ_sk 9 rfl HJ.out ?_
        refine wpJ_tq 10 rfl HJ.out ?_
        refine wpJ_tq 11 rfl HJ.out ?_
        go_simp
        refine wpJ_done (by kernel_rfl) ?_ _
        clear HJ
        go_wp2_with fail
        go_ret
        exact ⟨by first | rfl | simp, hbw⟩
      have HCp := Hid.mk9 (hr rfl)
      clear hr
      clear HJ
      have HJ : Hid ((fun W' : World => W'.cell? ⟨gp, 0, none⟩ = some (Fv s21) ∧ W'.cell? ⟨gp, 1, none⟩ = some (Fv r21) ∧ W'.cell? ⟨gy, 0, none⟩ = some (Fv h2) ∧ W'.cell? ⟨gy, 1, none⟩ = some (Fv l2) ∧ W'.cell? ⟨gv, 0, none⟩ = some (.bool s3) ∧ W'.cell? ⟨gv, 1, none⟩ = some (.slice p3 m3 m3) ∧ W'.cell? ⟨gv, 2, none⟩ = some (.int .i64 e3)) v42) := ⟨Xp.out.c0, Xp.out.c1, Xy.out.c0, Xy.out.c1, Xv.out.c0, Xv.out.c1, Xv.out.c2⟩
      refine hK _ _ HJ.out ?_
      clear hK
      refine wpJ_tq 3 rfl HJ.out ?_
      refine wpJ_tq 4 rfl HJ.out ?_
      refine wpJ_tq 5 rfl HJ.out ?_
      refine wpJ_tq 6 rfl HJ.out ?_
      refine wpJ_tq 8 rfl HJ.out ?_
      go_simp
      refine wpJ_on 7 rfl fun KJ hK => ?_
      go_simp
      refine (ddDiv_f HCp.out.1 HC9.out.1 HCp.out.2 HC9.out.2 H0.out _).mono ?_
      rintro e v44 ⟨sd, rd, rfl, hdd, hqd, hb44⟩
      have HRd := Hid.mk9 (And.intro hdd (wn_back2 (hi_ne20 HC9.out.1 H0.out) Hq1.out.2 hqd))
      clear hdd hqd
      replace Xx : Hid _ := Xx.out.below hb44
      replace Xy : Hid _ := Xy.out.below hb44
      replace Xv : Hid _ := Xv.out.below hb44
      replace Xq : Hid _ := Xq.out.below hb44
      replace Xp : Hid _ := Xp.out.below hb44
      replace D3 : Hid _ := D3.out.below hb44
      replace hbw := Below.on hbw hb44
      clear hb44
      refine hK _ _ ⟨Xp.out.c0, Xp.out.c1, Xy.out.c0, Xy.out.c1, Xv.out.c0, Xv.out.c1, Xv.out.c2⟩ ?_
      clear hK
      refine wpJ_on 9 rfl fun KJ hK => ?_
      go_simp
      refine (within20 (c := 0) (k := 99) HRd.out.1 D3.out (HV3.out.2.mono (by decide) (by decide)) (HV3.out.1.trans w0) (by decide) (by decide) HRd.out.2 (TB.out.below hbw)).mono ?_
      rintro e v45 ⟨rfl, hb45⟩
      replace Xx : Hid _ := Xx.out.below hb45
      replace Xy : Hid _ := Xy.out.below hb45
      replace Xv : Hid _ := Xv.out.below hb45
      replace Xq : Hid _ := Xq.out.below hb45
      replace Xp : Hid _ := Xp.out.below hb45
      replace D3 : Hid _ := D3.out.below hb45
      replace hbw := Below.on hbw hb45
      clear hb45
      clear HJ
      have HJ : Hid ((fun W' : World => W'.cell? ⟨gp, 0, none⟩ = some (Fv s21) ∧ W'.cell? ⟨gp, 1, none⟩ = some (Fv r21) ∧ W'.cell? ⟨gy, 0, none⟩ = some (Fv h2) ∧ W'.cell? ⟨gy, 1, none⟩ = some (Fv l2) ∧ W'.cell? ⟨gv, 0, none⟩ = some (.bool s3) ∧ W'.cell? ⟨gv, 1, none⟩ = some (.slice p3 m3 m3) ∧ W'.cell? ⟨gv, 2, none⟩ = some (.int .i64 e3)) v45) := ⟨Xp.out.c0, Xp.out.c1, Xy.out.c0, Xy.out.c1, Xv.out.c0, Xv.out.c1, Xv.out.c2⟩
      refine hK _ _ HJ.out ?_
      clear hK
      refine wpJ_tq 10 rfl HJ.out ?_
      refine wpJ_tq 11 rfl HJ.out ?_
      refine wpJ_done (by kernel_rfl) ?_ _
      clear HJ
      go_wp2_with fail
      go_ret
      exact ⟨by first | rfl | simp, hbw⟩
    have N2q : ∀ (s20 : Nat) (r20 : Nat) (s21 : Nat) (r21 : Nat) (gq : Nat) (W' : World), (Box W' gx (Fv h) (Fv l)) ∧ (Box W' gy (Fv h2) (Fv l2)) ∧ (B3q W' gv (.bool s3) (.slice p3 m3 m3) (.int .i64 e3)) ∧ (Below V7.heap.size V7 W') ∧ (DdF s20 r20 ∧ 81129638414606681695789005144064 * ((ux s20 + ux r20) * (ux h2 + ux l2) - (ux h + ux l) * (UE : Int)).natAbs ≤ 64 * ((ux h + ux l) * (UE : Int)).natAbs) ∧ (DdF s21 r21 ∧ 81129638414606681695789005144064 * ((ux s21 + ux r21) * (UE : Int) - (ux h + ux l) * (ux h2 + ux l2)).natAbs ≤ 16 * ((ux h + ux l) * (ux h2 + ux l2)).natAbs) ∧ (Box W' gq (Fv 0) (Fv 0)) ∧ (V7.heap.size ≤ gq) ∧ (gq ≠ gx) ∧ (gq ≠ gy) ∧ (gq ≠ gv) → WP 3 (((L0.setIfInBounds 2 true).setIfInBounds 5 true).setIfInBounds 6 true) (((a0.put (some 65) (.agg #[Fv s20, Fv r20])).put (some 68) (.agg #[Fv s21, Fv r21])).put (some 11) (.pointer (some ⟨gq, 0, none⟩))) W' := by
      rintro s20 r20 s21 r21 gq W' ⟨xx, xy, xv, hbw, q0, q1, xq, hgq, dqx, dqy, dqv⟩
      subst hWP hL ha
      have Hxx := Hid.mk9 xx
      have Hxy := Hid.mk9 xy
      have Hxv := Hid.mk9 xv
      have Hq0 := Hid.mk9 q0
      have Hq1 := Hid.mk9 q1
      have Hxq := Hid.mk9 xq
      have Hhgq := Hid.mk9 hgq
      have Hdqx := Hid.mk9 dqx
      have Hdqy := Hid.mk9 dqy
      have Hdqv := Hid.mk9 dqv
      clear xx xy xv q0 q1 xq hgq dqx dqy dqv
      go_simp
      refine wpJ_on 7 rfl fun KJ hK => ?_
      go_simp
      have hb := below1 W' (.cells #[Fv 0, Fv 0] 32)
      refine hK _ _ ⟨(Hxx.out.below hb).c0, (Hxx.out.below hb).c1, (Hxy.out.below hb).c0, (Hxy.out.below hb).c1⟩ ?_
      exact wpJ_same (by kernel_rfl) (by kernel_rfl) (N2qp s20 r20 s21 r21 gq W'.heap.size _ ⟨(Hxx.out.below hb), (Hxy.out.below hb), (Hxv.out.below hb), (Below.on hbw hb), Hq0.out, Hq1.out, (Hxq.out.below hb), Hhgq.out, Hdqx.out, Hdqy.out, Hdqv.out, (Box.new W' _ _ _), hbw.size, (Nat.ne_of_gt Hxx.out.lt), (Nat.ne_of_gt Hxy.out.lt), (Nat.ne_of_gt Hxv.out.lt), (Nat.ne_of_lt Hxq.out.lt)⟩)
    have N2p : ∀ (s20 : Nat) (r20 : Nat) (s21 : Nat) (r21 : Nat) (gp : Nat) (W' : World), (Box W' gx (Fv h) (Fv l)) ∧ (Box W' gy (Fv h2) (Fv l2)) ∧ (B3q W' gv (.bool s3) (.slice p3 m3 m3) (.int .i64 e3)) ∧ (Below V7.heap.size V7 W') ∧ (DdF s20 r20 ∧ 81129638414606681695789005144064 * ((ux s20 + ux r20) * (ux h2 + ux l2) - (ux h + ux l) * (UE : Int)).natAbs ≤ 64 * ((ux h + ux l) * (UE : Int)).natAbs) ∧ (DdF s21 r21 ∧ 81129638414606681695789005144064 * ((ux s21 + ux r21) * (UE : Int) - (ux h + ux l) * (ux h2 + ux l2)).natAbs ≤ 16 * ((ux h + ux l) * (ux h2 + ux l2)).natAbs) ∧ (Box W' gp (Fv 0) (Fv 0)) ∧ (V7.heap.size ≤ gp) ∧ (gp ≠ gx) ∧ (gp ≠ gy) ∧ (gp ≠ gv) → WP 3 (((L0.setIfInBounds 2 true).setIfInBounds 5 true).setIfInBounds 7 true) (((a0.put (some 65) (.agg #[Fv s20, Fv r20])).put (some 68) (.agg #[Fv s21, Fv r21])).put (some 12) (.pointer (some ⟨gp, 0, none⟩))) W' := by
      rintro s20 r20 s21 r21 gp W' ⟨xx, xy, xv, hbw, q0, q1, xp, hgp, dpx, dpy, dpv⟩
      subst hWP hL ha
      have Hxx := Hid.mk9 xx
      have Hxy := Hid.mk9 xy
      have Hxv := Hid.mk9 xv
      have Hq0 := Hid.mk9 q0
      have Hq1 := Hid.mk9 q1
      have Hxp := Hid.mk9 xp
      have Hhgp := Hid.mk9 hgp
      have Hdpx := Hid.mk9 dpx
      have Hdpy := Hid.mk9 dpy
      have Hdpv := Hid.mk9 dpv
      clear xx xy xv q0 q1 xp hgp dpx dpy dpv
      go_simp
      refine wpJ_on 6 rfl fun KJ hK => ?_
      go_simp
      have hb := below1 W' (.cells #[Fv 0, Fv 0] 32)
      refine hK _ _ ⟨(Hxx.out.below hb).c0, (Hxx.out.below hb).c1, (Hxy.out.below hb).c0, (Hxy.out.below hb).c1⟩ ?_
      exact wpJ_same (by kernel_rfl) (by kernel_rfl) (N2qp s20 r20 s21 r21 W'.heap.size gp _ ⟨(Hxx.out.below hb), (Hxy.out.below hb), (Hxv.out.below hb), (Below.on hbw hb), Hq0.out, Hq1.out, (Box.new W' _ _ _), hbw.size, (Nat.ne_of_gt Hxx.out.lt), (Nat.ne_of_gt Hxy.out.lt), (Nat.ne_of_gt Hxv.out.lt), (Hxp.out.below hb), Hhgp.out, Hdpx.out, Hdpy.out, Hdpv.out, (Nat.ne_of_gt Hxp.out.lt)⟩)
    have N2 : ∀ (s20 : Nat) (r20 : Nat) (s21 : Nat) (r21 : Nat) (W' : World), (Box W' gx (Fv h) (Fv l)) ∧ (Box W' gy (Fv h2) (Fv l2)) ∧ (B3q W' gv (.bool s3) (.slice p3 m3 m3) (.int .i64 e3)) ∧ (Below V7.heap.size V7 W') ∧ (DdF s20 r20 ∧ 81129638414606681695789005144064 * ((ux s20 + ux r20) * (ux h2 + ux l2) - (ux h + ux l) * (UE : Int)).natAbs ≤ 64 * ((ux h + ux l) * (UE : Int)).natAbs) ∧ (DdF s21 r21 ∧ 81129638414606681695789005144064 * ((ux s21 + ux r21) * (UE : Int) - (ux h + ux l) * (ux h2 + ux l2)).natAbs ≤ 16 * ((ux h + ux l) * (ux h2 + ux l2)).natAbs) → WP 4 ((L0.setIfInBounds 2 true).setIfInBounds 5 true) ((a0.put (some 65) (.agg #[Fv s20, Fv r20])).put (some 68) (.agg #[Fv s21, Fv r21])) W' := by
      rintro s20 r20 s21 r21 W' ⟨xx, xy, xv, hbw, q0, q1⟩
      subst hWP hL ha
      have Hxx := Hid.mk9 xx
      have Hxy := Hid.mk9 xy
      have Hxv := Hid.mk9 xv
      have Hq0 := Hid.mk9 q0
      have Hq1 := Hid.mk9 q1
      clear xx xy xv q0 q1
      go_simp
      refine wpJ_two (i := 6) (k := 7) (by kernel_rfl) rfl rfl (by kernel_rfl) (by kernel_rfl) (fun KJ hK => ?_) (fun KJ hK => ?_)
      · go_simp
        have hb := below1 W' (.cells #[Fv 0, Fv 0] 32)
        refine hK _ _ ⟨(Hxx.out.below hb).c0, (Hxx.out.below hb).c1, (Hxy.out.below hb).c0, (Hxy.out.below hb).c1⟩ ?_
        exact wpJ_same (by kernel_rfl) (by kernel_rfl) (N2q s20 r20 s21 r21 W'.heap.size _ ⟨(Hxx.out.below hb), (Hxy.out.below hb), (Hxv.out.below hb), (Below.on hbw hb), Hq0.out, Hq1.out, (Box.new W' _ _ _), hbw.size, (Nat.ne_of_gt Hxx.out.lt), (Nat.ne_of_gt Hxy.out.lt), (Nat.ne_of_gt Hxv.out.lt)⟩)
      · go_simp
        have hb := below1 W' (.cells #[Fv 0, Fv 0] 32)
        refine hK _ _ ⟨(Hxx.out.below hb).c0, (Hxx.out.below hb).c1, (Hxy.out.below hb).c0, (Hxy.out.below hb).c1⟩ ?_
        exact wpJ_same (by kernel_rfl) (by kernel_rfl) (N2p s20 r20 s21 r21 W'.heap.size _ ⟨(Hxx.out.below hb), (Hxy.out.below hb), (Hxv.out.below hb), (Below.on hbw hb), Hq0.out, Hq1.out, (Box.new W' _ _ _), hbw.size, (Nat.ne_of_gt Hxx.out.lt), (Nat.ne_of_gt Hxy.out.lt), (Nat.ne_of_gt Hxv.out.lt)⟩)
    have N1qp : ∀ (s20 : Nat) (r20 : Nat) (gq : Nat) (gp : Nat) (W' : World), (Box W' gx (Fv h) (Fv l)) ∧ (Box W' gy (Fv h2) (Fv l2)) ∧ (B3q W' gv (.bool s3) (.slice p3 m3 m3) (.int .i64 e3)) ∧ (Below V7.heap.size V7 W') ∧ (DdF s20 r20 ∧ 81129638414606681695789005144064 * ((ux s20 + ux r20) * (ux h2 + ux l2) - (ux h + ux l) * (UE : Int)).natAbs ≤ 64 * ((ux h + ux l) * (UE : Int)).natAbs) ∧ (Box W' gq (Fv 0) (Fv 0)) ∧ (V7.heap.size ≤ gq) ∧ (gq ≠ gx) ∧ (gq ≠ gy) ∧ (gq ≠ gv) ∧ (Box W' gp (Fv 0) (Fv 0)) ∧ (V7.heap.size ≤ gp) ∧ (gp ≠ gx) ∧ (gp ≠ gy) ∧ (gp ≠ gv) ∧ (gq ≠ gp) → WP 3 (((L0.setIfInBounds 2 true).setIfInBounds 6 true).setIfInBounds 7 true) (((a0.put (some 65) (.agg #[Fv s20, Fv r20])).put (some 11) (.pointer (some ⟨gq, 0, none⟩))).put (some 12) (.pointer (some ⟨gp, 0, none⟩))) W' := by
      rintro s20 r20 gq gp W' ⟨xx, xy, xv, hbw, q0, xq, hgq, dqx, dqy, dqv, xp, hgp, dpx, dpy, dpv, dd⟩
      subst hWP hL ha
      have Hxx := Hid.mk9 xx
      have Hxy := Hid.mk9 xy
      have Hxv := Hid.mk9 xv
      have Hq0 := Hid.mk9 q0
      have Hxq := Hid.mk9 xq
      have Hhgq := Hid.mk9 hgq
      have Hdqx := Hid.mk9 dqx
      have Hdqy := Hid.mk9 dqy
      have Hdqv := Hid.mk9 dqv
      have Hxp := Hid.mk9 xp
      have Hhgp := Hid.mk9 hgp
      have Hdpx := Hid.mk9 dpx
      have Hdpy := Hid.mk9 dpy
      have Hdpv := Hid.mk9 dpv
      have Hdd := Hid.mk9 dd
      clear xx xy xv q0 xq hgq dqx dqy dqv xp hgp dpx dpy dpv dd
      go_simp
      refine wpJ_on 5 rfl fun KJ hK => ?_
      go_simp
      refine (ddMul_f HC2.out.1 HC9.out.1 HC2.out.2 HC9.out.2 _).mono ?_
      rintro e W2 ⟨s21, r21, rfl, hd, hq, hb⟩
      refine hK _ _ ⟨(Hxx.out.below hb).c0, (Hxx.out.below hb).c1, (Hxy.out.below hb).c0, (Hxy.out.below hb).c1⟩ ?_
      exact wpJ_same (by kernel_rfl) (by kernel_rfl) (N2qp s20 r20 s21 r21 gq gp W2 ⟨(Hxx.out.below hb), (Hxy.out.below hb), (Hxv.out.below hb), (Below.on hbw hb), Hq0.out, ⟨hd, hq⟩, (Hxq.out.below hb), Hhgq.out, Hdqx.out, Hdqy.out, Hdqv.out, (Hxp.out.below hb), Hhgp.out, Hdpx.out, Hdpy.out, Hdpv.out, Hdd.out⟩)
    have N1q : ∀ (s20 : Nat) (r20 : Nat) (gq : Nat) (W' : World), (Box W' gx (Fv h) (Fv l)) ∧ (Box W' gy (Fv h2) (Fv l2)) ∧ (B3q W' gv (.bool s3) (.slice p3 m3 m3) (.int .i64 e3)) ∧ (Below V7.heap.size V7 W') ∧ (DdF s20 r20 ∧ 81129638414606681695789005144064 * ((ux s20 + ux r20) * (ux h2 + ux l2) - (ux h + ux l) * (UE : Int)).natAbs ≤ 64 * ((ux h + ux l) * (UE : Int)).natAbs) ∧ (Box W' gq (Fv 0) (Fv 0)) ∧ (V7.heap.size ≤ gq) ∧ (gq ≠ gx) ∧ (gq ≠ gy) ∧ (gq ≠ gv) → WP 4 ((L0.setIfInBounds 2 true).setIfInBounds 6 true) ((a0.put (some 65) (.agg #[Fv s20, Fv r20])).put (some 11) (.pointer (some ⟨gq, 0, none⟩))) W' := by
      rintro s20 r20 gq W' ⟨xx, xy, xv, hbw, q0, xq, hgq, dqx, dqy, dqv⟩
      subst hWP hL ha
      have Hxx := Hid.mk9 xx
      have Hxy := Hid.mk9 xy
      have Hxv := Hid.mk9 xv
      have Hq0 := Hid.mk9 q0
      have Hxq := Hid.mk9 xq
      have Hhgq := Hid.mk9 hgq
      have Hdqx := Hid.mk9 dqx
      have Hdqy := Hid.mk9 dqy
      have Hdqv := Hid.mk9 dqv
      clear xx xy xv q0 xq hgq dqx dqy dqv
      go_simp
      refine wpJ_two (i := 5) (k := 7) (by kernel_rfl) rfl rfl (by kernel_rfl) (by kernel_rfl) (fun KJ hK => ?_) (fun KJ hK => ?_)
      · go_simp
        refine (ddMul_f HC2.out.1 HC9.out.1 HC2.out.2 HC9.out.2 _).mono ?_
        rintro e W2 ⟨s21, r21, rfl, hd, hq, hb⟩
        refine hK _ _ ⟨(Hxx.out.below hb).c0, (Hxx.out.below hb).c1, (Hxy.out.below hb).c0, (Hxy.out.below hb).c1⟩ ?_
        exact wpJ_same (by kernel_rfl) (by kernel_rfl) (N2q s20 r20 s21 r21 gq W2 ⟨(Hxx.out.below hb), (Hxy.out.below hb), (Hxv.out.below hb), (Below.on hbw hb), Hq0.out, ⟨hd, hq⟩, (Hxq.out.below hb), Hhgq.out, Hdqx.out, Hdqy.out, Hdqv.out⟩)
      · go_simp
        have hb := below1 W' (.cells #[Fv 0, Fv 0] 32)
        refine hK _ _ ⟨(Hxx.out.below hb).c0, (Hxx.out.below hb).c1, (Hxy.out.below hb).c0, (Hxy.out.below hb).c1⟩ ?_
        exact wpJ_same (by kernel_rfl) (by kernel_rfl) (N1qp s20 r20 gq W'.heap.size _ ⟨(Hxx.out.below hb), (Hxy.out.below hb), (Hxv.out.below hb), (Below.on hbw hb), Hq0.out, (Hxq.out.below hb), Hhgq.out, Hdqx.out, Hdqy.out, Hdqv.out, (Box.new W' _ _ _), hbw.size, (Nat.ne_of_gt Hxx.out.lt), (Nat.ne_of_gt Hxy.out.lt), (Nat.ne_of_gt Hxv.out.lt), (Nat.ne_of_lt Hxq.out.lt)⟩)
    have N1p : ∀ (s20 : Nat) (r20 : Nat) (gp : Nat) (W' : World), (Box W' gx (Fv h) (Fv l)) ∧ (Box W' gy (Fv h2) (Fv l2)) ∧ (B3q W' gv (.bool s3) (.slice p3 m3 m3) (.int .i64 e3)) ∧ (Below V7.heap.size V7 W') ∧ (DdF s20 r20 ∧ 81129638414606681695789005144064 * ((ux s20 + ux r20) * (ux h2 + ux l2) - (ux h + ux l) * (UE : Int)).natAbs ≤ 64 * ((ux h + ux l) * (UE : Int)).natAbs) ∧ (Box W' gp (Fv 0) (Fv 0)) ∧ (V7.heap.size ≤ gp) ∧ (gp ≠ gx) ∧ (gp ≠ gy) ∧ (gp ≠ gv) → WP 4 ((L0.setIfInBounds 2 true).setIfInBounds 7 true) ((a0.put (some 65) (.agg #[Fv s20, Fv r20])).put (some 12) (.pointer (some ⟨gp, 0, none⟩))) W' := by
      rintro s20 r20 gp W' ⟨xx, xy, xv, hbw, q0, xp, hgp, dpx, dpy, dpv⟩
      subst hWP hL ha
      have Hxx := Hid.mk9 xx
      have Hxy := Hid.mk9 xy
      have Hxv := Hid.mk9 xv
      have Hq0 := Hid.mk9 q0
      have Hxp := Hid.mk9 xp
      have Hhgp := Hid.mk9 hgp
      have Hdpx := Hid.mk9 dpx
      have Hdpy := Hid.mk9 dpy
      have Hdpv := Hid.mk9 dpv
      clear xx xy xv q0 xp hgp dpx dpy dpv
      go_simp
      refine wpJ_two (i := 5) (k := 6) (by kernel_rfl) rfl rfl (by kernel_rfl) (by kernel_rfl) (fun KJ hK => ?_) (fun KJ hK => ?_)
      · go_simp
        refine (ddMul_f HC2.out.1 HC9.out.1 HC2.out.2 HC9.out.2 _).mono ?_
        rintro e W2 ⟨s21, r21, rfl, hd, hq, hb⟩
        refine hK _ _ ⟨(Hxx.out.below hb).c0, (Hxx.out.below hb).c1, (Hxy.out.below hb).c0, (Hxy.out.below hb).c1⟩ ?_
        exact wpJ_same (by kernel_rfl) (by kernel_rfl) (N2p s20 r20 s21 r21 gp W2 ⟨(Hxx.out.below hb), (Hxy.out.below hb), (Hxv.out.below hb), (Below.on hbw hb), Hq0.out, ⟨hd, hq⟩, (Hxp.out.below hb), Hhgp.out, Hdpx.out, Hdpy.out, Hdpv.out⟩)
      · go_simp
        have hb := below1 W' (.cells #[Fv 0, Fv 0] 32)
        refine hK _ _ ⟨(Hxx.out.below hb).c0, (Hxx.out.below hb).c1, (Hxy.out.below hb).c0, (Hxy.out.below hb).c1⟩ ?_
        exact wpJ_same (by kernel_rfl) (by kernel_rfl) (N1qp s20 r20 W'.heap.size gp _ ⟨(Hxx.out.below hb), (Hxy.out.below hb), (Hxv.out.below hb), (Below.on hbw hb), Hq0.out, (Box.new W' _ _ _), hbw.size, (Nat.ne_of_gt Hxx.out.lt), (Nat.ne_of_gt Hxy.out.lt), (Nat.ne_of_gt Hxv.out.lt), (Hxp.out.below hb), Hhgp.out, Hdpx.out, Hdpy.out, Hdpv.out, (Nat.ne_of_gt Hxp.out.lt)⟩)
    have N1 : ∀ (s20 : Nat) (r20 : Nat) (W' : World), (Box W' gx (Fv h) (Fv l)) ∧ (Box W' gy (Fv h2) (Fv l2)) ∧ (B3q W' gv (.bool s3) (.slice p3 m3 m3) (.int .i64 e3)) ∧ (Below V7.heap.size V7 W') ∧ (DdF s20 r20 ∧ 81129638414606681695789005144064 * ((ux s20 + ux r20) * (ux h2 + ux l2) - (ux h + ux l) * (UE : Int)).natAbs ≤ 64 * ((ux h + ux l) * (UE : Int)).natAbs) → WP 5 (L0.setIfInBounds 2 true) (a0.put (some 65) (.agg #[Fv s20, Fv r20])) W' := by
      rintro s20 r20 W' ⟨xx, xy, xv, hbw, q0⟩
      subst hWP hL ha
      have Hxx := Hid.mk9 xx
      have Hxy := Hid.mk9 xy
      have Hxv := Hid.mk9 xv
      have Hq0 := Hid.mk9 q0
      clear xx xy xv q0
      go_simp
      refine wpJ_three (i := 5) (k := 6) (l := 7) (by kernel_rfl) rfl rfl rfl (by kernel_rfl) (by kernel_rfl) (by kernel_rfl) (fun KJ hK => ?_) (fun KJ hK => ?_) (fun KJ hK => ?_)
      · go_simp
        refine (ddMul_f HC2.out.1 HC9.out.1 HC2.out.2 HC9.out.2 _).mono ?_
        rintro e W2 ⟨s21, r21, rfl, hd, hq, hb⟩
        refine hK _ _ ⟨(Hxx.out.below hb).c0, (Hxx.out.below hb).c1, (Hxy.out.below hb).c0, (Hxy.out.below hb).c1⟩ ?_
        exact wpJ_same (by kernel_rfl) (by kernel_rfl) (N2 s20 r20 s21 r21 W2 ⟨(Hxx.out.below hb), (Hxy.out.below hb), (Hxv.out.below hb), (Below.on hbw hb), Hq0.out, ⟨hd, hq⟩⟩)
      · go_simp
        have hb := below1 W' (.cells #[Fv 0, Fv 0] 32)
        refine hK _ _ ⟨(Hxx.out.below hb).c0, (Hxx.out.below hb).c1, (Hxy.out.below hb).c0, (Hxy.out.below hb).c1⟩ ?_
        exact wpJ_same (by kernel_rfl) (by kernel_rfl) (N1q s20 r20 W'.heap.size _ ⟨(Hxx.out.below hb), (Hxy.out.below hb), (Hxv.out.below hb), (Below.on hbw hb), Hq0.out, (Box.new W' _ _ _), hbw.size, (Nat.ne_of_gt Hxx.out.lt), (Nat.ne_of_gt Hxy.out.lt), (Nat.ne_of_gt Hxv.out.lt)⟩)
      · go_simp
        have hb := below1 W' (.cells #[Fv 0, Fv 0] 32)
        refine hK _ _ ⟨(Hxx.out.below hb).c0, (Hxx.out.below hb).c1, (Hxy.out.below hb).c0, (Hxy.out.below hb).c1⟩ ?_
        exact wpJ_same (by kernel_rfl) (by kernel_rfl) (N1p s20 r20 W'.heap.size _ ⟨(Hxx.out.below hb), (Hxy.out.below hb), (Hxv.out.below hb), (Below.on hbw hb), Hq0.out, (Box.new W' _ _ _), hbw.size, (Nat.ne_of_gt Hxx.out.lt), (Nat.ne_of_gt Hxy.out.lt), (Nat.ne_of_gt Hxv.out.lt)⟩)
    have N0qp : ∀ (gq : Nat) (gp : Nat) (W' : World), (Box W' gx (Fv h) (Fv l)) ∧ (Box W' gy (Fv h2) (Fv l2)) ∧ (B3q W' gv (.bool s3) (.slice p3 m3 m3) (.int .i64 e3)) ∧ (Below V7.heap.size V7 W') ∧ (Box W' gq (Fv 0) (Fv 0)) ∧ (V7.heap.size ≤ gq) ∧ (gq ≠ gx) ∧ (gq ≠ gy) ∧ (gq ≠ gv) ∧ (Box W' gp (Fv 0) (Fv 0)) ∧ (V7.heap.size ≤ gp) ∧ (gp ≠ gx) ∧ (gp ≠ gy) ∧ (gp ≠ gv) ∧ (gq ≠ gp) → WP 4 ((L0.setIfInBounds 6 true).setIfInBounds 7 true) ((a0.put (some 11) (.pointer (some ⟨gq, 0, none⟩))).put (some 12) (.pointer (some ⟨gp, 0, none⟩))) W' := by
      rintro gq gp W' ⟨xx, xy, xv, hbw, xq, hgq, dqx, dqy, dqv, xp, hgp, dpx, dpy, dpv, dd⟩
      subst hWP hL ha
      have Hxx := Hid.mk9 xx
      have Hxy := Hid.mk9 xy
      have Hxv := Hid.mk9 xv
      have Hxq := Hid.mk9 xq
      have Hhgq := Hid.mk9 hgq
      have Hdqx := Hid.mk9 dqx
      have Hdqy := Hid.mk9 dqy
      have Hdqv := Hid.mk9 dqv
      have Hxp := Hid.mk9 xp
      have Hhgp := Hid.mk9 hgp
      have Hdpx := Hid.mk9 dpx
      have Hdpy := Hid.mk9 dpy
      have Hdpv := Hid.mk9 dpv
      have Hdd := Hid.mk9 dd
      clear xx xy xv xq hgq dqx dqy dqv xp hgp dpx dpy dpv dd
      go_simp
      refine wpJ_on 2 rfl fun KJ hK => ?_
      go_simp
      refine (ddDiv_f HC2.out.1 HC9.out.1 HC2.out.2 HC9.out.2 H0.out _).mono ?_
      rintro e W2 ⟨s20, r20, rfl, hd, hq, hb⟩
      refine hK _ _ ⟨(Hxx.out.below hb).c0, (Hxx.out.below hb).c1, (Hxy.out.below hb).c0, (Hxy.out.below hb).c1⟩ ?_
      exact wpJ_same (by kernel_rfl) (by kernel_rfl) (N1qp s20 r20 gq gp W2 ⟨(Hxx.out.below hb), (Hxy.out.below hb), (Hxv.out.below hb), (Below.on hbw hb), ⟨hd, hq⟩, (Hxq.out.below hb), Hhgq.out, Hdqx.out, Hdqy.out, Hdqv.out, (Hxp.out.below hb), Hhgp.out, Hdpx.out, Hdpy.out, Hdpv.out, Hdd.out⟩)
    have N0q : ∀ (gq : Nat) (W' : World), (Box W' gx (Fv h) (Fv l)) ∧ (Box W' gy (Fv h2) (Fv l2)) ∧ (B3q W' gv (.bool s3) (.slice p3 m3 m3) (.int .i64 e3)) ∧ (Below V7.heap.size V7 W') ∧ (Box W' gq (Fv 0) (Fv 0)) ∧ (V7.heap.size ≤ gq) ∧ (gq ≠ gx) ∧ (gq ≠ gy) ∧ (gq ≠ gv) → WP 5 (L0.setIfInBounds 6 true) (a0.put (some 11) (.pointer (some ⟨gq, 0, none⟩))) W' := by
      rintro gq W' ⟨xx, xy, xv, hbw, xq, hgq, dqx, dqy, dqv⟩
      subst hWP hL ha
      have Hxx := Hid.mk9 xx
      have Hxy := Hid.mk9 xy
      have Hxv := Hid.mk9 xv
      have Hxq := Hid.mk9 xq
      have Hhgq := Hid.mk9 hgq
      have Hdqx := Hid.mk9 dqx
      have Hdqy := Hid.mk9 dqy
      have Hdqv := Hid.mk9 dqv
      clear xx xy xv xq hgq dqx dqy dqv
      go_simp
      refine wpJ_two (i := 2) (k := 7) (by kernel_rfl) rfl rfl (by kernel_rfl) (by kernel_rfl) (fun KJ hK => ?_) (fun KJ hK => ?_)
      · go_simp
        refine (ddDiv_f HC2.out.1 HC9.out.1 HC2.out.2 HC9.out.2 H0.out _).mono ?_
        rintro e W2 ⟨s20, r20, rfl, hd, hq, hb⟩
        refine hK _ _ ⟨(Hxx.out.below hb).c0, (Hxx.out.below hb).c1, (Hxy.out.below hb).c0, (Hxy.out.below hb).c1⟩ ?_
        exact wpJ_same (by kernel_rfl) (by kernel_rfl) (N1q s20 r20 gq W2 ⟨(Hxx.out.below hb), (Hxy.out.below hb), (Hxv.out.below hb), (Below.on hbw hb), ⟨hd, hq⟩, (Hxq.out.below hb), Hhgq.out, Hdqx.out, Hdqy.out, Hdqv.out⟩)
      · go_simp
        have hb := below1 W' (.cells #[Fv 0, Fv 0] 32)
        refine hK _ _ ⟨(Hxx.out.below hb).c0, (Hxx.out.below hb).c1, (Hxy.out.below hb).c0, (Hxy.out.below hb).c1⟩ ?_
        exact wpJ_same (by kernel_rfl) (by kernel_rfl) (N0qp gq W'.heap.size _ ⟨(Hxx.out.below hb), (Hxy.out.below hb), (Hxv.out.below hb), (Below.on hbw hb), (Hxq.out.below hb), Hhgq.out, Hdqx.out, Hdqy.out, Hdqv.out, (Box.new W' _ _ _), hbw.size, (Nat.ne_of_gt Hxx.out.lt), (Nat.ne_of_gt Hxy.out.lt), (Nat.ne_of_gt Hxv.out.lt), (Nat.ne_of_lt Hxq.out.lt)⟩)
    have N0p : ∀ (gp : Nat) (W' : World), (Box W' gx (Fv h) (Fv l)) ∧ (Box W' gy (Fv h2) (Fv l2)) ∧ (B3q W' gv (.bool s3) (.slice p3 m3 m3) (.int .i64 e3)) ∧ (Below V7.heap.size V7 W') ∧ (Box W' gp (Fv 0) (Fv 0)) ∧ (V7.heap.size ≤ gp) ∧ (gp ≠ gx) ∧ (gp ≠ gy) ∧ (gp ≠ gv) → WP 5 (L0.setIfInBounds 7 true) (a0.put (some 12) (.pointer (some ⟨gp, 0, none⟩))) W' := by
      rintro gp W' ⟨xx, xy, xv, hbw, xp, hgp, dpx, dpy, dpv⟩
      subst hWP hL ha
      have Hxx := Hid.mk9 xx
      have Hxy := Hid.mk9 xy
      have Hxv := Hid.mk9 xv
      have Hxp := Hid.mk9 xp
      have Hhgp := Hid.mk9 hgp
      have Hdpx := Hid.mk9 dpx
      have Hdpy := Hid.mk9 dpy
      have Hdpv := Hid.mk9 dpv
      clear xx xy xv xp hgp dpx dpy dpv
      go_simp
      refine wpJ_two (i := 2) (k := 6) (by kernel_rfl) rfl rfl (by kernel_rfl) (by kernel_rfl) (fun KJ hK => ?_) (fun KJ hK => ?_)
      · go_simp
        refine (ddDiv_f HC2.out.1 HC9.out.1 HC2.out.2 HC9.out.2 H0.out _).mono ?_
        rintro e W2 ⟨s20, r20, rfl, hd, hq, hb⟩
        refine hK _ _ ⟨(Hxx.out.below hb).c0, (Hxx.out.below hb).c1, (Hxy.out.below hb).c0, (Hxy.out.below hb).c1⟩ ?_
        exact wpJ_same (by kernel_rfl) (by kernel_rfl) (N1p s20 r20 gp W2 ⟨(Hxx.out.below hb), (Hxy.out.below hb), (Hxv.out.below hb), (Below.on hbw hb), ⟨hd, hq⟩, (Hxp.out.below hb), Hhgp.out, Hdpx.out, Hdpy.out, Hdpv.out⟩)
      · go_simp
        have hb := below1 W' (.cells #[Fv 0, Fv 0] 32)
        refine hK _ _ ⟨(Hxx.out.below hb).c0, (Hxx.out.below hb).c1, (Hxy.out.below hb).c0, (Hxy.out.below hb).c1⟩ ?_
        exact wpJ_same (by kernel_rfl) (by kernel_rfl) (N0qp W'.heap.size gp _ ⟨(Hxx.out.below hb), (Hxy.out.below hb), (Hxv.out.below hb), (Below.on hbw hb), (Box.new W' _ _ _), hbw.size, (Nat.ne_of_gt Hxx.out.lt), (Nat.ne_of_gt Hxy.out.lt), (Nat.ne_of_gt Hxv.out.lt), (Hxp.out.below hb), Hhgp.out, Hdpx.out, Hdpy.out, Hdpv.out, (Nat.ne_of_gt Hxp.out.lt)⟩)
    have N0 : ∀ (W' : World), (Box W' gx (Fv h) (Fv l)) ∧ (Box W' gy (Fv h2) (Fv l2)) ∧ (B3q W' gv (.bool s3) (.slice p3 m3 m3) (.int .i64 e3)) ∧ (Below V7.heap.size V7 W') → WP 6 L0 a0 W' := by
      rintro  W' ⟨xx, xy, xv, hbw⟩
      subst hWP hL ha
      have Hxx := Hid.mk9 xx
      have Hxy := Hid.mk9 xy
      have Hxv := Hid.mk9 xv
      clear xx xy xv
      go_simp
      refine wpJ_three (i := 2) (k := 6) (l := 7) (by kernel_rfl) rfl rfl rfl (by kernel_rfl) (by kernel_rfl) (by kernel_rfl) (fun KJ hK => ?_) (fun KJ hK => ?_) (fun KJ hK => ?_)
      · go_simp
        refine (ddDiv_f HC2.out.1 HC9.out.1 HC2.out.2 HC9.out.2 H0.out _).mono ?_
        rintro e W2 ⟨s20, r20, rfl, hd, hq, hb⟩
        refine hK _ _ ⟨(Hxx.out.below hb).c0, (Hxx.out.below hb).c1, (Hxy.out.below hb).c0, (Hxy.out.below hb).c1⟩ ?_
        exact wpJ_same (by kernel_rfl) (by kernel_rfl) (N1 s20 r20 W2 ⟨(Hxx.out.below hb), (Hxy.out.below hb), (Hxv.out.below hb), (Below.on hbw hb), ⟨hd, hq⟩⟩)
      · go_simp
        have hb := below1 W' (.cells #[Fv 0, Fv 0] 32)
        refine hK _ _ ⟨(Hxx.out.below hb).c0, (Hxx.out.below hb).c1, (Hxy.out.below hb).c0, (Hxy.out.below hb).c1⟩ ?_
        exact wpJ_same (by kernel_rfl) (by kernel_rfl) (N0q W'.heap.size _ ⟨(Hxx.out.below hb), (Hxy.out.below hb), (Hxv.out.below hb), (Below.on hbw hb), (Box.new W' _ _ _), hbw.size, (Nat.ne_of_gt Hxx.out.lt), (Nat.ne_of_gt Hxy.out.lt), (Nat.ne_of_gt Hxv.out.lt)⟩)
      · go_simp
        have hb := below1 W' (.cells #[Fv 0, Fv 0] 32)
        refine hK _ _ ⟨(Hxx.out.below hb).c0, (Hxx.out.below hb).c1, (Hxy.out.below hb).c0, (Hxy.out.below hb).c1⟩ ?_
        exact wpJ_same (by kernel_rfl) (by kernel_rfl) (N0p W'.heap.size _ ⟨(Hxx.out.below hb), (Hxy.out.below hb), (Hxv.out.below hb), (Below.on hbw hb), (Box.new W' _ _ _), hbw.size, (Nat.ne_of_gt Hxx.out.lt), (Nat.ne_of_gt Hxy.out.lt), (Nat.ne_of_gt Hxv.out.lt)⟩)
    exact N0 V7 ⟨Xx.out, Xy.out, Xv.out, hbw⟩
  have N2x : ∀ (gx : Nat) (W' : World), Box W' ga (.int .u64 (h : Int)) (.int .u64 (l : Int)) ∧ Box W' gb (.int .u64 (h2 : Int)) (.int .u64 (l2 : Int)) ∧ Below w.heap.size w W' ∧ Box W' gx (Fv 0) (Fv 0) ∧ w.heap.size ≤ gx ∧ gx ≠ ga ∧ gx ≠ gb → WP 3 (((L0.setIfInBounds 1 true).setIfInBounds 3 true).setIfInBounds 4 true) (((a0.put (some 29) (.agg #[Fv h, Fv l])).put (some 31) (.agg #[Fv h2, Fv l2])).put (some 5) (.pointer (some ⟨gx, 0, none⟩))) W' := by
    rintro gx W' ⟨xa, xb, hbw, xx, hgx, dxa, dxb⟩
    subst hWP hL ha
    have Hxa := Hid.mk9 xa
    have Hxb := Hid.mk9 xb
    have Hxx := Hid.mk9 xx
    have Hhgx := Hid.mk9 hgx
    have Hdxa := Hid.mk9 dxa
    have Hdxb := Hid.mk9 dxb
    clear xa xb xx hgx dxa dxb
    go_simp
    refine wpJ_on 5 rfl fun KJ hK => ?_
    go_simp
    have hb := below1 W' (.cells #[Fv 0, Fv 0] 32)
    refine hK _ _ ⟨(Hxa.out.below hb).c0, (Hxa.out.below hb).c1, (Hxb.out.below hb).c0, (Hxb.out.below hb).c1⟩ ?_
    exact wpJ_same (by kernel_rfl) (by kernel_rfl) (N2xy gx W'.heap.size _ ⟨(Hxa.out.below hb), (Hxb.out.below hb), (Below.on hbw hb), (Hxx.out.below hb), Hhgx.out, Hdxa.out, Hdxb.out, (Box.new W' _ _ _), hbw.size, (Nat.ne_of_gt Hxa.out.lt), (Nat.ne_of_gt Hxb.out.lt), (Nat.ne_of_lt Hxx.out.lt)⟩)
  have N2y : ∀ (gy : Nat) (W' : World), Box W' ga (.int .u64 (h : Int)) (.int .u64 (l : Int)) ∧ Box W' gb (.int .u64 (h2 : Int)) (.int .u64 (l2 : Int)) ∧ Below w.heap.size w W' ∧ Box W' gy (Fv 0) (Fv 0) ∧ w.heap.size ≤ gy ∧ gy ≠ ga ∧ gy ≠ gb → WP 3 (((L0.setIfInBounds 1 true).setIfInBounds 3 true).setIfInBounds 5 true) (((a0.put (some 29) (.agg #[Fv h, Fv l])).put (some 31) (.agg #[Fv h2, Fv l2])).put (some 6) (.pointer (some ⟨gy, 0, none⟩))) W' := by
    rintro gy W' ⟨xa, xb, hbw, xy, hgy, dya, dyb⟩
    subst hWP hL ha
    have Hxa := Hid.mk9 xa
    have Hxb := Hid.mk9 xb
    have Hxy := Hid.mk9 xy
    have Hhgy := Hid.mk9 hgy
    have Hdya := Hid.mk9 dya
    have Hdyb := Hid.mk9 dyb
    clear xa xb xy hgy dya dyb
    go_simp
    refine wpJ_on 4 rfl fun KJ hK => ?_
    go_simp
    have hb := below1 W' (.cells #[Fv 0, Fv 0] 32)
    refine hK _ _ ⟨(Hxa.out.below hb).c0, (Hxa.out.below hb).c1, (Hxb.out.below hb).c0, (Hxb.out.below hb).c1⟩ ?_
    exact wpJ_same (by kernel_rfl) (by kernel_rfl) (N2xy W'.heap.size gy _ ⟨(Hxa.out.below hb), (Hxb.out.below hb), (Below.on hbw hb), (Box.new W' _ _ _), hbw.size, (Nat.ne_of_gt Hxa.out.lt), (Nat.ne_of_gt Hxb.out.lt), (Hxy.out.below hb), Hhgy.out, Hdya.out, Hdyb.out, (Nat.ne_of_gt Hxy.out.lt)⟩)
  have N2 : ∀ (W' : World), Box W' ga (.int .u64 (h : Int)) (.int .u64 (l : Int)) ∧ Box W' gb (.int .u64 (h2 : Int)) (.int .u64 (l2 : Int)) ∧ Below w.heap.size w W' → WP 4 ((L0.setIfInBounds 1 true).setIfInBounds 3 true) ((a0.put (some 29) (.agg #[Fv h, Fv l])).put (some 31) (.agg #[Fv h2, Fv l2])) W' := by
    rintro  W' ⟨xa, xb, hbw⟩
    subst hWP hL ha
    have Hxa := Hid.mk9 xa
    have Hxb := Hid.mk9 xb
    clear xa xb
    go_simp
    refine wpJ_two (i := 4) (k := 5) (by kernel_rfl) rfl rfl (by kernel_rfl) (by kernel_rfl) (fun KJ hK => ?_) (fun KJ hK => ?_)
    · go_simp
      have hb := below1 W' (.cells #[Fv 0, Fv 0] 32)
      refine hK _ _ ⟨(Hxa.out.below hb).c0, (Hxa.out.below hb).c1, (Hxb.out.below hb).c0, (Hxb.out.below hb).c1⟩ ?_
      exact wpJ_same (by kernel_rfl) (by kernel_rfl) (N2x W'.heap.size _ ⟨(Hxa.out.below hb), (Hxb.out.below hb), (Below.on hbw hb), (Box.new W' _ _ _), hbw.size, (Nat.ne_of_gt Hxa.out.lt), (Nat.ne_of_gt Hxb.out.lt)⟩)
    · go_simp
      have hb := below1 W' (.cells #[Fv 0, Fv 0] 32)
      refine hK _ _ ⟨(Hxa.out.below hb).c0, (Hxa.out.below hb).c1, (Hxb.out.below hb).c0, (Hxb.out.below hb).c1⟩ ?_
      exact wpJ_same (by kernel_rfl) (by kernel_rfl) (N2y W'.heap.size _ ⟨(Hxa.out.below hb), (Hxb.out.below hb), (Below.on hbw hb), (Box.new W' _ _ _), hbw.size, (Nat.ne_of_gt Hxa.out.lt), (Nat.ne_of_gt Hxb.out.lt)⟩)
  have N1xy : ∀ (gx : Nat) (gy : Nat) (W' : World), Box W' ga (.int .u64 (h : Int)) (.int .u64 (l : Int)) ∧ Box W' gb (.int .u64 (h2 : Int)) (.int .u64 (l2 : Int)) ∧ Below w.heap.size w W' ∧ Box W' gx (Fv 0) (Fv 0) ∧ w.heap.size ≤ gx ∧ gx ≠ ga ∧ gx ≠ gb ∧ Box W' gy (Fv 0) (Fv 0) ∧ w.heap.size ≤ gy ∧ gy ≠ ga ∧ gy ≠ gb ∧ gx ≠ gy → WP 3 (((L0.setIfInBounds 1 true).setIfInBounds 4 true).setIfInBounds 5 true) (((a0.put (some 29) (.agg #[Fv h, Fv l])).put (some 5) (.pointer (some ⟨gx, 0, none⟩))).put (some 6) (.pointer (some ⟨gy, 0, none⟩))) W' := by
    rintro gx gy W' ⟨xa, xb, hbw, xx, hgx, dxa, dxb, xy, hgy, dya, dyb, dd⟩
    subst hWP hL ha
    have Hxa := Hid.mk9 xa
    have Hxb := Hid.mk9 xb
    have Hxx := Hid.mk9 xx
    have Hhgx := Hid.mk9 hgx
    have Hdxa := Hid.mk9 dxa
    have Hdxb := Hid.mk9 dxb
    have Hxy := Hid.mk9 xy
    have Hhgy := Hid.mk9 hgy
    have Hdya := Hid.mk9 dya
    have Hdyb := Hid.mk9 dyb
    have Hdd := Hid.mk9 dd
    clear xa xb xx hgx dxa dxb xy hgy dya dyb dd
    go_simp
    refine wpJ_on 3 rfl fun KJ hK => ?_
    go_simp
    refine (P2 _).mono ?_
    rintro e W2 ⟨rfl, hb⟩
    refine hK _ _ ⟨(Hxa.out.below hb).c0, (Hxa.out.below hb).c1, (Hxb.out.below hb).c0, (Hxb.out.below hb).c1⟩ ?_
    exact wpJ_same (by kernel_rfl) (by kernel_rfl) (N2xy gx gy W2 ⟨(Hxa.out.below hb), (Hxb.out.below hb), (Below.on hbw hb), (Hxx.out.below hb), Hhgx.out, Hdxa.out, Hdxb.out, (Hxy.out.below hb), Hhgy.out, Hdya.out, Hdyb.out, Hdd.out⟩)
  have N1x : ∀ (gx : Nat) (W' : World), Box W' ga (.int .u64 (h : Int)) (.int .u64 (l : Int)) ∧ Box W' gb (.int .u64 (h2 : Int)) (.int .u64 (l2 : Int)) ∧ Below w.heap.size w W' ∧ Box W' gx (Fv 0) (Fv 0) ∧ w.heap.size ≤ gx ∧ gx ≠ ga ∧ gx ≠ gb → WP 4 ((L0.setIfInBounds 1 true).setIfInBounds 4 true) ((a0.put (some 29) (.agg #[Fv h, Fv l])).put (some 5) (.pointer (some ⟨gx, 0, none⟩))) W' := by
    rintro gx W' ⟨xa, xb, hbw, xx, hgx, dxa, dxb⟩
    subst hWP hL ha
    have Hxa := Hid.mk9 xa
    have Hxb := Hid.mk9 xb
    have Hxx := Hid.mk9 xx
    have Hhgx := Hid.mk9 hgx
    have Hdxa := Hid.mk9 dxa
    have Hdxb := Hid.mk9 dxb
    clear xa xb xx hgx dxa dxb
    go_simp
    refine wpJ_two (i := 3) (k := 5) (by kernel_rfl) rfl rfl (by kernel_rfl) (by kernel_rfl) (fun KJ hK => ?_) (fun KJ hK => ?_)
    · go_simp
      refine (P2 _).mono ?_
      rintro e W2 ⟨rfl, hb⟩
      refine hK _ _ ⟨(Hxa.out.below hb).c0, (Hxa.out.below hb).c1, (Hxb.out.below hb).c0, (Hxb.out.below hb).c1⟩ ?_
      exact wpJ_same (by kernel_rfl) (by kernel_rfl) (N2x gx W2 ⟨(Hxa.out.below hb), (Hxb.out.below hb), (Below.on hbw hb), (Hxx.out.below hb), Hhgx.out, Hdxa.out, Hdxb.out⟩)
    · go_simp
      have hb := below1 W' (.cells #[Fv 0, Fv 0] 32)
      refine hK _ _ ⟨(Hxa.out.below hb).c0, (Hxa.out.below hb).c1, (Hxb.out.below hb).c0, (Hxb.out.below hb).c1⟩ ?_
      exact wpJ_same (by kernel_rfl) (by kernel_rfl) (N1xy gx W'.heap.size _ ⟨(Hxa.out.below hb), (Hxb.out.below hb), (Below.on hbw hb), (Hxx.out.below hb), Hhgx.out, Hdxa.out, Hdxb.out, (Box.new W' _ _ _), hbw.size, (Nat.ne_of_gt Hxa.out.lt), (Nat.ne_of_gt Hxb.out.lt), (Nat.ne_of_lt Hxx.out.lt)⟩)
  have N1y : ∀ (gy : Nat) (W' : World), Box W' ga (.int .u64 (h : Int)) (.int .u64 (l : Int)) ∧ Box W' gb (.int .u64 (h2 : Int)) (.int .u64 (l2 : Int)) ∧ Below w.heap.size w W' ∧ Box W' gy (Fv 0) (Fv 0) ∧ w.heap.size ≤ gy ∧ gy ≠ ga ∧ gy ≠ gb → WP 4 ((L0.setIfInBounds 1 true).setIfInBounds 5 true) ((a0.put (some 29) (.agg #[Fv h, Fv l])).put (some 6) (.pointer (some ⟨gy, 0, none⟩))) W' := by
    rintro gy W' ⟨xa, xb, hbw, xy, hgy, dya, dyb⟩
    subst hWP hL ha
    have Hxa := Hid.mk9 xa
    have Hxb := Hid.mk9 xb
    have Hxy := Hid.mk9 xy
    have Hhgy := Hid.mk9 hgy
    have Hdya := Hid.mk9 dya
    have Hdyb := Hid.mk9 dyb
    clear xa xb xy hgy dya dyb
    go_simp
    refine wpJ_two (i := 3) (k := 4) (by kernel_rfl) rfl rfl (by kernel_rfl) (by kernel_rfl) (fun KJ hK => ?_) (fun KJ hK => ?_)
    · go_simp
      refine (P2 _).mono ?_
      rintro e W2 ⟨rfl, hb⟩
      refine hK _ _ ⟨(Hxa.out.below hb).c0, (Hxa.out.below hb).c1, (Hxb.out.below hb).c0, (Hxb.out.below hb).c1⟩ ?_
      exact wpJ_same (by kernel_rfl) (by kernel_rfl) (N2y gy W2 ⟨(Hxa.out.below hb), (Hxb.out.below hb), (Below.on hbw hb), (Hxy.out.below hb), Hhgy.out, Hdya.out, Hdyb.out⟩)
    · go_simp
      have hb := below1 W' (.cells #[Fv 0, Fv 0] 32)
      refine hK _ _ ⟨(Hxa.out.below hb).c0, (Hxa.out.below hb).c1, (Hxb.out.below hb).c0, (Hxb.out.below hb).c1⟩ ?_
      exact wpJ_same (by kernel_rfl) (by kernel_rfl) (N1xy W'.heap.size gy _ ⟨(Hxa.out.below hb), (Hxb.out.below hb), (Below.on hbw hb), (Box.new W' _ _ _), hbw.size, (Nat.ne_of_gt Hxa.out.lt), (Nat.ne_of_gt Hxb.out.lt), (Hxy.out.below hb), Hhgy.out, Hdya.out, Hdyb.out, (Nat.ne_of_gt Hxy.out.lt)⟩)
  have N1 : ∀ (W' : World), Box W' ga (.int .u64 (h : Int)) (.int .u64 (l : Int)) ∧ Box W' gb (.int .u64 (h2 : Int)) (.int .u64 (l2 : Int)) ∧ Below w.heap.size w W' → WP 5 (L0.setIfInBounds 1 true) (a0.put (some 29) (.agg #[Fv h, Fv l])) W' := by
    rintro  W' ⟨xa, xb, hbw⟩
    subst hWP hL ha
    have Hxa := Hid.mk9 xa
    have Hxb := Hid.mk9 xb
    clear xa xb
    go_simp
    refine wpJ_three (i := 3) (k := 4) (l := 5) (by kernel_rfl) rfl rfl rfl (by kernel_rfl) (by kernel_rfl) (by kernel_rfl) (fun KJ hK => ?_) (fun KJ hK => ?_) (fun KJ hK => ?_)
    · go_simp
      refine (P2 _).mono ?_
      rintro e W2 ⟨rfl, hb⟩
      refine hK _ _ ⟨(Hxa.out.below hb).c0, (Hxa.out.below hb).c1, (Hxb.out.below hb).c0, (Hxb.out.below hb).c1⟩ ?_
      exact wpJ_same (by kernel_rfl) (by kernel_rfl) (N2  W2 ⟨(Hxa.out.below hb), (Hxb.out.below hb), (Below.on hbw hb)⟩)
    · go_simp
      have hb := below1 W' (.cells #[Fv 0, Fv 0] 32)
      refine hK _ _ ⟨(Hxa.out.below hb).c0, (Hxa.out.below hb).c1, (Hxb.out.below hb).c0, (Hxb.out.below hb).c1⟩ ?_
      exact wpJ_same (by kernel_rfl) (by kernel_rfl) (N1x W'.heap.size _ ⟨(Hxa.out.below hb), (Hxb.out.below hb), (Below.on hbw hb), (Box.new W' _ _ _), hbw.size, (Nat.ne_of_gt Hxa.out.lt), (Nat.ne_of_gt Hxb.out.lt)⟩)
    · go_simp
      have hb := below1 W' (.cells #[Fv 0, Fv 0] 32)
      refine hK _ _ ⟨(Hxa.out.below hb).c0, (Hxa.out.below hb).c1, (Hxb.out.below hb).c0, (Hxb.out.below hb).c1⟩ ?_
      exact wpJ_same (by kernel_rfl) (by kernel_rfl) (N1y W'.heap.size _ ⟨(Hxa.out.below hb), (Hxb.out.below hb), (Below.on hbw hb), (Box.new W' _ _ _), hbw.size, (Nat.ne_of_gt Hxa.out.lt), (Nat.ne_of_gt Hxb.out.lt)⟩)
  have N0xy : ∀ (gx : Nat) (gy : Nat) (W' : World), Box W' ga (.int .u64 (h : Int)) (.int .u64 (l : Int)) ∧ Box W' gb (.int .u64 (h2 : Int)) (.int .u64 (l2 : Int)) ∧ Below w.heap.size w W' ∧ Box W' gx (Fv 0) (Fv 0) ∧ w.heap.size ≤ gx ∧ gx ≠ ga ∧ gx ≠ gb ∧ Box W' gy (Fv 0) (Fv 0) ∧ w.heap.size ≤ gy ∧ gy ≠ ga ∧ gy ≠ gb ∧ gx ≠ gy → WP 4 ((L0.setIfInBounds 4 true).setIfInBounds 5 true) ((a0.put (some 5) (.pointer (some ⟨gx, 0, none⟩))).put (some 6) (.pointer (some ⟨gy, 0, none⟩))) W' := by
    rintro gx gy W' ⟨xa, xb, hbw, xx, hgx, dxa, dxb, xy, hgy, dya, dyb, dd⟩
    subst hWP hL ha
    have Hxa := Hid.mk9 xa
    have Hxb := Hid.mk9 xb
    have Hxx := Hid.mk9 xx
    have Hhgx := Hid.mk9 hgx
    have Hdxa := Hid.mk9 dxa
    have Hdxb := Hid.mk9 dxb
    have Hxy := Hid.mk9 xy
    have Hhgy := Hid.mk9 hgy
    have Hdya := Hid.mk9 dya
    have Hdyb := Hid.mk9 dyb
    have Hdd := Hid.mk9 dd
    clear xa xb xx hgx dxa dxb xy hgy dya dyb dd
    go_simp
    refine wpJ_on 1 rfl fun KJ hK => ?_
    go_simp
    refine (P1 _).mono ?_
    rintro e W2 ⟨rfl, hb⟩
    refine hK _ _ ⟨(Hxa.out.below hb).c0, (Hxa.out.below hb).c1, (Hxb.out.below hb).c0, (Hxb.out.below hb).c1⟩ ?_
    exact wpJ_same (by kernel_rfl) (by kernel_rfl) (N1xy gx gy W2 ⟨(Hxa.out.below hb), (Hxb.out.below hb), (Below.on hbw hb), (Hxx.out.below hb), Hhgx.out, Hdxa.out, Hdxb.out, (Hxy.out.below hb), Hhgy.out, Hdya.out, Hdyb.out, Hdd.out⟩)
  have N0x : ∀ (gx : Nat) (W' : World), Box W' ga (.int .u64 (h : Int)) (.int .u64 (l : Int)) ∧ Box W' gb (.int .u64 (h2 : Int)) (.int .u64 (l2 : Int)) ∧ Below w.heap.size w W' ∧ Box W' gx (Fv 0) (Fv 0) ∧ w.heap.size ≤ gx ∧ gx ≠ ga ∧ gx ≠ gb → WP 5 (L0.setIfInBounds 4 true) (a0.put (some 5) (.pointer (some ⟨gx, 0, none⟩))) W' := by
    rintro gx W' ⟨xa, xb, hbw, xx, hgx, dxa, dxb⟩
    subst hWP hL ha
    have Hxa := Hid.mk9 xa
    have Hxb := Hid.mk9 xb
    have Hxx := Hid.mk9 xx
    have Hhgx := Hid.mk9 hgx
    have Hdxa := Hid.mk9 dxa
    have Hdxb := Hid.mk9 dxb
    clear xa xb xx hgx dxa dxb
    go_simp
    refine wpJ_two (i := 1) (k := 5) (by kernel_rfl) rfl rfl (by kernel_rfl) (by kernel_rfl) (fun KJ hK => ?_) (fun KJ hK => ?_)
    · go_simp
      refine (P1 _).mono ?_
      rintro e W2 ⟨rfl, hb⟩
      refine hK _ _ ⟨(Hxa.out.below hb).c0, (Hxa.out.below hb).c1, (Hxb.out.below hb).c0, (Hxb.out.below hb).c1⟩ ?_
      exact wpJ_same (by kernel_rfl) (by kernel_rfl) (N1x gx W2 ⟨(Hxa.out.below hb), (Hxb.out.below hb), (Below.on hbw hb), (Hxx.out.below hb), Hhgx.out, Hdxa.out, Hdxb.out⟩)
    · go_simp
      have hb := below1 W' (.cells #[Fv 0, Fv 0] 32)
      refine hK _ _ ⟨(Hxa.out.below hb).c0, (Hxa.out.below hb).c1, (Hxb.out.below hb).c0, (Hxb.out.below hb).c1⟩ ?_
      exact wpJ_same (by kernel_rfl) (by kernel_rfl) (N0xy gx W'.heap.size _ ⟨(Hxa.out.below hb), (Hxb.out.below hb), (Below.on hbw hb), (Hxx.out.below hb), Hhgx.out, Hdxa.out, Hdxb.out, (Box.new W' _ _ _), hbw.size, (Nat.ne_of_gt Hxa.out.lt), (Nat.ne_of_gt Hxb.out.lt), (Nat.ne_of_lt Hxx.out.lt)⟩)
  have N0y : ∀ (gy : Nat) (W' : World), Box W' ga (.int .u64 (h : Int)) (.int .u64 (l : Int)) ∧ Box W' gb (.int .u64 (h2 : Int)) (.int .u64 (l2 : Int)) ∧ Below w.heap.size w W' ∧ Box W' gy (Fv 0) (Fv 0) ∧ w.heap.size ≤ gy ∧ gy ≠ ga ∧ gy ≠ gb → WP 5 (L0.setIfInBounds 5 true) (a0.put (some 6) (.pointer (some ⟨gy, 0, none⟩))) W' := by
    rintro gy W' ⟨xa, xb, hbw, xy, hgy, dya, dyb⟩
    subst hWP hL ha
    have Hxa := Hid.mk9 xa
    have Hxb := Hid.mk9 xb
    have Hxy := Hid.mk9 xy
    have Hhgy := Hid.mk9 hgy
    have Hdya := Hid.mk9 dya
    have Hdyb := Hid.mk9 dyb
    clear xa xb xy hgy dya dyb
    go_simp
    refine wpJ_two (i := 1) (k := 4) (by kernel_rfl) rfl rfl (by kernel_rfl) (by kernel_rfl) (fun KJ hK => ?_) (fun KJ hK => ?_)
    · go_simp
      refine (P1 _).mono ?_
      rintro e W2 ⟨rfl, hb⟩
      refine hK _ _ ⟨(Hxa.out.below hb).c0, (Hxa.out.below hb).c1, (Hxb.out.below hb).c0, (Hxb.out.below hb).c1⟩ ?_
      exact wpJ_same (by kernel_rfl) (by kernel_rfl) (N1y gy W2 ⟨(Hxa.out.below hb), (Hxb.out.below hb), (Below.on hbw hb), (Hxy.out.below hb), Hhgy.out, Hdya.out, Hdyb.out⟩)
    · go_simp
      have hb := below1 W' (.cells #[Fv 0, Fv 0] 32)
      refine hK _ _ ⟨(Hxa.out.below hb).c0, (Hxa.out.below hb).c1, (Hxb.out.below hb).c0, (Hxb.out.below hb).c1⟩ ?_
      exact wpJ_same (by kernel_rfl) (by kernel_rfl) (N0xy W'.heap.size gy _ ⟨(Hxa.out.below hb), (Hxb.out.below hb), (Below.on hbw hb), (Box.new W' _ _ _), hbw.size, (Nat.ne_of_gt Hxa.out.lt), (Nat.ne_of_gt Hxb.out.lt), (Hxy.out.below hb), Hhgy.out, Hdya.out, Hdyb.out, (Nat.ne_of_gt Hxy.out.lt)⟩)
  have N0 : ∀ (W' : World), Box W' ga (.int .u64 (h : Int)) (.int .u64 (l : Int)) ∧ Box W' gb (.int .u64 (h2 : Int)) (.int .u64 (l2 : Int)) ∧ Below w.heap.size w W' → WP 6 L0 a0 W' := by
    rintro  W' ⟨xa, xb, hbw⟩
    subst hWP hL ha
    have Hxa := Hid.mk9 xa
    have Hxb := Hid.mk9 xb
    clear xa xb
    go_simp
    refine wpJ_three (i := 1) (k := 4) (l := 5) (by kernel_rfl) rfl rfl rfl (by kernel_rfl) (by kernel_rfl) (by kernel_rfl) (fun KJ hK => ?_) (fun KJ hK => ?_) (fun KJ hK => ?_)
    · go_simp
      refine (P1 _).mono ?_
      rintro e W2 ⟨rfl, hb⟩
      refine hK _ _ ⟨(Hxa.out.below hb).c0, (Hxa.out.below hb).c1, (Hxb.out.below hb).c0, (Hxb.out.below hb).c1⟩ ?_
      exact wpJ_same (by kernel_rfl) (by kernel_rfl) (N1  W2 ⟨(Hxa.out.below hb), (Hxb.out.below hb), (Below.on hbw hb)⟩)
    · go_simp
      have hb := below1 W' (.cells #[Fv 0, Fv 0] 32)
      refine hK _ _ ⟨(Hxa.out.below hb).c0, (Hxa.out.below hb).c1, (Hxb.out.below hb).c0, (Hxb.out.below hb).c1⟩ ?_
      exact wpJ_same (by kernel_rfl) (by kernel_rfl) (N0x W'.heap.size _ ⟨(Hxa.out.below hb), (Hxb.out.below hb), (Below.on hbw hb), (Box.new W' _ _ _), hbw.size, (Nat.ne_of_gt Hxa.out.lt), (Nat.ne_of_gt Hxb.out.lt)⟩)
    · go_simp
      have hb := below1 W' (.cells #[Fv 0, Fv 0] 32)
      refine hK _ _ ⟨(Hxa.out.below hb).c0, (Hxa.out.below hb).c1, (Hxb.out.below hb).c0, (Hxb.out.below hb).c1⟩ ?_
      exact wpJ_same (by kernel_rfl) (by kernel_rfl) (N0y W'.heap.size _ ⟨(Hxa.out.below hb), (Hxb.out.below hb), (Below.on hbw hb), (Box.new W' _ _ _), hbw.size, (Nat.ne_of_gt Hxa.out.lt), (Nat.ne_of_gt Hxb.out.lt)⟩)
  exact N0 V1 ⟨Xa.out, Xb.out, hbw⟩
end Go.Proofs.YtidggnjnlhjhlaaGreatDoor
