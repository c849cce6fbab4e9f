import Derived.Test.YtabmdpfmlnnpnaaDoorJ14
namespace Go.Proofs.YtabmdpfmlnnpnaaDoor
open Go.RowKit Go.Shelf
set_option maxRecDepth 20000
set_option maxHeartbeats 0
theorem dv_prod {x y e f X Y : Int} (he : -2097152 ≤ e) (hf : -2097152 ≤ f) (hx : dv x e = dv X (-1074)) (hy : dv y f = dv Y (-1074)) : dv (x * y) (e + f) = dv (X * Y) (-2148) := by
  have h1 := dv_mul (z := x) (c := y) he hf
  have h2 := dv_mul (z := X) (c := Y) (e := -1074) (f := -1074) (by decide) (by decide)
  rw [hx, hy, ← h2, show (-1074 : Int) + -1074 = -2148 by decide] at h1
  exact Int.eq_of_mul_eq_mul_right (pow_pos_int _) h1
theorem dv_row {K : Nat} (hK : K = 1074) (X : Int) : dv X (-1074) = dv (X * ((2 ^ K : Nat) : Int)) (-2148) := by
  rw [dv_shift (z := X) (e := -1074) (f := -2148) (by decide) (by decide), show ((-1074 : Int) - -2148).toNat = K by rw [hK]; rfl]
theorem dv_hundred {L : Nat} (hL : L = 2048) : dv 1 (-100) = dv ((2 ^ L : Nat) : Int) (-2148) := by
  rw [dv_shift (z := 1) (e := -100) (f := -2148) (by decide) (by decide), show ((-100 : Int) - -2148).toNat = L by rw [hL]; rfl, Int.one_mul]
theorem addB_iff {K L i j : Nat} (h : addB K L i j = true) : (sI i * cI j - cI i * sI j - sI (i - j) * ((2 ^ K : Nat) : Int)).natAbs ≤ 2 ^ L ∧ (cI i * cI j + sI i * sI j - cI (i - j) * ((2 ^ K : Nat) : Int)).natAbs ≤ 2 ^ L ∧ (i + j ≤ 52 → (sI i * cI j + cI i * sI j - sI (i + j) * ((2 ^ K : Nat) : Int)).natAbs ≤ 2 ^ L ∧ (cI i * cI j - sI i * sI j - cI (i + j) * ((2 ^ K : Nat) : Int)).natAbs ≤ 2 ^ L) := by
  unfold addB at h
  rw [Bool.and_eq_true, Bool.and_eq_true, Bool.or_eq_true, Bool.and_eq_true] at h
  obtain ⟨⟨h1, h2⟩, h3⟩ := h
  refine ⟨of_decide_eq_true h1, of_decide_eq_true h2, fun hs => ?_⟩
  rcases h3 with h3 | h3
  · exact absurd (of_decide_eq_true h3) (by omega)
  · exact ⟨of_decide_eq_true h3.1, of_decide_eq_true h3.2⟩
theorem near_in {K L : Nat} (hK : K = 1074) (hL : L = 2048) {A B X : Int} {a b : Int} (ha : a = dv A (-2148)) (hb : b = dv B (-1074)) (hX : X = A - B * ((2 ^ K : Nat) : Int)) (h : X.natAbs ≤ 2 ^ L) : -dv 1 (-100) ≤ a - b ∧ a - b ≤ dv 1 (-100) := by
  have h1 : a - b = dv X (-2148) := by rw [ha, hb, dv_row hK, hX, Int.sub_eq_add_neg, ← dv_neg, ← dv_add, ← Int.sub_eq_add_neg]
  rw [h1, dv_hundred hL, ← dv_neg]
  generalize 2 ^ L = M at *
  exact ⟨dv_le _ (by omega), dv_le _ (by omega)⟩
theorem sintableAdds_o (i j : Int) (ho : i < 0 ∨ j < 0 ∨ 52 < i ∨ 52 < j) (w : World) (hT : TabT w) (hD : Tab w) :
    Calls Tryd.prog 4 #[.int .i64 i, .int .i64 j] w fun en w' => en = .returned (.bool true) ∧ Below w.heap.size w w' := by
  have TB : Hid (TabT w) := hT
  have TD : Hid (Tab w) := hD
  have hbw : Below w.heap.size w w := Below.refl _ _
  clear hT hD
  go_enter Tryd.func4, Tryd.ntmps4
  go_wp2_with fail
  refine (awake23 _ TB.out).mono ?_
  rintro e v1 ⟨rfl, hb1⟩
  replace hbw := Below.on hbw hb1
  clear hb1
  by_cases h1 : i < 0
  · go_wp2_with fail
    go_ret
    exact ⟨rfl, hbw⟩
  by_cases h2 : j < 0
  · go_wp2_with fail
    go_ret
    exact ⟨rfl, hbw⟩
  by_cases h3 : 52 < i
  · go_wp2_with fail
    go_ret
    exact ⟨rfl, hbw⟩
  have h4 : 52 < j := by omega
  clear ho
  go_wp2_with fail
  go_ret
  exact ⟨rfl, hbw⟩
theorem sintableAdds_i (i j : Nat) (hi : i < 53) (hj : j < 53) (w : World) (hT : TabT w) (hD : Tab w) :
    Calls Tryd.prog 4 #[.int .i64 (i : Int), .int .i64 (j : Int)] w fun en w' => en = .returned (.bool true) ∧ Below w.heap.size w w' := by
  have TB : Hid (TabT w) := hT
  have TD : Hid (Tab w) := hD
  have hbw : Below w.heap.size w w := Below.refl _ _
  clear hT hD
  have i1 : ¬ (i : Int) < 0 := by omega
  have i2 : ¬ (j : Int) < 0 := by omega
  have i3 : ¬ (52 : Int) < (i : Int) := by omega
  have i4 : ¬ (52 : Int) < (j : Int) := by omega
  have HI : Hid (i < 53 ∧ j < 53) := ⟨hi, hj⟩
  obtain ⟨KK, hKK⟩ : ∃ K, K = 1075 := ⟨_, rfl⟩
  obtain ⟨K, hK⟩ : ∃ K, K = 1074 := ⟨_, rfl⟩
  obtain ⟨L, hL⟩ : ∃ L, L = 2048 := ⟨_, rfl⟩
  have HK : Hid (KK = 1075 ∧ K = 1074 ∧ L = 2048) := ⟨hKK, hK, hL⟩
  have HSM : Hid (∀ k, k < 53 → (sI k).natAbs < 2 ^ KK ∧ (cI k).natAbs < 2 ^ KK) := fun k hk => by
    have h := rows_small hKK k hk
    unfold smallB at h
    simpa using h
  clear hi hj hKK hK hL
  go_enter Tryd.func4, Tryd.ntmps4
  go_wp2_with fail
  refine (awake23 _ TB.out).mono ?_
  rintro e v1 ⟨rfl, hb1⟩
  replace hbw := Below.on hbw hb1
  clear hb1
  go_wp2_with fail
  refine (values_ok i HI.out.1 _ (TB.out.below hbw) (TD.out.below hbw)).mono ?_
  rintro en v2 ⟨s2, p2, m2, z2, e2, s3, p3, m3, z3, e3, rfl, hd2, hd3, hv2, hv3, hb2⟩
  replace hbw := Below.on hbw hb2
  clear hb2
  have D2 : Hid (DN v2 s2 p2 m2 m2 e2 z2) := hd2.dn
  have HV2 := Hid.mk9 hv2
  have HB2 : Hid (DB z2 e2 KK (KK + 1074)) := db_of hd2.fm hv2 (HSM.out (i) HI.out.1).1 (by have := HK.out; omega)
  have D3 : Hid (DN v2 s3 p3 m3 m3 e3 z3) := hd3.dn
  have HV3 := Hid.mk9 hv3
  have HB3 : Hid (DB z3 e3 KK (KK + 1074)) := db_of hd3.fm hv3 (HSM.out (i) HI.out.1).2 (by have := HK.out; omega)
  clear hd2 hd3 hv2 hv3
  go_wp2_with fail
  obtain ⟨W3, hW3⟩ : ∃ W9, W9 = ((v2.alloc (.cells #[.bool s2, .slice p2 m2 m2, .int .i64 e2] 33)).alloc (.cells #[.bool s3, .slice p3 m3 m3, .int .i64 e3] 33)) := ⟨_, rfl⟩
  have Xsi0 : Hid (B3q W3 (v2.heap.size) (.bool s2) (.slice p2 m2 m2) (.int .i64 e2)) := by rw [hW3]; exact ⟨by go_simp, by go_simp, by go_simp, by go_simp, by go_simp, by go_simp⟩
  have Xci0 : Hid (B3q W3 (v2.heap.size + 1) (.bool s3) (.slice p3 m3 m3) (.int .i64 e3)) := by rw [hW3]; exact ⟨by go_simp, by go_simp, by go_simp, by go_simp, by go_simp, by go_simp⟩
  have hbn : Below v2.heap.size v2 W3 := by rw [hW3]; exact below2 v2 _ _
  rw [← hW3]
  clear hW3
  obtain ⟨gci, hgci⟩ : ∃ g, g = v2.heap.size + 1 := ⟨_, rfl⟩
  have HGci : Hid (w.heap.size ≤ gci) := by rw [hgci]; have := hbw.size; show _ ≤ _; omega
  rw [← hgci] at Xci0
  try rw [← hgci]
  obtain ⟨gsi, hgsi⟩ : ∃ g, g = v2.heap.size := ⟨_, rfl⟩
  have HGsi : Hid (w.heap.size ≤ gsi) := by rw [hgsi]; have := hbw.size; show _ ≤ _; omega
  rw [← hgsi] at Xsi0
  try rw [← hgsi]
  clear hgsi hgci
  replace D2 : Hid _ := D2.out.below hbn
  replace D3 : Hid _ := D3.out.below hbn
  replace hbw := Below.on hbw hbn
  clear hbn
  have Xsi := Xsi0
  clear Xsi0
  have Xci := Xci0
  clear Xci0
  refine (values_ok j HI.out.2 _ (TB.out.below hbw) (TD.out.below hbw)).mono ?_
  rintro en v4 ⟨s4, p4, m4, z4, e4, s5, p5, m5, z5, e5, rfl, hd4, hd5, hv4, hv5, hb4⟩
  replace Xsi : Hid _ := Xsi.out.below hb4
  replace Xci : Hid _ := Xci.out.below hb4
  replace D2 : Hid _ := D2.out.below hb4
  replace D3 : Hid _ := D3.out.below hb4
  replace hbw := Below.on hbw hb4
  clear hb4
  have D4 : Hid (DN v4 s4 p4 m4 m4 e4 z4) := hd4.dn
  have HV4 := Hid.mk9 hv4
  have HB4 : Hid (DB z4 e4 KK (KK + 1074)) := db_of hd4.fm hv4 (HSM.out (j) HI.out.2).1 (by have := HK.out; omega)
  have D5 : Hid (DN v4 s5 p5 m5 m5 e5 z5) := hd5.dn
  have HV5 := Hid.mk9 hv5
  have HB5 : Hid (DB z5 e5 KK (KK + 1074)) := db_of hd5.fm hv5 (HSM.out (j) HI.out.2).2 (by have := HK.out; omega)
  clear hd4 hd5 hv4 hv5
  obtain ⟨csi0, csi1, csi2, fsi0, fsi1, fsi2⟩ := Xsi.out
  have hnesi : gsi < v4.heap.size := World.block_lt_of_cell? v4 _ csi0
  go_wp2_with fail
  clear csi0 csi1 csi2 fsi0 fsi1 fsi2 hnesi
  obtain ⟨W5, hW5⟩ : ∃ W9, W9 = ((v4.alloc (.cells #[.bool s4, .slice p4 m4 m4, .int .i64 e4] 33)).alloc (.cells #[.bool s5, .slice p5 m5 m5, .int .i64 e5] 33)) := ⟨_, rfl⟩
  have Xsj0 : Hid (B3q W5 (v4.heap.size) (.bool s4) (.slice p4 m4 m4) (.int .i64 e4)) := by rw [hW5]; exact ⟨by go_simp, by go_simp, by go_simp, by go_simp, by go_simp, by go_simp⟩
  have Xcj0 : Hid (B3q W5 (v4.heap.size + 1) (.bool s5) (.slice p5 m5 m5) (.int .i64 e5)) := by rw [hW5]; exact ⟨by go_simp, by go_simp, by go_simp, by go_simp, by go_simp, by go_simp⟩
  have hbn : Below v4.heap.size v4 W5 := by rw [hW5]; exact below2 v4 _ _
  rw [← hW5]
  clear hW5
  obtain ⟨gcj, hgcj⟩ : ∃ g, g = v4.heap.size + 1 := ⟨_, rfl⟩
  have HGcj : Hid (w.heap.size ≤ gcj) := by rw [hgcj]; have := hbw.size; show _ ≤ _; omega
  rw [← hgcj] at Xcj0
  try rw [← hgcj]
  obtain ⟨gsj, hgsj⟩ : ∃ g, g = v4.heap.size := ⟨_, rfl⟩
  have HGsj : Hid (w.heap.size ≤ gsj) := by rw [hgsj]; have := hbw.size; show _ ≤ _; omega
  rw [← hgsj] at Xsj0
  try rw [← hgsj]
  clear hgsj hgcj
  replace Xsi : Hid _ := Xsi.out.below hbn
  replace Xci : Hid _ := Xci.out.below hbn
  replace D2 : Hid _ := D2.out.below hbn
  replace D3 : Hid _ := D3.out.below hbn
  replace D4 : Hid _ := D4.out.below hbn
  replace D5 : Hid _ := D5.out.below hbn
  replace hbw := Below.on hbw hbn
  clear hbn
  have Xsj := Xsj0
  clear Xsj0
  have Xcj := Xcj0
  clear Xcj0
  refine (dmul_b D2.out D5.out HB2.out HB5.out (by have := HK.out; omega) (by have := HK.out; omega) (TD.out.below hbw)).mono ?_
  rintro en v6 ⟨v, z6, e6, rfl, hv, hB6, hv6, hb6⟩
  obtain ⟨s6, p6, m6, rfl, hd6⟩ := hv.dn hB6.fm
  clear hv
  replace Xsi : Hid _ := Xsi.out.below hb6
  replace Xci : Hid _ := Xci.out.below hb6
  replace Xsj : Hid _ := Xsj.out.below hb6
  replace Xcj : Hid _ := Xcj.out.below hb6
  replace D2 : Hid _ := D2.out.below hb6
  replace D3 : Hid _ := D3.out.below hb6
  replace D4 : Hid _ := D4.out.below hb6
  replace D5 : Hid _ := D5.out.below hb6
  replace hbw := Below.on hbw hb6
  clear hb6
  have D6 : Hid (DN v6 s6 p6 m6 m6 e6 z6) := hd6
  have HV6 := Hid.mk9 hv6
  have HB6 := Hid.mk9 hB6
  clear hd6 hv6 hB6
  have HX6 : Hid (dv z6 e6 = dv (sI i * cI j) (-2148)) := HV6.out.trans (dv_prod (by have := HB2.out.lo; have := HK.out; omega) (by have := HB5.out.lo; have := HK.out; omega) HV2.out HV5.out)
  clear HV6
  obtain ⟨cci0, cci1, cci2, fci0, fci1, fci2⟩ := Xci.out
  have hneci : gci < v6.heap.size := World.block_lt_of_cell? v6 _ cci0
  obtain ⟨csj0, csj1, csj2, fsj0, fsj1, fsj2⟩ := Xsj.out
  have hnesj : gsj < v6.heap.size := World.block_lt_of_cell? v6 _ csj0
  go_wp2_with fail
  clear cci0 cci1 cci2 fci0 fci1 fci2 hneci
  clear csj0 csj1 csj2 fsj0 fsj1 fsj2 hnesj
  have Xsc0 : Hid (B3q (v6.alloc (.cells #[.bool s6, .slice p6 m6 m6, .int .i64 e6] 33)) v6.heap.size (.bool s6) (.slice p6 m6 m6) (.int .i64 e6)) := B3q.new v6 _ _ _ _
  have hbn : Below v6.heap.size v6 (v6.alloc (.cells #[.bool s6, .slice p6 m6 m6, .int .i64 e6] 33)) := below1 v6 _
  generalize v6.alloc (.cells #[.bool s6, .slice p6 m6 m6, .int .i64 e6] 33) = W6 at *
  have HGsc : Hid (w.heap.size ≤ v6.heap.size) := hbw.size
  replace Xsi : Hid _ := Xsi.out.below hbn
  replace Xci : Hid _ := Xci.out.below hbn
  replace Xsj : Hid _ := Xsj.out.below hbn
  replace Xcj : Hid _ := Xcj.out.below hbn
  replace D2 : Hid _ := D2.out.below hbn
  replace D3 : Hid _ := D3.out.below hbn
  replace D4 : Hid _ := D4.out.below hbn
  replace D5 : Hid _ := D5.out.below hbn
  replace D6 : Hid _ := D6.out.below hbn
  replace hbw := Below.on hbw hbn
  clear hbn
  generalize v6.heap.size = gsc at *
  have Xsc := Xsc0
  clear Xsc0
  refine (dmul_b D3.out D4.out HB3.out HB4.out (by have := HK.out; omega) (by have := HK.out; omega) (TD.out.below hbw)).mono ?_
  rintro en v7 ⟨v, z7, e7, rfl, hv, hB7, hv7, hb7⟩
  obtain ⟨s7, p7, m7, rfl, hd7⟩ := hv.dn hB7.fm
  clear hv
  replace Xsi : Hid _ := Xsi.out.below hb7
  replace Xci : Hid _ := Xci.out.below hb7
  replace Xsj : Hid _ := Xsj.out.below hb7
  replace Xcj : Hid _ := Xcj.out.below hb7
  replace Xsc : Hid _ := Xsc.out.below hb7
  replace D2 : Hid _ := D2.out.below hb7
  replace D3 : Hid _ := D3.out.below hb7
  replace D4 : Hid _ := D4.out.below hb7
  replace D5 : Hid _ := D5.out.below hb7
  replace D6 : Hid _ := D6.out.below hb7
  replace hbw := Below.on hbw hb7
  clear hb7
  have D7 : Hid (DN v7 s7 p7 m7 m7 e7 z7) := hd7
  have HV7 := Hid.mk9 hv7
  have HB7 := Hid.mk9 hB7
  clear hd7 hv7 hB7
  have HX7 : Hid (dv z7 e7 = dv (cI i * sI j) (-2148)) := HV7.out.trans (dv_prod (by have := HB3.out.lo; have := HK.out; omega) (by have := HB4.out.lo; have := HK.out; omega) HV3.out HV4.out)
  clear HV7
  obtain ⟨cci0, cci1, cci2, fci0, fci1, fci2⟩ := Xci.out
  have hneci : gci < v7.heap.size := World.block_lt_of_cell? v7 _ cci0
  obtain ⟨ccj0, ccj1, ccj2, fcj0, fcj1, fcj2⟩ := Xcj.out
  have hnecj : gcj < v7.heap.size := World.block_lt_of_cell? v7 _ ccj0
  go_wp2_with fail
  clear cci0 cci1 cci2 fci0 fci1 fci2 hneci
  clear ccj0 ccj1 ccj2 fcj0 fcj1 fcj2 hnecj
  have Xcs0 : Hid (B3q (v7.alloc (.cells #[.bool s7, .slice p7 m7 m7, .int .i64 e7] 33)) v7.heap.size (.bool s7) (.slice p7 m7 m7) (.int .i64 e7)) := B3q.new v7 _ _ _ _
  have hbn : Below v7.heap.size v7 (v7.alloc (.cells #[.bool s7, .slice p7 m7 m7, .int .i64 e7] 33)) := below1 v7 _
  generalize v7.alloc (.cells #[.bool s7, .slice p7 m7 m7, .int .i64 e7] 33) = W7 at *
  have HGcs : Hid (w.heap.size ≤ v7.heap.size) := hbw.size
  replace Xsi : Hid _ := Xsi.out.below hbn
  replace Xci : Hid _ := Xci.out.below hbn
  replace Xsj : Hid _ := Xsj.out.below hbn
  replace Xcj : Hid _ := Xcj.out.below hbn
  replace Xsc : Hid _ := Xsc.out.below hbn
  replace D2 : Hid _ := D2.out.below hbn
  replace D3 : Hid _ := D3.out.below hbn
  replace D4 : Hid _ := D4.out.below hbn
  replace D5 : Hid _ := D5.out.below hbn
  replace D6 : Hid _ := D6.out.below hbn
  replace D7 : Hid _ := D7.out.below hbn
  replace hbw := Below.on hbw hbn
  clear hbn
  generalize v7.heap.size = gcs at *
  have Xcs := Xcs0
  clear Xcs0
  refine (dmul_b D3.out D5.out HB3.out HB5.out (by have := HK.out; omega) (by have := HK.out; omega) (TD.out.below hbw)).mono ?_
  rintro en v8 ⟨v, z8, e8, rfl, hv, hB8, hv8, hb8⟩
  obtain ⟨s8, p8, m8, rfl, hd8⟩ := hv.dn hB8.fm
  clear hv
  replace Xsi : Hid _ := Xsi.out.below hb8
  replace Xci : Hid _ := Xci.out.below hb8
  replace Xsj : Hid _ := Xsj.out.below hb8
  replace Xcj : Hid _ := Xcj.out.below hb8
  replace Xsc : Hid _ := Xsc.out.below hb8
  replace Xcs : Hid _ := Xcs.out.below hb8
  replace D2 : Hid _ := D2.out.below hb8
  replace D3 : Hid _ := D3.out.below hb8
  replace D4 : Hid _ := D4.out.below hb8
  replace D5 : Hid _ := D5.out.below hb8
  replace D6 : Hid _ := D6.out.below hb8
  replace D7 : Hid _ := D7.out.below hb8
  replace hbw := Below.on hbw hb8
  clear hb8
  have D8 : Hid (DN v8 s8 p8 m8 m8 e8 z8) := hd8
  have HV8 := Hid.mk9 hv8
  have HB8 := Hid.mk9 hB8
  clear hd8 hv8 hB8
  have HX8 : Hid (dv z8 e8 = dv (cI i * cI j) (-2148)) := HV8.out.trans (dv_prod (by have := HB3.out.lo; have := HK.out; omega) (by have := HB5.out.lo; have := HK.out; omega) HV3.out HV5.out)
  clear HV8
  obtain ⟨csi0, csi1, csi2, fsi0, fsi1, fsi2⟩ := Xsi.out
  have hnesi : gsi < v8.heap.size := World.block_lt_of_cell? v8 _ csi0
  obtain ⟨csj0, csj1, csj2, fsj0, fsj1, fsj2⟩ := Xsj.out
  have hnesj : gsj < v8.heap.size := World.block_lt_of_cell? v8 _ csj0
  go_wp2_with fail
  clear csi0 csi1 csi2 fsi0 fsi1 fsi2 hnesi
  clear csj0 csj1 csj2 fsj0 fsj1 fsj2 hnesj
  have Xcc0 : Hid (B3q (v8.alloc (.cells #[.bool s8, .slice p8 m8 m8, .int .i64 e8] 33)) v8.heap.size (.bool s8) (.slice p8 m8 m8) (.int .i64 e8)) := B3q.new v8 _ _ _ _
  have hbn : Below v8.heap.size v8 (v8.alloc (.cells #[.bool s8, .slice p8 m8 m8, .int .i64 e8] 33)) := below1 v8 _
  generalize v8.alloc (.cells #[.bool s8, .slice p8 m8 m8, .int .i64 e8] 33) = W8 at *
  have HGcc : Hid (w.heap.size ≤ v8.heap.size) := hbw.size
  replace Xsi : Hid _ := Xsi.out.below hbn
  replace Xci : Hid _ := Xci.out.below hbn
  replace Xsj : Hid _ := Xsj.out.below hbn
  replace Xcj : Hid _ := Xcj.out.below hbn
  replace Xsc : Hid _ := Xsc.out.below hbn
  replace Xcs : Hid _ := Xcs.out.below hbn
  replace D2 : Hid _ := D2.out.below hbn
  replace D3 : Hid _ := D3.out.below hbn
  replace D4 : Hid _ := D4.out.below hbn
  replace D5 : Hid _ := D5.out.below hbn
  replace D6 : Hid _ := D6.out.below hbn
  replace D7 : Hid _ := D7.out.below hbn
  replace D8 : Hid _ := D8.out.below hbn
  replace hbw := Below.on hbw hbn
  clear hbn
  generalize v8.heap.size = gcc at *
  have Xcc := Xcc0
  clear Xcc0
  refine (dmul_b D2.out D4.out HB2.out HB4.out (by have := HK.out; omega) (by have := HK.out; omega) (TD.out.below hbw)).mono ?_
  rintro en v9 ⟨v, z9, e9, rfl, hv, hB9, hv9, hb9⟩
  obtain ⟨s9, p9, m9, rfl, hd9⟩ := hv.dn hB9.fm
  clear hv
  replace Xsi : Hid _ := Xsi.out.below hb9
  replace Xci : Hid _ := Xci.out.below hb9
  replace Xsj : Hid _ := Xsj.out.below hb9
  replace Xcj : Hid _ := Xcj.out.below hb9
  replace Xsc : Hid _ := Xsc.out.below hb9
  replace Xcs : Hid _ := Xcs.out.below hb9
  replace Xcc : Hid _ := Xcc.out.below hb9
  replace D2 : Hid _ := D2.out.below hb9
  replace D3 : Hid _ := D3.out.below hb9
  replace D4 : Hid _ := D4.out.below hb9
  replace D5 : Hid _ := D5.out.below hb9
  replace D6 : Hid _ := D6.out.below hb9
  replace D7 : Hid _ := D7.out.below hb9
  replace D8 : Hid _ := D8.out.below hb9
  replace hbw := Below.on hbw hb9
  clear hb9
  have D9 : Hid (DN v9 s9 p9 m9 m9 e9 z9) := hd9
  have HV9 := Hid.mk9 hv9
  have HB9 := Hid.mk9 hB9
  clear hd9 hv9 hB9
  have HX9 : Hid (dv z9 e9 = dv (sI i * sI j) (-2148)) := HV9.out.trans (dv_prod (by have := HB2.out.lo; have := HK.out; omega) (by have := HB4.out.lo; have := HK.out; omega) HV2.out HV4.out)
  clear HV9
  obtain ⟨csc0, csc1, csc2, fsc0, fsc1, fsc2⟩ := Xsc.out
  have hnesc : gsc < v9.heap.size := World.block_lt_of_cell? v9 _ csc0
  obtain ⟨ccs0, ccs1, ccs2, fcs0, fcs1, fcs2⟩ := Xcs.out
  have hnecs : gcs < v9.heap.size := World.block_lt_of_cell? v9 _ ccs0
  go_wp2_with fail
  clear csc0 csc1 csc2 fsc0 fsc1 fsc2 hnesc
  clear ccs0 ccs1 ccs2 fcs0 fcs1 fcs2 hnecs
  have Xss0 : Hid (B3q (v9.alloc (.cells #[.bool s9, .slice p9 m9 m9, .int .i64 e9] 33)) v9.heap.size (.bool s9) (.slice p9 m9 m9) (.int .i64 e9)) := B3q.new v9 _ _ _ _
  have hbn : Below v9.heap.size v9 (v9.alloc (.cells #[.bool s9, .slice p9 m9 m9, .int .i64 e9] 33)) := below1 v9 _
  generalize v9.alloc (.cells #[.bool s9, .slice p9 m9 m9, .int .i64 e9] 33) = W9 at *
  have HGss : Hid (w.heap.size ≤ v9.heap.size) := hbw.size
  replace Xsi : Hid _ := Xsi.out.below hbn
  replace Xci : Hid _ := Xci.out.below hbn
  replace Xsj : Hid _ := Xsj.out.below hbn
  replace Xcj : Hid _ := Xcj.out.below hbn
  replace Xsc : Hid _ := Xsc.out.below hbn
  replace Xcs : Hid _ := Xcs.out.below hbn
  replace Xcc : Hid _ := Xcc.out.below hbn
  replace D2 : Hid _ := D2.out.below hbn
  replace D3 : Hid _ := D3.out.below hbn
  replace D4 : Hid _ := D4.out.below hbn
  replace D5 : Hid _ := D5.out.below hbn
  replace D6 : Hid _ := D6.out.below hbn
  replace D7 : Hid _ := D7.out.below hbn
  replace D8 : Hid _ := D8.out.below hbn
  replace D9 : Hid _ := D9.out.below hbn
  replace hbw := Below.on hbw hbn
  clear hbn
  generalize v9.heap.size = gss at *
  have Xss := Xss0
  clear Xss0
  refine (dsub_b D6.out D7.out HB6.out HB7.out (by have := HK.out; omega) (TD.out.below hbw)).mono ?_
  rintro en v10 ⟨v, z10, e10, rfl, hv, hB10, hv10, hb10⟩
  obtain ⟨s10, p10, m10, rfl, hd10⟩ := hv.dn hB10.fm
  clear hv
  replace Xsi : Hid _ := Xsi.out.below hb10
  replace Xci : Hid _ := Xci.out.below hb10
  replace Xsj : Hid _ := Xsj.out.below hb10
  replace Xcj : Hid _ := Xcj.out.below hb10
  replace Xsc : Hid _ := Xsc.out.below hb10
  replace Xcs : Hid _ := Xcs.out.below hb10
  replace Xcc : Hid _ := Xcc.out.below hb10
  replace Xss : Hid _ := Xss.out.below hb10
  replace D2 : Hid _ := D2.out.below hb10
  replace D3 : Hid _ := D3.out.below hb10
  replace D4 : Hid _ := D4.out.below hb10
  replace D5 : Hid _ := D5.out.below hb10
  replace D6 : Hid _ := D6.out.below hb10
  replace D7 : Hid _ := D7.out.below hb10
  replace D8 : Hid _ := D8.out.below hb10
  replace D9 : Hid _ := D9.out.below hb10
  replace hbw := Below.on hbw hb10
  clear hb10
  have D10 : Hid (DN v10 s10 p10 m10 m10 e10 z10) := hd10
  have HV10 := Hid.mk9 hv10
  have HB10 := Hid.mk9 hB10
  clear hd10 hv10 hB10
  have HX10 : Hid (dv z10 e10 = dv (sI i * cI j - cI i * sI j) (-2148)) := by show _ = _; rw [HV10.out, HX6.out, HX7.out, Int.sub_eq_add_neg, ← dv_neg, ← dv_add, ← Int.sub_eq_add_neg]
  clear HV10
  obtain ⟨ccc0, ccc1, ccc2, fcc0, fcc1, fcc2⟩ := Xcc.out
  have hnecc : gcc < v10.heap.size := World.block_lt_of_cell? v10 _ ccc0
  obtain ⟨css0, css1, css2, fss0, fss1, fss2⟩ := Xss.out
  have hness : gss < v10.heap.size := World.block_lt_of_cell? v10 _ css0
  go_wp2_with fail
  clear ccc0 ccc1 ccc2 fcc0 fcc1 fcc2 hnecc
  clear css0 css1 css2 fss0 fss1 fss2 hness
  have Xless0 : Hid (B3q (v10.alloc (.cells #[.bool s10, .slice p10 m10 m10, .int .i64 e10] 33)) v10.heap.size (.bool s10) (.slice p10 m10 m10) (.int .i64 e10)) := B3q.new v10 _ _ _ _
  have hbn : Below v10.heap.size v10 (v10.alloc (.cells #[.bool s10, .slice p10 m10 m10, .int .i64 e10] 33)) := below1 v10 _
  generalize v10.alloc (.cells #[.bool s10, .slice p10 m10 m10, .int .i64 e10] 33) = W10 at *
  have HGless : Hid (w.heap.size ≤ v10.heap.size) := hbw.size
  replace Xsi : Hid _ := Xsi.out.below hbn
  replace Xci : Hid _ := Xci.out.below hbn
  replace Xsj : Hid _ := Xsj.out.below hbn
  replace Xcj : Hid _ := Xcj.out.below hbn
  replace Xsc : Hid _ := Xsc.out.below hbn
  replace Xcs : Hid _ := Xcs.out.below hbn
  replace Xcc : Hid _ := Xcc.out.below hbn
  replace Xss : Hid _ := Xss.out.below hbn
  replace D2 : Hid _ := D2.out.below hbn
  replace D3 : Hid _ := D3.out.below hbn
  replace D4 : Hid _ := D4.out.below hbn
  replace D5 : Hid _ := D5.out.below hbn
  replace D6 : Hid _ := D6.out.below hbn
  replace D7 : Hid _ := D7.out.below hbn
  replace D8 : Hid _ := D8.out.below hbn
  replace D9 : Hid _ := D9.out.below hbn
  replace D10 : Hid _ := D10.out.below hbn
  replace hbw := Below.on hbw hbn
  clear hbn
  generalize v10.heap.size = gless at *
  have Xless := Xless0
  clear Xless0
  refine (dadd_b D8.out D9.out HB8.out HB9.out (by have := HK.out; omega) (TD.out.below hbw)).mono ?_
  rintro en v11 ⟨v, z11, e11, rfl, hv, hB11, hv11, hb11⟩
  obtain ⟨s11, p11, m11, rfl, hd11⟩ := hv.dn hB11.fm
  clear hv
  replace Xsi : Hid _ := Xsi.out.below hb11
  replace Xci : Hid _ := Xci.out.below hb11
  replace Xsj : Hid _ := Xsj.out.below hb11
  replace Xcj : Hid _ := Xcj.out.below hb11
  replace Xsc : Hid _ := Xsc.out.below hb11
  replace Xcs : Hid _ := Xcs.out.below hb11
  replace Xcc : Hid _ := Xcc.out.below hb11
  replace Xss : Hid _ := Xss.out.below hb11
  replace Xless : Hid _ := Xless.out.below hb11
  replace D2 : Hid _ := D2.out.below hb11
  replace D3 : Hid _ := D3.out.below hb11
  replace D4 : Hid _ := D4.out.below hb11
  replace D5 : Hid _ := D5.out.below hb11
  replace D6 : Hid _ := D6.out.below hb11
  replace D7 : Hid _ := D7.out.below hb11
  replace D8 : Hid _ := D8.out.below hb11
  replace D9 : Hid _ := D9.out.below hb11
  replace D10 : Hid _ := D10.out.below hb11
  replace hbw := Below.on hbw hb11
  clear hb11
  have D11 : Hid (DN v11 s11 p11 m11 m11 e11 z11) := hd11
  have HV11 := Hid.mk9 hv11
  have HB11 := Hid.mk9 hB11
  clear hd11 hv11 hB11
  have HX11 : Hid (dv z11 e11 = dv (cI i * cI j + sI i * sI j) (-2148)) := by show _ = _; rw [HV11.out, HX8.out, HX9.out, ← dv_add]
  clear HV11
  by_cases hij : i < j
  · have hij2 : (i : Int) < (j : Int) := by omega
    clear hij
    go_wp2_with fail
    go_ret
    exact ⟨rfl, Below.on hbw (below1 _ _)⟩
  have hij2 : ¬ (i : Int) < (j : Int) := by omega
  obtain ⟨k, hk⟩ : ∃ k, k = i - j := ⟨_, rfl⟩
  have HKI : Hid (k = i - j ∧ k < 53 ∧ j ≤ i) := ⟨hk, by have := HI.out; omega, by omega⟩
  have wk1 : wrap64 ((i : Int) - (j : Int)) = (k : Int) := by have := HI.out; simp only [wrap64]; omega
  have wk2 : IntKind.i64.wrap ((i : Int) - (j : Int)) = (k : Int) := by have := HI.out; simp [IntKind.wrap, IntKind.signed, IntKind.bits]; omega
  clear hij hk
  have HAB : Hid (addB K L i j = true) := by have h := rows_add HK.out.2.1 HK.out.2.2 i HI.out.1 j HI.out.2; rw [decide_eq_false (by have := HKI.out; omega), Bool.false_or] at h; exact h
  go_wp2_with fail
  have Xmore0 : Hid (B3q (v11.alloc (.cells #[.bool s11, .slice p11 m11 m11, .int .i64 e11] 33)) v11.heap.size (.bool s11) (.slice p11 m11 m11) (.int .i64 e11)) := B3q.new v11 _ _ _ _
  have hbn : Below v11.heap.size v11 (v11.alloc (.cells #[.bool s11, .slice p11 m11 m11, .int .i64 e11] 33)) := below1 v11 _
  generalize v11.alloc (.cells #[.bool s11, .slice p11 m11 m11, .int .i64 e11] 33) = W11 at *
  have HGmore : Hid (w.heap.size ≤ v11.heap.size) := hbw.size
  replace Xsi : Hid _ := Xsi.out.below hbn
  replace Xci : Hid _ := Xci.out.below hbn
  replace Xsj : Hid _ := Xsj.out.below hbn
  replace Xcj : Hid _ := Xcj.out.below hbn
  replace Xsc : Hid _ := Xsc.out.below hbn
  replace Xcs : Hid _ := Xcs.out.below hbn
  replace Xcc : Hid _ := Xcc.out.below hbn
  replace Xss : Hid _ := Xss.out.below hbn
  replace Xless : Hid _ := Xless.out.below hbn
  replace D2 : Hid _ := D2.out.below hbn
  replace D3 : Hid _ := D3.out.below hbn
  replace D4 : Hid _ := D4.out.below hbn
  replace D5 : Hid _ := D5.out.below hbn
  replace D6 : Hid _ := D6.out.below hbn
  replace D7 : Hid _ := D7.out.below hbn
  replace D8 : Hid _ := D8.out.below hbn
  replace D9 : Hid _ := D9.out.below hbn
  replace D10 : Hid _ := D10.out.below hbn
  replace D11 : Hid _ := D11.out.below hbn
  replace hbw := Below.on hbw hbn
  clear hbn
  generalize v11.heap.size = gmore at *
  have Xmore := Xmore0
  clear Xmore0
  refine (values_ok k HKI.out.2.1 _ (TB.out.below hbw) (TD.out.below hbw)).mono ?_
  rintro en v12 ⟨s12, p12, m12, z12, e12, s13, p13, m13, z13, e13, rfl, hd12, hd13, hv12, hv13, hb12⟩
  replace Xsi : Hid _ := Xsi.out.below hb12
  replace Xci : Hid _ := Xci.out.below hb12
  replace Xsj : Hid _ := Xsj.out.below hb12
  replace Xcj : Hid _ := Xcj.out.below hb12
  replace Xsc : Hid _ := Xsc.out.below hb12
  replace Xcs : Hid _ := Xcs.out.below hb12
  replace Xcc : Hid _ := Xcc.out.below hb12
  replace Xss : Hid _ := Xss.out.below hb12
  replace Xless : Hid _ := Xless.out.below hb12
  replace Xmore : Hid _ := Xmore.out.below hb12
  replace D2 : Hid _ := D2.out.below hb12
  replace D3 : Hid _ := D3.out.below hb12
  replace D4 : Hid _ := D4.out.below hb12
  replace D5 : Hid _ := D5.out.below hb12
  replace D6 : Hid _ := D6.out.below hb12
  replace D7 : Hid _ := D7.out.below hb12
  replace D8 : Hid _ := D8.out.below hb12
  replace D9 : Hid _ := D9.out.below hb12
  replace D10 : Hid _ := D10.out.below hb12
  replace D11 : Hid _ := D11.out.below hb12
  replace hbw := Below.on hbw hb12
  clear hb12
  have D12 : Hid (DN v12 s12 p12 m12 m12 e12 z12) := hd12.dn
  have HV12 := Hid.mk9 hv12
  have HB12 : Hid (DB z12 e12 KK (KK + 1074)) := db_of hd12.fm hv12 (HSM.out (k) HKI.out.2.1).1 (by have := HK.out; omega)
  have D13 : Hid (DN v12 s13 p13 m13 m13 e13 z13) := hd13.dn
  have HV13 := Hid.mk9 hv13
  have HB13 : Hid (DB z13 e13 KK (KK + 1074)) := db_of hd13.fm hv13 (HSM.out (k) HKI.out.2.1).2 (by have := HK.out; omega)
  clear hd12 hd13 hv12 hv13
  obtain ⟨cless0, cless1, cless2, fless0, fless1, fless2⟩ := Xless.out
  have hneless : gless < v12.heap.size := World.block_lt_of_cell? v12 _ cless0
  go_wp2_with fail
  clear cless0 cless1 cless2 fless0 fless1 fless2 hneless
  obtain ⟨W13, hW13⟩ : ∃ W9, W9 = ((v12.alloc (.cells #[.bool s12, .slice p12 m12 m12, .int .i64 e12] 33)).alloc (.cells #[.bool s13, .slice p13 m13 m13, .int .i64 e13] 33)) := ⟨_, rfl⟩
  have Xsd0 : Hid (B3q W13 (v12.heap.size) (.bool s12) (.slice p12 m12 m12) (.int .i64 e12)) := by rw [hW13]; exact ⟨by go_simp, by go_simp, by go_simp, by go_simp, by go_simp, by go_simp⟩
  have Xcd0 : Hid (B3q W13 (v12.heap.size + 1) (.bool s13) (.slice p13 m13 m13) (.int .i64 e13)) := by rw [hW13]; exact ⟨by go_simp, by go_simp, by go_simp, by go_simp, by go_simp, by go_simp⟩
  have hbn : Below v12.heap.size v12 W13 := by rw [hW13]; exact below2 v12 _ _
  rw [← hW13]
  clear hW13
  obtain ⟨gcd, hgcd⟩ : ∃ g, g = v12.heap.size + 1 := ⟨_, rfl⟩
  have HGcd : Hid (w.heap.size ≤ gcd) := by rw [hgcd]; have := hbw.size; show _ ≤ _; omega
  rw [← hgcd] at Xcd0
  try rw [← hgcd]
  obtain ⟨gsd, hgsd⟩ : ∃ g, g = v12.heap.size := ⟨_, rfl⟩
  have HGsd : Hid (w.heap.size ≤ gsd) := by rw [hgsd]; have := hbw.size; show _ ≤ _; omega
  rw [← hgsd] at Xsd0
  try rw [← hgsd]
  clear hgsd hgcd
  replace Xsi : Hid _ := Xsi.out.below hbn
  replace Xci : Hid _ := Xci.out.below hbn
  replace Xsj : Hid _ := Xsj.out.below hbn
  replace Xcj : Hid _ := Xcj.out.below hbn
  replace Xsc : Hid _ := Xsc.out.below hbn
  replace Xcs : Hid _ := Xcs.out.below hbn
  replace Xcc : Hid _ := Xcc.out.below hbn
  replace Xss : Hid _ := Xss.out.below hbn
  replace Xless : Hid _ := Xless.out.below hbn
  replace Xmore : Hid _ := Xmore.out.below hbn
  replace D2 : Hid _ := D2.out.below hbn
  replace D3 : Hid _ := D3.out.below hbn
  replace D4 : Hid _ := D4.out.below hbn
  replace D5 : Hid _ := D5.out.below hbn
  replace D6 : Hid _ := D6.out.below hbn
  replace D7 : Hid _ := D7.out.below hbn
  replace D8 : Hid _ := D8.out.below hbn
  replace D9 : Hid _ := D9.out.below hbn
  replace D10 : Hid _ := D10.out.below hbn
  replace D11 : Hid _ := D11.out.below hbn
  replace D12 : Hid _ := D12.out.below hbn
  replace D13 : Hid _ := D13.out.below hbn
  replace hbw := Below.on hbw hbn
  clear hbn
  have Xsd := Xsd0
  clear Xsd0
  have Xcd := Xcd0
  clear Xcd0
  have HAD := Hid.mk9 (addB_iff HAB.out)
  clear HAB
  rw [← HKI.out.1] at HAD
  have HNR : Hid (-dv 1 (-100) ≤ dv z10 e10 - dv z12 e12 ∧ dv z10 e10 - dv z12 e12 ≤ dv 1 (-100)) := near_in HK.out.2.1 HK.out.2.2 HX10.out HV12.out rfl (HAD.out.1)
  refine (near_ok D10.out D12.out HB10.out (HB12.out.mono (K' := ((KK + KK) + 2 * (KK + 1074 + (KK + 1074) + KK + KK) + 1)) (E' := ((KK + KK) + 3 * (KK + 1074 + (KK + 1074) + KK + KK) + 1)) (by omega) (by omega)) (by have := HK.out; omega) HNR.out.1 HNR.out.2 (TD.out.below hbw)).mono ?_
  rintro e v20 ⟨rfl, hb20⟩
  replace Xsi : Hid _ := Xsi.out.below hb20
  replace Xci : Hid _ := Xci.out.below hb20
  replace Xsj : Hid _ := Xsj.out.below hb20
  replace Xcj : Hid _ := Xcj.out.below hb20
  replace Xsc : Hid _ := Xsc.out.below hb20
  replace Xcs : Hid _ := Xcs.out.below hb20
  replace Xcc : Hid _ := Xcc.out.below hb20
  replace Xss : Hid _ := Xss.out.below hb20
  replace Xless : Hid _ := Xless.out.below hb20
  replace Xmore : Hid _ := Xmore.out.below hb20
  replace Xsd : Hid _ := Xsd.out.below hb20
  replace Xcd : Hid _ := Xcd.out.below hb20
  replace D2 : Hid _ := D2.out.below hb20
  replace D3 : Hid _ := D3.out.below hb20
  replace D4 : Hid _ := D4.out.below hb20
  replace D5 : Hid _ := D5.out.below hb20
  replace D6 : Hid _ := D6.out.below hb20
  replace D7 : Hid _ := D7.out.below hb20
  replace D8 : Hid _ := D8.out.below hb20
  replace D9 : Hid _ := D9.out.below hb20
  replace D10 : Hid _ := D10.out.below hb20
  replace D11 : Hid _ := D11.out.below hb20
  replace D12 : Hid _ := D12.out.below hb20
  replace D13 : Hid _ := D13.out.below hb20
  replace hbw := Below.on hbw hb20
  clear hb20
  clear HNR
  obtain ⟨cmore0, cmore1, cmore2, fmore0, fmore1, fmore2⟩ := Xmore.out
  have hnemore : gmore < v20.heap.size := World.block_lt_of_cell? v20 _ cmore0
  obtain ⟨ccd0, ccd1, ccd2, fcd0, fcd1, fcd2⟩ := Xcd.out
  have hnecd : gcd < v20.heap.size := World.block_lt_of_cell? v20 _ ccd0
  go_wp2_with fail
  clear cmore0 cmore1 cmore2 fmore0 fmore1 fmore2 hnemore
  clear ccd0 ccd1 ccd2 fcd0 fcd1 fcd2 hnecd
  have HNR : Hid (-dv 1 (-100) ≤ dv z11 e11 - dv z13 e13 ∧ dv z11 e11 - dv z13 e13 ≤ dv 1 (-100)) := near_in HK.out.2.1 HK.out.2.2 HX11.out HV13.out rfl (HAD.out.2.1)
  refine (near_ok D11.out D13.out HB11.out (HB13.out.mono (K' := ((KK + KK) + 2 * (KK + 1074 + (KK + 1074) + KK + KK) + 1)) (E' := ((KK + KK) + 3 * (KK + 1074 + (KK + 1074) + KK + KK) + 1)) (by omega) (by omega)) (by have := HK.out; omega) HNR.out.1 HNR.out.2 (TD.out.below hbw)).mono ?_
  rintro e v21 ⟨rfl, hb21⟩
  replace Xsi : Hid _ := Xsi.out.below hb21
  replace Xci : Hid _ := Xci.out.below hb21
  replace Xsj : Hid _ := Xsj.out.below hb21
  replace Xcj : Hid _ := Xcj.out.below hb21
  replace Xsc : Hid _ := Xsc.out.below hb21
  replace Xcs : Hid _ := Xcs.out.below hb21
  replace Xcc : Hid _ := Xcc.out.below hb21
  replace Xss : Hid _ := Xss.out.below hb21
  replace Xless : Hid _ := Xless.out.below hb21
  replace Xmore : Hid _ := Xmore.out.below hb21
  replace Xsd : Hid _ := Xsd.out.below hb21
  replace Xcd : Hid _ := Xcd.out.below hb21
  replace D2 : Hid _ := D2.out.below hb21
  replace D3 : Hid _ := D3.out.below hb21
  replace D4 : Hid _ := D4.out.below hb21
  replace D5 : Hid _ := D5.out.below hb21
  replace D6 : Hid _ := D6.out.below hb21
  replace D7 : Hid _ := D7.out.below hb21
  replace D8 : Hid _ := D8.out.below hb21
  replace D9 : Hid _ := D9.out.below hb21
  replace D10 : Hid _ := D10.out.below hb21
  replace D11 : Hid _ := D11.out.below hb21
  replace D12 : Hid _ := D12.out.below hb21
  replace D13 : Hid _ := D13.out.below hb21
  replace hbw := Below.on hbw hb21
  clear hb21
  clear HNR
  by_cases hij : 52 < i + j
  · have wa1 : wrap64 ((i : Int) + (j : Int)) = ((i + j : Nat) : Int) := by have := HI.out; simp only [wrap64]; omega
    have wa3 : decide ((52 : Int) < ((i + j : Nat) : Int)) = true := decide_eq_true (by omega)
    have wa4 : (52 : Int) < (i : Int) + (j : Int) := by omega
    clear hij
    go_wp2_with fail
    go_ret
    exact ⟨rfl, hbw⟩
  obtain ⟨l, hl⟩ : ∃ l, l = i + j := ⟨_, rfl⟩
  have HLI : Hid (l = i + j ∧ l < 53) := ⟨hl, by omega⟩
  have wa1 : wrap64 ((i : Int) + (j : Int)) = (l : Int) := by have := HI.out; simp only [wrap64]; omega
  have wa2 : IntKind.i64.wrap ((i : Int) + (j : Int)) = (l : Int) := by have := HI.out; simp [IntKind.wrap, IntKind.signed, IntKind.bits]; omega
  have wa3 : ¬ (52 : Int) < (l : Int) := by omega
  have HA2 := Hid.mk9 (HAD.out.2.2 (by omega))
  rw [← hl] at HA2
  clear hij hl HAD
  obtain ⟨csc0, csc1, csc2, fsc0, fsc1, fsc2⟩ := Xsc.out
  have hnesc : gsc < v21.heap.size := World.block_lt_of_cell? v21 _ csc0
  obtain ⟨ccs0, ccs1, ccs2, fcs0, fcs1, fcs2⟩ := Xcs.out
  have hnecs : gcs < v21.heap.size := World.block_lt_of_cell? v21 _ ccs0
  go_wp2_with fail
  clear csc0 csc1 csc2 fsc0 fsc1 fsc2 hnesc
  clear ccs0 ccs1 ccs2 fcs0 fcs1 fcs2 hnecs
  refine (dadd_b D6.out D7.out HB6.out HB7.out (by have := HK.out; omega) (TD.out.below hbw)).mono ?_
  rintro en v14 ⟨v, z14, e14, rfl, hv, hB14, hv14, hb14⟩
  obtain ⟨s14, p14, m14, rfl, hd14⟩ := hv.dn hB14.fm
  clear hv
  replace Xsi : Hid _ := Xsi.out.below hb14
  replace Xci : Hid _ := Xci.out.below hb14
  replace Xsj : Hid _ := Xsj.out.below hb14
  replace Xcj : Hid _ := Xcj.out.below hb14
  replace Xsc : Hid _ := Xsc.out.below hb14
  replace Xcs : Hid _ := Xcs.out.below hb14
  replace Xcc : Hid _ := Xcc.out.below hb14
  replace Xss : Hid _ := Xss.out.below hb14
  replace Xless : Hid _ := Xless.out.below hb14
  replace Xmore : Hid _ := Xmore.out.below hb14
  replace Xsd : Hid _ := Xsd.out.below hb14
  replace Xcd : Hid _ := Xcd.out.below hb14
  replace D2 : Hid _ := D2.out.below hb14
  replace D3 : Hid _ := D3.out.below hb14
  replace D4 : Hid _ := D4.out.below hb14
  replace D5 : Hid _ := D5.out.below hb14
  replace D6 : Hid _ := D6.out.below hb14
  replace D7 : Hid _ := D7.out.below hb14
  replace D8 : Hid _ := D8.out.below hb14
  replace D9 : Hid _ := D9.out.below hb14
  replace D10 : Hid _ := D10.out.below hb14
  replace D11 : Hid _ := D11.out.below hb14
  replace D12 : Hid _ := D12.out.below hb14
  replace D13 : Hid _ := D13.out.below hb14
  replace hbw := Below.on hbw hb14
  clear hb14
  have D14 : Hid (DN v14 s14 p14 m14 m14 e14 z14) := hd14
  have HV14 := Hid.mk9 hv14
  have HB14 := Hid.mk9 hB14
  clear hd14 hv14 hB14
  have HX14 : Hid (dv z14 e14 = dv (sI i * cI j + cI i * sI j) (-2148)) := by show _ = _; rw [HV14.out, HX6.out, HX7.out, ← dv_add]
  clear HV14
  obtain ⟨ccc0, ccc1, ccc2, fcc0, fcc1, fcc2⟩ := Xcc.out
  have hnecc : gcc < v14.heap.size := World.block_lt_of_cell? v14 _ ccc0
  obtain ⟨css0, css1, css2, fss0, fss1, fss2⟩ := Xss.out
  have hness : gss < v14.heap.size := World.block_lt_of_cell? v14 _ css0
  go_wp2_with fail
  clear ccc0 ccc1 ccc2 fcc0 fcc1 fcc2 hnecc
  clear css0 css1 css2 fss0 fss1 fss2 hness
  have Xsum0 : Hid (B3q (v14.alloc (.cells #[.bool s14, .slice p14 m14 m14, .int .i64 e14] 33)) v14.heap.size (.bool s14) (.slice p14 m14 m14) (.int .i64 e14)) := B3q.new v14 _ _ _ _
  have hbn : Below v14.heap.size v14 (v14.alloc (.cells #[.bool s14, .slice p14 m14 m14, .int .i64 e14] 33)) := below1 v14 _
  generalize v14.alloc (.cells #[.bool s14, .slice p14 m14 m14, .int .i64 e14] 33) = W14 at *
  have HGsum : Hid (w.heap.size ≤ v14.heap.size) := hbw.size
  replace Xsi : Hid _ := Xsi.out.below hbn
  replace Xci : Hid _ := Xci.out.below hbn
  replace Xsj : Hid _ := Xsj.out.below hbn
  replace Xcj : Hid _ := Xcj.out.below hbn
  replace Xsc : Hid _ := Xsc.out.below hbn
  replace Xcs : Hid _ := Xcs.out.below hbn
  replace Xcc : Hid _ := Xcc.out.below hbn
  replace Xss : Hid _ := Xss.out.below hbn
  replace Xless : Hid _ := Xless.out.below hbn
  replace Xmore : Hid _ := Xmore.out.below hbn
  replace Xsd : Hid _ := Xsd.out.below hbn
  replace Xcd : Hid _ := Xcd.out.below hbn
  replace D2 : Hid _ := D2.out.below hbn
  replace D3 : Hid _ := D3.out.below hbn
  replace D4 : Hid _ := D4.out.below hbn
  replace D5 : Hid _ := D5.out.below hbn
  replace D6 : Hid _ := D6.out.below hbn
  replace D7 : Hid _ := D7.out.below hbn
  replace D8 : Hid _ := D8.out.below hbn
  replace D9 : Hid _ := D9.out.below hbn
  replace D10 : Hid _ := D10.out.below hbn
  replace D11 : Hid _ := D11.out.below hbn
  replace D12 : Hid _ := D12.out.below hbn
  replace D13 : Hid _ := D13.out.below hbn
  replace D14 : Hid _ := D14.out.below hbn
  replace hbw := Below.on hbw hbn
  clear hbn
  generalize v14.heap.size = gsum at *
  have Xsum := Xsum0
  clear Xsum0
  refine (dsub_b D8.out D9.out HB8.out HB9.out (by have := HK.out; omega) (TD.out.below hbw)).mono ?_
  rintro en v15 ⟨v, z15, e15, rfl, hv, hB15, hv15, hb15⟩
  obtain ⟨s15, p15, m15, rfl, hd15⟩ := hv.dn hB15.fm
  clear hv
  replace Xsi : Hid _ := Xsi.out.below hb15
  replace Xci : Hid _ := Xci.out.below hb15
  replace Xsj : Hid _ := Xsj.out.below hb15
  replace Xcj : Hid _ := Xcj.out.below hb15
  replace Xsc : Hid _ := Xsc.out.below hb15
  replace Xcs : Hid _ := Xcs.out.below hb15
  replace Xcc : Hid _ := Xcc.out.below hb15
  replace Xss : Hid _ := Xss.out.below hb15
  replace Xless : Hid _ := Xless.out.below hb15
  replace Xmore : Hid _ := Xmore.out.below hb15
  replace Xsd : Hid _ := Xsd.out.below hb15
  replace Xcd : Hid _ := Xcd.out.below hb15
  replace Xsum : Hid _ := Xsum.out.below hb15
  replace D2 : Hid _ := D2.out.below hb15
  replace D3 : Hid _ := D3.out.below hb15
  replace D4 : Hid _ := D4.out.below hb15
  replace D5 : Hid _ := D5.out.below hb15
  replace D6 : Hid _ := D6.out.below hb15
  replace D7 : Hid _ := D7.out.below hb15
  replace D8 : Hid _ := D8.out.below hb15
  replace D9 : Hid _ := D9.out.below hb15
  replace D10 : Hid _ := D10.out.below hb15
  replace D11 : Hid _ := D11.out.below hb15
  replace D12 : Hid _ := D12.out.below hb15
  replace D13 : Hid _ := D13.out.below hb15
  replace D14 : Hid _ := D14.out.below hb15
  replace hbw := Below.on hbw hb15
  clear hb15
  have D15 : Hid (DN v15 s15 p15 m15 m15 e15 z15) := hd15
  have HV15 := Hid.mk9 hv15
  have HB15 := Hid.mk9 hB15
  clear hd15 hv15 hB15
  have HX15 : Hid (dv z15 e15 = dv (cI i * cI j - sI i * sI j) (-2148)) := by show _ = _; rw [HV15.out, HX8.out, HX9.out, Int.sub_eq_add_neg, ← dv_neg, ← dv_add, ← Int.sub_eq_add_neg]
  clear HV15
  go_wp2_with fail
  have Xrest0 : Hid (B3q (v15.alloc (.cells #[.bool s15, .slice p15 m15 m15, .int .i64 e15] 33)) v15.heap.size (.bool s15) (.slice p15 m15 m15) (.int .i64 e15)) := B3q.new v15 _ _ _ _
  have hbn : Below v15.heap.size v15 (v15.alloc (.cells #[.bool s15, .slice p15 m15 m15, .int .i64 e15] 33)) := below1 v15 _
  generalize v15.alloc (.cells #[.bool s15, .slice p15 m15 m15, .int .i64 e15] 33) = W15 at *
  have HGrest : Hid (w.heap.size ≤ v15.heap.size) := hbw.size
  replace Xsi : Hid _ := Xsi.out.below hbn
  replace Xci : Hid _ := Xci.out.below hbn
  replace Xsj : Hid _ := Xsj.out.below hbn
  replace Xcj : Hid _ := Xcj.out.below hbn
  replace Xsc : Hid _ := Xsc.out.below hbn
  replace Xcs : Hid _ := Xcs.out.below hbn
  replace Xcc : Hid _ := Xcc.out.below hbn
  replace Xss : Hid _ := Xss.out.below hbn
  replace Xless : Hid _ := Xless.out.below hbn
  replace Xmore : Hid _ := Xmore.out.below hbn
  replace Xsd : Hid _ := Xsd.out.below hbn
  replace Xcd : Hid _ := Xcd.out.below hbn
  replace Xsum : Hid _ := Xsum.out.below hbn
  replace D2 : Hid _ := D2.out.below hbn
  replace D3 : Hid _ := D3.out.below hbn
  replace D4 : Hid _ := D4.out.below hbn
  replace D5 : Hid _ := D5.out.below hbn
  replace D6 : Hid _ := D6.out.below hbn
  replace D7 : Hid _ := D7.out.below hbn
  replace D8 : Hid _ := D8.out.below hbn
  replace D9 : Hid _ := D9.out.below hbn
  replace D10 : Hid _ := D10.out.below hbn
  replace D11 : Hid _ := D11.out.below hbn
  replace D12 : Hid _ := D12.out.below hbn
  replace D13 : Hid _ := D13.out.below hbn
  replace D14 : Hid _ := D14.out.below hbn
  replace D15 : Hid _ := D15.out.below hbn
  replace hbw := Below.on hbw hbn
  clear hbn
  generalize v15.heap.size = grest at *
  have Xrest := Xrest0
  clear Xrest0
  refine (values_ok l HLI.out.2 _ (TB.out.below hbw) (TD.out.below hbw)).mono ?_
  rintro en v16 ⟨s16, p16, m16, z16, e16, s17, p17, m17, z17, e17, rfl, hd16, hd17, hv16, hv17, hb16⟩
  replace Xsi : Hid _ := Xsi.out.below hb16
  replace Xci : Hid _ := Xci.out.below hb16
  replace Xsj : Hid _ := Xsj.out.below hb16
  replace Xcj : Hid _ := Xcj.out.below hb16
  replace Xsc : Hid _ := Xsc.out.below hb16
  replace Xcs : Hid _ := Xcs.out.below hb16
  replace Xcc : Hid _ := Xcc.out.below hb16
  replace Xss : Hid _ := Xss.out.below hb16
  replace Xless : Hid _ := Xless.out.below hb16
  replace Xmore : Hid _ := Xmore.out.below hb16
  replace Xsd : Hid _ := Xsd.out.below hb16
  replace Xcd : Hid _ := Xcd.out.below hb16
  replace Xsum : Hid _ := Xsum.out.below hb16
  replace Xrest : Hid _ := Xrest.out.below hb16
  replace D2 : Hid _ := D2.out.below hb16
  replace D3 : Hid _ := D3.out.below hb16
  replace D4 : Hid _ := D4.out.below hb16
  replace D5 : Hid _ := D5.out.below hb16
  replace D6 : Hid _ := D6.out.below hb16
  replace D7 : Hid _ := D7.out.below hb16
  replace D8 : Hid _ := D8.out.below hb16
  replace D9 : Hid _ := D9.out.below hb16
  replace D10 : Hid _ := D10.out.below hb16
  replace D11 : Hid _ := D11.out.below hb16
  replace D12 : Hid _ := D12.out.below hb16
  replace D13 : Hid _ := D13.out.below hb16
  replace D14 : Hid _ := D14.out.below hb16
  replace D15 : Hid _ := D15.out.below hb16
  replace hbw := Below.on hbw hb16
  clear hb16
  have D16 : Hid (DN v16 s16 p16 m16 m16 e16 z16) := hd16.dn
  have HV16 := Hid.mk9 hv16
  have HB16 : Hid (DB z16 e16 KK (KK + 1074)) := db_of hd16.fm hv16 (HSM.out (l) HLI.out.2).1 (by have := HK.out; omega)
  have D17 : Hid (DN v16 s17 p17 m17 m17 e17 z17) := hd17.dn
  have HV17 := Hid.mk9 hv17
  have HB17 : Hid (DB z17 e17 KK (KK + 1074)) := db_of hd17.fm hv17 (HSM.out (l) HLI.out.2).2 (by have := HK.out; omega)
  clear hd16 hd17 hv16 hv17
  obtain ⟨csum0, csum1, csum2, fsum0, fsum1, fsum2⟩ := Xsum.out
  have hnesum : gsum < v16.heap.size := World.block_lt_of_cell? v16 _ csum0
  go_wp2_with fail
  clear csum0 csum1 csum2 fsum0 fsum1 fsum2 hnesum
  obtain ⟨W17, hW17⟩ : ∃ W9, W9 = ((v16.alloc (.cells #[.bool s16, .slice p16 m16 m16, .int .i64 e16] 33)).alloc (.cells #[.bool s17, .slice p17 m17 m17, .int .i64 e17] 33)) := ⟨_, rfl⟩
  have Xsk0 : Hid (B3q W17 (v16.heap.size) (.bool s16) (.slice p16 m16 m16) (.int .i64 e16)) := by rw [hW17]; exact ⟨by go_simp, by go_simp, by go_simp, by go_simp, by go_simp, by go_simp⟩
  have Xck0 : Hid (B3q W17 (v16.heap.size + 1) (.bool s17) (.slice p17 m17 m17) (.int .i64 e17)) := by rw [hW17]; exact ⟨by go_simp, by go_simp, by go_simp, by go_simp, by go_simp, by go_simp⟩
  have hbn : Below v16.heap.size v16 W17 := by rw [hW17]; exact below2 v16 _ _
  rw [← hW17]
  clear hW17
  obtain ⟨gck, hgck⟩ : ∃ g, g = v16.heap.size + 1 := ⟨_, rfl⟩
  have HGck : Hid (w.heap.size ≤ gck) := by rw [hgck]; have := hbw.size; show _ ≤ _; omega
  rw [← hgck] at Xck0
  try rw [← hgck]
  obtain ⟨gsk, hgsk⟩ : ∃ g, g = v16.heap.size := ⟨_, rfl⟩
  have HGsk : Hid (w.heap.size ≤ gsk) := by rw [hgsk]; have := hbw.size; show _ ≤ _; omega
  rw [← hgsk] at Xsk0
  try rw [← hgsk]
  clear hgsk hgck
  replace Xsi : Hid _ := Xsi.out.below hbn
  replace Xci : Hid _ := Xci.out.below hbn
  replace Xsj : Hid _ := Xsj.out.below hbn
  replace Xcj : Hid _ := Xcj.out.below hbn
  replace Xsc : Hid _ := Xsc.out.below hbn
  replace Xcs : Hid _ := Xcs.out.below hbn
  replace Xcc : Hid _ := Xcc.out.below hbn
  replace Xss : Hid _ := Xss.out.below hbn
  replace Xless : Hid _ := Xless.out.below hbn
  replace Xmore : Hid _ := Xmore.out.below hbn
  replace Xsd : Hid _ := Xsd.out.below hbn
  replace Xcd : Hid _ := Xcd.out.below hbn
  replace Xsum : Hid _ := Xsum.out.below hbn
  replace Xrest : Hid _ := Xrest.out.below hbn
  replace D2 : Hid _ := D2.out.below hbn
  replace D3 : Hid _ := D3.out.below hbn
  replace D4 : Hid _ := D4.out.below hbn
  replace D5 : Hid _ := D5.out.below hbn
  replace D6 : Hid _ := D6.out.below hbn
  replace D7 : Hid _ := D7.out.below hbn
  replace D8 : Hid _ := D8.out.below hbn
  replace D9 : Hid _ := D9.out.below hbn
  replace D10 : Hid _ := D10.out.below hbn
  replace D11 : Hid _ := D11.out.below hbn
  replace D12 : Hid _ := D12.out.below hbn
  replace D13 : Hid _ := D13.out.below hbn
  replace D14 : Hid _ := D14.out.below hbn
  replace D15 : Hid _ := D15.out.below hbn
  replace D16 : Hid _ := D16.out.below hbn
  replace D17 : Hid _ := D17.out.below hbn
  replace hbw := Below.on hbw hbn
  clear hbn
  have Xsk := Xsk0
  clear Xsk0
  have Xck := Xck0
  clear Xck0
  have HNR : Hid (-dv 1 (-100) ≤ dv z14 e14 - dv z16 e16 ∧ dv z14 e14 - dv z16 e16 ≤ dv 1 (-100)) := near_in HK.out.2.1 HK.out.2.2 HX14.out HV16.out rfl (HA2.out.1)
  refine (near_ok D14.out D16.out HB14.out (HB16.out.mono (K' := ((KK + KK) + 2 * (KK + 1074 + (KK + 1074) + KK + KK) + 1)) (E' := ((KK + KK) + 3 * (KK + 1074 + (KK + 1074) + KK + KK) + 1)) (by omega) (by omega)) (by have := HK.out; omega) HNR.out.1 HNR.out.2 (TD.out.below hbw)).mono ?_
  rintro e v22 ⟨rfl, hb22⟩
  replace Xsi : Hid _ := Xsi.out.below hb22
  replace Xci : Hid _ := Xci.out.below hb22
  replace Xsj : Hid _ := Xsj.out.below hb22
  replace Xcj : Hid _ := Xcj.out.below hb22
  replace Xsc : Hid _ := Xsc.out.below hb22
  replace Xcs : Hid _ := Xcs.out.below hb22
  replace Xcc : Hid _ := Xcc.out.below hb22
  replace Xss : Hid _ := Xss.out.below hb22
  replace Xless : Hid _ := Xless.out.below hb22
  replace Xmore : Hid _ := Xmore.out.below hb22
  replace Xsd : Hid _ := Xsd.out.below hb22
  replace Xcd : Hid _ := Xcd.out.below hb22
  replace Xsum : Hid _ := Xsum.out.below hb22
  replace Xrest : Hid _ := Xrest.out.below hb22
  replace Xsk : Hid _ := Xsk.out.below hb22
  replace Xck : Hid _ := Xck.out.below hb22
  replace D2 : Hid _ := D2.out.below hb22
  replace D3 : Hid _ := D3.out.below hb22
  replace D4 : Hid _ := D4.out.below hb22
  replace D5 : Hid _ := D5.out.below hb22
  replace D6 : Hid _ := D6.out.below hb22
  replace D7 : Hid _ := D7.out.below hb22
  replace D8 : Hid _ := D8.out.below hb22
  replace D9 : Hid _ := D9.out.below hb22
  replace D10 : Hid _ := D10.out.below hb22
  replace D11 : Hid _ := D11.out.below hb22
  replace D12 : Hid _ := D12.out.below hb22
  replace D13 : Hid _ := D13.out.below hb22
  replace D14 : Hid _ := D14.out.below hb22
  replace D15 : Hid _ := D15.out.below hb22
  replace D16 : Hid _ := D16.out.below hb22
  replace D17 : Hid _ := D17.out.below hb22
  replace hbw := Below.on hbw hb22
  clear hb22
  clear HNR
  obtain ⟨crest0, crest1, crest2, frest0, frest1, frest2⟩ := Xrest.out
  have hnerest : grest < v22.heap.size := World.block_lt_of_cell? v22 _ crest0
  obtain ⟨cck0, cck1, cck2, fck0, fck1, fck2⟩ := Xck.out
  have hneck : gck < v22.heap.size := World.block_lt_of_cell? v22 _ cck0
  go_wp2_with fail
  clear crest0 crest1 crest2 frest0 frest1 frest2 hnerest
  clear cck0 cck1 cck2 fck0 fck1 fck2 hneck
  have HNR : Hid (-dv 1 (-100) ≤ dv z15 e15 - dv z17 e17 ∧ dv z15 e15 - dv z17 e17 ≤ dv 1 (-100)) := near_in HK.out.2.1 HK.out.2.2 HX15.out HV17.out rfl (HA2.out.2)
  refine (near_ok D15.out D17.out HB15.out (HB17.out.mono (K' := ((KK + KK) + 2 * (KK + 1074 + (KK + 1074) + KK + KK) + 1)) (E' := ((KK + KK) + 3 * (KK + 1074 + (KK + 1074) + KK + KK) + 1)) (by omega) (by omega)) (by have := HK.out; omega) HNR.out.1 HNR.out.2 (TD.out.below hbw)).mono ?_
  rintro e v23 ⟨rfl, hb23⟩
  replace Xsi : Hid _ := Xsi.out.below hb23
  replace Xci : Hid _ := Xci.out.below hb23
  replace Xsj : Hid _ := Xsj.out.below hb23
  replace Xcj : Hid _ := Xcj.out.below hb23
  replace Xsc : Hid _ := Xsc.out.below hb23
  replace Xcs : Hid _ := Xcs.out.below hb23
  replace Xcc : Hid _ := Xcc.out.below hb23
  replace Xss : Hid _ := Xss.out.below hb23
  replace Xless : Hid _ := Xless.out.below hb23
  replace Xmore : Hid _ := Xmore.out.below hb23
  replace Xsd : Hid _ := Xsd.out.below hb23
  replace Xcd : Hid _ := Xcd.out.below hb23
  replace Xsum : Hid _ := Xsum.out.below hb23
  replace Xrest : Hid _ := Xrest.out.below hb23
  replace Xsk : Hid _ := Xsk.out.below hb23
  replace Xck : Hid _ := Xck.out.below hb23
  replace D2 : Hid _ := D2.out.below hb23
  replace D3 : Hid _ := D3.out.below hb23
  replace D4 : Hid _ := D4.out.below hb23
  replace D5 : Hid _ := D5.out.below hb23
  replace D6 : Hid _ := D6.out.below hb23
  replace D7 : Hid _ := D7.out.below hb23
  replace D8 : Hid _ := D8.out.below hb23
  replace D9 : Hid _ := D9.out.below hb23
  replace D10 : Hid _ := D10.out.below hb23
  replace D11 : Hid _ := D11.out.below hb23
  replace D12 : Hid _ := D12.out.below hb23
  replace D13 : Hid _ := D13.out.below hb23
  replace D14 : Hid _ := D14.out.below hb23
  replace D15 : Hid _ := D15.out.below hb23
  replace D16 : Hid _ := D16.out.below hb23
  replace D17 : Hid _ := D17.out.below hb23
  replace hbw := Below.on hbw hb23
  clear hb23
  clear HNR
  go_wp2_with fail
  go_ret
  exact ⟨rfl, hbw⟩
theorem sintableAdds_walk (i j : Int) {w : World} (hT : TabT w ∧ Tab w) : Calls Tryd.prog 4 #[.int .i64 i, .int .i64 j] w fun en w' => en = .returned (.bool true) ∧ Below w.heap.size w w' := by
  by_cases h : i < 0 ∨ j < 0 ∨ 52 < i ∨ 52 < j
  · exact sintableAdds_o i j h w hT.1 hT.2
  · obtain ⟨a, rfl⟩ := Int.eq_ofNat_of_zero_le (show 0 ≤ i by omega)
    obtain ⟨b, rfl⟩ := Int.eq_ofNat_of_zero_le (show 0 ≤ j by omega)
    exact sintableAdds_i a b (by omega) (by omega) w hT.1 hT.2
end Go.Proofs.YtabmdpfmlnnpnaaDoor
