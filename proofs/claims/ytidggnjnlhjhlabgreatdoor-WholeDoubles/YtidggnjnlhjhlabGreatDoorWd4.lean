import Derived.Test.YtidggnjnlhjhlabGreatDoorJ16
import Derived.Test.YtidggnjnlhjhlabGreatDoorJ15
import Derived.Test.YtidggnjnlhjhlabGreatDoorJ12
namespace Go.Proofs.YtidggnjnlhjhlabGreatDoor
open Go.RowKit Go.Shelf
set_option maxRecDepth 20000
set_option maxHeartbeats 0
theorem Mid.k {b : Nat} (h : Mid b) : b % 9223372036854775808 ≤ 9088264048033660928 := by
  have := h.2
  omega
theorem mid_prod {x y : Nat} (h : Mid x) (k : Mid y) : ux x * ux y = 0 ∨ ((∀ K, K = 1188 → 2 ^ K ≤ (ux x * ux y).natAbs) ∧ ∀ K, K = 3169 → (ux x * ux y).natAbs ≤ 2 ^ K) := by
  by_cases h0 : ux x * ux y = 0
  · exact .inl h0
  · right
    have n1 : ux x ≠ 0 := fun q => h0 (by rw [q, Int.zero_mul])
    have n2 : ux y ≠ 0 := fun q => h0 (by rw [q, Int.mul_zero])
    obtain ⟨L, hL⟩ : ∃ L, L = 974 := ⟨_, rfl⟩
    obtain ⟨R, hR⟩ : ∃ R, R = 1174 := ⟨_, rfl⟩
    rw [Int.natAbs_mul]
    constructor
    · intro K hK
      refine Nat.le_trans ?_ (Nat.mul_le_mul (h.low hL n1) (k.low hL n2))
      rw [← Nat.pow_add]
      exact Nat.pow_le_pow_right (by decide) (by omega)
    · intro K hK
      refine Nat.le_trans (Nat.mul_le_mul (h.high hR) (k.high hR)) ?_
      rw [← Nat.pow_add]
      exact Nat.pow_le_pow_right (by decide) (by omega)
theorem dv_upw {A Z : Int} {c : Nat} (hc : c ≤ 5000) (h : A * ((2 ^ c : Nat) : Int) = Z) : dv A (-1074) = dv Z (-1074 - (c : Int)) := by
  rw [dv_shift (e := -1074) (f := -1074 - (c : Int)) (by omega) (by omega), show (-1074 - (-1074 - (c : Int))).toNat = c by omega, h]
theorem sq_diff (x y : Int) : x * x - y * y = (x + y) * (x - y) := by
  rw [Int.add_mul, Int.mul_sub, Int.mul_sub, Int.mul_comm y x]
  omega
theorem cmp_neg20 {h l : Nat} {z e X : Int} (d : DdF h l) (hX : ux h + ux l = X) (hv : dv z e = dv X (-1074)) : cmpD h l (flipS h) (flipS l) = cmpI (dv z e) (dv (-z) e) := by
  unfold cmpD
  rw [ddB_iff.2 d, ddB_iff.2 d.neg, cmpI_dv (X := X) (Y := -X) hv (by rw [dv_neg, hv, ← dv_neg]), hX, (flip_ux d.hi.lt).1, (flip_ux d.lo.lt).1, show -ux h + -ux l = -X by omega]
  rfl
theorem dv_sub2 (a b e : Int) : dv a e - dv b e = dv (a - b) e := by
  unfold dv
  rw [Int.sub_mul]
theorem nr_same {a x : Int} {k : Nat} (h : a = x) : (a * ((2 ^ 0 : Nat) : Int) - x).natAbs * 2 ^ k ≤ x.natAbs := by
  rw [h, show ((2 ^ 0 : Nat) : Int) = 1 from rfl, Int.mul_one, Int.sub_self, Int.natAbs_zero, Nat.zero_mul]
  exact Nat.zero_le _
theorem wnear_same {h l gs : Nat} (d : DdF h l) {p : Option Addr} {m : Nat} {s : Bool} {y f X : Int} {k : Nat} {w : World} (hy : DN w s p m m f y) (hyb : DB y f 12000 30000) (hvy : dv y f = dv X (-1074 - ((0 : Nat) : Int))) (hk : k ≤ 5000) (he : ux h + ux l = X) (hs : SBx w gs) (hT : Tab w) :
    Calls Tryz.prog 16 #[.pointer (some ⟨gs, 0, none⟩), .agg #[Fv h, Fv l], DV s p m m f, .int .i64 k] w fun en w' => en = .returned (.bool true) ∧ Below w.heap.size w w' := wnear d hy hyb hvy (by decide) hk (nr_same he) hs hT
theorem tp35_a {h l : Nat} (k : SPR 4613937818241073152 h l) : h = 4613937818241073152 ∧ l = 0 := by
  obtain ⟨c, d, F1, F2, F3, F4⟩ := k
  obtain rfl : c = 4735535008230408192 := F1.some _ (by decide +kernel)
  obtain rfl : d = 4735535008180076544 := F2.some _ (by decide +kernel)
  obtain rfl : h = 4613937818241073152 := F3.some _ (by decide +kernel)
  obtain rfl : l = 0 := F4.some _ (by decide +kernel)
  exact ⟨rfl, rfl⟩
theorem tp35_b {h l : Nat} (k : SPR 4617315517961601024 h l) : h = 4617315517961601024 ∧ l = 0 := by
  obtain ⟨c, d, F1, F2, F3, F4⟩ := k
  obtain rfl : c = 4738912707942547456 := F1.some _ (by decide +kernel)
  obtain rfl : d = 4738912707900604416 := F2.some _ (by decide +kernel)
  obtain rfl : h = 4617315517961601024 := F3.some _ (by decide +kernel)
  obtain rfl : l = 0 := F4.some _ (by decide +kernel)
  exact ⟨rfl, rfl⟩
theorem tp35 {p e : Nat} (k : TPR 4613937818241073152 4617315517961601024 p e) : p = 4624633867356078080 ∧ e = 0 := by
  obtain ⟨ah, al, bh, bl, x1, e1, x2, e2, x3, e3, x4, F1, S1, S2, F2, F3, F4, F5, F6, F7, F8, F9⟩ := k
  obtain ⟨rfl, rfl⟩ := tp35_a S1
  obtain ⟨rfl, rfl⟩ := tp35_b S2
  obtain rfl : p = 4624633867356078080 := F1.some _ (by decide +kernel)
  obtain rfl : x1 = 4624633867356078080 := F2.some _ (by decide +kernel)
  obtain rfl : e1 = 0 := F3.some _ (by decide +kernel)
  obtain rfl : x2 = 0 := F4.some _ (by decide +kernel)
  obtain rfl : e2 = 0 := F5.some _ (by decide +kernel)
  obtain rfl : x3 = 0 := F6.some _ (by decide +kernel)
  obtain rfl : e3 = 0 := F7.some _ (by decide +kernel)
  obtain rfl : x4 = 0 := F8.some _ (by decide +kernel)
  obtain rfl : e = 0 := F9.some _ (by decide +kernel)
  exact ⟨rfl, rfl⟩
theorem wholeDoubles_w {a b : Nat} (ha : a < 18446744073709551616) (hb : b < 18446744073709551616) (w : World) (hT : Tab w) :
    Calls Tryz.prog 3 #[.int .u64 (a : Int), .int .u64 (b : Int)] w fun en w' => en = .returned (.bool true) ∧ Below w.heap.size w w' := by
  have hSF : ∀ (w : World) (a : Addr) (b : Nat), (store a (Fv b)).run Tryz.prog w = stored Tryz.prog w a (Fv b) .plain := stF
  have TB : Hid (Tab w) := hT
  have HL : Hid (a < 18446744073709551616 ∧ b < 18446744073709551616) := ⟨ha, hb⟩
  have hbw : Below w.heap.size w w := Below.refl _ _
  have or1 : FloatKind.f64.format.order 4624633867356078080 4624633867356078080 = some .eq := by decide +kernel
  have or2 : FloatKind.f64.format.order 0 0 = some .eq := by decide +kernel
  clear hT ha hb
  go_enter Tryz.func3, Tryz.ntmps3
  go_wp2_with fail
  refine (twoProd 4613937818241073152 4617315517961601024 _).mono ?_
  rintro e9 v9 ⟨s9, r9, n9, rfl, rfl, hR⟩
  obtain ⟨rfl, rfl⟩ := tp35 hR
  clear hR
  have hbr := bDrewN (Below.refl w.heap.size w) n9
  generalize w.drewN n9 = V1 at *
  replace hbw := Below.on hbw hbr
  clear hbr
  go_wp2_with fail
  have SB : Hid (SBx (V1.alloc (.cells #[.bool false] 27)) V1.heap.size) := ⟨by go_simp⟩
  have hbn : Below V1.heap.size V1 (V1.alloc (.cells #[.bool false] 27)) := below1 V1 _
  have hbw' := Below.on hbw hbn
  generalize (V1.alloc (.cells #[.bool false] 27)) = Ws at *
  clear hbw hbn
  have hbw := hbw'
  clear hbw'
  generalize V1.heap.size = gs at *
  refine (wmid a HL.out.1 _).mono ?_
  rintro e2 v2 ⟨x, rfl, hm2, hb2⟩
  have HX := Hid.mk9 hm2
  clear hm2
  replace SB : Hid (SBx v2 gs) := SB.out.below hb2
  replace hbw := Below.on hbw hb2
  clear hb2
  go_wp2_with fail
  refine (wmid b HL.out.2 _).mono ?_
  rintro e3 v3 ⟨y, rfl, hm3, hb3⟩
  have HY := Hid.mk9 hm3
  clear hm3
  replace SB : Hid (SBx v3 gs) := SB.out.below hb3
  replace hbw := Below.on hbw hb3
  clear hb3
  go_wp2_with fail
  refine (wnum (b := x) HX.out.fin _ (TB.out.below hbw)).mono ?_
  rintro e9 v4 ⟨s4, p4, m4, z4, e4, rfl, hd4, hv4, hdb4, hb4⟩
  have HV4 := Hid.mk9 (And.intro hv4 hdb4)
  clear hv4 hdb4
  replace SB : Hid (SBx v4 gs) := SB.out.below hb4
  replace hbw := Below.on hbw hb4
  clear hb4
  have D4 : Hid (DN v4 s4 p4 m4 m4 e4 z4) := hd4
  clear hd4
  go_wp2_with fail
  have Xxd0 : Hid (B3q (v4.alloc (.cells #[.bool s4, .slice p4 m4 m4, .int .i64 e4] 33)) v4.heap.size (.bool s4) (.slice p4 m4 m4) (.int .i64 e4)) := B3q.new v4 _ _ _ _
  have hbn : Below v4.heap.size v4 (v4.alloc (.cells #[.bool s4, .slice p4 m4 m4, .int .i64 e4] 33)) := below1 v4 _
  generalize v4.alloc (.cells #[.bool s4, .slice p4 m4 m4, .int .i64 e4] 33) = Wxd at *
  have HGxd : Hid (w.heap.size ≤ v4.heap.size) := hbw.size
  replace SB : Hid (SBx Wxd gs) := SB.out.below hbn
  replace D4 : Hid _ := D4.out.below hbn
  replace hbw := Below.on hbw hbn
  clear hbn
  generalize v4.heap.size = gxd at *
  have Xxd := Xxd0
  clear Xxd0
  go_wp2_with fail
  refine (wnum (b := y) HY.out.fin _ (TB.out.below hbw)).mono ?_
  rintro e9 v5 ⟨s5, p5, m5, z5, e5, rfl, hd5, hv5, hdb5, hb5⟩
  have HV5 := Hid.mk9 (And.intro hv5 hdb5)
  clear hv5 hdb5
  replace Xxd : Hid _ := Xxd.out.below hb5
  replace SB : Hid (SBx v5 gs) := SB.out.below hb5
  replace D4 : Hid _ := D4.out.below hb5
  replace hbw := Below.on hbw hb5
  clear hb5
  have D5 : Hid (DN v5 s5 p5 m5 m5 e5 z5) := hd5
  clear hd5
  obtain ⟨cxd0, cxd1, cxd2, fxd0, fxd1, fxd2⟩ := Xxd.out
  have hnexd : gxd < v5.heap.size := World.block_lt_of_cell? v5 _ cxd0
  go_wp2_with fail
  clear cxd0 cxd1 cxd2 fxd0 fxd1 fxd2 hnexd
  have Xyd0 : Hid (B3q (v5.alloc (.cells #[.bool s5, .slice p5 m5 m5, .int .i64 e5] 33)) v5.heap.size (.bool s5) (.slice p5 m5 m5) (.int .i64 e5)) := B3q.new v5 _ _ _ _
  have hbn : Below v5.heap.size v5 (v5.alloc (.cells #[.bool s5, .slice p5 m5 m5, .int .i64 e5] 33)) := below1 v5 _
  generalize v5.alloc (.cells #[.bool s5, .slice p5 m5 m5, .int .i64 e5] 33) = Wyd at *
  have HGyd : Hid (w.heap.size ≤ v5.heap.size) := hbw.size
  replace Xxd : Hid _ := Xxd.out.below hbn
  replace SB : Hid (SBx Wyd gs) := SB.out.below hbn
  replace D4 : Hid _ := D4.out.below hbn
  replace D5 : Hid _ := D5.out.below hbn
  replace hbw := Below.on hbw hbn
  clear hbn
  generalize v5.heap.size = gyd at *
  have Xyd := Xyd0
  clear Xyd0
  obtain ⟨cxd0, cxd1, cxd2, fxd0, fxd1, fxd2⟩ := Xxd.out
  have hnexd : gxd < Wyd.heap.size := World.block_lt_of_cell? Wyd _ cxd0
  obtain ⟨cyd0, cyd1, cyd2, fyd0, fyd1, fyd2⟩ := Xyd.out
  have hneyd : gyd < Wyd.heap.size := World.block_lt_of_cell? Wyd _ cyd0
  go_wp2_with fail
  clear cxd0 cxd1 cxd2 fxd0 fxd1 fxd2 hnexd
  clear cyd0 cyd1 cyd2 fyd0 fyd1 fyd2 hneyd
  refine (sadd (K := 128) (E := 1430) D4.out D5.out HV4.out.2 HV5.out.2 (by decide) (TB.out.below hbw)).mono ?_
  rintro e9 v6 ⟨z6, e6, s6, p6, m6, rfl, hd6, hdb6, hdv6, hb6⟩
  have HV6 := Hid.mk9 (And.intro (w_add HV4.out.1 HV5.out.1 hdv6) hdb6)
  clear hdv6 hdb6
  replace Xxd : Hid _ := Xxd.out.below hb6
  replace Xyd : Hid _ := Xyd.out.below hb6
  replace SB : Hid (SBx v6 gs) := SB.out.below hb6
  replace D4 : Hid _ := D4.out.below hb6
  replace D5 : Hid _ := D5.out.below hb6
  replace hbw := Below.on hbw hb6
  clear hb6
  have D6 : Hid (DN v6 s6 p6 m6 m6 e6 z6) := hd6.dn
  clear hd6
  obtain ⟨cxd0, cxd1, cxd2, fxd0, fxd1, fxd2⟩ := Xxd.out
  have hnexd : gxd < v6.heap.size := World.block_lt_of_cell? v6 _ cxd0
  obtain ⟨cyd0, cyd1, cyd2, fyd0, fyd1, fyd2⟩ := Xyd.out
  have hneyd : gyd < v6.heap.size := World.block_lt_of_cell? v6 _ cyd0
  go_wp2_with fail
  clear cxd0 cxd1 cxd2 fxd0 fxd1 fxd2 hnexd
  clear cyd0 cyd1 cyd2 fyd0 fyd1 fyd2 hneyd
  have Xsm0 : Hid (B3q (v6.alloc (.cells #[.bool s6, .slice p6 m6 m6, .int .i64 e6] 33)) v6.heap.size (.bool s6) (.slice p6 m6 m6) (.int .i64 e6)) := B3q.new v6 _ _ _ _
  have hbn : Below v6.heap.size v6 (v6.alloc (.cells #[.bool s6, .slice p6 m6 m6, .int .i64 e6] 33)) := below1 v6 _
  generalize v6.alloc (.cells #[.bool s6, .slice p6 m6 m6, .int .i64 e6] 33) = Wsm at *
  have HGsm : Hid (w.heap.size ≤ v6.heap.size) := hbw.size
  replace Xxd : Hid _ := Xxd.out.below hbn
  replace Xyd : Hid _ := Xyd.out.below hbn
  replace SB : Hid (SBx Wsm gs) := SB.out.below hbn
  replace D4 : Hid _ := D4.out.below hbn
  replace D5 : Hid _ := D5.out.below hbn
  replace D6 : Hid _ := D6.out.below hbn
  replace hbw := Below.on hbw hbn
  clear hbn
  generalize v6.heap.size = gsm at *
  have Xsm := Xsm0
  clear Xsm0
  obtain ⟨cxd0, cxd1, cxd2, fxd0, fxd1, fxd2⟩ := Xxd.out
  have hnexd : gxd < Wsm.heap.size := World.block_lt_of_cell? Wsm _ cxd0
  obtain ⟨cyd0, cyd1, cyd2, fyd0, fyd1, fyd2⟩ := Xyd.out
  have hneyd : gyd < Wsm.heap.size := World.block_lt_of_cell? Wsm _ cyd0
  go_wp2_with fail
  clear cxd0 cxd1 cxd2 fxd0 fxd1 fxd2 hnexd
  clear cyd0 cyd1 cyd2 fyd0 fyd1 fyd2 hneyd
  refine (ssub (K := 128) (E := 1430) D4.out D5.out HV4.out.2 HV5.out.2 (by decide) (TB.out.below hbw)).mono ?_
  rintro e9 v7 ⟨z7, e7, s7, p7, m7, rfl, hd7, hdb7, hdv7, hb7⟩
  have HV7 := Hid.mk9 (And.intro (w_sub HV4.out.1 HV5.out.1 hdv7) hdb7)
  clear hdv7 hdb7
  replace Xxd : Hid _ := Xxd.out.below hb7
  replace Xyd : Hid _ := Xyd.out.below hb7
  replace Xsm : Hid _ := Xsm.out.below hb7
  replace SB : Hid (SBx v7 gs) := SB.out.below hb7
  replace D4 : Hid _ := D4.out.below hb7
  replace D5 : Hid _ := D5.out.below hb7
  replace D6 : Hid _ := D6.out.below hb7
  replace hbw := Below.on hbw hb7
  clear hb7
  have D7 : Hid (DN v7 s7 p7 m7 m7 e7 z7) := hd7.dn
  clear hd7
  go_wp2_with fail
  have Xdf0 : Hid (B3q (v7.alloc (.cells #[.bool s7, .slice p7 m7 m7, .int .i64 e7] 33)) v7.heap.size (.bool s7) (.slice p7 m7 m7) (.int .i64 e7)) := B3q.new v7 _ _ _ _
  have hbn : Below v7.heap.size v7 (v7.alloc (.cells #[.bool s7, .slice p7 m7 m7, .int .i64 e7] 33)) := below1 v7 _
  generalize v7.alloc (.cells #[.bool s7, .slice p7 m7 m7, .int .i64 e7] 33) = Wdf at *
  have HGdf : Hid (w.heap.size ≤ v7.heap.size) := hbw.size
  replace Xxd : Hid _ := Xxd.out.below hbn
  replace Xyd : Hid _ := Xyd.out.below hbn
  replace Xsm : Hid _ := Xsm.out.below hbn
  replace SB : Hid (SBx Wdf gs) := SB.out.below hbn
  replace D4 : Hid _ := D4.out.below hbn
  replace D5 : Hid _ := D5.out.below hbn
  replace D6 : Hid _ := D6.out.below hbn
  replace D7 : Hid _ := D7.out.below hbn
  replace hbw := Below.on hbw hbn
  clear hbn
  generalize v7.heap.size = gdf at *
  have Xdf := Xdf0
  clear Xdf0
  go_wp2_with fail
  refine (twoSum x y _).mono ?_
  rintro e9 v9 ⟨sh, sl, n9, rfl, rfl, hR⟩
  have HTS : Hid (DdF sh sl ∧ ux sh + ux sl = ux x + ux y) := by
    have q := hR.ok HX.out.1 HY.out.1 (by have := HX.out.k; omega) (by have := HY.out.k; omega)
    exact ⟨DdF.of_sm q.1 q.2.1 q.2.2, q.2.2⟩
  clear hR
  have hbr := bDrewN (Below.refl Wdf.heap.size Wdf) n9
  generalize Wdf.drewN n9 = V9 at *
  replace Xxd : Hid _ := Xxd.out.below hbr
  replace Xyd : Hid _ := Xyd.out.below hbr
  replace Xsm : Hid _ := Xsm.out.below hbr
  replace Xdf : Hid _ := Xdf.out.below hbr
  replace SB : Hid (SBx V9 gs) := SB.out.below hbr
  replace D4 : Hid _ := D4.out.below hbr
  replace D5 : Hid _ := D5.out.below hbr
  replace D6 : Hid _ := D6.out.below hbr
  replace D7 : Hid _ := D7.out.below hbr
  replace hbw := Below.on hbw hbr
  clear hbr
  go_wp2_with fail
  refine (twoProd x y _).mono ?_
  rintro e9 v10 ⟨ph, pl, n9, rfl, rfl, hR⟩
  have HTP : Hid (Fin64 ph ∧ Fin64 pl ∧ (ux ph + ux pl) * ((2 ^ OneE : Nat) : Int) = ux x * ux y) := by
    have q := hR.ok HX.out.1 HY.out.1 HX.out.k HY.out.k (mid_prod HX.out HY.out)
    exact ⟨q.1, q.2.1, q.2.2.1 _ rfl⟩
  clear hR
  have hbr := bDrewN (Below.refl V9.heap.size V9) n9
  generalize V9.drewN n9 = V10 at *
  replace Xxd : Hid _ := Xxd.out.below hbr
  replace Xyd : Hid _ := Xyd.out.below hbr
  replace Xsm : Hid _ := Xsm.out.below hbr
  replace Xdf : Hid _ := Xdf.out.below hbr
  replace SB : Hid (SBx V10 gs) := SB.out.below hbr
  replace D4 : Hid _ := D4.out.below hbr
  replace D5 : Hid _ := D5.out.below hbr
  replace D6 : Hid _ := D6.out.below hbr
  replace D7 : Hid _ := D7.out.below hbr
  replace hbw := Below.on hbw hbr
  clear hbr
  go_wp2_with fail
  refine (splitF x _).mono ?_
  rintro e9 v11 ⟨ch, cl, n9, rfl, rfl, hR⟩
  have HSP : Hid (Fin64 ch ∧ Fin64 cl ∧ ux ch + ux cl = ux x) := by
    obtain ⟨q1, q2, q3⟩ := hR.ok HX.out.1 HX.out.k
    refine ⟨q1, q2, ?_⟩
    rcases q3 with ⟨a1, a2, a3⟩ | ⟨i, q4⟩
    · rw [a1, a2, a3]; rfl
    · have := q4.eq; omega
  clear hR
  have hbr := bDrewN (Below.refl V10.heap.size V10) n9
  generalize V10.drewN n9 = V11 at *
  replace Xxd : Hid _ := Xxd.out.below hbr
  replace Xyd : Hid _ := Xyd.out.below hbr
  replace Xsm : Hid _ := Xsm.out.below hbr
  replace Xdf : Hid _ := Xdf.out.below hbr
  replace SB : Hid (SBx V11 gs) := SB.out.below hbr
  replace D4 : Hid _ := D4.out.below hbr
  replace D5 : Hid _ := D5.out.below hbr
  replace D6 : Hid _ := D6.out.below hbr
  replace D7 : Hid _ := D7.out.below hbr
  replace hbw := Below.on hbw hbr
  clear hbr
  obtain ⟨cxd0, cxd1, cxd2, fxd0, fxd1, fxd2⟩ := Xxd.out
  have hnexd : gxd < V11.heap.size := World.block_lt_of_cell? V11 _ cxd0
  obtain ⟨cyd0, cyd1, cyd2, fyd0, fyd1, fyd2⟩ := Xyd.out
  have hneyd : gyd < V11.heap.size := World.block_lt_of_cell? V11 _ cyd0
  go_wp2_with fail
  clear cxd0 cxd1 cxd2 fxd0 fxd1 fxd2 hnexd
  clear cyd0 cyd1 cyd2 fyd0 fyd1 fyd2 hneyd
  refine (smul D4.out D5.out HV4.out.2 HV5.out.2 (by decide) (by decide) (TB.out.below hbw)).mono ?_
  rintro e9 v8 ⟨z8, e8, s8, p8, m8, rfl, hd8, hdb8, hdv8, hb8⟩
  have HV8 := Hid.mk9 (And.intro (w_mul HV4.out.1 HV5.out.1 (by have h1 := HV4.out.2.lo; have h2 := HV5.out.2.lo; omega) (by have h1 := HV4.out.2.lo; have h2 := HV5.out.2.lo; omega) hdv8) hdb8)
  clear hdv8 hdb8
  replace Xxd : Hid _ := Xxd.out.below hb8
  replace Xyd : Hid _ := Xyd.out.below hb8
  replace Xsm : Hid _ := Xsm.out.below hb8
  replace Xdf : Hid _ := Xdf.out.below hb8
  replace SB : Hid (SBx v8 gs) := SB.out.below hb8
  replace D4 : Hid _ := D4.out.below hb8
  replace D5 : Hid _ := D5.out.below hb8
  replace D6 : Hid _ := D6.out.below hb8
  replace D7 : Hid _ := D7.out.below hb8
  replace hbw := Below.on hbw hb8
  clear hb8
  have D8 : Hid (DN v8 s8 p8 m8 m8 e8 z8) := hd8.dn
  clear hd8
  have hcs := SB.out.c
  have hgs9 := World.block_lt_of_cell? v8 _ hcs
  obtain ⟨csm0, csm1, csm2, fsm0, fsm1, fsm2⟩ := Xsm.out
  have hnesm : gsm < v8.heap.size := World.block_lt_of_cell? v8 _ csm0
  go_wp2_with fail
  clear csm0 csm1 csm2 fsm0 fsm1 fsm2 hnesm
  clear hcs hgs9
  have Xpr0 : Hid (B3q (v8.alloc (.cells #[.bool s8, .slice p8 m8 m8, .int .i64 e8] 33)) v8.heap.size (.bool s8) (.slice p8 m8 m8) (.int .i64 e8)) := B3q.new v8 _ _ _ _
  have hbn : Below v8.heap.size v8 (v8.alloc (.cells #[.bool s8, .slice p8 m8 m8, .int .i64 e8] 33)) := below1 v8 _
  generalize v8.alloc (.cells #[.bool s8, .slice p8 m8 m8, .int .i64 e8] 33) = Wpr at *
  have HGpr : Hid (w.heap.size ≤ v8.heap.size) := hbw.size
  replace Xxd : Hid _ := Xxd.out.below hbn
  replace Xyd : Hid _ := Xyd.out.below hbn
  replace Xsm : Hid _ := Xsm.out.below hbn
  replace Xdf : Hid _ := Xdf.out.below hbn
  replace SB : Hid (SBx Wpr gs) := SB.out.below hbn
  replace D4 : Hid _ := D4.out.below hbn
  replace D5 : Hid _ := D5.out.below hbn
  replace D6 : Hid _ := D6.out.below hbn
  replace D7 : Hid _ := D7.out.below hbn
  replace D8 : Hid _ := D8.out.below hbn
  replace hbw := Below.on hbw hbn
  clear hbn
  generalize v8.heap.size = gpr at *
  have Xpr := Xpr0
  clear Xpr0
  refine (wexact HTS.out.1.hi HTS.out.1.lo D6.out (by rw [HTS.out.2]; exact w0.trans HV6.out.1.symm) SB.out (TB.out.below hbw)).mono ?_
  rintro e v12 ⟨rfl, hb12⟩
  replace Xxd : Hid _ := Xxd.out.below hb12
  replace Xyd : Hid _ := Xyd.out.below hb12
  replace Xsm : Hid _ := Xsm.out.below hb12
  replace Xdf : Hid _ := Xdf.out.below hb12
  replace Xpr : Hid _ := Xpr.out.below hb12
  replace SB : Hid (SBx v12 gs) := SB.out.below hb12
  replace D4 : Hid _ := D4.out.below hb12
  replace D5 : Hid _ := D5.out.below hb12
  replace D6 : Hid _ := D6.out.below hb12
  replace D7 : Hid _ := D7.out.below hb12
  replace D8 : Hid _ := D8.out.below hb12
  replace hbw := Below.on hbw hb12
  clear hb12
  obtain ⟨cpr0, cpr1, cpr2, fpr0, fpr1, fpr2⟩ := Xpr.out
  have hnepr : gpr < v12.heap.size := World.block_lt_of_cell? v12 _ cpr0
  go_wp2_with fail
  clear cpr0 cpr1 cpr2 fpr0 fpr1 fpr2 hnepr
  refine (wexact HTP.out.1 HTP.out.2.1 D8.out ((dv_upw (by decide) HTP.out.2.2).trans HV8.out.1.symm) SB.out (TB.out.below hbw)).mono ?_
  rintro e v13 ⟨rfl, hb13⟩
  replace Xxd : Hid _ := Xxd.out.below hb13
  replace Xyd : Hid _ := Xyd.out.below hb13
  replace Xsm : Hid _ := Xsm.out.below hb13
  replace Xdf : Hid _ := Xdf.out.below hb13
  replace Xpr : Hid _ := Xpr.out.below hb13
  replace SB : Hid (SBx v13 gs) := SB.out.below hb13
  replace D4 : Hid _ := D4.out.below hb13
  replace D5 : Hid _ := D5.out.below hb13
  replace D6 : Hid _ := D6.out.below hb13
  replace D7 : Hid _ := D7.out.below hb13
  replace D8 : Hid _ := D8.out.below hb13
  replace hbw := Below.on hbw hb13
  clear hb13
  obtain ⟨cxd0, cxd1, cxd2, fxd0, fxd1, fxd2⟩ := Xxd.out
  have hnexd : gxd < v13.heap.size := World.block_lt_of_cell? v13 _ cxd0
  go_wp2_with fail
  clear cxd0 cxd1 cxd2 fxd0 fxd1 fxd2 hnexd
  refine (wexact HSP.out.1 HSP.out.2.1 D4.out (by rw [HSP.out.2.2]; exact HV4.out.1.symm) SB.out (TB.out.below hbw)).mono ?_
  rintro e v14 ⟨rfl, hb14⟩
  replace Xxd : Hid _ := Xxd.out.below hb14
  replace Xyd : Hid _ := Xyd.out.below hb14
  replace Xsm : Hid _ := Xsm.out.below hb14
  replace Xdf : Hid _ := Xdf.out.below hb14
  replace Xpr : Hid _ := Xpr.out.below hb14
  replace SB : Hid (SBx v14 gs) := SB.out.below hb14
  replace D4 : Hid _ := D4.out.below hb14
  replace D5 : Hid _ := D5.out.below hb14
  replace D6 : Hid _ := D6.out.below hb14
  replace D7 : Hid _ := D7.out.below hb14
  replace D8 : Hid _ := D8.out.below hb14
  replace hbw := Below.on hbw hb14
  clear hb14
  go_wp2_with fail
  refine (ddSum_g x y _).mono ?_
  rintro e9 v15 ⟨uh, ul, rfl, hR, hb15⟩
  have HU : Hid (DdF uh ul ∧ ux uh + ux ul = ux x + ux y) := by
    have q := hR.ok HX.out.1 HY.out.1 (by have := HX.out.k; omega) (by have := HY.out.k; omega)
    exact ⟨DdF.of_sm q.1 q.2.1 q.2.2, q.2.2⟩
  clear hR
  replace Xxd : Hid _ := Xxd.out.below hb15
  replace Xyd : Hid _ := Xyd.out.below hb15
  replace Xsm : Hid _ := Xsm.out.below hb15
  replace Xdf : Hid _ := Xdf.out.below hb15
  replace Xpr : Hid _ := Xpr.out.below hb15
  replace SB : Hid (SBx v15 gs) := SB.out.below hb15
  replace D4 : Hid _ := D4.out.below hb15
  replace D5 : Hid _ := D5.out.below hb15
  replace D6 : Hid _ := D6.out.below hb15
  replace D7 : Hid _ := D7.out.below hb15
  replace D8 : Hid _ := D8.out.below hb15
  replace hbw := Below.on hbw hb15
  clear hb15
  go_wp2_with fail
  have Xu0 : Hid (Box (v15.alloc (.cells #[Fv uh, Fv ul] 39)) v15.heap.size (Fv uh) (Fv ul)) := Box.new v15 _ _ _
  have hbn : Below v15.heap.size v15 (v15.alloc (.cells #[Fv uh, Fv ul] 39)) := below1 v15 _
  generalize v15.alloc (.cells #[Fv uh, Fv ul] 39) = Wu at *
  have HGu : Hid (w.heap.size ≤ v15.heap.size) := hbw.size
  replace Xxd : Hid _ := Xxd.out.below hbn
  replace Xyd : Hid _ := Xyd.out.below hbn
  replace Xsm : Hid _ := Xsm.out.below hbn
  replace Xdf : Hid _ := Xdf.out.below hbn
  replace Xpr : Hid _ := Xpr.out.below hbn
  replace SB : Hid (SBx Wu gs) := SB.out.below hbn
  replace D4 : Hid _ := D4.out.below hbn
  replace D5 : Hid _ := D5.out.below hbn
  replace D6 : Hid _ := D6.out.below hbn
  replace D7 : Hid _ := D7.out.below hbn
  replace D8 : Hid _ := D8.out.below hbn
  replace hbw := Below.on hbw hbn
  clear hbn
  generalize v15.heap.size = gu at *
  have Xu := Xu0
  clear Xu0
  refine (ddOf HX.out.fin _).mono ?_
  rintro e v16 ⟨rfl, hb16⟩
  replace Xxd : Hid _ := Xxd.out.below hb16
  replace Xyd : Hid _ := Xyd.out.below hb16
  replace Xsm : Hid _ := Xsm.out.below hb16
  replace Xdf : Hid _ := Xdf.out.below hb16
  replace Xpr : Hid _ := Xpr.out.below hb16
  replace Xu : Hid _ := Xu.out.below hb16
  replace SB : Hid (SBx v16 gs) := SB.out.below hb16
  replace D4 : Hid _ := D4.out.below hb16
  replace D5 : Hid _ := D5.out.below hb16
  replace D6 : Hid _ := D6.out.below hb16
  replace D7 : Hid _ := D7.out.below hb16
  replace D8 : Hid _ := D8.out.below hb16
  replace hbw := Below.on hbw hb16
  clear hb16
  go_wp2_with fail
  refine (ddOf HY.out.fin _).mono ?_
  rintro e v17 ⟨rfl, hb17⟩
  replace Xxd : Hid _ := Xxd.out.below hb17
  replace Xyd : Hid _ := Xyd.out.below hb17
  replace Xsm : Hid _ := Xsm.out.below hb17
  replace Xdf : Hid _ := Xdf.out.below hb17
  replace Xpr : Hid _ := Xpr.out.below hb17
  replace Xu : Hid _ := Xu.out.below hb17
  replace SB : Hid (SBx v17 gs) := SB.out.below hb17
  replace D4 : Hid _ := D4.out.below hb17
  replace D5 : Hid _ := D5.out.below hb17
  replace D6 : Hid _ := D6.out.below hb17
  replace D7 : Hid _ := D7.out.below hb17
  replace D8 : Hid _ := D8.out.below hb17
  replace hbw := Below.on hbw hb17
  clear hb17
  go_wp2_with fail
  refine (ddSub_f (ddf_one HX.out.fin HX.out.fitq) (ddf_one HY.out.fin HY.out.fitq) HX.out.fitq.hi HY.out.fitq.hi _).mono ?_
  rintro e9 v18 ⟨vh, vl, rfl, hd18, hq18, hb18⟩
  rw [ux_0, Int.add_zero, Int.add_zero] at hq18
  have HV := Hid.mk9 (And.intro hd18 hq18)
  clear hd18 hq18
  replace Xxd : Hid _ := Xxd.out.below hb18
  replace Xyd : Hid _ := Xyd.out.below hb18
  replace Xsm : Hid _ := Xsm.out.below hb18
  replace Xdf : Hid _ := Xdf.out.below hb18
  replace Xpr : Hid _ := Xpr.out.below hb18
  replace Xu : Hid _ := Xu.out.below hb18
  replace SB : Hid (SBx v18 gs) := SB.out.below hb18
  replace D4 : Hid _ := D4.out.below hb18
  replace D5 : Hid _ := D5.out.below hb18
  replace D6 : Hid _ := D6.out.below hb18
  replace D7 : Hid _ := D7.out.below hb18
  replace D8 : Hid _ := D8.out.below hb18
  replace hbw := Below.on hbw hb18
  clear hb18
  obtain ⟨cu0, cu1, fu0, fu1⟩ := Xu.out
  have hneu := Xu.out.lt
  go_wp2_with fail
  clear cu0 cu1 fu0 fu1 hneu
  have Xv0 : Hid (Box (v18.alloc (.cells #[Fv vh, Fv vl] 39)) v18.heap.size (Fv vh) (Fv vl)) := Box.new v18 _ _ _
  have hbn : Below v18.heap.size v18 (v18.alloc (.cells #[Fv vh, Fv vl] 39)) := below1 v18 _
  generalize v18.alloc (.cells #[Fv vh, Fv vl] 39) = Wv at *
  have HGv : Hid (w.heap.size ≤ v18.heap.size) := hbw.size
  replace Xxd : Hid _ := Xxd.out.below hbn
  replace Xyd : Hid _ := Xyd.out.below hbn
  replace Xsm : Hid _ := Xsm.out.below hbn
  replace Xdf : Hid _ := Xdf.out.below hbn
  replace Xpr : Hid _ := Xpr.out.below hbn
  replace Xu : Hid _ := Xu.out.below hbn
  replace SB : Hid (SBx Wv gs) := SB.out.below hbn
  replace D4 : Hid _ := D4.out.below hbn
  replace D5 : Hid _ := D5.out.below hbn
  replace D6 : Hid _ := D6.out.below hbn
  replace D7 : Hid _ := D7.out.below hbn
  replace D8 : Hid _ := D8.out.below hbn
  replace hbw := Below.on hbw hbn
  clear hbn
  generalize v18.heap.size = gv at *
  have Xv := Xv0
  clear Xv0
  obtain ⟨V20, hV20⟩ : ∃ W1, W1 = Wv.drew := ⟨_, rfl⟩
  have hbd : Below Wv.heap.size Wv V20 := by rw [hV20]; exact bDrew1 (Below.refl _ _)
  replace Xxd : Hid _ := Xxd.out.below hbd
  replace Xyd : Hid _ := Xyd.out.below hbd
  replace Xsm : Hid _ := Xsm.out.below hbd
  replace Xdf : Hid _ := Xdf.out.below hbd
  replace Xpr : Hid _ := Xpr.out.below hbd
  replace Xu : Hid _ := Xu.out.below hbd
  replace Xv : Hid _ := Xv.out.below hbd
  replace SB : Hid (SBx V20 gs) := SB.out.below hbd
  replace D4 : Hid _ := D4.out.below hbd
  replace D5 : Hid _ := D5.out.below hbd
  replace D6 : Hid _ := D6.out.below hbd
  replace D7 : Hid _ := D7.out.below hbd
  replace D8 : Hid _ := D8.out.below hbd
  replace hbw := Below.on hbw hbd
  clear hbd
  have HJ : Hid ((fun W' : World => W'.cell? ⟨gu, 0, none⟩ = some (Fv uh) ∧ W'.cell? ⟨gu, 1, none⟩ = some (Fv ul) ∧ W'.cell? ⟨gv, 0, none⟩ = some (Fv vh) ∧ W'.cell? ⟨gv, 1, none⟩ = some (Fv vl) ∧ W'.cell? ⟨gsm, 0, none⟩ = some (.bool s6) ∧ W'.cell? ⟨gsm, 1, none⟩ = some (.slice p6 m6 m6) ∧ W'.cell? ⟨gsm, 2, none⟩ = some (.int .i64 e6) ∧ W'.cell? ⟨gdf, 0, none⟩ = some (.bool s7) ∧ W'.cell? ⟨gdf, 1, none⟩ = some (.slice p7 m7 m7) ∧ W'.cell? ⟨gdf, 2, none⟩ = some (.int .i64 e7)) V20) := ⟨Xu.out.c0, Xu.out.c1, Xv.out.c0, Xv.out.c1, Xsm.out.c0, Xsm.out.c1, Xsm.out.c2, Xdf.out.c0, Xdf.out.c1, Xdf.out.c2⟩
  refine wp_region_J (fun W' => W'.cell? ⟨gu, 0, none⟩ = some (Fv uh) ∧ W'.cell? ⟨gu, 1, none⟩ = some (Fv ul) ∧ W'.cell? ⟨gv, 0, none⟩ = some (Fv vh) ∧ W'.cell? ⟨gv, 1, none⟩ = some (Fv vl) ∧ W'.cell? ⟨gsm, 0, none⟩ = some (.bool s6) ∧ W'.cell? ⟨gsm, 1, none⟩ = some (.slice p6 m6 m6) ∧ W'.cell? ⟨gsm, 2, none⟩ = some (.int .i64 e6) ∧ W'.cell? ⟨gdf, 0, none⟩ = some (.bool s7) ∧ W'.cell? ⟨gdf, 1, none⟩ = some (.slice p7 m7 m7) ∧ W'.cell? ⟨gdf, 2, none⟩ = some (.int .i64 e7)) (by kernel_rfl) ?_
  rw [← hV20]
  clear hV20
  refine wpJ_tq 0 rfl HJ.out ?_
  refine wpJ_tq 1 rfl HJ.out ?_
  refine wpJ_on 2 rfl fun KJ hK => ?_
  go_simp
  refine (wnear_same (k := 2000) HU.out.1 D6.out (HV6.out.2.mono (by decide) (by decide)) HV6.out.1 (by decide) HU.out.2 SB.out (TB.out.below hbw)).mono ?_
  rintro e v20 ⟨rfl, hb20⟩
  replace Xxd : Hid _ := Xxd.out.below hb20
  replace Xyd : Hid _ := Xyd.out.below hb20
  replace Xsm : Hid _ := Xsm.out.below hb20
  replace Xdf : Hid _ := Xdf.out.below hb20
  replace Xpr : Hid _ := Xpr.out.below hb20
  replace Xu : Hid _ := Xu.out.below hb20
  replace Xv : Hid _ := Xv.out.below hb20
  replace SB : Hid (SBx v20 gs) := SB.out.below hb20
  replace D4 : Hid _ := D4.out.below hb20
  replace D5 : Hid _ := D5.out.below hb20
  replace D6 : Hid _ := D6.out.below hb20
  replace D7 : Hid _ := D7.out.below hb20
  replace D8 : Hid _ := D8.out.below hb20
  replace hbw := Below.on hbw hb20
  clear hb20
  clear HJ
  have HJ : Hid ((fun W' : World => W'.cell? ⟨gu, 0, none⟩ = some (Fv uh) ∧ W'.cell? ⟨gu, 1, none⟩ = some (Fv ul) ∧ W'.cell? ⟨gv, 0, none⟩ = some (Fv vh) ∧ W'.cell? ⟨gv, 1, none⟩ = some (Fv vl) ∧ W'.cell? ⟨gsm, 0, none⟩ = some (.bool s6) ∧ W'.cell? ⟨gsm, 1, none⟩ = some (.slice p6 m6 m6) ∧ W'.cell? ⟨gsm, 2, none⟩ = some (.int .i64 e6) ∧ W'.cell? ⟨gdf, 0, none⟩ = some (.bool s7) ∧ W'.cell? ⟨gdf, 1, none⟩ = some (.slice p7 m7 m7) ∧ W'.cell? ⟨gdf, 2, none⟩ = some (.int .i64 e7)) v20) := ⟨Xu.out.c0, Xu.out.c1, Xv.out.c0, Xv.out.c1, Xsm.out.c0, Xsm.out.c1, Xsm.out.c2, Xdf.out.c0, Xdf.out.c1, Xdf.out.c2⟩
  refine hK _ _ HJ.out ?_
  clear hK
  refine wpJ_tq 3 rfl HJ.out ?_
  refine wpJ_tq 4 rfl HJ.out ?_
  refine wpJ_tq 5 rfl HJ.out ?_
  refine wpJ_tq 6 rfl HJ.out ?_
  refine wpJ_on 7 rfl fun KJ hK => ?_
  go_simp
  refine (wnear (c := 0) (k := 103) HV.out.1 D7.out (HV7.out.2.mono (by decide) (by decide)) (HV7.out.1) (by decide) (by decide) (wn_add HV.out.2) SB.out (TB.out.below hbw)).mono ?_
  rintro e v21 ⟨rfl, hb21⟩
  replace Xxd : Hid _ := Xxd.out.below hb21
  replace Xyd : Hid _ := Xyd.out.below hb21
  replace Xsm : Hid _ := Xsm.out.below hb21
  replace Xdf : Hid _ := Xdf.out.below hb21
  replace Xpr : Hid _ := Xpr.out.below hb21
  replace Xu : Hid _ := Xu.out.below hb21
  replace Xv : Hid _ := Xv.out.below hb21
  replace SB : Hid (SBx v21 gs) := SB.out.below hb21
  replace D4 : Hid _ := D4.out.below hb21
  replace D5 : Hid _ := D5.out.below hb21
  replace D6 : Hid _ := D6.out.below hb21
  replace D7 : Hid _ := D7.out.below hb21
  replace D8 : Hid _ := D8.out.below hb21
  replace hbw := Below.on hbw hb21
  clear hb21
  clear HJ
  have HJ : Hid ((fun W' : World => W'.cell? ⟨gu, 0, none⟩ = some (Fv uh) ∧ W'.cell? ⟨gu, 1, none⟩ = some (Fv ul) ∧ W'.cell? ⟨gv, 0, none⟩ = some (Fv vh) ∧ W'.cell? ⟨gv, 1, none⟩ = some (Fv vl) ∧ W'.cell? ⟨gsm, 0, none⟩ = some (.bool s6) ∧ W'.cell? ⟨gsm, 1, none⟩ = some (.slice p6 m6 m6) ∧ W'.cell? ⟨gsm, 2, none⟩ = some (.int .i64 e6) ∧ W'.cell? ⟨gdf, 0, none⟩ = some (.bool s7) ∧ W'.cell? ⟨gdf, 1, none⟩ = some (.slice p7 m7 m7) ∧ W'.cell? ⟨gdf, 2, none⟩ = some (.int .i64 e7)) v21) := ⟨Xu.out.c0, Xu.out.c1, Xv.out.c0, Xv.out.c1, Xsm.out.c0, Xsm.out.c1, Xsm.out.c2, Xdf.out.c0, Xdf.out.c1, Xdf.out.c2⟩
  refine hK _ _ HJ.out ?_
  clear hK
  refine wpJ_tq 8 rfl HJ.out ?_
  refine wpJ_tq 9 rfl HJ.out ?_
  refine wpJ_tq 10 rfl HJ.out ?_
  refine wpJ_tq 11 rfl HJ.out ?_
  refine wpJ_tq 13 rfl HJ.out ?_
  go_simp
  refine wpJ_tq 16 rfl HJ.out ?_
  refine wpJ_on 12 rfl fun KJ hK => ?_
  go_simp
  refine (ddOf HX.out.fin _).mono ?_
  rintro e v22 ⟨rfl, hb22⟩
  replace Xxd : Hid _ := Xxd.out.below hb22
  replace Xyd : Hid _ := Xyd.out.below hb22
  replace Xsm : Hid _ := Xsm.out.below hb22
  replace Xdf : Hid _ := Xdf.out.below hb22
  replace Xpr : Hid _ := Xpr.out.below hb22
  replace Xu : Hid _ := Xu.out.below hb22
  replace Xv : Hid _ := Xv.out.below hb22
  replace SB : Hid (SBx v22 gs) := SB.out.below hb22
  replace D4 : Hid _ := D4.out.below hb22
  replace D5 : Hid _ := D5.out.below hb22
  replace D6 : Hid _ := D6.out.below hb22
  replace D7 : Hid _ := D7.out.below hb22
  replace D8 : Hid _ := D8.out.below hb22
  replace hbw := Below.on hbw hb22
  clear hb22
  refine hK _ _ ⟨Xu.out.c0, Xu.out.c1, Xv.out.c0, Xv.out.c1, Xsm.out.c0, Xsm.out.c1, Xsm.out.c2, Xdf.out.c0, Xdf.out.c1, Xdf.out.c2⟩ ?_
  clear hK
  refine wpJ_on 14 rfl fun KJ hK => ?_
  go_simp
  refine (ddOf HY.out.fin _).mono ?_
  rintro e v23 ⟨rfl, hb23⟩
  replace Xxd : Hid _ := Xxd.out.below hb23
  replace Xyd : Hid _ := Xyd.out.below hb23
  replace Xsm : Hid _ := Xsm.out.below hb23
  replace Xdf : Hid _ := Xdf.out.below hb23
  replace Xpr : Hid _ := Xpr.out.below hb23
  replace Xu : Hid _ := Xu.out.below hb23
  replace Xv : Hid _ := Xv.out.below hb23
  replace SB : Hid (SBx v23 gs) := SB.out.below hb23
  replace D4 : Hid _ := D4.out.below hb23
  replace D5 : Hid _ := D5.out.below hb23
  replace D6 : Hid _ := D6.out.below hb23
  replace D7 : Hid _ := D7.out.below hb23
  replace D8 : Hid _ := D8.out.below hb23
  replace hbw := Below.on hbw hb23
  clear hb23
  refine hK _ _ ⟨Xu.out.c0, Xu.out.c1, Xv.out.c0, Xv.out.c1, Xsm.out.c0, Xsm.out.c1, Xsm.out.c2, Xdf.out.c0, Xdf.out.c1, Xdf.out.c2⟩ ?_
  clear hK
  refine wpJ_on 15 rfl fun KJ hK => ?_
  go_simp
  refine (ddAdd_f (ddf_one HX.out.fin HX.out.fitq) (ddf_one HY.out.fin HY.out.fitq) HX.out.fitq.hi HY.out.fitq.hi _).mono ?_
  rintro e9 v24 ⟨th, tl, rfl, hd24, hq24, hb24⟩
  rw [ux_0, Int.add_zero, Int.add_zero] at hq24
  have HT := Hid.mk9 (And.intro hd24 hq24)
  clear hd24 hq24
  replace Xxd : Hid _ := Xxd.out.below hb24
  replace Xyd : Hid _ := Xyd.out.below hb24
  replace Xsm : Hid _ := Xsm.out.below hb24
  replace Xdf : Hid _ := Xdf.out.below hb24
  replace Xpr : Hid _ := Xpr.out.below hb24
  replace Xu : Hid _ := Xu.out.below hb24
  replace Xv : Hid _ := Xv.out.below hb24
  replace SB : Hid (SBx v24 gs) := SB.out.below hb24
  replace D4 : Hid _ := D4.out.below hb24
  replace D5 : Hid _ := D5.out.below hb24
  replace D6 : Hid _ := D6.out.below hb24
  replace D7 : Hid _ := D7.out.below hb24
  replace D8 : Hid _ := D8.out.below hb24
  replace hbw := Below.on hbw hb24
  clear hb24
  refine hK _ _ ⟨Xu.out.c0, Xu.out.c1, Xv.out.c0, Xv.out.c1, Xsm.out.c0, Xsm.out.c1, Xsm.out.c2, Xdf.out.c0, Xdf.out.c1, Xdf.out.c2⟩ ?_
  clear hK
  refine wpJ_on 17 rfl fun KJ hK => ?_
  go_simp
  refine (wnear (c := 0) (k := 103) HT.out.1 D6.out (HV6.out.2.mono (by decide) (by decide)) (HV6.out.1) (by decide) (by decide) (wn_add HT.out.2) SB.out (TB.out.below hbw)).mono ?_
  rintro e v25 ⟨rfl, hb25⟩
  replace Xxd : Hid _ := Xxd.out.below hb25
  replace Xyd : Hid _ := Xyd.out.below hb25
  replace Xsm : Hid _ := Xsm.out.below hb25
  replace Xdf : Hid _ := Xdf.out.below hb25
  replace Xpr : Hid _ := Xpr.out.below hb25
  replace Xu : Hid _ := Xu.out.below hb25
  replace Xv : Hid _ := Xv.out.below hb25
  replace SB : Hid (SBx v25 gs) := SB.out.below hb25
  replace D4 : Hid _ := D4.out.below hb25
  replace D5 : Hid _ := D5.out.below hb25
  replace D6 : Hid _ := D6.out.below hb25
  replace D7 : Hid _ := D7.out.below hb25
  replace D8 : Hid _ := D8.out.below hb25
  replace hbw := Below.on hbw hb25
  clear hb25
  clear HJ
  have HJ : Hid ((fun W' : World => W'.cell? ⟨gu, 0, none⟩ = some (Fv uh) ∧ W'.cell? ⟨gu, 1, none⟩ = some (Fv ul) ∧ W'.cell? ⟨gv, 0, none⟩ = some (Fv vh) ∧ W'.cell? ⟨gv, 1, none⟩ = some (Fv vl) ∧ W'.cell? ⟨gsm, 0, none⟩ = some (.bool s6) ∧ W'.cell? ⟨gsm, 1, none⟩ = some (.slice p6 m6 m6) ∧ W'.cell? ⟨gsm, 2, none⟩ = some (.int .i64 e6) ∧ W'.cell? ⟨gdf, 0, none⟩ = some (.bool s7) ∧ W'.cell? ⟨gdf, 1, none⟩ = some (.slice p7 m7 m7) ∧ W'.cell? ⟨gdf, 2, none⟩ = some (.int .i64 e7)) v25) := ⟨Xu.out.c0, Xu.out.c1, Xv.out.c0, Xv.out.c1, Xsm.out.c0, Xsm.out.c1, Xsm.out.c2, Xdf.out.c0, Xdf.out.c1, Xdf.out.c2⟩
  refine hK _ _ HJ.out ?_
  clear hK
  refine wpJ_tq 18 rfl HJ.out ?_
  refine wpJ_tq 19 rfl HJ.out ?_
  refine wpJ_done (by kernel_rfl) ?_ _
  clear HJ
  obtain ⟨cxd0, cxd1, cxd2, fxd0, fxd1, fxd2⟩ := Xxd.out
  have hnexd : gxd < v25.heap.size := World.block_lt_of_cell? v25 _ cxd0
  go_wp2_with fail
  clear cxd0 cxd1 cxd2 fxd0 fxd1 fxd2 hnexd
  obtain ⟨VB, hVB⟩ : ∃ W1, W1 = v25.drew := ⟨_, rfl⟩
  have hbd : Below v25.heap.size v25 VB := by rw [hVB]; exact bDrew1 (Below.refl _ _)
  replace Xxd : Hid _ := Xxd.out.below hbd
  replace Xyd : Hid _ := Xyd.out.below hbd
  replace Xsm : Hid _ := Xsm.out.below hbd
  replace Xdf : Hid _ := Xdf.out.below hbd
  replace Xpr : Hid _ := Xpr.out.below hbd
  replace Xu : Hid _ := Xu.out.below hbd
  replace Xv : Hid _ := Xv.out.below hbd
  replace SB : Hid (SBx VB gs) := SB.out.below hbd
  replace D4 : Hid _ := D4.out.below hbd
  replace D5 : Hid _ := D5.out.below hbd
  replace D6 : Hid _ := D6.out.below hbd
  replace hbw := Below.on hbw hbd
  clear hbd
  have HJ : Hid ((fun W' : World => W'.cell? ⟨gxd, 0, none⟩ = some (.bool s4) ∧ W'.cell? ⟨gxd, 1, none⟩ = some (.slice p4 m4 m4) ∧ W'.cell? ⟨gxd, 2, none⟩ = some (.int .i64 e4) ∧ W'.cell? ⟨gyd, 0, none⟩ = some (.bool s5) ∧ W'.cell? ⟨gyd, 1, none⟩ = some (.slice p5 m5 m5) ∧ W'.cell? ⟨gyd, 2, none⟩ = some (.int .i64 e5)) VB) := ⟨Xxd.out.c0, Xxd.out.c1, Xxd.out.c2, Xyd.out.c0, Xyd.out.c1, Xyd.out.c2⟩
  refine wp_region_J (fun W' => W'.cell? ⟨gxd, 0, none⟩ = some (.bool s4) ∧ W'.cell? ⟨gxd, 1, none⟩ = some (.slice p4 m4 m4) ∧ W'.cell? ⟨gxd, 2, none⟩ = some (.int .i64 e4) ∧ W'.cell? ⟨gyd, 0, none⟩ = some (.bool s5) ∧ W'.cell? ⟨gyd, 1, none⟩ = some (.slice p5 m5 m5) ∧ W'.cell? ⟨gyd, 2, none⟩ = some (.int .i64 e5)) (by kernel_rfl) ?_
  rw [← hVB]
  clear hVB
  refine wpJ_tq 0 rfl HJ.out ?_
  refine wpJ_tq 1 rfl HJ.out ?_
  refine wpJ_tq 3 rfl HJ.out ?_
  refine wpJ_tq 4 rfl HJ.out ?_
  have HBB : Hid (Below w.heap.size w VB) := hbw
  clear hbw
  have hbw : Below VB.heap.size VB VB := Below.refl _ _
  go_simp
  refine wpJ_nodes5 fun WP hWP L0 a0 hL ha => ?_
  have N2_5_6_7 : ∀ (s30 : Bool) (p30 : Option Addr) (m30 : Nat) (z30 : Int) (e30 : Int) (s31 : Bool) (p31 : Option Addr) (m31 : Nat) (z31 : Int) (e31 : Int) (s32 : Bool) (p32 : Option Addr) (m32 : Nat) (z32 : Int) (e32 : Int) (gsq : Nat) (W' : World), (B3q W' gyd (.bool s5) (.slice p5 m5 m5) (.int .i64 e5)) ∧ (B3q W' gsm (.bool s6) (.slice p6 m6 m6) (.int .i64 e6)) ∧ (Box W' gu (Fv uh) (Fv ul)) ∧ (Box W' gv (Fv vh) (Fv vl)) ∧ (B3q W' gxd (.bool s4) (.slice p4 m4 m4) (.int .i64 e4)) ∧ (Below VB.heap.size VB W') ∧ (DN W' s30 p30 m30 m30 e30 z30) ∧ (dv z30 e30 = dv (ux x * ux x) (-1074 - ((OneE : Nat) : Int)) ∧ DB z30 e30 256 3116) ∧ (DN W' s31 p31 m31 m31 e31 z31) ∧ (dv z31 e31 = dv (ux y * ux y) (-1074 - ((OneE : Nat) : Int)) ∧ DB z31 e31 256 3116) ∧ (DN W' s32 p32 m32 m32 e32 z32) ∧ (dv z32 e32 = dv (ux x * ux x - ux y * ux y) (-1074 - ((OneE : Nat) : Int)) ∧ DB z32 e32 12000 30000) ∧ (B3q W' gsq (.bool false) (.slice none 0 0) (.int .i64 0)) ∧ (VB.heap.size ≤ gsq) ∧ (gsq ≠ gyd) ∧ (gsq ≠ gsm) ∧ (gsq ≠ gu) ∧ (gsq ≠ gv) ∧ (gsq ≠ gxd) ∧ (∀ v0 v1 v2 : Value, DN (((W'.setCell ⟨gsq, 0, none⟩ v0).setCell ⟨gsq, 1, none⟩ v1).setCell ⟨gsq, 2, none⟩ v2) s32 p32 m32 m32 e32 z32) → WP 1 ((((L0.setIfInBounds 2 true).setIfInBounds 5 true).setIfInBounds 6 true).setIfInBounds 7 true) ((((a0.put (some 125) (DV s30 p30 m30 m30 e30)).put (some 128) (DV s31 p31 m31 m31 e31)).put (some 129) (DV s32 p32 m32 m32 e32)).put (some 23) (.pointer (some ⟨gsq, 0, none⟩))) W' := by
    rintro s30 p30 m30 z30 e30 s31 p31 m31 z31 e31 s32 p32 m32 z32 e32 gsq W' ⟨xyd, xsm, xu, xv, xxd, hbw, D30, V30, D31, V31, D32, V32, xsq, hgsq, dsqyd, dsqsm, dsqu, dsqv, dsqxd, L⟩
    subst hWP hL ha
    have Hxyd := Hid.mk5 xyd
    have Hxsm := Hid.mk5 xsm
    have Hxu := Hid.mk5 xu
    have Hxv := Hid.mk5 xv
    have Hxxd := Hid.mk5 xxd
    have HD30 := Hid.mk5 D30
    have HV30 := Hid.mk5 V30
    have HD31 := Hid.mk5 D31
    have HV31 := Hid.mk5 V31
    have HD32 := Hid.mk5 D32
    have HV32 := Hid.mk5 V32
    have Hxsq := Hid.mk5 xsq
    have Hhgsq := Hid.mk5 hgsq
    have Hdsqyd := Hid.mk5 dsqyd
    have Hdsqsm := Hid.mk5 dsqsm
    have Hdsqu := Hid.mk5 dsqu
    have Hdsqv := Hid.mk5 dsqv
    have Hdsqxd := Hid.mk5 dsqxd
    have HL := Hid.mk5 L
    clear xyd xsm xu xv xxd D30 V30 D31 V31 D32 V32 xsq hgsq dsqyd dsqsm dsqu dsqv dsqxd L
    go_simp
    have Xyd := Hxyd
    have Xsm := Hxsm
    have Xu := Hxu
    have Xv := Hxv
    have Xxd := Hxxd
    have Xsq := Hxsq
    clear Hxyd Hxsm Hxu Hxv Hxxd Hxsq
    have eyd := Hdsqyd.out
    have esm := Hdsqsm.out
    have eu := Hdsqu.out
    have ev := Hdsqv.out
    have exd := Hdsqxd.out
    have fyd := Ne.symm eyd
    have fsm := Ne.symm esm
    have fu := Ne.symm eu
    have fv := Ne.symm ev
    have fxd := Ne.symm exd
    obtain ⟨cyd0, cyd1, cyd2, fyd0, fyd1, fyd2⟩ := Xyd.out
    have hneyd : gyd < W'.heap.size := World.block_lt_of_cell? W' _ cyd0
    obtain ⟨csm0, csm1, csm2, fsm0, fsm1, fsm2⟩ := Xsm.out
    have hnesm : gsm < W'.heap.size := World.block_lt_of_cell? W' _ csm0
    obtain ⟨cu0, cu1, fu0, fu1⟩ := Xu.out
    have hneu := Xu.out.lt
    obtain ⟨cv0, cv1, fv0, fv1⟩ := Xv.out
    have hnev := Xv.out.lt
    obtain ⟨cxd0, cxd1, cxd2, fxd0, fxd1, fxd2⟩ := Xxd.out
    have hnexd : gxd < W'.heap.size := World.block_lt_of_cell? W' _ cxd0
    obtain ⟨csq0, csq1, csq2, fsq0, fsq1, fsq2⟩ := Xsq.out
    have hnesq : gsq < W'.heap.size := World.block_lt_of_cell? W' _ csq0
    refine wpJ_on 8 rfl fun KJ hK => ?_
    go_simp
    refine hK _ _ ⟨by go_simp, by go_simp, by go_simp, by go_simp, by go_simp, by go_simp⟩ ?_
    clear hK
    refine wpJ_done (by kernel_rfl) ?_ _
    have D32 := HL.out (.bool s32) (.slice p32 m32 m32) (.int .i64 e32)
    obtain ⟨Wy, hWy⟩ : ∃ W9, W9 = (((W'.setCell ⟨gsq, 0, none⟩ (.bool s32)).setCell ⟨gsq, 1, none⟩ (.slice p32 m32 m32)).setCell ⟨gsq, 2, none⟩ (.int .i64 e32)) := ⟨_, rfl⟩
    rw [← hWy] at D32
    have Yyd : Hid (B3q Wy gyd (.bool s5) (.slice p5 m5 m5) (.int .i64 e5)) := by rw [hWy]; exact ⟨by go_simp, by go_simp, by go_simp, by go_simp, by go_simp, by go_simp⟩
    have Ysm : Hid (B3q Wy gsm (.bool s6) (.slice p6 m6 m6) (.int .i64 e6)) := by rw [hWy]; exact ⟨by go_simp, by go_simp, by go_simp, by go_simp, by go_simp, by go_simp⟩
    have Yu : Hid (Box Wy gu (Fv uh) (Fv ul)) := by rw [hWy]; exact ⟨by go_simp, by go_simp, by go_simp, by go_simp⟩
    have Yv : Hid (Box Wy gv (Fv vh) (Fv vl)) := by rw [hWy]; exact ⟨by go_simp, by go_simp, by go_simp, by go_simp⟩
    have Yxd : Hid (B3q Wy gxd (.bool s4) (.slice p4 m4 m4) (.int .i64 e4)) := by rw [hWy]; exact ⟨by go_simp, by go_simp, by go_simp, by go_simp, by go_simp, by go_simp⟩
    have Ysq : Hid (B3q Wy gsq (.bool s32) (.slice p32 m32 m32) (.int .i64 e32)) := by rw [hWy]; exact ⟨by go_simp, by go_simp, by go_simp, by go_simp, by go_simp, by go_simp⟩
    have hbw2 : Below VB.heap.size VB Wy := by rw [hWy]; exact bSet (bSet (bSet hbw _ _ _ Hhgsq.out) _ _ _ Hhgsq.out) _ _ _ Hhgsq.out
    clear cyd0 cyd1 cyd2 fyd0 fyd1 fyd2 hneyd
    clear csm0 csm1 csm2 fsm0 fsm1 fsm2 hnesm
    clear cu0 cu1 fu0 fu1 hneu
    clear cv0 cv1 fv0 fv1 hnev
    clear cxd0 cxd1 cxd2 fxd0 fxd1 fxd2 hnexd
    clear csq0 csq1 csq2 fsq0 fsq1 fsq2 hnesq
    rw [← hWy]
    clear hWy hbw Xyd Xsm Xu Xv Xxd Xsq eyd fyd esm fsm eu fu ev fv exd fxd
    have Xyd := Yyd
    have Xsm := Ysm
    have Xu := Yu
    have Xv := Yv
    have Xxd := Yxd
    have Xsq := Ysq
    clear Yyd Ysm Yu Yv Yxd Ysq
    replace SB : Hid (SBx Wy gs) := SB.out.below hbw2
    replace D4 : Hid _ := D4.out.below hbw2
    replace D5 : Hid _ := D5.out.below hbw2
    replace D6 : Hid _ := D6.out.below hbw2
    have D32 := Hid.mk9 D32
    have hbw := Below.on HBB.out hbw2
    clear hbw2
    obtain ⟨cu0, cu1, fu0, fu1⟩ := Xu.out
    have hneu := Xu.out.lt
    obtain ⟨cv0, cv1, fv0, fv1⟩ := Xv.out
    have hnev := Xv.out.lt
    go_wp2_with fail
    clear cu0 cu1 fu0 fu1 hneu
    clear cv0 cv1 fv0 fv1 hnev
    have FU : Hid (FitQ uh ∧ FitQ vh) := ⟨fit_sum HX.out HY.out HU.out.1 HU.out.2, fit_diff HX.out HY.out HV.out.1 HV.out.2⟩
    have HV6b : Hid (dv z6 e6 = dv (ux x + ux y) (-1074)) := HV6.out.1.trans w0.symm
    refine (ddMul_f HU.out.1 HV.out.1 FU.out.1 FU.out.2 _).mono ?_
    rintro e9 v40 ⟨mh, ml, rfl, hd40, hq40, hb40⟩
    rw [HU.out.2] at hq40
    have HM := Hid.mk9 (And.intro hd40 hq40)
    clear hd40 hq40
    replace Xyd : Hid _ := Xyd.out.below hb40
    replace Xsm : Hid _ := Xsm.out.below hb40
    replace Xu : Hid _ := Xu.out.below hb40
    replace Xv : Hid _ := Xv.out.below hb40
    replace Xxd : Hid _ := Xxd.out.below hb40
    replace Xsq : Hid _ := Xsq.out.below hb40
    replace SB : Hid (SBx v40 gs) := SB.out.below hb40
    replace D4 : Hid _ := D4.out.below hb40
    replace D5 : Hid _ := D5.out.below hb40
    replace D6 : Hid _ := D6.out.below hb40
    replace D32 : Hid _ := D32.out.below hb40
    replace hbw := Below.on hbw hb40
    clear hb40
    obtain ⟨cu0, cu1, fu0, fu1⟩ := Xu.out
    have hneu := Xu.out.lt
    go_wp2_with fail
    clear cu0 cu1 fu0 fu1 hneu
    have Xm0 : Hid (Box (v40.alloc (.cells #[Fv mh, Fv ml] 39)) v40.heap.size (Fv mh) (Fv ml)) := Box.new v40 _ _ _
    have hbn : Below v40.heap.size v40 (v40.alloc (.cells #[Fv mh, Fv ml] 39)) := below1 v40 _
    generalize v40.alloc (.cells #[Fv mh, Fv ml] 39) = Wm at *
    have HGm : Hid (w.heap.size ≤ v40.heap.size) := hbw.size
    replace Xyd : Hid _ := Xyd.out.below hbn
    replace Xsm : Hid _ := Xsm.out.below hbn
    replace Xu : Hid _ := Xu.out.below hbn
    replace Xv : Hid _ := Xv.out.below hbn
    replace Xxd : Hid _ := Xxd.out.below hbn
    replace Xsq : Hid _ := Xsq.out.below hbn
    replace SB : Hid (SBx Wm gs) := SB.out.below hbn
    replace D4 : Hid _ := D4.out.below hbn
    replace D5 : Hid _ := D5.out.below hbn
    replace D6 : Hid _ := D6.out.below hbn
    replace D32 : Hid _ := D32.out.below hbn
    replace hbw := Below.on hbw hbn
    clear hbn
    generalize v40.heap.size = gm at *
    have Xm := Xm0
    clear Xm0
    refine (ddMulF_f HU.out.1 HY.out.1 FU.out.1 HY.out.fitq _).mono ?_
    rintro e9 v41 ⟨oh, ol, rfl, hd41, hq41, hb41⟩
    rw [HU.out.2] at hq41
    have HP := Hid.mk9 (And.intro hd41 hq41)
    clear hd41 hq41
    replace Xyd : Hid _ := Xyd.out.below hb41
    replace Xsm : Hid _ := Xsm.out.below hb41
    replace Xu : Hid _ := Xu.out.below hb41
    replace Xv : Hid _ := Xv.out.below hb41
    replace Xxd : Hid _ := Xxd.out.below hb41
    replace Xsq : Hid _ := Xsq.out.below hb41
    replace Xm : Hid _ := Xm.out.below hb41
    replace SB : Hid (SBx v41 gs) := SB.out.below hb41
    replace D4 : Hid _ := D4.out.below hb41
    replace D5 : Hid _ := D5.out.below hb41
    replace D6 : Hid _ := D6.out.below hb41
    replace D32 : Hid _ := D32.out.below hb41
    replace hbw := Below.on hbw hb41
    clear hb41
    obtain ⟨csm0, csm1, csm2, fsm0, fsm1, fsm2⟩ := Xsm.out
    have hnesm : gsm < v41.heap.size := World.block_lt_of_cell? v41 _ csm0
    go_wp2_with fail
    clear csm0 csm1 csm2 fsm0 fsm1 fsm2 hnesm
    have Xo0 : Hid (Box (v41.alloc (.cells #[Fv oh, Fv ol] 39)) v41.heap.size (Fv oh) (Fv ol)) := Box.new v41 _ _ _
    have hbn : Below v41.heap.size v41 (v41.alloc (.cells #[Fv oh, Fv ol] 39)) := below1 v41 _
    generalize v41.alloc (.cells #[Fv oh, Fv ol] 39) = Wo at *
    have HGo : Hid (w.heap.size ≤ v41.heap.size) := hbw.size
    replace Xyd : Hid _ := Xyd.out.below hbn
    replace Xsm : Hid _ := Xsm.out.below hbn
    replace Xu : Hid _ := Xu.out.below hbn
    replace Xv : Hid _ := Xv.out.below hbn
    replace Xxd : Hid _ := Xxd.out.below hbn
    replace Xsq : Hid _ := Xsq.out.below hbn
    replace Xm : Hid _ := Xm.out.below hbn
    replace SB : Hid (SBx Wo gs) := SB.out.below hbn
    replace D4 : Hid _ := D4.out.below hbn
    replace D5 : Hid _ := D5.out.below hbn
    replace D6 : Hid _ := D6.out.below hbn
    replace D32 : Hid _ := D32.out.below hbn
    replace hbw := Below.on hbw hbn
    clear hbn
    generalize v41.heap.size = go at *
    have Xo := Xo0
    clear Xo0
    refine (smul D6.out D6.out HV6.out.2 HV6.out.2 (by decide) (by decide) (TB.out.below hbw)).mono ?_
    rintro e9 v42 ⟨z42, e42, s42, p42, m42, rfl, hd42, hdb42, hdv42, hb42⟩
    have HV42 := Hid.mk9 (And.intro (w_mul HV6b.out HV6b.out (by have h1 := HV6.out.2.lo; have h2 := HV6.out.2.lo; omega) (by have h1 := HV6.out.2.lo; have h2 := HV6.out.2.lo; omega) hdv42) hdb42)
    clear hdv42 hdb42
    replace Xyd : Hid _ := Xyd.out.below hb42
    replace Xsm : Hid _ := Xsm.out.below hb42
    replace Xu : Hid _ := Xu.out.below hb42
    replace Xv : Hid _ := Xv.out.below hb42
    replace Xxd : Hid _ := Xxd.out.below hb42
    replace Xsq : Hid _ := Xsq.out.below hb42
    replace Xm : Hid _ := Xm.out.below hb42
    replace Xo : Hid _ := Xo.out.below hb42
    replace SB : Hid (SBx v42 gs) := SB.out.below hb42
    replace D4 : Hid _ := D4.out.below hb42
    replace D5 : Hid _ := D5.out.below hb42
    replace D6 : Hid _ := D6.out.below hb42
    replace D32 : Hid _ := D32.out.below hb42
    replace hbw := Below.on hbw hb42
    clear hb42
    have D42 : Hid (DN v42 s42 p42 m42 m42 e42 z42) := hd42.dn
    clear hd42
    go_wp2_with fail
    have Xuu0 : Hid (B3q (v42.alloc (.cells #[.bool s42, .slice p42 m42 m42, .int .i64 e42] 33)) v42.heap.size (.bool s42) (.slice p42 m42 m42) (.int .i64 e42)) := B3q.new v42 _ _ _ _
    have hbn : Below v42.heap.size v42 (v42.alloc (.cells #[.bool s42, .slice p42 m42 m42, .int .i64 e42] 33)) := below1 v42 _
    generalize v42.alloc (.cells #[.bool s42, .slice p42 m42 m42, .int .i64 e42] 33) = Wuu at *
    have HGuu : Hid (w.heap.size ≤ v42.heap.size) := hbw.size
    replace Xyd : Hid _ := Xyd.out.below hbn
    replace Xsm : Hid _ := Xsm.out.below hbn
    replace Xu : Hid _ := Xu.out.below hbn
    replace Xv : Hid _ := Xv.out.below hbn
    replace Xxd : Hid _ := Xxd.out.below hbn
    replace Xsq : Hid _ := Xsq.out.below hbn
    replace Xm : Hid _ := Xm.out.below hbn
    replace Xo : Hid _ := Xo.out.below hbn
    replace SB : Hid (SBx Wuu gs) := SB.out.below hbn
    replace D4 : Hid _ := D4.out.below hbn
    replace D5 : Hid _ := D5.out.below hbn
    replace D6 : Hid _ := D6.out.below hbn
    replace D32 : Hid _ := D32.out.below hbn
    replace D42 : Hid _ := D42.out.below hbn
    replace hbw := Below.on hbw hbn
    clear hbn
    generalize v42.heap.size = guu at *
    have Xuu := Xuu0
    clear Xuu0
    obtain ⟨V44, hV44⟩ : ∃ W1, W1 = Wuu.drew := ⟨_, rfl⟩
    have hbd : Below Wuu.heap.size Wuu V44 := by rw [hV44]; exact bDrew1 (Below.refl _ _)
    replace Xyd : Hid _ := Xyd.out.below hbd
    replace Xsm : Hid _ := Xsm.out.below hbd
    replace Xu : Hid _ := Xu.out.below hbd
    replace Xv : Hid _ := Xv.out.below hbd
    replace Xxd : Hid _ := Xxd.out.below hbd
    replace Xsq : Hid _ := Xsq.out.below hbd
    replace Xm : Hid _ := Xm.out.below hbd
    replace Xo : Hid _ := Xo.out.below hbd
    replace Xuu : Hid _ := Xuu.out.below hbd
    replace SB : Hid (SBx V44 gs) := SB.out.below hbd
    replace D4 : Hid _ := D4.out.below hbd
    replace D5 : Hid _ := D5.out.below hbd
    replace D6 : Hid _ := D6.out.below hbd
    replace D32 : Hid _ := D32.out.below hbd
    replace D42 : Hid _ := D42.out.below hbd
    replace hbw := Below.on hbw hbd
    clear hbd
    have HJ : Hid ((fun W' : World => W'.cell? ⟨gm, 0, none⟩ = some (Fv mh) ∧ W'.cell? ⟨gm, 1, none⟩ = some (Fv ml) ∧ W'.cell? ⟨go, 0, none⟩ = some (Fv oh) ∧ W'.cell? ⟨go, 1, none⟩ = some (Fv ol) ∧ W'.cell? ⟨gu, 0, none⟩ = some (Fv uh) ∧ W'.cell? ⟨gu, 1, none⟩ = some (Fv ul) ∧ W'.cell? ⟨gsq, 0, none⟩ = some (.bool s32) ∧ W'.cell? ⟨gsq, 1, none⟩ = some (.slice p32 m32 m32) ∧ W'.cell? ⟨gsq, 2, none⟩ = some (.int .i64 e32) ∧ W'.cell? ⟨gsm, 0, none⟩ = some (.bool s6) ∧ W'.cell? ⟨gsm, 1, none⟩ = some (.slice p6 m6 m6) ∧ W'.cell? ⟨gsm, 2, none⟩ = some (.int .i64 e6) ∧ W'.cell? ⟨gyd, 0, none⟩ = some (.bool s5) ∧ W'.cell? ⟨gyd, 1, none⟩ = some (.slice p5 m5 m5) ∧ W'.cell? ⟨gyd, 2, none⟩ = some (.int .i64 e5) ∧ W'.cell? ⟨guu, 0, none⟩ = some (.bool s42) ∧ W'.cell? ⟨guu, 1, none⟩ = some (.slice p42 m42 m42) ∧ W'.cell? ⟨guu, 2, none⟩ = some (.int .i64 e42)) V44) := ⟨Xm.out.c0, Xm.out.c1, Xo.out.c0, Xo.out.c1, Xu.out.c0, Xu.out.c1, Xsq.out.c0, Xsq.out.c1, Xsq.out.c2, Xsm.out.c0, Xsm.out.c1, Xsm.out.c2, Xyd.out.c0, Xyd.out.c1, Xyd.out.c2, Xuu.out.c0, Xuu.out.c1, Xuu.out.c2⟩
    refine wp_region_J (fun W' => W'.cell? ⟨gm, 0, none⟩ = some (Fv mh) ∧ W'.cell? ⟨gm, 1, none⟩ = some (Fv ml) ∧ W'.cell? ⟨go, 0, none⟩ = some (Fv oh) ∧ W'.cell? ⟨go, 1, none⟩ = some (Fv ol) ∧ W'.cell? ⟨gu, 0, none⟩ = some (Fv uh) ∧ W'.cell? ⟨gu, 1, none⟩ = some (Fv ul) ∧ W'.cell? ⟨gsq, 0, none⟩ = some (.bool s32) ∧ W'.cell? ⟨gsq, 1, none⟩ = some (.slice p32 m32 m32) ∧ W'.cell? ⟨gsq, 2, none⟩ = some (.int .i64 e32) ∧ W'.cell? ⟨gsm, 0, none⟩ = some (.bool s6) ∧ W'.cell? ⟨gsm, 1, none⟩ = some (.slice p6 m6 m6) ∧ W'.cell? ⟨gsm, 2, none⟩ = some (.int .i64 e6) ∧ W'.cell? ⟨gyd, 0, none⟩ = some (.bool s5) ∧ W'.cell? ⟨gyd, 1, none⟩ = some (.slice p5 m5 m5) ∧ W'.cell? ⟨gyd, 2, none⟩ = some (.int .i64 e5) ∧ W'.cell? ⟨guu, 0, none⟩ = some (.bool s42) ∧ W'.cell? ⟨guu, 1, none⟩ = some (.slice p42 m42 m42) ∧ W'.cell? ⟨guu, 2, none⟩ = some (.int .i64 e42)) (by kernel_rfl) ?_
    rw [← hV44]
    clear hV44
    refine wpJ_tq 0 rfl HJ.out ?_
    refine wpJ_tq 1 rfl HJ.out ?_
    refine wpJ_on 2 rfl fun KJ hK => ?_
    go_simp
    refine (wnear (c := OneE) (k := 101) HM.out.1 D32.out (HV32.out.2) (HV32.out.1.trans (by rw [sq_diff])) (by decide) (by decide) (wn_m HV.out.2 HM.out.2) SB.out (TB.out.below hbw)).mono ?_
    rintro e v45 ⟨rfl, hb45⟩
    replace Xyd : Hid _ := Xyd.out.below hb45
    replace Xsm : Hid _ := Xsm.out.below hb45
    replace Xu : Hid _ := Xu.out.below hb45
    replace Xv : Hid _ := Xv.out.below hb45
    replace Xxd : Hid _ := Xxd.out.below hb45
    replace Xsq : Hid _ := Xsq.out.below hb45
    replace Xm : Hid _ := Xm.out.below hb45
    replace Xo : Hid _ := Xo.out.below hb45
    replace Xuu : Hid _ := Xuu.out.below hb45
    replace SB : Hid (SBx v45 gs) := SB.out.below hb45
    replace D4 : Hid _ := D4.out.below hb45
    replace D5 : Hid _ := D5.out.below hb45
    replace D6 : Hid _ := D6.out.below hb45
    replace D32 : Hid _ := D32.out.below hb45
    replace D42 : Hid _ := D42.out.below hb45
    replace hbw := Below.on hbw hb45
    clear hb45
    clear HJ
    have HJ : Hid ((fun W' : World => W'.cell? ⟨gm, 0, none⟩ = some (Fv mh) ∧ W'.cell? ⟨gm, 1, none⟩ = some (Fv ml) ∧ W'.cell? ⟨go, 0, none⟩ = some (Fv oh) ∧ W'.cell? ⟨go, 1, none⟩ = some (Fv ol) ∧ W'.cell? ⟨gu, 0, none⟩ = some (Fv uh) ∧ W'.cell? ⟨gu, 1, none⟩ = some (Fv ul) ∧ W'.cell? ⟨gsq, 0, none⟩ = some (.bool s32) ∧ W'.cell? ⟨gsq, 1, none⟩ = some (.slice p32 m32 m32) ∧ W'.cell? ⟨gsq, 2, none⟩ = some (.int .i64 e32) ∧ W'.cell? ⟨gsm, 0, none⟩ = some (.bool s6) ∧ W'.cell? ⟨gsm, 1, none⟩ = some (.slice p6 m6 m6) ∧ W'.cell? ⟨gsm, 2, none⟩ = some (.int .i64 e6) ∧ W'.cell? ⟨gyd, 0, none⟩ = some (.bool s5) ∧ W'.cell? ⟨gyd, 1, none⟩ = some (.slice p5 m5 m5) ∧ W'.cell? ⟨gyd, 2, none⟩ = some (.int .i64 e5) ∧ W'.cell? ⟨guu, 0, none⟩ = some (.bool s42) ∧ W'.cell? ⟨guu, 1, none⟩ = some (.slice p42 m42 m42) ∧ W'.cell? ⟨guu, 2, none⟩ = some (.int .i64 e42)) v45) := ⟨Xm.out.c0, Xm.out.c1, Xo.out.c0, Xo.out.c1, Xu.out.c0, Xu.out.c1, Xsq.out.c0, Xsq.out.c1, Xsq.out.c2, Xsm.out.c0, Xsm.out.c1, Xsm.out.c2, Xyd.out.c0, Xyd.out.c1, Xyd.out.c2, Xuu.out.c0, Xuu.out.c1, Xuu.out.c2⟩
    refine hK _ _ HJ.out ?_
    clear hK
    refine wpJ_tq 3 rfl HJ.out ?_
    refine wpJ_tq 4 rfl HJ.out ?_
    refine wpJ_tq 5 rfl HJ.out ?_
    refine wpJ_tq 6 rfl HJ.out ?_
    refine wpJ_tq 7 rfl HJ.out ?_
    refine wpJ_on 8 rfl fun KJ hK => ?_
    go_simp
    refine (smul D6.out D5.out HV6.out.2 HV5.out.2 (by decide) (by decide) (TB.out.below hbw)).mono ?_
    rintro e9 v43 ⟨z43, e43, s43, p43, m43, rfl, hd43, hdb43, hdv43, hb43⟩
    have HV43 := Hid.mk9 (And.intro (w_mul HV6b.out HV5.out.1 (by have h1 := HV6.out.2.lo; have h2 := HV5.out.2.lo; omega) (by have h1 := HV6.out.2.lo; have h2 := HV5.out.2.lo; omega) hdv43) hdb43)
    clear hdv43 hdb43
    replace Xyd : Hid _ := Xyd.out.below hb43
    replace Xsm : Hid _ := Xsm.out.below hb43
    replace Xu : Hid _ := Xu.out.below hb43
    replace Xv : Hid _ := Xv.out.below hb43
    replace Xxd : Hid _ := Xxd.out.below hb43
    replace Xsq : Hid _ := Xsq.out.below hb43
    replace Xm : Hid _ := Xm.out.below hb43
    replace Xo : Hid _ := Xo.out.below hb43
    replace Xuu : Hid _ := Xuu.out.below hb43
    replace SB : Hid (SBx v43 gs) := SB.out.below hb43
    replace D4 : Hid _ := D4.out.below hb43
    replace D5 : Hid _ := D5.out.below hb43
    replace D6 : Hid _ := D6.out.below hb43
    replace D32 : Hid _ := D32.out.below hb43
    replace D42 : Hid _ := D42.out.below hb43
    replace hbw := Below.on hbw hb43
    clear hb43
    have D43 : Hid (DN v43 s43 p43 m43 m43 e43 z43) := hd43.dn
    clear hd43
    refine hK _ _ ⟨Xm.out.c0, Xm.out.c1, Xo.out.c0, Xo.out.c1, Xu.out.c0, Xu.out.c1, Xsq.out.c0, Xsq.out.c1, Xsq.out.c2, Xsm.out.c0, Xsm.out.c1, Xsm.out.c2, Xyd.out.c0, Xyd.out.c1, Xyd.out.c2, Xuu.out.c0, Xuu.out.c1, Xuu.out.c2⟩ ?_
    clear hK
    refine wpJ_on 9 rfl fun KJ hK => ?_
    go_simp
    refine (wnear (c := OneE) (k := 102) HP.out.1 D43.out (HV43.out.2.mono (by decide) (by decide)) (HV43.out.1) (by decide) (by decide) (wn_mul HP.out.2) SB.out (TB.out.below hbw)).mono ?_
    rintro e v46 ⟨rfl, hb46⟩
    replace Xyd : Hid _ := Xyd.out.below hb46
    replace Xsm : Hid _ := Xsm.out.below hb46
    replace Xu : Hid _ := Xu.out.below hb46
    replace Xv : Hid _ := Xv.out.below hb46
    replace Xxd : Hid _ := Xxd.out.below hb46
    replace Xsq : Hid _ := Xsq.out.below hb46
    replace Xm : Hid _ := Xm.out.below hb46
    replace Xo : Hid _ := Xo.out.below hb46
    replace Xuu : Hid _ := Xuu.out.below hb46
    replace SB : Hid (SBx v46 gs) := SB.out.below hb46
    replace D4 : Hid _ := D4.out.below hb46
    replace D5 : Hid _ := D5.out.below hb46
    replace D6 : Hid _ := D6.out.below hb46
    replace D32 : Hid _ := D32.out.below hb46
    replace D42 : Hid _ := D42.out.below hb46
    replace D43 : Hid _ := D43.out.below hb46
    replace hbw := Below.on hbw hb46
    clear hb46
    clear HJ
    have HJ : Hid ((fun W' : World => W'.cell? ⟨gm, 0, none⟩ = some (Fv mh) ∧ W'.cell? ⟨gm, 1, none⟩ = some (Fv ml) ∧ W'.cell? ⟨go, 0, none⟩ = some (Fv oh) ∧ W'.cell? ⟨go, 1, none⟩ = some (Fv ol) ∧ W'.cell? ⟨gu, 0, none⟩ = some (Fv uh) ∧ W'.cell? ⟨gu, 1, none⟩ = some (Fv ul) ∧ W'.cell? ⟨gsq, 0, none⟩ = some (.bool s32) ∧ W'.cell? ⟨gsq, 1, none⟩ = some (.slice p32 m32 m32) ∧ W'.cell? ⟨gsq, 2, none⟩ = some (.int .i64 e32) ∧ W'.cell? ⟨gsm, 0, none⟩ = some (.bool s6) ∧ W'.cell? ⟨gsm, 1, none⟩ = some (.slice p6 m6 m6) ∧ W'.cell? ⟨gsm, 2, none⟩ = some (.int .i64 e6) ∧ W'.cell? ⟨gyd, 0, none⟩ = some (.bool s5) ∧ W'.cell? ⟨gyd, 1, none⟩ = some (.slice p5 m5 m5) ∧ W'.cell? ⟨gyd, 2, none⟩ = some (.int .i64 e5) ∧ W'.cell? ⟨guu, 0, none⟩ = some (.bool s42) ∧ W'.cell? ⟨guu, 1, none⟩ = some (.slice p42 m42 m42) ∧ W'.cell? ⟨guu, 2, none⟩ = some (.int .i64 e42)) v46) := ⟨Xm.out.c0, Xm.out.c1, Xo.out.c0, Xo.out.c1, Xu.out.c0, Xu.out.c1, Xsq.out.c0, Xsq.out.c1, Xsq.out.c2, Xsm.out.c0, Xsm.out.c1, Xsm.out.c2, Xyd.out.c0, Xyd.out.c1, Xyd.out.c2, Xuu.out.c0, Xuu.out.c1, Xuu.out.c2⟩
    refine hK _ _ HJ.out ?_
    clear hK
    refine wpJ_tq 10 rfl HJ.out ?_
    refine wpJ_tq 11 rfl HJ.out ?_
    refine wpJ_tq 12 rfl HJ.out ?_
    refine wpJ_tq 13 rfl HJ.out ?_
    refine wpJ_tq 15 rfl HJ.out ?_
    refine wpJ_on 14 rfl fun KJ hK => ?_
    go_simp
    refine (ddSqr_f HU.out.1 FU.out.1 _).mono ?_
    rintro e9 v47 ⟨rh, rl, rfl, hd47, hq47, hb47⟩
    rw [HU.out.2] at hq47
    have HR := Hid.mk9 (And.intro hd47 hq47)
    clear hd47 hq47
    replace Xyd : Hid _ := Xyd.out.below hb47
    replace Xsm : Hid _ := Xsm.out.below hb47
    replace Xu : Hid _ := Xu.out.below hb47
    replace Xv : Hid _ := Xv.out.below hb47
    replace Xxd : Hid _ := Xxd.out.below hb47
    replace Xsq : Hid _ := Xsq.out.below hb47
    replace Xm : Hid _ := Xm.out.below hb47
    replace Xo : Hid _ := Xo.out.below hb47
    replace Xuu : Hid _ := Xuu.out.below hb47
    replace SB : Hid (SBx v47 gs) := SB.out.below hb47
    replace D4 : Hid _ := D4.out.below hb47
    replace D5 : Hid _ := D5.out.below hb47
    replace D6 : Hid _ := D6.out.below hb47
    replace D32 : Hid _ := D32.out.below hb47
    replace D42 : Hid _ := D42.out.below hb47
    replace D43 : Hid _ := D43.out.below hb47
    replace hbw := Below.on hbw hb47
    clear hb47
    refine hK _ _ ⟨Xm.out.c0, Xm.out.c1, Xo.out.c0, Xo.out.c1, Xu.out.c0, Xu.out.c1, Xsq.out.c0, Xsq.out.c1, Xsq.out.c2, Xsm.out.c0, Xsm.out.c1, Xsm.out.c2, Xyd.out.c0, Xyd.out.c1, Xyd.out.c2, Xuu.out.c0, Xuu.out.c1, Xuu.out.c2⟩ ?_
    clear hK
    refine wpJ_on 16 rfl fun KJ hK => ?_
    go_simp
    refine (wnear (c := OneE) (k := 102) HR.out.1 D42.out (HV42.out.2.mono (by decide) (by decide)) (HV42.out.1) (by decide) (by decide) (wn_mul HR.out.2) SB.out (TB.out.below hbw)).mono ?_
    rintro e v48 ⟨rfl, hb48⟩
    replace Xyd : Hid _ := Xyd.out.below hb48
    replace Xsm : Hid _ := Xsm.out.below hb48
    replace Xu : Hid _ := Xu.out.below hb48
    replace Xv : Hid _ := Xv.out.below hb48
    replace Xxd : Hid _ := Xxd.out.below hb48
    replace Xsq : Hid _ := Xsq.out.below hb48
    replace Xm : Hid _ := Xm.out.below hb48
    replace Xo : Hid _ := Xo.out.below hb48
    replace Xuu : Hid _ := Xuu.out.below hb48
    replace SB : Hid (SBx v48 gs) := SB.out.below hb48
    replace D4 : Hid _ := D4.out.below hb48
    replace D5 : Hid _ := D5.out.below hb48
    replace D6 : Hid _ := D6.out.below hb48
    replace D32 : Hid _ := D32.out.below hb48
    replace D42 : Hid _ := D42.out.below hb48
    replace D43 : Hid _ := D43.out.below hb48
    replace hbw := Below.on hbw hb48
    clear hb48
    clear HJ
    have HJ : Hid ((fun W' : World => W'.cell? ⟨gm, 0, none⟩ = some (Fv mh) ∧ W'.cell? ⟨gm, 1, none⟩ = some (Fv ml) ∧ W'.cell? ⟨go, 0, none⟩ = some (Fv oh) ∧ W'.cell? ⟨go, 1, none⟩ = some (Fv ol) ∧ W'.cell? ⟨gu, 0, none⟩ = some (Fv uh) ∧ W'.cell? ⟨gu, 1, none⟩ = some (Fv ul) ∧ W'.cell? ⟨gsq, 0, none⟩ = some (.bool s32) ∧ W'.cell? ⟨gsq, 1, none⟩ = some (.slice p32 m32 m32) ∧ W'.cell? ⟨gsq, 2, none⟩ = some (.int .i64 e32) ∧ W'.cell? ⟨gsm, 0, none⟩ = some (.bool s6) ∧ W'.cell? ⟨gsm, 1, none⟩ = some (.slice p6 m6 m6) ∧ W'.cell? ⟨gsm, 2, none⟩ = some (.int .i64 e6) ∧ W'.cell? ⟨gyd, 0, none⟩ = some (.bool s5) ∧ W'.cell? ⟨gyd, 1, none⟩ = some (.slice p5 m5 m5) ∧ W'.cell? ⟨gyd, 2, none⟩ = some (.int .i64 e5) ∧ W'.cell? ⟨guu, 0, none⟩ = some (.bool s42) ∧ W'.cell? ⟨guu, 1, none⟩ = some (.slice p42 m42 m42) ∧ W'.cell? ⟨guu, 2, none⟩ = some (.int .i64 e42)) v48) := ⟨Xm.out.c0, Xm.out.c1, Xo.out.c0, Xo.out.c1, Xu.out.c0, Xu.out.c1, Xsq.out.c0, Xsq.out.c1, Xsq.out.c2, Xsm.out.c0, Xsm.out.c1, Xsm.out.c2, Xyd.out.c0, Xyd.out.c1, Xyd.out.c2, Xuu.out.c0, Xuu.out.c1, Xuu.out.c2⟩
    refine hK _ _ HJ.out ?_
    clear hK
    refine wpJ_tq 17 rfl HJ.out ?_
    refine wpJ_tq 18 rfl HJ.out ?_
    refine wpJ_tq 19 rfl HJ.out ?_
    refine wpJ_tq 20 rfl HJ.out ?_
    refine wpJ_tq 21 rfl HJ.out ?_
    go_simp
    refine wpJ_tq 23 rfl HJ.out ?_
    refine wpJ_on 22 rfl fun KJ hK => ?_
    go_simp
    refine (ddMul_f HU.out.1 HU.out.1 FU.out.1 FU.out.1 _).mono ?_
    rintro e9 v49 ⟨th2, tl2, rfl, hd49, hq49, hb49⟩
    rw [HU.out.2] at hq49
    have HS2 := Hid.mk9 (And.intro hd49 hq49)
    clear hd49 hq49
    replace Xyd : Hid _ := Xyd.out.below hb49
    replace Xsm : Hid _ := Xsm.out.below hb49
    replace Xu : Hid _ := Xu.out.below hb49
    replace Xv : Hid _ := Xv.out.below hb49
    replace Xxd : Hid _ := Xxd.out.below hb49
    replace Xsq : Hid _ := Xsq.out.below hb49
    replace Xm : Hid _ := Xm.out.below hb49
    replace Xo : Hid _ := Xo.out.below hb49
    replace Xuu : Hid _ := Xuu.out.below hb49
    replace SB : Hid (SBx v49 gs) := SB.out.below hb49
    replace D4 : Hid _ := D4.out.below hb49
    replace D5 : Hid _ := D5.out.below hb49
    replace D6 : Hid _ := D6.out.below hb49
    replace D32 : Hid _ := D32.out.below hb49
    replace D42 : Hid _ := D42.out.below hb49
    replace D43 : Hid _ := D43.out.below hb49
    replace hbw := Below.on hbw hb49
    clear hb49
    refine hK _ _ ⟨Xm.out.c0, Xm.out.c1, Xo.out.c0, Xo.out.c1, Xu.out.c0, Xu.out.c1, Xsq.out.c0, Xsq.out.c1, Xsq.out.c2, Xsm.out.c0, Xsm.out.c1, Xsm.out.c2, Xyd.out.c0, Xyd.out.c1, Xyd.out.c2, Xuu.out.c0, Xuu.out.c1, Xuu.out.c2⟩ ?_
    clear hK
    refine wpJ_on 24 rfl fun KJ hK => ?_
    go_simp
    refine (wnear (c := OneE) (k := 102) HS2.out.1 D42.out (HV42.out.2.mono (by decide) (by decide)) (HV42.out.1) (by decide) (by decide) (wn_mul HS2.out.2) SB.out (TB.out.below hbw)).mono ?_
    rintro e v50 ⟨rfl, hb50⟩
    replace Xyd : Hid _ := Xyd.out.below hb50
    replace Xsm : Hid _ := Xsm.out.below hb50
    replace Xu : Hid _ := Xu.out.below hb50
    replace Xv : Hid _ := Xv.out.below hb50
    replace Xxd : Hid _ := Xxd.out.below hb50
    replace Xsq : Hid _ := Xsq.out.below hb50
    replace Xm : Hid _ := Xm.out.below hb50
    replace Xo : Hid _ := Xo.out.below hb50
    replace Xuu : Hid _ := Xuu.out.below hb50
    replace SB : Hid (SBx v50 gs) := SB.out.below hb50
    replace D4 : Hid _ := D4.out.below hb50
    replace D5 : Hid _ := D5.out.below hb50
    replace D6 : Hid _ := D6.out.below hb50
    replace D32 : Hid _ := D32.out.below hb50
    replace D42 : Hid _ := D42.out.below hb50
    replace D43 : Hid _ := D43.out.below hb50
    replace hbw := Below.on hbw hb50
    clear hb50
    clear HJ
    have HJ : Hid ((fun W' : World => W'.cell? ⟨gm, 0, none⟩ = some (Fv mh) ∧ W'.cell? ⟨gm, 1, none⟩ = some (Fv ml) ∧ W'.cell? ⟨go, 0, none⟩ = some (Fv oh) ∧ W'.cell? ⟨go, 1, none⟩ = some (Fv ol) ∧ W'.cell? ⟨gu, 0, none⟩ = some (Fv uh) ∧ W'.cell? ⟨gu, 1, none⟩ = some (Fv ul) ∧ W'.cell? ⟨gsq, 0, none⟩ = some (.bool s32) ∧ W'.cell? ⟨gsq, 1, none⟩ = some (.slice p32 m32 m32) ∧ W'.cell? ⟨gsq, 2, none⟩ = some (.int .i64 e32) ∧ W'.cell? ⟨gsm, 0, none⟩ = some (.bool s6) ∧ W'.cell? ⟨gsm, 1, none⟩ = some (.slice p6 m6 m6) ∧ W'.cell? ⟨gsm, 2, none⟩ = some (.int .i64 e6) ∧ W'.cell? ⟨gyd, 0, none⟩ = some (.bool s5) ∧ W'.cell? ⟨gyd, 1, none⟩ = some (.slice p5 m5 m5) ∧ W'.cell? ⟨gyd, 2, none⟩ = some (.int .i64 e5) ∧ W'.cell? ⟨guu, 0, none⟩ = some (.bool s42) ∧ W'.cell? ⟨guu, 1, none⟩ = some (.slice p42 m42 m42) ∧ W'.cell? ⟨guu, 2, none⟩ = some (.int .i64 e42)) v50) := ⟨Xm.out.c0, Xm.out.c1, Xo.out.c0, Xo.out.c1, Xu.out.c0, Xu.out.c1, Xsq.out.c0, Xsq.out.c1, Xsq.out.c2, Xsm.out.c0, Xsm.out.c1, Xsm.out.c2, Xyd.out.c0, Xyd.out.c1, Xyd.out.c2, Xuu.out.c0, Xuu.out.c1, Xuu.out.c2⟩
    refine hK _ _ HJ.out ?_
    clear hK
    refine wpJ_tq 25 rfl HJ.out ?_
    refine wpJ_tq 26 rfl HJ.out ?_
    refine wpJ_done (by kernel_rfl) ?_ _
    clear HJ
    by_cases hm5 : m5 = 0
    · have hc5 : ((m5 : Int) == 0) = true := by rw [hm5]; rfl
      clear hm5
      have hcs := SB.out.c
      obtain ⟨cyd0, cyd1, cyd2, fyd0, fyd1, fyd2⟩ := Xyd.out
      have hneyd : gyd < v50.heap.size := World.block_lt_of_cell? v50 _ cyd0
      go_wp2_with fail
      clear cyd0 cyd1 cyd2 fyd0 fyd1 fyd2 hneyd
      go_ret
      exact ⟨by first | rfl | simp, hbw⟩
    have HY0 : Hid (ux y ≠ 0) := by
      intro h
      apply hm5
      obtain ⟨xs, hX⟩ := D5.out.zn.ex
      refine hX.zero.2 ?_
      have q := HV5.out.1
      rw [h, dv_zero] at q
      rw [dv_eq_zero q]; rfl
    have hc5 : ((m5 : Int) == 0) = false := beq_eq_false_iff_ne.2 (by omega)
    clear hm5
    obtain ⟨cyd0, cyd1, cyd2, fyd0, fyd1, fyd2⟩ := Xyd.out
    have hneyd : gyd < v50.heap.size := World.block_lt_of_cell? v50 _ cyd0
    go_wp2_with fail
    clear cyd0 cyd1 cyd2 fyd0 fyd1 fyd2 hneyd
    clear hc5
    obtain ⟨VB, hVB⟩ : ∃ W1, W1 = v50.drew := ⟨_, rfl⟩
    have hbd : Below v50.heap.size v50 VB := by rw [hVB]; exact bDrew1 (Below.refl _ _)
    replace Xyd : Hid _ := Xyd.out.below hbd
    replace Xsm : Hid _ := Xsm.out.below hbd
    replace Xu : Hid _ := Xu.out.below hbd
    replace Xv : Hid _ := Xv.out.below hbd
    replace Xxd : Hid _ := Xxd.out.below hbd
    replace Xsq : Hid _ := Xsq.out.below hbd
    replace Xm : Hid _ := Xm.out.below hbd
    replace Xo : Hid _ := Xo.out.below hbd
    replace Xuu : Hid _ := Xuu.out.below hbd
    replace SB : Hid (SBx VB gs) := SB.out.below hbd
    replace D6 : Hid _ := D6.out.below hbd
    replace hbw := Below.on hbw hbd
    clear hbd
    have HJ : Hid ((fun W' : World => W'.cell? ⟨go, 0, none⟩ = some (Fv oh) ∧ W'.cell? ⟨go, 1, none⟩ = some (Fv ol)) VB) := ⟨Xo.out.c0, Xo.out.c1⟩
    refine wp_region_J (fun W' => W'.cell? ⟨go, 0, none⟩ = some (Fv oh) ∧ W'.cell? ⟨go, 1, none⟩ = some (Fv ol)) (by kernel_rfl) ?_
    rw [← hVB]
    clear hVB
    refine wpJ_tq 0 rfl HJ.out ?_
    refine wpJ_tq 1 rfl HJ.out ?_
    have HBB : Hid (Below w.heap.size w VB) := hbw
    clear hbw
    have hbw : Below VB.heap.size VB VB := Below.refl _ _
    go_simp
    refine wpJ_nodes5 fun WP hWP L0 a0 hL ha => ?_
    have N2_3_4 : ∀ (qh : Nat) (ql : Nat) (gq : Nat) (W' : World), (Box W' go (Fv oh) (Fv ol)) ∧ (B3q W' gsm (.bool s6) (.slice p6 m6 m6) (.int .i64 e6)) ∧ (Box W' gu (Fv uh) (Fv ul)) ∧ (B3q W' gyd (.bool s5) (.slice p5 m5 m5) (.int .i64 e5)) ∧ (Below VB.heap.size VB W') ∧ (DdF qh ql ∧ 81129638414606681695789005144064 * ((ux qh + ux ql) * ux y - (ux oh + ux ol) * (UE : Int)).natAbs ≤ 64 * ((ux oh + ux ol) * (UE : Int)).natAbs) ∧ (Box W' gq (Fv 0) (Fv 0)) ∧ (VB.heap.size ≤ gq) ∧ (gq ≠ go) ∧ (gq ≠ gsm) ∧ (gq ≠ gu) ∧ (gq ≠ gyd) → WP 1 (((L0.setIfInBounds 2 true).setIfInBounds 3 true).setIfInBounds 4 true) (((a0.put (some 176) (.agg #[Fv y, Fv 0])).put (some 177) (.agg #[Fv qh, Fv ql])).put (some 27) (.pointer (some ⟨gq, 0, none⟩))) W' := by
      rintro qh ql gq W' ⟨xo, xsm, xu, xyd, hbw, Q, xq, hgq, dqo, dqsm, dqu, dqyd⟩
      subst hWP hL ha
      have Hxo := Hid.mk5 xo
      have Hxsm := Hid.mk5 xsm
      have Hxu := Hid.mk5 xu
      have Hxyd := Hid.mk5 xyd
      have HQ := Hid.mk5 Q
      have Hxq := Hid.mk5 xq
      have Hhgq := Hid.mk5 hgq
      have Hdqo := Hid.mk5 dqo
      have Hdqsm := Hid.mk5 dqsm
      have Hdqu := Hid.mk5 dqu
      have Hdqyd := Hid.mk5 dqyd
      clear xo xsm xu xyd Q xq hgq dqo dqsm dqu dqyd
      go_simp
      have Xo := Hxo
      have Xsm := Hxsm
      have Xu := Hxu
      have Xyd := Hxyd
      have Xq := Hxq
      clear Hxo Hxsm Hxu Hxyd Hxq
      have eo := Hdqo.out
      have esm := Hdqsm.out
      have eu := Hdqu.out
      have eyd := Hdqyd.out
      have fo := Ne.symm eo
      have fsm := Ne.symm esm
      have fu := Ne.symm eu
      have fyd := Ne.symm eyd
      obtain ⟨co0, co1, fo0, fo1⟩ := Xo.out
      have hneo := Xo.out.lt
      obtain ⟨csm0, csm1, csm2, fsm0, fsm1, fsm2⟩ := Xsm.out
      have hnesm : gsm < W'.heap.size := World.block_lt_of_cell? W' _ csm0
      obtain ⟨cu0, cu1, fu0, fu1⟩ := Xu.out
      have hneu := Xu.out.lt
      obtain ⟨cyd0, cyd1, cyd2, fyd0, fyd1, fyd2⟩ := Xyd.out
      have hneyd : gyd < W'.heap.size := World.block_lt_of_cell? W' _ cyd0
      obtain ⟨cq0, cq1, fq0, fq1⟩ := Xq.out
      have hneq := Xq.out.lt
      refine wpJ_on 5 rfl fun KJ hK => ?_
      go_simp
      refine hK _ _ ⟨by go_simp, by go_simp⟩ ?_
      clear hK
      refine wpJ_done (by kernel_rfl) ?_ _
      obtain ⟨Wy, hWy⟩ : ∃ W9, W9 = ((W'.setCell ⟨gq, 0, none⟩ (Fv qh)).setCell ⟨gq, 1, none⟩ (Fv ql)) := ⟨_, rfl⟩
      have Yo : Hid (Box Wy go (Fv oh) (Fv ol)) := by rw [hWy]; exact ⟨by go_simp, by go_simp, by go_simp, by go_simp⟩
      have Ysm : Hid (B3q Wy gsm (.bool s6) (.slice p6 m6 m6) (.int .i64 e6)) := by rw [hWy]; exact ⟨by go_simp, by go_simp, by go_simp, by go_simp, by go_simp, by go_simp⟩
      have Yu : Hid (Box Wy gu (Fv uh) (Fv ul)) := by rw [hWy]; exact ⟨by go_simp, by go_simp, by go_simp, by go_simp⟩
      have Yyd : Hid (B3q Wy gyd (.bool s5) (.slice p5 m5 m5) (.int .i64 e5)) := by rw [hWy]; exact ⟨by go_simp, by go_simp, by go_simp, by go_simp, by go_simp, by go_simp⟩
      have Yq : Hid (Box Wy gq (Fv qh) (Fv ql)) := by rw [hWy]; exact ⟨by go_simp, by go_simp, by go_simp, by go_simp⟩
      have hbw2 : Below VB.heap.size VB Wy := by rw [hWy]; exact bSet (bSet hbw _ _ _ Hhgq.out) _ _ _ Hhgq.out
      clear co0 co1 fo0 fo1 hneo
      clear csm0 csm1 csm2 fsm0 fsm1 fsm2 hnesm
      clear cu0 cu1 fu0 fu1 hneu
      clear cyd0 cyd1 cyd2 fyd0 fyd1 fyd2 hneyd
      clear cq0 cq1 fq0 fq1 hneq
      rw [← hWy]
      clear hWy hbw Xo Xsm Xu Xyd Xq eo fo esm fsm eu fu eyd fyd
      have Xo := Yo
      have Xsm := Ysm
      have Xu := Yu
      have Xyd := Yyd
      have Xq := Yq
      clear Yo Ysm Yu Yyd Yq
      replace SB : Hid (SBx Wy gs) := SB.out.below hbw2
      replace D6 : Hid _ := D6.out.below hbw2
      have hbw := Below.on HBB.out hbw2
      clear hbw2
      obtain ⟨cq0, cq1, fq0, fq1⟩ := Xq.out
      have hneq := Xq.out.lt
      obtain ⟨csm0, csm1, csm2, fsm0, fsm1, fsm2⟩ := Xsm.out
      have hnesm : gsm < Wy.heap.size := World.block_lt_of_cell? Wy _ csm0
      obtain ⟨cu0, cu1, fu0, fu1⟩ := Xu.out
      have hneu := Xu.out.lt
      go_wp2_with fail
      clear cq0 cq1 fq0 fq1 hneq
      clear csm0 csm1 csm2 fsm0 fsm1 fsm2 hnesm
      clear cu0 cu1 fu0 fu1 hneu
      have GC := ddcmp uh ul (flipS uh) (flipS ul) HU.out.1.hi.lt HU.out.1.lo.lt (flip_ux HU.out.1.hi.lt).2.1 (flip_ux HU.out.1.lo.lt).2.1
      rw [cmp_neg20 HU.out.1 HU.out.2 HV6b.out] at GC
      obtain ⟨cc, hcc⟩ : ∃ cc, cc = cmpI (dv z6 e6) (dv (-z6) e6) := ⟨_, rfl⟩
      rw [← hcc] at GC
      have HGC := Hid.mk9 GC
      have HCC := Hid.mk9 hcc
      clear GC hcc
      have hbb : (cc == cc) = true := beq_self_eq_true cc
      obtain ⟨V70, hV70⟩ : ∃ W1, W1 = Wy.drew := ⟨_, rfl⟩
      have hbd : Below Wy.heap.size Wy V70 := by rw [hV70]; exact bDrew1 (Below.refl _ _)
      replace Xo : Hid _ := Xo.out.below hbd
      replace Xsm : Hid _ := Xsm.out.below hbd
      replace Xu : Hid _ := Xu.out.below hbd
      replace Xyd : Hid _ := Xyd.out.below hbd
      replace Xq : Hid _ := Xq.out.below hbd
      replace SB : Hid (SBx V70 gs) := SB.out.below hbd
      replace D6 : Hid _ := D6.out.below hbd
      replace hbw := Below.on hbw hbd
      clear hbd
      have HJ : Hid ((fun W' : World => W'.cell? ⟨gq, 0, none⟩ = some (Fv qh) ∧ W'.cell? ⟨gq, 1, none⟩ = some (Fv ql) ∧ W'.cell? ⟨gu, 0, none⟩ = some (Fv uh) ∧ W'.cell? ⟨gu, 1, none⟩ = some (Fv ul) ∧ W'.cell? ⟨gsm, 0, none⟩ = some (.bool s6) ∧ W'.cell? ⟨gsm, 1, none⟩ = some (.slice p6 m6 m6) ∧ W'.cell? ⟨gsm, 2, none⟩ = some (.int .i64 e6) ∧ W'.cell? ⟨gs, 0, none⟩ = some (.bool false)) V70) := ⟨Xq.out.c0, Xq.out.c1, Xu.out.c0, Xu.out.c1, Xsm.out.c0, Xsm.out.c1, Xsm.out.c2, (SB.out.c)⟩
      refine wp_region_J (fun W' => W'.cell? ⟨gq, 0, none⟩ = some (Fv qh) ∧ W'.cell? ⟨gq, 1, none⟩ = some (Fv ql) ∧ W'.cell? ⟨gu, 0, none⟩ = some (Fv uh) ∧ W'.cell? ⟨gu, 1, none⟩ = some (Fv ul) ∧ W'.cell? ⟨gsm, 0, none⟩ = some (.bool s6) ∧ W'.cell? ⟨gsm, 1, none⟩ = some (.slice p6 m6 m6) ∧ W'.cell? ⟨gsm, 2, none⟩ = some (.int .i64 e6) ∧ W'.cell? ⟨gs, 0, none⟩ = some (.bool false)) (by kernel_rfl) ?_
      rw [← hV70]
      clear hV70
      refine wpJ_tq 0 rfl HJ.out ?_
      refine wpJ_tq 1 rfl HJ.out ?_
      refine wpJ_on 2 rfl fun KJ hK => ?_
      go_simp
      refine (wnear (c := 0) (k := 99) HQ.out.1 D6.out (HV6.out.2.mono (by decide) (by decide)) (HV6.out.1) (by decide) (by decide) (wn_back2 HY0.out HP.out.2 HQ.out.2) SB.out (TB.out.below hbw)).mono ?_
      rintro e v60 ⟨rfl, hb60⟩
      replace Xo : Hid _ := Xo.out.below hb60
      replace Xsm : Hid _ := Xsm.out.below hb60
      replace Xu : Hid _ := Xu.out.below hb60
      replace Xyd : Hid _ := Xyd.out.below hb60
      replace Xq : Hid _ := Xq.out.below hb60
      replace SB : Hid (SBx v60 gs) := SB.out.below hb60
      replace D6 : Hid _ := D6.out.below hb60
      replace hbw := Below.on hbw hb60
      clear hb60
      clear HJ
      have HJ : Hid ((fun W' : World => W'.cell? ⟨gq, 0, none⟩ = some (Fv qh) ∧ W'.cell? ⟨gq, 1, none⟩ = some (Fv ql) ∧ W'.cell? ⟨gu, 0, none⟩ = some (Fv uh) ∧ W'.cell? ⟨gu, 1, none⟩ = some (Fv ul) ∧ W'.cell? ⟨gsm, 0, none⟩ = some (.bool s6) ∧ W'.cell? ⟨gsm, 1, none⟩ = some (.slice p6 m6 m6) ∧ W'.cell? ⟨gsm, 2, none⟩ = some (.int .i64 e6) ∧ W'.cell? ⟨gs, 0, none⟩ = some (.bool false)) v60) := ⟨Xq.out.c0, Xq.out.c1, Xu.out.c0, Xu.out.c1, Xsm.out.c0, Xsm.out.c1, Xsm.out.c2, (SB.out.c)⟩
      refine hK _ _ HJ.out ?_
      clear hK
      refine wpJ_tq 3 rfl HJ.out ?_
      refine wpJ_tq 4 rfl HJ.out ?_
      refine wpJ_tq 5 rfl HJ.out ?_
      refine wpJ_tq 8 rfl HJ.out ?_
      refine wpJ_tq 9 rfl HJ.out ?_
      refine wpJ_on 6 rfl fun KJ hK => ?_
      go_simp
      refine (ddneg uh ul HU.out.1.hi.lt HU.out.1.lo.lt _).mono ?_
      rintro e v61 ⟨rfl, hb61⟩
      replace Xo : Hid _ := Xo.out.below hb61
      replace Xsm : Hid _ := Xsm.out.below hb61
      replace Xu : Hid _ := Xu.out.below hb61
      replace Xyd : Hid _ := Xyd.out.below hb61
      replace Xq : Hid _ := Xq.out.below hb61
      replace SB : Hid (SBx v61 gs) := SB.out.below hb61
      replace D6 : Hid _ := D6.out.below hb61
      replace hbw := Below.on hbw hb61
      clear hb61
      refine hK _ _ ⟨Xq.out.c0, Xq.out.c1, Xu.out.c0, Xu.out.c1, Xsm.out.c0, Xsm.out.c1, Xsm.out.c2, (SB.out.c)⟩ ?_
      clear hK
      refine wpJ_on 7 rfl fun KJ hK => ?_
      go_simp
      refine (HGC.out _).mono ?_
      rintro e v63 ⟨rfl, hb63⟩
      replace Xo : Hid _ := Xo.out.below hb63
      replace Xsm : Hid _ := Xsm.out.below hb63
      replace Xu : Hid _ := Xu.out.below hb63
      replace Xyd : Hid _ := Xyd.out.below hb63
      replace Xq : Hid _ := Xq.out.below hb63
      replace SB : Hid (SBx v63 gs) := SB.out.below hb63
      replace D6 : Hid _ := D6.out.below hb63
      replace hbw := Below.on hbw hb63
      clear hb63
      refine hK _ _ ⟨Xq.out.c0, Xq.out.c1, Xu.out.c0, Xu.out.c1, Xsm.out.c0, Xsm.out.c1, Xsm.out.c2, (SB.out.c)⟩ ?_
      clear hK
      refine wpJ_on 10 rfl fun KJ hK => ?_
      go_simp
      refine (dneg_a D6.out).mono ?_
      rintro e9 v62 ⟨v, rfl, hv, hb62⟩
      obtain ⟨s62, p62, m62, rfl, hd62⟩ := DO.of hv (fm_neg D6.out.fm)
      clear hv
      replace Xo : Hid _ := Xo.out.below hb62
      replace Xsm : Hid _ := Xsm.out.below hb62
      replace Xu : Hid _ := Xu.out.below hb62
      replace Xyd : Hid _ := Xyd.out.below hb62
      replace Xq : Hid _ := Xq.out.below hb62
      replace SB : Hid (SBx v62 gs) := SB.out.below hb62
      replace D6 : Hid _ := D6.out.below hb62
      replace hbw := Below.on hbw hb62
      clear hb62
      have D62 : Hid (DN v62 s62 p62 m62 m62 e6 (-z6)) := hd62.dn
      clear hd62
      clear HJ
      have HJ : Hid ((fun W' : World => W'.cell? ⟨gq, 0, none⟩ = some (Fv qh) ∧ W'.cell? ⟨gq, 1, none⟩ = some (Fv ql) ∧ W'.cell? ⟨gu, 0, none⟩ = some (Fv uh) ∧ W'.cell? ⟨gu, 1, none⟩ = some (Fv ul) ∧ W'.cell? ⟨gsm, 0, none⟩ = some (.bool s6) ∧ W'.cell? ⟨gsm, 1, none⟩ = some (.slice p6 m6 m6) ∧ W'.cell? ⟨gsm, 2, none⟩ = some (.int .i64 e6) ∧ W'.cell? ⟨gs, 0, none⟩ = some (.bool false)) v62) := ⟨Xq.out.c0, Xq.out.c1, Xu.out.c0, Xu.out.c1, Xsm.out.c0, Xsm.out.c1, Xsm.out.c2, (SB.out.c)⟩
      refine hK _ _ HJ.out ?_
      clear hK
      refine wpJ_tq 11 rfl HJ.out ?_
      refine wpJ_tq 12 rfl HJ.out ?_
      refine wpJ_on 13 rfl fun KJ hK => ?_
      go_simp
      refine (stake).mono ?_
      rintro e v64 ⟨rfl, hb64⟩
      replace Xo : Hid _ := Xo.out.below hb64
      replace Xsm : Hid _ := Xsm.out.below hb64
      replace Xu : Hid _ := Xu.out.below hb64
      replace Xyd : Hid _ := Xyd.out.below hb64
      replace Xq : Hid _ := Xq.out.below hb64
      replace SB : Hid (SBx v64 gs) := SB.out.below hb64
      replace D6 : Hid _ := D6.out.below hb64
      replace D62 : Hid _ := D62.out.below hb64
      replace hbw := Below.on hbw hb64
      clear hb64
      refine hK _ _ ⟨Xq.out.c0, Xq.out.c1, Xu.out.c0, Xu.out.c1, Xsm.out.c0, Xsm.out.c1, Xsm.out.c2, (SB.out.c)⟩ ?_
      clear hK
      refine wpJ_on 14 rfl fun KJ hK => ?_
      go_simp
      refine (scmp D6.out D62.out).mono ?_
      rintro e v65 ⟨rfl, hb65⟩
      rw [← HCC.out]
      replace Xo : Hid _ := Xo.out.below hb65
      replace Xsm : Hid _ := Xsm.out.below hb65
      replace Xu : Hid _ := Xu.out.below hb65
      replace Xyd : Hid _ := Xyd.out.below hb65
      replace Xq : Hid _ := Xq.out.below hb65
      replace SB : Hid (SBx v65 gs) := SB.out.below hb65
      replace D6 : Hid _ := D6.out.below hb65
      replace D62 : Hid _ := D62.out.below hb65
      replace hbw := Below.on hbw hb65
      clear hb65
      clear HJ
      have HJ : Hid ((fun W' : World => W'.cell? ⟨gq, 0, none⟩ = some (Fv qh) ∧ W'.cell? ⟨gq, 1, none⟩ = some (Fv ql) ∧ W'.cell? ⟨gu, 0, none⟩ = some (Fv uh) ∧ W'.cell? ⟨gu, 1, none⟩ = some (Fv ul) ∧ W'.cell? ⟨gsm, 0, none⟩ = some (.bool s6) ∧ W'.cell? ⟨gsm, 1, none⟩ = some (.slice p6 m6 m6) ∧ W'.cell? ⟨gsm, 2, none⟩ = some (.int .i64 e6) ∧ W'.cell? ⟨gs, 0, none⟩ = some (.bool false)) v65) := ⟨Xq.out.c0, Xq.out.c1, Xu.out.c0, Xu.out.c1, Xsm.out.c0, Xsm.out.c1, Xsm.out.c2, (SB.out.c)⟩
      refine hK _ _ HJ.out ?_
      clear hK
      refine wpJ_tq 15 rfl HJ.out ?_
      refine wpJ_tq 16 rfl HJ.out ?_
      refine wpJ_tq 17 rfl HJ.out ?_
      refine wpJ_tq 18 rfl HJ.out ?_
      refine wpJ_tq 19 rfl HJ.out ?_
      go_simp
      refine wpJ_tq 20 rfl HJ.out ?_
      refine wpJ_tq 21 rfl HJ.out ?_
      refine wpJ_tq 22 rfl HJ.out ?_
      refine wpJ_done (by kernel_rfl) ?_ _
      clear HJ
      go_wp2_with fail
      go_ret
      exact ⟨by first | rfl | simp, hbw⟩
    have N2_3 : ∀ (qh : Nat) (ql : Nat) (W' : World), (Box W' go (Fv oh) (Fv ol)) ∧ (B3q W' gsm (.bool s6) (.slice p6 m6 m6) (.int .i64 e6)) ∧ (Box W' gu (Fv uh) (Fv ul)) ∧ (B3q W' gyd (.bool s5) (.slice p5 m5 m5) (.int .i64 e5)) ∧ (Below VB.heap.size VB W') ∧ (DdF qh ql ∧ 81129638414606681695789005144064 * ((ux qh + ux ql) * ux y - (ux oh + ux ol) * (UE : Int)).natAbs ≤ 64 * ((ux oh + ux ol) * (UE : Int)).natAbs) → WP 2 ((L0.setIfInBounds 2 true).setIfInBounds 3 true) ((a0.put (some 176) (.agg #[Fv y, Fv 0])).put (some 177) (.agg #[Fv qh, Fv ql])) W' := by
      rintro qh ql W' ⟨xo, xsm, xu, xyd, hbw, Q⟩
      subst hWP hL ha
      have Hxo := Hid.mk5 xo
      have Hxsm := Hid.mk5 xsm
      have Hxu := Hid.mk5 xu
      have Hxyd := Hid.mk5 xyd
      have HQ := Hid.mk5 Q
      clear xo xsm xu xyd Q
      go_simp
      refine wpJ_on 4 rfl fun KJ hK => ?_
      go_simp
      have hb := below1 W' (.cells #[Fv 0, Fv 0] 39)
      refine hK _ _ ⟨(Hxo.out.below hb).c0, (Hxo.out.below hb).c1⟩ ?_
      exact wpJ_same5 (by kernel_rfl) (by kernel_rfl) (N2_3_4 qh ql W'.heap.size _ ⟨(Hxo.out.below hb), (Hxsm.out.below hb), (Hxu.out.below hb), (Hxyd.out.below hb), (Below.on hbw hb), HQ.out, (Box.new W' _ _ _), hbw.size, (Nat.ne_of_gt Hxo.out.lt), (Nat.ne_of_gt Hxsm.out.lt), (Nat.ne_of_gt Hxu.out.lt), (Nat.ne_of_gt Hxyd.out.lt)⟩)
    have N2_4 : ∀ (gq : Nat) (W' : World), (Box W' go (Fv oh) (Fv ol)) ∧ (B3q W' gsm (.bool s6) (.slice p6 m6 m6) (.int .i64 e6)) ∧ (Box W' gu (Fv uh) (Fv ul)) ∧ (B3q W' gyd (.bool s5) (.slice p5 m5 m5) (.int .i64 e5)) ∧ (Below VB.heap.size VB W') ∧ (Box W' gq (Fv 0) (Fv 0)) ∧ (VB.heap.size ≤ gq) ∧ (gq ≠ go) ∧ (gq ≠ gsm) ∧ (gq ≠ gu) ∧ (gq ≠ gyd) → WP 2 ((L0.setIfInBounds 2 true).setIfInBounds 4 true) ((a0.put (some 176) (.agg #[Fv y, Fv 0])).put (some 27) (.pointer (some ⟨gq, 0, none⟩))) W' := by
      rintro gq W' ⟨xo, xsm, xu, xyd, hbw, xq, hgq, dqo, dqsm, dqu, dqyd⟩
      subst hWP hL ha
      have Hxo := Hid.mk5 xo
      have Hxsm := Hid.mk5 xsm
      have Hxu := Hid.mk5 xu
      have Hxyd := Hid.mk5 xyd
      have Hxq := Hid.mk5 xq
      have Hhgq := Hid.mk5 hgq
      have Hdqo := Hid.mk5 dqo
      have Hdqsm := Hid.mk5 dqsm
      have Hdqu := Hid.mk5 dqu
      have Hdqyd := Hid.mk5 dqyd
      clear xo xsm xu xyd xq hgq dqo dqsm dqu dqyd
      go_simp
      refine wpJ_on 3 rfl fun KJ hK => ?_
      go_simp
      refine (ddDiv_f HP.out.1 (ddf_one HY.out.fin HY.out.fitq) (fit_prd HX.out HY.out HP.out.1 HP.out.2) HY.out.fitq HY0.out _).mono ?_
      rintro e W2 ⟨qh, ql, rfl, hd, hq, hb⟩
      rw [ux_0, Int.add_zero] at hq
      refine hK _ _ ⟨(Hxo.out.below hb).c0, (Hxo.out.below hb).c1⟩ ?_
      exact wpJ_same5 (by kernel_rfl) (by kernel_rfl) (N2_3_4 qh ql gq W2 ⟨(Hxo.out.below hb), (Hxsm.out.below hb), (Hxu.out.below hb), (Hxyd.out.below hb), (Below.on hbw hb), ⟨hd, hq⟩, (Hxq.out.below hb), Hhgq.out, Hdqo.out, Hdqsm.out, Hdqu.out, Hdqyd.out⟩)
    have N2 : ∀ (W' : World), (Box W' go (Fv oh) (Fv ol)) ∧ (B3q W' gsm (.bool s6) (.slice p6 m6 m6) (.int .i64 e6)) ∧ (Box W' gu (Fv uh) (Fv ul)) ∧ (B3q W' gyd (.bool s5) (.slice p5 m5 m5) (.int .i64 e5)) ∧ (Below VB.heap.size VB W') → WP 3 (L0.setIfInBounds 2 true) (a0.put (some 176) (.agg #[Fv y, Fv 0])) W' := by
      rintro  W' ⟨xo, xsm, xu, xyd, hbw⟩
      subst hWP hL ha
      have Hxo := Hid.mk5 xo
      have Hxsm := Hid.mk5 xsm
      have Hxu := Hid.mk5 xu
      have Hxyd := Hid.mk5 xyd
      clear xo xsm xu xyd
      go_simp
      refine wpJ_two (i := 3) (k := 4) (by kernel_rfl) rfl rfl (by kernel_rfl) (by kernel_rfl) (fun KJ hK => ?_) (fun KJ hK => ?_)
      · go_simp
        refine (ddDiv_f HP.out.1 (ddf_one HY.out.fin HY.out.fitq) (fit_prd HX.out HY.out HP.out.1 HP.out.2) HY.out.fitq HY0.out _).mono ?_
        rintro e W2 ⟨qh, ql, rfl, hd, hq, hb⟩
        rw [ux_0, Int.add_zero] at hq
        refine hK _ _ ⟨(Hxo.out.below hb).c0, (Hxo.out.below hb).c1⟩ ?_
        exact wpJ_same5 (by kernel_rfl) (by kernel_rfl) (N2_3 qh ql W2 ⟨(Hxo.out.below hb), (Hxsm.out.below hb), (Hxu.out.below hb), (Hxyd.out.below hb), (Below.on hbw hb), ⟨hd, hq⟩⟩)
      · go_simp
        have hb := below1 W' (.cells #[Fv 0, Fv 0] 39)
        refine hK _ _ ⟨(Hxo.out.below hb).c0, (Hxo.out.below hb).c1⟩ ?_
        exact wpJ_same5 (by kernel_rfl) (by kernel_rfl) (N2_4 W'.heap.size _ ⟨(Hxo.out.below hb), (Hxsm.out.below hb), (Hxu.out.below hb), (Hxyd.out.below hb), (Below.on hbw hb), (Box.new W' _ _ _), hbw.size, (Nat.ne_of_gt Hxo.out.lt), (Nat.ne_of_gt Hxsm.out.lt), (Nat.ne_of_gt Hxu.out.lt), (Nat.ne_of_gt Hxyd.out.lt)⟩)
    have N4 : ∀ (gq : Nat) (W' : World), (Box W' go (Fv oh) (Fv ol)) ∧ (B3q W' gsm (.bool s6) (.slice p6 m6 m6) (.int .i64 e6)) ∧ (Box W' gu (Fv uh) (Fv ul)) ∧ (B3q W' gyd (.bool s5) (.slice p5 m5 m5) (.int .i64 e5)) ∧ (Below VB.heap.size VB W') ∧ (Box W' gq (Fv 0) (Fv 0)) ∧ (VB.heap.size ≤ gq) ∧ (gq ≠ go) ∧ (gq ≠ gsm) ∧ (gq ≠ gu) ∧ (gq ≠ gyd) → WP 3 (L0.setIfInBounds 4 true) (a0.put (some 27) (.pointer (some ⟨gq, 0, none⟩))) W' := by
      rintro gq W' ⟨xo, xsm, xu, xyd, hbw, xq, hgq, dqo, dqsm, dqu, dqyd⟩
      subst hWP hL ha
      have Hxo := Hid.mk5 xo
      have Hxsm := Hid.mk5 xsm
      have Hxu := Hid.mk5 xu
      have Hxyd := Hid.mk5 xyd
      have Hxq := Hid.mk5 xq
      have Hhgq := Hid.mk5 hgq
      have Hdqo := Hid.mk5 dqo
      have Hdqsm := Hid.mk5 dqsm
      have Hdqu := Hid.mk5 dqu
      have Hdqyd := Hid.mk5 dqyd
      clear xo xsm xu xyd xq hgq dqo dqsm dqu dqyd
      go_simp
      refine wpJ_on 2 rfl fun KJ hK => ?_
      go_simp
      refine (ddOf HY.out.fin _).mono ?_
      rintro e W2 ⟨rfl, hb⟩
      refine hK _ _ ⟨(Hxo.out.below hb).c0, (Hxo.out.below hb).c1⟩ ?_
      exact wpJ_same5 (by kernel_rfl) (by kernel_rfl) (N2_4 gq W2 ⟨(Hxo.out.below hb), (Hxsm.out.below hb), (Hxu.out.below hb), (Hxyd.out.below hb), (Below.on hbw hb), (Hxq.out.below hb), Hhgq.out, Hdqo.out, Hdqsm.out, Hdqu.out, Hdqyd.out⟩)
    have N_ : ∀ (W' : World), (Box W' go (Fv oh) (Fv ol)) ∧ (B3q W' gsm (.bool s6) (.slice p6 m6 m6) (.int .i64 e6)) ∧ (Box W' gu (Fv uh) (Fv ul)) ∧ (B3q W' gyd (.bool s5) (.slice p5 m5 m5) (.int .i64 e5)) ∧ (Below VB.heap.size VB W') → WP 4 L0 a0 W' := by
      rintro  W' ⟨xo, xsm, xu, xyd, hbw⟩
      subst hWP hL ha
      have Hxo := Hid.mk5 xo
      have Hxsm := Hid.mk5 xsm
      have Hxu := Hid.mk5 xu
      have Hxyd := Hid.mk5 xyd
      clear xo xsm xu xyd
      go_simp
      refine wpJ_two (i := 2) (k := 4) (by kernel_rfl) rfl rfl (by kernel_rfl) (by kernel_rfl) (fun KJ hK => ?_) (fun KJ hK => ?_)
      · go_simp
        refine (ddOf HY.out.fin _).mono ?_
        rintro e W2 ⟨rfl, hb⟩
        refine hK _ _ ⟨(Hxo.out.below hb).c0, (Hxo.out.below hb).c1⟩ ?_
        exact wpJ_same5 (by kernel_rfl) (by kernel_rfl) (N2  W2 ⟨(Hxo.out.below hb), (Hxsm.out.below hb), (Hxu.out.below hb), (Hxyd.out.below hb), (Below.on hbw hb)⟩)
      · go_simp
        have hb := below1 W' (.cells #[Fv 0, Fv 0] 39)
        refine hK _ _ ⟨(Hxo.out.below hb).c0, (Hxo.out.below hb).c1⟩ ?_
        exact wpJ_same5 (by kernel_rfl) (by kernel_rfl) (N4 W'.heap.size _ ⟨(Hxo.out.below hb), (Hxsm.out.below hb), (Hxu.out.below hb), (Hxyd.out.below hb), (Below.on hbw hb), (Box.new W' _ _ _), hbw.size, (Nat.ne_of_gt Hxo.out.lt), (Nat.ne_of_gt Hxsm.out.lt), (Nat.ne_of_gt Hxu.out.lt), (Nat.ne_of_gt Hxyd.out.lt)⟩)
    exact N_ VB ⟨Xo.out, Xsm.out, Xu.out, Xyd.out, hbw⟩
  have N2_5_6 : ∀ (s30 : Bool) (p30 : Option Addr) (m30 : Nat) (z30 : Int) (e30 : Int) (s31 : Bool) (p31 : Option Addr) (m31 : Nat) (z31 : Int) (e31 : Int) (s32 : Bool) (p32 : Option Addr) (m32 : Nat) (z32 : Int) (e32 : Int) (W' : World), (B3q W' gyd (.bool s5) (.slice p5 m5 m5) (.int .i64 e5)) ∧ (B3q W' gsm (.bool s6) (.slice p6 m6 m6) (.int .i64 e6)) ∧ (Box W' gu (Fv uh) (Fv ul)) ∧ (Box W' gv (Fv vh) (Fv vl)) ∧ (B3q W' gxd (.bool s4) (.slice p4 m4 m4) (.int .i64 e4)) ∧ (Below VB.heap.size VB W') ∧ (DN W' s30 p30 m30 m30 e30 z30) ∧ (dv z30 e30 = dv (ux x * ux x) (-1074 - ((OneE : Nat) : Int)) ∧ DB z30 e30 256 3116) ∧ (DN W' s31 p31 m31 m31 e31 z31) ∧ (dv z31 e31 = dv (ux y * ux y) (-1074 - ((OneE : Nat) : Int)) ∧ DB z31 e31 256 3116) ∧ (DN W' s32 p32 m32 m32 e32 z32) ∧ (dv z32 e32 = dv (ux x * ux x - ux y * ux y) (-1074 - ((OneE : Nat) : Int)) ∧ DB z32 e32 12000 30000) → WP 2 (((L0.setIfInBounds 2 true).setIfInBounds 5 true).setIfInBounds 6 true) (((a0.put (some 125) (DV s30 p30 m30 m30 e30)).put (some 128) (DV s31 p31 m31 m31 e31)).put (some 129) (DV s32 p32 m32 m32 e32)) W' := by
    rintro s30 p30 m30 z30 e30 s31 p31 m31 z31 e31 s32 p32 m32 z32 e32 W' ⟨xyd, xsm, xu, xv, xxd, hbw, D30, V30, D31, V31, D32, V32⟩
    subst hWP hL ha
    have Hxyd := Hid.mk5 xyd
    have Hxsm := Hid.mk5 xsm
    have Hxu := Hid.mk5 xu
    have Hxv := Hid.mk5 xv
    have Hxxd := Hid.mk5 xxd
    have HD30 := Hid.mk5 D30
    have HV30 := Hid.mk5 V30
    have HD31 := Hid.mk5 D31
    have HV31 := Hid.mk5 V31
    have HD32 := Hid.mk5 D32
    have HV32 := Hid.mk5 V32
    clear xyd xsm xu xv xxd D30 V30 D31 V31 D32 V32
    go_simp
    refine wpJ_on 7 rfl fun KJ hK => ?_
    go_simp
    have hb := below1 W' (.cells #[.bool false, .slice none 0 0, .int .i64 0] 33)
    refine hK _ _ ⟨(Hxxd.out.below hb).c0, (Hxxd.out.below hb).c1, (Hxxd.out.below hb).c2, (Hxyd.out.below hb).c0, (Hxyd.out.below hb).c1, (Hxyd.out.below hb).c2⟩ ?_
    exact wpJ_same5 (by kernel_rfl) (by kernel_rfl) (N2_5_6_7 s30 p30 m30 z30 e30 s31 p31 m31 z31 e31 s32 p32 m32 z32 e32 W'.heap.size _ ⟨(Hxyd.out.below hb), (Hxsm.out.below hb), (Hxu.out.below hb), (Hxv.out.below hb), (Hxxd.out.below hb), (Below.on hbw hb), (HD30.out.below hb), HV30.out, (HD31.out.below hb), HV31.out, (HD32.out.below hb), HV32.out, (B3q.new W' _ _ _ _), hbw.size, (Nat.ne_of_gt Hxyd.out.lt), (Nat.ne_of_gt Hxsm.out.lt), (Nat.ne_of_gt Hxu.out.lt), (Nat.ne_of_gt Hxv.out.lt), (Nat.ne_of_gt Hxxd.out.lt), (fun _ _ _ => HD32.out.below (bSet (bSet (bSet (below1 W' _) _ _ _ (Nat.le_refl _)) _ _ _ (Nat.le_refl _)) _ _ _ (Nat.le_refl _)))⟩)
  have N2_5_7 : ∀ (s30 : Bool) (p30 : Option Addr) (m30 : Nat) (z30 : Int) (e30 : Int) (s31 : Bool) (p31 : Option Addr) (m31 : Nat) (z31 : Int) (e31 : Int) (gsq : Nat) (W' : World), (B3q W' gyd (.bool s5) (.slice p5 m5 m5) (.int .i64 e5)) ∧ (B3q W' gsm (.bool s6) (.slice p6 m6 m6) (.int .i64 e6)) ∧ (Box W' gu (Fv uh) (Fv ul)) ∧ (Box W' gv (Fv vh) (Fv vl)) ∧ (B3q W' gxd (.bool s4) (.slice p4 m4 m4) (.int .i64 e4)) ∧ (Below VB.heap.size VB W') ∧ (DN W' s30 p30 m30 m30 e30 z30) ∧ (dv z30 e30 = dv (ux x * ux x) (-1074 - ((OneE : Nat) : Int)) ∧ DB z30 e30 256 3116) ∧ (DN W' s31 p31 m31 m31 e31 z31) ∧ (dv z31 e31 = dv (ux y * ux y) (-1074 - ((OneE : Nat) : Int)) ∧ DB z31 e31 256 3116) ∧ (B3q W' gsq (.bool false) (.slice none 0 0) (.int .i64 0)) ∧ (VB.heap.size ≤ gsq) ∧ (gsq ≠ gyd) ∧ (gsq ≠ gsm) ∧ (gsq ≠ gu) ∧ (gsq ≠ gv) ∧ (gsq ≠ gxd) → WP 2 (((L0.setIfInBounds 2 true).setIfInBounds 5 true).setIfInBounds 7 true) (((a0.put (some 125) (DV s30 p30 m30 m30 e30)).put (some 128) (DV s31 p31 m31 m31 e31)).put (some 23) (.pointer (some ⟨gsq, 0, none⟩))) W' := by
    rintro s30 p30 m30 z30 e30 s31 p31 m31 z31 e31 gsq W' ⟨xyd, xsm, xu, xv, xxd, hbw, D30, V30, D31, V31, xsq, hgsq, dsqyd, dsqsm, dsqu, dsqv, dsqxd⟩
    subst hWP hL ha
    have Hxyd := Hid.mk5 xyd
    have Hxsm := Hid.mk5 xsm
    have Hxu := Hid.mk5 xu
    have Hxv := Hid.mk5 xv
    have Hxxd := Hid.mk5 xxd
    have HD30 := Hid.mk5 D30
    have HV30 := Hid.mk5 V30
    have HD31 := Hid.mk5 D31
    have HV31 := Hid.mk5 V31
    have Hxsq := Hid.mk5 xsq
    have Hhgsq := Hid.mk5 hgsq
    have Hdsqyd := Hid.mk5 dsqyd
    have Hdsqsm := Hid.mk5 dsqsm
    have Hdsqu := Hid.mk5 dsqu
    have Hdsqv := Hid.mk5 dsqv
    have Hdsqxd := Hid.mk5 dsqxd
    clear xyd xsm xu xv xxd D30 V30 D31 V31 xsq hgsq dsqyd dsqsm dsqu dsqv dsqxd
    go_simp
    refine wpJ_on 6 rfl fun KJ hK => ?_
    go_simp
    refine (ssub (K := 256) (E := 3116) HD30.out HD31.out HV30.out.2 HV31.out.2 (by decide) (TB.out.below (Below.on HBB.out hbw))).mono ?_
    rintro e W2 ⟨z32, e32, s32, p32, m32, rfl, hd, hdb, hdv, hb⟩
    refine hK _ _ ⟨(Hxxd.out.below hb).c0, (Hxxd.out.below hb).c1, (Hxxd.out.below hb).c2, (Hxyd.out.below hb).c0, (Hxyd.out.below hb).c1, (Hxyd.out.below hb).c2⟩ ?_
    exact wpJ_same5 (by kernel_rfl) (by kernel_rfl) (N2_5_6_7 s30 p30 m30 z30 e30 s31 p31 m31 z31 e31 s32 p32 m32 z32 e32 gsq W2 ⟨(Hxyd.out.below hb), (Hxsm.out.below hb), (Hxu.out.below hb), (Hxv.out.below hb), (Hxxd.out.below hb), (Below.on hbw hb), (HD30.out.below hb), HV30.out, (HD31.out.below hb), HV31.out, hd.dn, ⟨(by rw [hdv, HV30.out.1, HV31.out.1, dv_sub2]), hdb.mono (by decide) (by decide)⟩, (Hxsq.out.below hb), Hhgsq.out, Hdsqyd.out, Hdsqsm.out, Hdsqu.out, Hdsqv.out, Hdsqxd.out, (fun _ _ _ => (((hd.set _ _ _ Hxsq.out.lt).set _ _ _ Hxsq.out.lt).set _ _ _ Hxsq.out.lt).dn)⟩)
  have N2_5 : ∀ (s30 : Bool) (p30 : Option Addr) (m30 : Nat) (z30 : Int) (e30 : Int) (s31 : Bool) (p31 : Option Addr) (m31 : Nat) (z31 : Int) (e31 : Int) (W' : World), (B3q W' gyd (.bool s5) (.slice p5 m5 m5) (.int .i64 e5)) ∧ (B3q W' gsm (.bool s6) (.slice p6 m6 m6) (.int .i64 e6)) ∧ (Box W' gu (Fv uh) (Fv ul)) ∧ (Box W' gv (Fv vh) (Fv vl)) ∧ (B3q W' gxd (.bool s4) (.slice p4 m4 m4) (.int .i64 e4)) ∧ (Below VB.heap.size VB W') ∧ (DN W' s30 p30 m30 m30 e30 z30) ∧ (dv z30 e30 = dv (ux x * ux x) (-1074 - ((OneE : Nat) : Int)) ∧ DB z30 e30 256 3116) ∧ (DN W' s31 p31 m31 m31 e31 z31) ∧ (dv z31 e31 = dv (ux y * ux y) (-1074 - ((OneE : Nat) : Int)) ∧ DB z31 e31 256 3116) → WP 3 ((L0.setIfInBounds 2 true).setIfInBounds 5 true) ((a0.put (some 125) (DV s30 p30 m30 m30 e30)).put (some 128) (DV s31 p31 m31 m31 e31)) W' := by
    rintro s30 p30 m30 z30 e30 s31 p31 m31 z31 e31 W' ⟨xyd, xsm, xu, xv, xxd, hbw, D30, V30, D31, V31⟩
    subst hWP hL ha
    have Hxyd := Hid.mk5 xyd
    have Hxsm := Hid.mk5 xsm
    have Hxu := Hid.mk5 xu
    have Hxv := Hid.mk5 xv
    have Hxxd := Hid.mk5 xxd
    have HD30 := Hid.mk5 D30
    have HV30 := Hid.mk5 V30
    have HD31 := Hid.mk5 D31
    have HV31 := Hid.mk5 V31
    clear xyd xsm xu xv xxd D30 V30 D31 V31
    go_simp
    refine wpJ_two (i := 6) (k := 7) (by kernel_rfl) rfl rfl (by kernel_rfl) (by kernel_rfl) (fun KJ hK => ?_) (fun KJ hK => ?_)
    · go_simp
      refine (ssub (K := 256) (E := 3116) HD30.out HD31.out HV30.out.2 HV31.out.2 (by decide) (TB.out.below (Below.on HBB.out hbw))).mono ?_
      rintro e W2 ⟨z32, e32, s32, p32, m32, rfl, hd, hdb, hdv, hb⟩
      refine hK _ _ ⟨(Hxxd.out.below hb).c0, (Hxxd.out.below hb).c1, (Hxxd.out.below hb).c2, (Hxyd.out.below hb).c0, (Hxyd.out.below hb).c1, (Hxyd.out.below hb).c2⟩ ?_
      exact wpJ_same5 (by kernel_rfl) (by kernel_rfl) (N2_5_6 s30 p30 m30 z30 e30 s31 p31 m31 z31 e31 s32 p32 m32 z32 e32 W2 ⟨(Hxyd.out.below hb), (Hxsm.out.below hb), (Hxu.out.below hb), (Hxv.out.below hb), (Hxxd.out.below hb), (Below.on hbw hb), (HD30.out.below hb), HV30.out, (HD31.out.below hb), HV31.out, hd.dn, ⟨(by rw [hdv, HV30.out.1, HV31.out.1, dv_sub2]), hdb.mono (by decide) (by decide)⟩⟩)
    · go_simp
      have hb := below1 W' (.cells #[.bool false, .slice none 0 0, .int .i64 0] 33)
      refine hK _ _ ⟨(Hxxd.out.below hb).c0, (Hxxd.out.below hb).c1, (Hxxd.out.below hb).c2, (Hxyd.out.below hb).c0, (Hxyd.out.below hb).c1, (Hxyd.out.below hb).c2⟩ ?_
      exact wpJ_same5 (by kernel_rfl) (by kernel_rfl) (N2_5_7 s30 p30 m30 z30 e30 s31 p31 m31 z31 e31 W'.heap.size _ ⟨(Hxyd.out.below hb), (Hxsm.out.below hb), (Hxu.out.below hb), (Hxv.out.below hb), (Hxxd.out.below hb), (Below.on hbw hb), (HD30.out.below hb), HV30.out, (HD31.out.below hb), HV31.out, (B3q.new W' _ _ _ _), hbw.size, (Nat.ne_of_gt Hxyd.out.lt), (Nat.ne_of_gt Hxsm.out.lt), (Nat.ne_of_gt Hxu.out.lt), (Nat.ne_of_gt Hxv.out.lt), (Nat.ne_of_gt Hxxd.out.lt)⟩)
  have N2_7 : ∀ (s30 : Bool) (p30 : Option Addr) (m30 : Nat) (z30 : Int) (e30 : Int) (gsq : Nat) (W' : World), (B3q W' gyd (.bool s5) (.slice p5 m5 m5) (.int .i64 e5)) ∧ (B3q W' gsm (.bool s6) (.slice p6 m6 m6) (.int .i64 e6)) ∧ (Box W' gu (Fv uh) (Fv ul)) ∧ (Box W' gv (Fv vh) (Fv vl)) ∧ (B3q W' gxd (.bool s4) (.slice p4 m4 m4) (.int .i64 e4)) ∧ (Below VB.heap.size VB W') ∧ (DN W' s30 p30 m30 m30 e30 z30) ∧ (dv z30 e30 = dv (ux x * ux x) (-1074 - ((OneE : Nat) : Int)) ∧ DB z30 e30 256 3116) ∧ (B3q W' gsq (.bool false) (.slice none 0 0) (.int .i64 0)) ∧ (VB.heap.size ≤ gsq) ∧ (gsq ≠ gyd) ∧ (gsq ≠ gsm) ∧ (gsq ≠ gu) ∧ (gsq ≠ gv) ∧ (gsq ≠ gxd) → WP 3 ((L0.setIfInBounds 2 true).setIfInBounds 7 true) ((a0.put (some 125) (DV s30 p30 m30 m30 e30)).put (some 23) (.pointer (some ⟨gsq, 0, none⟩))) W' := by
    rintro s30 p30 m30 z30 e30 gsq W' ⟨xyd, xsm, xu, xv, xxd, hbw, D30, V30, xsq, hgsq, dsqyd, dsqsm, dsqu, dsqv, dsqxd⟩
    subst hWP hL ha
    have Hxyd := Hid.mk5 xyd
    have Hxsm := Hid.mk5 xsm
    have Hxu := Hid.mk5 xu
    have Hxv := Hid.mk5 xv
    have Hxxd := Hid.mk5 xxd
    have HD30 := Hid.mk5 D30
    have HV30 := Hid.mk5 V30
    have Hxsq := Hid.mk5 xsq
    have Hhgsq := Hid.mk5 hgsq
    have Hdsqyd := Hid.mk5 dsqyd
    have Hdsqsm := Hid.mk5 dsqsm
    have Hdsqu := Hid.mk5 dsqu
    have Hdsqv := Hid.mk5 dsqv
    have Hdsqxd := Hid.mk5 dsqxd
    clear xyd xsm xu xv xxd D30 V30 xsq hgsq dsqyd dsqsm dsqu dsqv dsqxd
    go_simp
    refine wpJ_on 5 rfl fun KJ hK => ?_
    go_simp
    refine (smul (D5.out.below hbw) (D5.out.below hbw) HV5.out.2 HV5.out.2 (by decide) (by decide) (TB.out.below (Below.on HBB.out hbw))).mono ?_
    rintro e W2 ⟨z31, e31, s31, p31, m31, rfl, hd, hdb, hdv, hb⟩
    refine hK _ _ ⟨(Hxxd.out.below hb).c0, (Hxxd.out.below hb).c1, (Hxxd.out.below hb).c2, (Hxyd.out.below hb).c0, (Hxyd.out.below hb).c1, (Hxyd.out.below hb).c2⟩ ?_
    exact wpJ_same5 (by kernel_rfl) (by kernel_rfl) (N2_5_7 s30 p30 m30 z30 e30 s31 p31 m31 z31 e31 gsq W2 ⟨(Hxyd.out.below hb), (Hxsm.out.below hb), (Hxu.out.below hb), (Hxv.out.below hb), (Hxxd.out.below hb), (Below.on hbw hb), (HD30.out.below hb), HV30.out, hd.dn, ⟨w_mul HV5.out.1 HV5.out.1 (by have h1 := HV5.out.2.lo; have h2 := HV5.out.2.lo; omega) (by have h1 := HV5.out.2.lo; have h2 := HV5.out.2.lo; omega) hdv, hdb⟩, (Hxsq.out.below hb), Hhgsq.out, Hdsqyd.out, Hdsqsm.out, Hdsqu.out, Hdsqv.out, Hdsqxd.out⟩)
  have N2 : ∀ (s30 : Bool) (p30 : Option Addr) (m30 : Nat) (z30 : Int) (e30 : Int) (W' : World), (B3q W' gyd (.bool s5) (.slice p5 m5 m5) (.int .i64 e5)) ∧ (B3q W' gsm (.bool s6) (.slice p6 m6 m6) (.int .i64 e6)) ∧ (Box W' gu (Fv uh) (Fv ul)) ∧ (Box W' gv (Fv vh) (Fv vl)) ∧ (B3q W' gxd (.bool s4) (.slice p4 m4 m4) (.int .i64 e4)) ∧ (Below VB.heap.size VB W') ∧ (DN W' s30 p30 m30 m30 e30 z30) ∧ (dv z30 e30 = dv (ux x * ux x) (-1074 - ((OneE : Nat) : Int)) ∧ DB z30 e30 256 3116) → WP 4 (L0.setIfInBounds 2 true) (a0.put (some 125) (DV s30 p30 m30 m30 e30)) W' := by
    rintro s30 p30 m30 z30 e30 W' ⟨xyd, xsm, xu, xv, xxd, hbw, D30, V30⟩
    subst hWP hL ha
    have Hxyd := Hid.mk5 xyd
    have Hxsm := Hid.mk5 xsm
    have Hxu := Hid.mk5 xu
    have Hxv := Hid.mk5 xv
    have Hxxd := Hid.mk5 xxd
    have HD30 := Hid.mk5 D30
    have HV30 := Hid.mk5 V30
    clear xyd xsm xu xv xxd D30 V30
    go_simp
    refine wpJ_two (i := 5) (k := 7) (by kernel_rfl) rfl rfl (by kernel_rfl) (by kernel_rfl) (fun KJ hK => ?_) (fun KJ hK => ?_)
    · go_simp
      refine (smul (D5.out.below hbw) (D5.out.below hbw) HV5.out.2 HV5.out.2 (by decide) (by decide) (TB.out.below (Below.on HBB.out hbw))).mono ?_
      rintro e W2 ⟨z31, e31, s31, p31, m31, rfl, hd, hdb, hdv, hb⟩
      refine hK _ _ ⟨(Hxxd.out.below hb).c0, (Hxxd.out.below hb).c1, (Hxxd.out.below hb).c2, (Hxyd.out.below hb).c0, (Hxyd.out.below hb).c1, (Hxyd.out.below hb).c2⟩ ?_
      exact wpJ_same5 (by kernel_rfl) (by kernel_rfl) (N2_5 s30 p30 m30 z30 e30 s31 p31 m31 z31 e31 W2 ⟨(Hxyd.out.below hb), (Hxsm.out.below hb), (Hxu.out.below hb), (Hxv.out.below hb), (Hxxd.out.below hb), (Below.on hbw hb), (HD30.out.below hb), HV30.out, hd.dn, ⟨w_mul HV5.out.1 HV5.out.1 (by have h1 := HV5.out.2.lo; have h2 := HV5.out.2.lo; omega) (by have h1 := HV5.out.2.lo; have h2 := HV5.out.2.lo; omega) hdv, hdb⟩⟩)
    · go_simp
      have hb := below1 W' (.cells #[.bool false, .slice none 0 0, .int .i64 0] 33)
      refine hK _ _ ⟨(Hxxd.out.below hb).c0, (Hxxd.out.below hb).c1, (Hxxd.out.below hb).c2, (Hxyd.out.below hb).c0, (Hxyd.out.below hb).c1, (Hxyd.out.below hb).c2⟩ ?_
      exact wpJ_same5 (by kernel_rfl) (by kernel_rfl) (N2_7 s30 p30 m30 z30 e30 W'.heap.size _ ⟨(Hxyd.out.below hb), (Hxsm.out.below hb), (Hxu.out.below hb), (Hxv.out.below hb), (Hxxd.out.below hb), (Below.on hbw hb), (HD30.out.below hb), HV30.out, (B3q.new W' _ _ _ _), hbw.size, (Nat.ne_of_gt Hxyd.out.lt), (Nat.ne_of_gt Hxsm.out.lt), (Nat.ne_of_gt Hxu.out.lt), (Nat.ne_of_gt Hxv.out.lt), (Nat.ne_of_gt Hxxd.out.lt)⟩)
  have N7 : ∀ (gsq : Nat) (W' : World), (B3q W' gyd (.bool s5) (.slice p5 m5 m5) (.int .i64 e5)) ∧ (B3q W' gsm (.bool s6) (.slice p6 m6 m6) (.int .i64 e6)) ∧ (Box W' gu (Fv uh) (Fv ul)) ∧ (Box W' gv (Fv vh) (Fv vl)) ∧ (B3q W' gxd (.bool s4) (.slice p4 m4 m4) (.int .i64 e4)) ∧ (Below VB.heap.size VB W') ∧ (B3q W' gsq (.bool false) (.slice none 0 0) (.int .i64 0)) ∧ (VB.heap.size ≤ gsq) ∧ (gsq ≠ gyd) ∧ (gsq ≠ gsm) ∧ (gsq ≠ gu) ∧ (gsq ≠ gv) ∧ (gsq ≠ gxd) → WP 4 (L0.setIfInBounds 7 true) (a0.put (some 23) (.pointer (some ⟨gsq, 0, none⟩))) W' := by
    rintro gsq W' ⟨xyd, xsm, xu, xv, xxd, hbw, xsq, hgsq, dsqyd, dsqsm, dsqu, dsqv, dsqxd⟩
    subst hWP hL ha
    have Hxyd := Hid.mk5 xyd
    have Hxsm := Hid.mk5 xsm
    have Hxu := Hid.mk5 xu
    have Hxv := Hid.mk5 xv
    have Hxxd := Hid.mk5 xxd
    have Hxsq := Hid.mk5 xsq
    have Hhgsq := Hid.mk5 hgsq
    have Hdsqyd := Hid.mk5 dsqyd
    have Hdsqsm := Hid.mk5 dsqsm
    have Hdsqu := Hid.mk5 dsqu
    have Hdsqv := Hid.mk5 dsqv
    have Hdsqxd := Hid.mk5 dsqxd
    clear xyd xsm xu xv xxd xsq hgsq dsqyd dsqsm dsqu dsqv dsqxd
    go_simp
    refine wpJ_on 2 rfl fun KJ hK => ?_
    go_simp
    refine (smul (D4.out.below hbw) (D4.out.below hbw) HV4.out.2 HV4.out.2 (by decide) (by decide) (TB.out.below (Below.on HBB.out hbw))).mono ?_
    rintro e W2 ⟨z30, e30, s30, p30, m30, rfl, hd, hdb, hdv, hb⟩
    refine hK _ _ ⟨(Hxxd.out.below hb).c0, (Hxxd.out.below hb).c1, (Hxxd.out.below hb).c2, (Hxyd.out.below hb).c0, (Hxyd.out.below hb).c1, (Hxyd.out.below hb).c2⟩ ?_
    exact wpJ_same5 (by kernel_rfl) (by kernel_rfl) (N2_7 s30 p30 m30 z30 e30 gsq W2 ⟨(Hxyd.out.below hb), (Hxsm.out.below hb), (Hxu.out.below hb), (Hxv.out.below hb), (Hxxd.out.below hb), (Below.on hbw hb), hd.dn, ⟨w_mul HV4.out.1 HV4.out.1 (by have h1 := HV4.out.2.lo; have h2 := HV4.out.2.lo; omega) (by have h1 := HV4.out.2.lo; have h2 := HV4.out.2.lo; omega) hdv, hdb⟩, (Hxsq.out.below hb), Hhgsq.out, Hdsqyd.out, Hdsqsm.out, Hdsqu.out, Hdsqv.out, Hdsqxd.out⟩)
  have N_ : ∀ (W' : World), (B3q W' gyd (.bool s5) (.slice p5 m5 m5) (.int .i64 e5)) ∧ (B3q W' gsm (.bool s6) (.slice p6 m6 m6) (.int .i64 e6)) ∧ (Box W' gu (Fv uh) (Fv ul)) ∧ (Box W' gv (Fv vh) (Fv vl)) ∧ (B3q W' gxd (.bool s4) (.slice p4 m4 m4) (.int .i64 e4)) ∧ (Below VB.heap.size VB W') → WP 5 L0 a0 W' := by
    rintro  W' ⟨xyd, xsm, xu, xv, xxd, hbw⟩
    subst hWP hL ha
    have Hxyd := Hid.mk5 xyd
    have Hxsm := Hid.mk5 xsm
    have Hxu := Hid.mk5 xu
    have Hxv := Hid.mk5 xv
    have Hxxd := Hid.mk5 xxd
    clear xyd xsm xu xv xxd
    go_simp
    refine wpJ_two (i := 2) (k := 7) (by kernel_rfl) rfl rfl (by kernel_rfl) (by kernel_rfl) (fun KJ hK => ?_) (fun KJ hK => ?_)
    · go_simp
      refine (smul (D4.out.below hbw) (D4.out.below hbw) HV4.out.2 HV4.out.2 (by decide) (by decide) (TB.out.below (Below.on HBB.out hbw))).mono ?_
      rintro e W2 ⟨z30, e30, s30, p30, m30, rfl, hd, hdb, hdv, hb⟩
      refine hK _ _ ⟨(Hxxd.out.below hb).c0, (Hxxd.out.below hb).c1, (Hxxd.out.below hb).c2, (Hxyd.out.below hb).c0, (Hxyd.out.below hb).c1, (Hxyd.out.below hb).c2⟩ ?_
      exact wpJ_same5 (by kernel_rfl) (by kernel_rfl) (N2 s30 p30 m30 z30 e30 W2 ⟨(Hxyd.out.below hb), (Hxsm.out.below hb), (Hxu.out.below hb), (Hxv.out.below hb), (Hxxd.out.below hb), (Below.on hbw hb), hd.dn, ⟨w_mul HV4.out.1 HV4.out.1 (by have h1 := HV4.out.2.lo; have h2 := HV4.out.2.lo; omega) (by have h1 := HV4.out.2.lo; have h2 := HV4.out.2.lo; omega) hdv, hdb⟩⟩)
    · go_simp
      have hb := below1 W' (.cells #[.bool false, .slice none 0 0, .int .i64 0] 33)
      refine hK _ _ ⟨(Hxxd.out.below hb).c0, (Hxxd.out.below hb).c1, (Hxxd.out.below hb).c2, (Hxyd.out.below hb).c0, (Hxyd.out.below hb).c1, (Hxyd.out.below hb).c2⟩ ?_
      exact wpJ_same5 (by kernel_rfl) (by kernel_rfl) (N7 W'.heap.size _ ⟨(Hxyd.out.below hb), (Hxsm.out.below hb), (Hxu.out.below hb), (Hxv.out.below hb), (Hxxd.out.below hb), (Below.on hbw hb), (B3q.new W' _ _ _ _), hbw.size, (Nat.ne_of_gt Hxyd.out.lt), (Nat.ne_of_gt Hxsm.out.lt), (Nat.ne_of_gt Hxu.out.lt), (Nat.ne_of_gt Hxv.out.lt), (Nat.ne_of_gt Hxxd.out.lt)⟩)
  exact N_ VB ⟨Xyd.out, Xsm.out, Xu.out, Xv.out, Xxd.out, hbw⟩
end Go.Proofs.YtidggnjnlhjhlabGreatDoor
