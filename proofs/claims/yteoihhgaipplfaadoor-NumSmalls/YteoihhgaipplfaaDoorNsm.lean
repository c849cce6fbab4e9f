import Derived.Test.YteoihhgaipplfaaDoorJ15
namespace Go.Proofs.YteoihhgaipplfaaDoor
open Go.RowKit Go.Shelf

theorem tdiv_iv (s t : Bool) (a b : Nat) : (iv s a).tdiv (iv t b) = iv (s != t) (a / b) := by
  cases s <;> cases t <;> simp [iv, Int.neg_tdiv, Int.tdiv_neg]
theorem tmod_iv (s t : Bool) (a b : Nat) : (iv s a).tmod (iv t b) = iv s (a % b) := by
  cases s <;> cases t <;> simp [iv, Int.neg_tmod, Int.tmod_neg, Int.tmod_eq_emod_of_nonneg]
theorem fl_want (i j : Int) : fl (decide (i < 0) != decide (j < 0)) i.natAbs j.natAbs = i.tdiv j - (if i.tmod j ≠ 0 ∧ ¬ (decide (i < 0) = decide (j < 0)) then 1 else 0) := by
  have e1 : i.tdiv j = iv (decide (i < 0) != decide (j < 0)) (i.natAbs / j.natAbs) := by
    have := tdiv_iv (decide (i < 0)) (decide (j < 0)) i.natAbs j.natAbs
    rwa [iv_abs, iv_abs] at this
  have e2 : i.tmod j = iv (decide (i < 0)) (i.natAbs % j.natAbs) := by
    have := tmod_iv (decide (i < 0)) (decide (j < 0)) i.natAbs j.natAbs
    rwa [iv_abs, iv_abs] at this
  rw [e1, e2]
  have e3 : iv (decide (i < 0)) (i.natAbs % j.natAbs) ≠ 0 ↔ i.natAbs % j.natAbs ≠ 0 := by
    cases decide (i < 0) <;> simp [iv] <;> omega
  unfold fl
  generalize i.natAbs / j.natAbs = q
  generalize i.natAbs % j.natAbs = r at *
  by_cases hr : r = 0
  · rw [if_neg (by rw [e3]; simp [hr])]
    simp [hr]
  · generalize decide (i < 0) = s at *
    generalize decide (j < 0) = t at *
    cases s <;> cases t <;> simp [iv, hr] <;> omega
theorem fl_abs (s : Bool) (a d : Nat) : (fl s a d).natAbs ≤ a := by
  have h1 : (fl s a d).natAbs = a / d + (s && decide (a % d ≠ 0)).toNat := by unfold fl; cases s <;> simp only [iv, if_true, Bool.false_eq_true, if_false, Int.natAbs_neg, Int.natAbs_natCast]
  rw [h1]
  by_cases hr : a % d = 0
  · rw [hr]; simp; exact Nat.div_le_self a d
  · have : a / d + 1 ≤ a := ce_le hr
    have := Bool.toNat_le (s && decide (a % d ≠ 0))
    omega
theorem small_lim2 {k : Nat} (h : k ≤ B64) : k < LIM := by
  refine Nat.lt_of_le_of_lt h ?_
  obtain ⟨K, hK⟩ : ∃ K, K = 8192 := ⟨8192, rfl⟩
  rw [LIM_eq K hK]
  refine Nat.lt_of_lt_of_le ?_ (Nat.pow_le_pow_right B64_pos (show 2 ≤ K by omega))
  decide
set_option maxRecDepth 20000 in
set_option maxHeartbeats 8000000 in
theorem numsmalls_walk (i j : Int) (w : World) (hi0 : -9223372036854775808 ≤ i) (hi1 : i ≤ 9223372036854775807) (hj0 : -9223372036854775808 ≤ j) (hj1 : j ≤ 9223372036854775807) (hT : Tab w) :
    Calls Tryd.prog 4 #[.int .i64 i, .int .i64 j] w fun e w' => e = .returned (.bool true) ∧ Below w.heap.size w w' := by
  have HT : Hid (Tab w) := hT
  have HI : Hid (-9223372036854775808 ≤ i ∧ i ≤ 9223372036854775807) := ⟨hi0, hi1⟩
  have HJ0 : Hid (-9223372036854775808 ≤ j ∧ j ≤ 9223372036854775807) := ⟨hj0, hj1⟩
  clear hT hi0 hi1 hj0 hj1
  go_enter Tryd.func4, Tryd.ntmps4
  go_wp2_with fail
  have hbw : Below w.heap.size w w := Below.refl _ _
  refine (awake4_any w).mono ?_
  rintro e v1 ⟨rfl, hb1⟩
  have HT' : Hid (Tab v1) := HT.out.below hb1
  clear HT
  have HT := HT'
  clear HT'
  have hbw' := Below.on hbw hb1
  clear hbw
  have hbw := hbw'
  clear hbw'
  clear hb1
  go_wp2_with fail
  refine (halves_any v1 HT.out).mono ?_
  rintro e v2 ⟨rfl, hb2⟩
  have HT' : Hid (Tab v2) := HT.out.below hb2
  clear HT
  have HT := HT'
  clear HT'
  have hbw' := Below.on hbw hb2
  clear hbw
  have hbw := hbw'
  clear hbw'
  clear hb2
  go_wp2_with fail
  refine (zof i v2 HI.out.1 HI.out.2).mono ?_
  rintro e v3 ⟨s3, p3, m3, rfl, hz, hb3⟩
  have HT' : Hid (Tab v3) := HT.out.below hb3
  clear HT
  have HT := HT'
  clear HT'
  have hbw' := Below.on hbw hb3
  clear hbw
  have hbw := hbw'
  clear hbw'
  clear hb3
  have Zx : Hid (ZN v3 s3 p3 m3 m3 (i)) := hz
  clear hz
  go_wp2_with fail
  refine (zof j v3 HJ0.out.1 HJ0.out.2).mono ?_
  rintro e v4 ⟨s4, p4, m4, rfl, hz, hb4⟩
  have HT' : Hid (Tab v4) := HT.out.below hb4
  clear HT
  have HT := HT'
  clear HT'
  have Zx' : Hid (ZN v4 s3 p3 m3 m3 (i)) := Zx.out.below hb4
  clear Zx
  have Zx := Zx'
  clear Zx'
  have hbw' := Below.on hbw hb4
  clear hbw
  have hbw := hbw'
  clear hbw'
  clear hb4
  have Zy : Hid (ZN v4 s4 p4 m4 m4 (j)) := hz
  clear hz
  go_wp2_with fail
  rw [show v4.heap.size + 1 = (v4.alloc (.cells #[.bool s3, .slice p3 m3 m3] 35)).heap.size from by simp]
  have Xx0 : Hid (Box (v4.alloc (.cells #[.bool s3, .slice p3 m3 m3] 35)) v4.heap.size (.bool s3) (.slice p3 m3 m3)) := Box.new v4 _ _ _
  have hbn : Below v4.heap.size v4 (v4.alloc (.cells #[.bool s3, .slice p3 m3 m3] 35)) := below1 v4 _
  generalize v4.alloc (.cells #[.bool s3, .slice p3 m3 m3] 35) = W4 at *
  have HGx : Hid (w.heap.size ≤ v4.heap.size) := hbw.size
  have HT' : Hid (Tab W4) := HT.out.below hbn
  clear HT
  have HT := HT'
  clear HT'
  have Zx' : Hid (ZN W4 s3 p3 m3 m3 (i)) := Zx.out.below hbn
  clear Zx
  have Zx := Zx'
  clear Zx'
  have Zy' : Hid (ZN W4 s4 p4 m4 m4 (j)) := Zy.out.below hbn
  clear Zy
  have Zy := Zy'
  clear Zy'
  have hbw' := Below.on hbw hbn
  clear hbw
  have hbw := hbw'
  clear hbw'
  clear hbn
  generalize v4.heap.size = gx at *
  have Xx := Xx0
  clear Xx0
  have Xy0 : Hid (Box (W4.alloc (.cells #[.bool s4, .slice p4 m4 m4] 35)) W4.heap.size (.bool s4) (.slice p4 m4 m4)) := Box.new W4 _ _ _
  have hbn : Below W4.heap.size W4 (W4.alloc (.cells #[.bool s4, .slice p4 m4 m4] 35)) := below1 W4 _
  generalize W4.alloc (.cells #[.bool s4, .slice p4 m4 m4] 35) = W5 at *
  have HGy : Hid (w.heap.size ≤ W4.heap.size) := hbw.size
  have Yx : Hid (Box W5 gx (.bool s3) (.slice p3 m3 m3)) := Xx.out.below hbn
  clear Xx
  have Xx := Yx
  clear Yx
  have HT' : Hid (Tab W5) := HT.out.below hbn
  clear HT
  have HT := HT'
  clear HT'
  have Zx' : Hid (ZN W5 s3 p3 m3 m3 (i)) := Zx.out.below hbn
  clear Zx
  have Zx := Zx'
  clear Zx'
  have Zy' : Hid (ZN W5 s4 p4 m4 m4 (j)) := Zy.out.below hbn
  clear Zy
  have Zy := Zy'
  clear Zy'
  have hbw' := Below.on hbw hbn
  clear hbw
  have hbw := hbw'
  clear hbw'
  clear hbn
  generalize W4.heap.size = gy at *
  have Xy := Xy0
  clear Xy0
  refine (zsmall Zx.out).mono ?_
  rintro e v6 ⟨rfl, hb6⟩
  rw [if_pos HI.out]
  have Yx : Hid (Box v6 gx (.bool s3) (.slice p3 m3 m3)) := Xx.out.below hb6
  clear Xx
  have Xx := Yx
  clear Yx
  have Yy : Hid (Box v6 gy (.bool s4) (.slice p4 m4 m4)) := Xy.out.below hb6
  clear Xy
  have Xy := Yy
  clear Yy
  have HT' : Hid (Tab v6) := HT.out.below hb6
  clear HT
  have HT := HT'
  clear HT'
  have Zx' : Hid (ZN v6 s3 p3 m3 m3 (i)) := Zx.out.below hb6
  clear Zx
  have Zx := Zx'
  clear Zx'
  have Zy' : Hid (ZN v6 s4 p4 m4 m4 (j)) := Zy.out.below hb6
  clear Zy
  have Zy := Zy'
  clear Zy'
  have hbw' := Below.on hbw hb6
  clear hbw
  have hbw := hbw'
  clear hbw'
  clear hb6
  obtain ⟨cx0, cx1, fx0, fx1⟩ := Xx.out
  have hnex : gx < v6.heap.size := World.block_lt_of_cell? v6 _ cx0
  go_wp2_with fail
  clear cx0 cx1 fx0 fx1 hnex
  refine (zform Zx.out).mono ?_
  rintro e v7 ⟨rfl, hb7⟩
  have Yx : Hid (Box v7 gx (.bool s3) (.slice p3 m3 m3)) := Xx.out.below hb7
  clear Xx
  have Xx := Yx
  clear Yx
  have Yy : Hid (Box v7 gy (.bool s4) (.slice p4 m4 m4)) := Xy.out.below hb7
  clear Xy
  have Xy := Yy
  clear Yy
  have HT' : Hid (Tab v7) := HT.out.below hb7
  clear HT
  have HT := HT'
  clear HT'
  have Zx' : Hid (ZN v7 s3 p3 m3 m3 (i)) := Zx.out.below hb7
  clear Zx
  have Zx := Zx'
  clear Zx'
  have Zy' : Hid (ZN v7 s4 p4 m4 m4 (j)) := Zy.out.below hb7
  clear Zy
  have Zy := Zy'
  clear Zy'
  have hbw' := Below.on hbw hb7
  clear hbw
  have hbw := hbw'
  clear hbw'
  clear hb7
  obtain ⟨cx0, cx1, fx0, fx1⟩ := Xx.out
  have hnex : gx < v7.heap.size := World.block_lt_of_cell? v7 _ cx0
  go_wp2_with fail
  clear cx0 cx1 fx0 fx1 hnex
  obtain ⟨b0, hb0⟩ : ∃ b0, b0 = decide (i < 0) := ⟨_, rfl⟩
  obtain ⟨b1, hb1⟩ : ∃ b1, b1 = decide (0 < i) := ⟨_, rfl⟩
  have HB : Hid (b0 = decide (i < 0) ∧ b1 = decide (0 < i)) := ⟨hb0, hb1⟩
  have k0 := hb0.symm
  have k1 := hb1.symm
  clear hb0 hb1
  obtain ⟨sg, hsg⟩ : ∃ sg, sg = sgnI i := ⟨_, rfl⟩
  have s0 : decide (sg < 0) = b0 := by rw [HB.out.1, hsg]; unfold sgnI; split; (simp; omega); split <;> simp <;> omega
  have s1 : decide (0 < sg) = b1 := by rw [HB.out.2, hsg]; unfold sgnI; split; (simp; omega); split <;> simp <;> omega
  have HSG : Hid (sg = sgnI i) := hsg
  clear hsg
  have bb0 : (b0 == b0) = true := by simp
  have bb1 : (b1 == b1) = true := by simp
  refine (zsign Zx.out).mono ?_
  rintro e v8 ⟨rfl, hb8⟩
  rw [← HSG.out]
  have Yx : Hid (Box v8 gx (.bool s3) (.slice p3 m3 m3)) := Xx.out.below hb8
  clear Xx
  have Xx := Yx
  clear Yx
  have Yy : Hid (Box v8 gy (.bool s4) (.slice p4 m4 m4)) := Xy.out.below hb8
  clear Xy
  have Xy := Yy
  clear Yy
  have HT' : Hid (Tab v8) := HT.out.below hb8
  clear HT
  have HT := HT'
  clear HT'
  have Zx' : Hid (ZN v8 s3 p3 m3 m3 (i)) := Zx.out.below hb8
  clear Zx
  have Zx := Zx'
  clear Zx'
  have Zy' : Hid (ZN v8 s4 p4 m4 m4 (j)) := Zy.out.below hb8
  clear Zy
  have Zy := Zy'
  clear Zy'
  have hbw' := Below.on hbw hb8
  clear hbw
  have hbw := hbw'
  clear hbw'
  clear hb8
  obtain ⟨cx0, cx1, fx0, fx1⟩ := Xx.out
  have hnex : gx < v8.heap.size := World.block_lt_of_cell? v8 _ cx0
  go_wp2_with fail
  clear cx0 cx1 fx0 fx1 hnex
  refine (zsign Zx.out).mono ?_
  rintro e v9 ⟨rfl, hb9⟩
  rw [← HSG.out]
  have Yx : Hid (Box v9 gx (.bool s3) (.slice p3 m3 m3)) := Xx.out.below hb9
  clear Xx
  have Xx := Yx
  clear Yx
  have Yy : Hid (Box v9 gy (.bool s4) (.slice p4 m4 m4)) := Xy.out.below hb9
  clear Xy
  have Xy := Yy
  clear Yy
  have HT' : Hid (Tab v9) := HT.out.below hb9
  clear HT
  have HT := HT'
  clear HT'
  have Zx' : Hid (ZN v9 s3 p3 m3 m3 (i)) := Zx.out.below hb9
  clear Zx
  have Zx := Zx'
  clear Zx'
  have Zy' : Hid (ZN v9 s4 p4 m4 m4 (j)) := Zy.out.below hb9
  clear Zy
  have Zy := Zy'
  clear Zy'
  have hbw' := Below.on hbw hb9
  clear hbw
  have hbw := hbw'
  clear hbw'
  clear hb9
  obtain ⟨cx0, cx1, fx0, fx1⟩ := Xx.out
  have hnex : gx < v9.heap.size := World.block_lt_of_cell? v9 _ cx0
  obtain ⟨cy0, cy1, fy0, fy1⟩ := Xy.out
  have hney : gy < v9.heap.size := World.block_lt_of_cell? v9 _ cy0
  go_wp2_with fail
  clear cx0 cx1 fx0 fx1 hnex
  clear cy0 cy1 fy0 fy1 hney
  clear s0 s1 bb0 bb1 k0 k1 HSG
  obtain ⟨c0, hc0⟩ : ∃ c0, c0 = decide (i < j) := ⟨_, rfl⟩
  obtain ⟨c1, hc1⟩ : ∃ c1, c1 = decide (j < i) := ⟨_, rfl⟩
  have HC : Hid (c0 = decide (i < j) ∧ c1 = decide (j < i)) := ⟨hc0, hc1⟩
  have k0 := hc0.symm
  have k1 := hc1.symm
  clear hc0 hc1
  obtain ⟨cm, hcm⟩ : ∃ cm, cm = cmpI i j := ⟨_, rfl⟩
  have s0 : decide (cm < 0) = c0 := by rw [HC.out.1, hcm]; unfold cmpI; split; (simp; omega); split <;> simp <;> omega
  have s1 : decide (0 < cm) = c1 := by rw [HC.out.2, hcm]; unfold cmpI; split; (simp; omega); split <;> simp <;> omega
  have HCM : Hid (cm = cmpI i j) := hcm
  clear hcm
  have bb0 : (c0 == c0) = true := by simp
  have bb1 : (c1 == c1) = true := by simp
  refine (zcmp Zx.out Zy.out).mono ?_
  rintro e v10 ⟨rfl, hb10⟩
  rw [← HCM.out]
  have Yx : Hid (Box v10 gx (.bool s3) (.slice p3 m3 m3)) := Xx.out.below hb10
  clear Xx
  have Xx := Yx
  clear Yx
  have Yy : Hid (Box v10 gy (.bool s4) (.slice p4 m4 m4)) := Xy.out.below hb10
  clear Xy
  have Xy := Yy
  clear Yy
  have HT' : Hid (Tab v10) := HT.out.below hb10
  clear HT
  have HT := HT'
  clear HT'
  have Zx' : Hid (ZN v10 s3 p3 m3 m3 (i)) := Zx.out.below hb10
  clear Zx
  have Zx := Zx'
  clear Zx'
  have Zy' : Hid (ZN v10 s4 p4 m4 m4 (j)) := Zy.out.below hb10
  clear Zy
  have Zy := Zy'
  clear Zy'
  have hbw' := Below.on hbw hb10
  clear hbw
  have hbw := hbw'
  clear hbw'
  clear hb10
  obtain ⟨cx0, cx1, fx0, fx1⟩ := Xx.out
  have hnex : gx < v10.heap.size := World.block_lt_of_cell? v10 _ cx0
  obtain ⟨cy0, cy1, fy0, fy1⟩ := Xy.out
  have hney : gy < v10.heap.size := World.block_lt_of_cell? v10 _ cy0
  go_wp2_with fail
  clear cx0 cx1 fx0 fx1 hnex
  clear cy0 cy1 fy0 fy1 hney
  clear s0 s1 bb0 bb1 k0 k1 HCM
  refine (zadd Zx.out Zy.out).mono ?_
  rintro e v11 ⟨ha, hb11⟩
  obtain ⟨s11, p11, m11, rfl, hz⟩ := ha.got (small_lim2 (by rw [B64_eq]; have := HI.out; have := HJ0.out; omega))
  clear ha
  have Yx : Hid (Box v11 gx (.bool s3) (.slice p3 m3 m3)) := Xx.out.below hb11
  clear Xx
  have Xx := Yx
  clear Yx
  have Yy : Hid (Box v11 gy (.bool s4) (.slice p4 m4 m4)) := Xy.out.below hb11
  clear Xy
  have Xy := Yy
  clear Yy
  have HT' : Hid (Tab v11) := HT.out.below hb11
  clear HT
  have HT := HT'
  clear HT'
  have Zx' : Hid (ZN v11 s3 p3 m3 m3 (i)) := Zx.out.below hb11
  clear Zx
  have Zx := Zx'
  clear Zx'
  have Zy' : Hid (ZN v11 s4 p4 m4 m4 (j)) := Zy.out.below hb11
  clear Zy
  have Zy := Zy'
  clear Zy'
  have hbw' := Below.on hbw hb11
  clear hbw
  have hbw := hbw'
  clear hbw'
  clear hb11
  have Zs : Hid (ZN v11 s11 p11 m11 m11 (i + j)) := hz
  clear hz
  go_wp2_with fail
  have Xs0 : Hid (Box (v11.alloc (.cells #[.bool s11, .slice p11 m11 m11] 35)) v11.heap.size (.bool s11) (.slice p11 m11 m11)) := Box.new v11 _ _ _
  have hbn : Below v11.heap.size v11 (v11.alloc (.cells #[.bool s11, .slice p11 m11 m11] 35)) := below1 v11 _
  generalize v11.alloc (.cells #[.bool s11, .slice p11 m11 m11] 35) = W11 at *
  have HGs : Hid (w.heap.size ≤ v11.heap.size) := hbw.size
  have Yx : Hid (Box W11 gx (.bool s3) (.slice p3 m3 m3)) := Xx.out.below hbn
  clear Xx
  have Xx := Yx
  clear Yx
  have Yy : Hid (Box W11 gy (.bool s4) (.slice p4 m4 m4)) := Xy.out.below hbn
  clear Xy
  have Xy := Yy
  clear Yy
  have HT' : Hid (Tab W11) := HT.out.below hbn
  clear HT
  have HT := HT'
  clear HT'
  have Zx' : Hid (ZN W11 s3 p3 m3 m3 (i)) := Zx.out.below hbn
  clear Zx
  have Zx := Zx'
  clear Zx'
  have Zy' : Hid (ZN W11 s4 p4 m4 m4 (j)) := Zy.out.below hbn
  clear Zy
  have Zy := Zy'
  clear Zy'
  have Zs' : Hid (ZN W11 s11 p11 m11 m11 (i + j)) := Zs.out.below hbn
  clear Zs
  have Zs := Zs'
  clear Zs'
  have hbw' := Below.on hbw hbn
  clear hbw
  have hbw := hbw'
  clear hbw'
  clear hbn
  generalize v11.heap.size = gs at *
  have Xs := Xs0
  clear Xs0
  have hi0 := HI.out.1
  have hi1 := HI.out.2
  have hj0 := HJ0.out.1
  have hj1 := HJ0.out.2
  rcases (by omega : j = 0 ∨ (0 < j ∧ i + j ≤ 9223372036854775807) ∨ (0 < j ∧ 9223372036854775807 < i + j) ∨ (j < 0 ∧ -9223372036854775808 ≤ i + j) ∨ (j < 0 ∧ i + j < -9223372036854775808)) with hc | hc | hc | hc | hc
  · refine (zsmall Zs.out).mono ?_
    rintro e v12 ⟨rfl, hb12⟩
    rw [if_pos (by omega)]
    have Yx : Hid (Box v12 gx (.bool s3) (.slice p3 m3 m3)) := Xx.out.below hb12
    clear Xx
    have Xx := Yx
    clear Yx
    have Yy : Hid (Box v12 gy (.bool s4) (.slice p4 m4 m4)) := Xy.out.below hb12
    clear Xy
    have Xy := Yy
    clear Yy
    have Ys : Hid (Box v12 gs (.bool s11) (.slice p11 m11 m11)) := Xs.out.below hb12
    clear Xs
    have Xs := Ys
    clear Ys
    have HT' : Hid (Tab v12) := HT.out.below hb12
    clear HT
    have HT := HT'
    clear HT'
    have Zx' : Hid (ZN v12 s3 p3 m3 m3 (i)) := Zx.out.below hb12
    clear Zx
    have Zx := Zx'
    clear Zx'
    have Zy' : Hid (ZN v12 s4 p4 m4 m4 (j)) := Zy.out.below hb12
    clear Zy
    have Zy := Zy'
    clear Zy'
    have Zs' : Hid (ZN v12 s11 p11 m11 m11 (i + j)) := Zs.out.below hb12
    clear Zs
    have Zs := Zs'
    clear Zs'
    have hbw' := Below.on hbw hb12
    clear hbw
    have hbw := hbw'
    clear hbw'
    clear hb12
    have j0 : decide (0 < j) = false := decide_eq_false (by omega)
    have j1 : decide (j < 0) = false := decide_eq_false (by omega)
    have jn : (j == 0) = true := by simp; omega
    have js : wrap64 (i + j) = i + j := by simp only [wrap64]; omega
    clear hi0 hi1 hj0 hj1 hc
    go_wp2_with fail
    go_ret
    exact ⟨rfl, hbw⟩
  · refine (zsmall Zs.out).mono ?_
    rintro e v12 ⟨rfl, hb12⟩
    rw [if_pos (by omega)]
    have Yx : Hid (Box v12 gx (.bool s3) (.slice p3 m3 m3)) := Xx.out.below hb12
    clear Xx
    have Xx := Yx
    clear Yx
    have Yy : Hid (Box v12 gy (.bool s4) (.slice p4 m4 m4)) := Xy.out.below hb12
    clear Xy
    have Xy := Yy
    clear Yy
    have Ys : Hid (Box v12 gs (.bool s11) (.slice p11 m11 m11)) := Xs.out.below hb12
    clear Xs
    have Xs := Ys
    clear Ys
    have HT' : Hid (Tab v12) := HT.out.below hb12
    clear HT
    have HT := HT'
    clear HT'
    have Zx' : Hid (ZN v12 s3 p3 m3 m3 (i)) := Zx.out.below hb12
    clear Zx
    have Zx := Zx'
    clear Zx'
    have Zy' : Hid (ZN v12 s4 p4 m4 m4 (j)) := Zy.out.below hb12
    clear Zy
    have Zy := Zy'
    clear Zy'
    have Zs' : Hid (ZN v12 s11 p11 m11 m11 (i + j)) := Zs.out.below hb12
    clear Zs
    have Zs := Zs'
    clear Zs'
    have hbw' := Below.on hbw hb12
    clear hbw
    have hbw := hbw'
    clear hbw'
    clear hb12
    have j0 : decide (0 < j) = true := decide_eq_true (by omega)
    have j1 : decide (j < 0) = false := decide_eq_false (by omega)
    have jw0 : wrap64 (9223372036854775807 - j) = 9223372036854775807 - j := by simp only [wrap64]; omega
    have jo : decide (9223372036854775807 - j < i) = false := decide_eq_false (by omega)
    have jn : (j == 0) = false := by simp; omega
    have jn2 : ¬ j = 0 := by omega
    have HJN : Hid (j ≠ 0) := jn2
    have js : wrap64 (i + j) = i + j := by simp only [wrap64]; omega
    by_cases him : i = -9223372036854775808
    · have im : (i == -9223372036854775808) = true := by simpa using him
      clear hi0 hi1 hj0 hj1 hc him
      go_wp2_with fail
      go_ret
      exact ⟨rfl, hbw⟩
    · have im : (i == -9223372036854775808) = false := by simpa using him
      have HIM : Hid (i ≠ -9223372036854775808) := him
      have hjs : 0 < j := by omega
      have HJS : Hid (0 < j) := hjs
      clear hjs
      clear hi0 hi1 hj0 hj1 hc him
      obtain ⟨cx0, cx1, fx0, fx1⟩ := Xx.out
      have hnex : gx < v12.heap.size := World.block_lt_of_cell? v12 _ cx0
      obtain ⟨cy0, cy1, fy0, fy1⟩ := Xy.out
      have hney : gy < v12.heap.size := World.block_lt_of_cell? v12 _ cy0
      go_wp2_with fail
      clear cx0 cx1 fx0 fx1 hnex
      clear cy0 cy1 fy0 fy1 hney
      clear jn jn2 im jo jw0 j0 j1 js
      obtain ⟨Q, hQ⟩ : ∃ Q, Q = fl (decide (i < 0) != decide (j < 0)) i.natAbs j.natAbs := ⟨_, rfl⟩
      have HQ : Hid (Q = fl (decide (i < 0) != decide (j < 0)) i.natAbs j.natAbs) := hQ
      clear hQ
      refine (zfdiv Zx.out Zy.out HJN.out).mono ?_
      rintro e v13 ⟨⟨s13, p13, m13, rfl, hz⟩, hb13⟩
      have Yx : Hid (Box v13 gx (.bool s3) (.slice p3 m3 m3)) := Xx.out.below hb13
      clear Xx
      have Xx := Yx
      clear Yx
      have Yy : Hid (Box v13 gy (.bool s4) (.slice p4 m4 m4)) := Xy.out.below hb13
      clear Xy
      have Xy := Yy
      clear Yy
      have Ys : Hid (Box v13 gs (.bool s11) (.slice p11 m11 m11)) := Xs.out.below hb13
      clear Xs
      have Xs := Ys
      clear Ys
      have HT' : Hid (Tab v13) := HT.out.below hb13
      clear HT
      have HT := HT'
      clear HT'
      have Zx' : Hid (ZN v13 s3 p3 m3 m3 (i)) := Zx.out.below hb13
      clear Zx
      have Zx := Zx'
      clear Zx'
      have Zy' : Hid (ZN v13 s4 p4 m4 m4 (j)) := Zy.out.below hb13
      clear Zy
      have Zy := Zy'
      clear Zy'
      have Zs' : Hid (ZN v13 s11 p11 m11 m11 (i + j)) := Zs.out.below hb13
      clear Zs
      have Zs := Zs'
      clear Zs'
      have hbw' := Below.on hbw hb13
      clear hbw
      have hbw := hbw'
      clear hbw'
      clear hb13
      have hz := hz.cast (z' := Q) (HQ.out.symm)
      have Zq : Hid (ZN v13 s13 p13 m13 m13 (Q)) := hz
      clear hz
      go_wp2_with fail
      have Xq0 : Hid (Box (v13.alloc (.cells #[.bool s13, .slice p13 m13 m13] 35)) v13.heap.size (.bool s13) (.slice p13 m13 m13)) := Box.new v13 _ _ _
      have hbn : Below v13.heap.size v13 (v13.alloc (.cells #[.bool s13, .slice p13 m13 m13] 35)) := below1 v13 _
      generalize v13.alloc (.cells #[.bool s13, .slice p13 m13 m13] 35) = W13 at *
      have HGq : Hid (w.heap.size ≤ v13.heap.size) := hbw.size
      have Yx : Hid (Box W13 gx (.bool s3) (.slice p3 m3 m3)) := Xx.out.below hbn
      clear Xx
      have Xx := Yx
      clear Yx
      have Yy : Hid (Box W13 gy (.bool s4) (.slice p4 m4 m4)) := Xy.out.below hbn
      clear Xy
      have Xy := Yy
      clear Yy
      have Ys : Hid (Box W13 gs (.bool s11) (.slice p11 m11 m11)) := Xs.out.below hbn
      clear Xs
      have Xs := Ys
      clear Ys
      have HT' : Hid (Tab W13) := HT.out.below hbn
      clear HT
      have HT := HT'
      clear HT'
      have Zx' : Hid (ZN W13 s3 p3 m3 m3 (i)) := Zx.out.below hbn
      clear Zx
      have Zx := Zx'
      clear Zx'
      have Zy' : Hid (ZN W13 s4 p4 m4 m4 (j)) := Zy.out.below hbn
      clear Zy
      have Zy := Zy'
      clear Zy'
      have Zs' : Hid (ZN W13 s11 p11 m11 m11 (i + j)) := Zs.out.below hbn
      clear Zs
      have Zs := Zs'
      clear Zs'
      have Zq' : Hid (ZN W13 s13 p13 m13 m13 (Q)) := Zq.out.below hbn
      clear Zq
      have Zq := Zq'
      clear Zq'
      have hbw' := Below.on hbw hbn
      clear hbw
      have hbw := hbw'
      clear hbw'
      clear hbn
      generalize v13.heap.size = gq at *
      have Xq := Xq0
      clear Xq0
      refine (zsmall Zq.out).mono ?_
      rintro e v14 ⟨rfl, hb14⟩
      have hqa : Q.natAbs ≤ i.natAbs := by rw [HQ.out]; exact fl_abs _ _ _
      have hq1 := HI.out
      have hq2 := HIM.out
      rw [if_pos (by omega)]
      clear hqa hq1 hq2
      have Yx : Hid (Box v14 gx (.bool s3) (.slice p3 m3 m3)) := Xx.out.below hb14
      clear Xx
      have Xx := Yx
      clear Yx
      have Yy : Hid (Box v14 gy (.bool s4) (.slice p4 m4 m4)) := Xy.out.below hb14
      clear Xy
      have Xy := Yy
      clear Yy
      have Ys : Hid (Box v14 gs (.bool s11) (.slice p11 m11 m11)) := Xs.out.below hb14
      clear Xs
      have Xs := Ys
      clear Ys
      have Yq : Hid (Box v14 gq (.bool s13) (.slice p13 m13 m13)) := Xq.out.below hb14
      clear Xq
      have Xq := Yq
      clear Yq
      have HT' : Hid (Tab v14) := HT.out.below hb14
      clear HT
      have HT := HT'
      clear HT'
      have Zx' : Hid (ZN v14 s3 p3 m3 m3 (i)) := Zx.out.below hb14
      clear Zx
      have Zx := Zx'
      clear Zx'
      have Zy' : Hid (ZN v14 s4 p4 m4 m4 (j)) := Zy.out.below hb14
      clear Zy
      have Zy := Zy'
      clear Zy'
      have Zs' : Hid (ZN v14 s11 p11 m11 m11 (i + j)) := Zs.out.below hb14
      clear Zs
      have Zs := Zs'
      clear Zs'
      have Zq' : Hid (ZN v14 s13 p13 m13 m13 (Q)) := Zq.out.below hb14
      clear Zq
      have Zq := Zq'
      clear Zq'
      have hbw' := Below.on hbw hb14
      clear hbw
      have hbw := hbw'
      clear hbw'
      clear hb14
      have hw0 := HQ.out
      rw [fl_want] at hw0
      have hta : (i.tdiv j).natAbs ≤ i.natAbs := by rw [Int.natAbs_tdiv]; exact Nat.div_le_self _ _
      have htm : (i.tmod j).natAbs ≤ i.natAbs := by rw [Int.natAbs_tmod]; exact Nat.mod_le _ _
      have hq1 := HI.out
      have hq2 := HIM.out
      have hqa : Q.natAbs ≤ i.natAbs := by rw [HQ.out]; exact fl_abs _ _ _
      have tw : wrap64 (i.tdiv j) = i.tdiv j := by simp only [wrap64]; omega
      have tm : wrap64 (i.tmod j) = i.tmod j := by simp only [wrap64]; omega
      have j1 : decide (j < 0) = false := decide_eq_false (by have := HJN.out; have := HJS.out; omega)
      rw [j1] at hw0
      rcases (by omega : i.tmod j = 0 ∨ (i.tmod j ≠ 0 ∧ i < 0) ∨ (i.tmod j ≠ 0 ∧ ¬ i < 0)) with hr | ⟨hr, hs⟩ | ⟨hr, hs⟩
      · have rm : (i.tmod j == 0) = true := by simpa using hr
        have rm2 : (i.tmod j != 0) = false := by simpa using hr
        rw [if_neg (fun h => h.1 hr)] at hw0
        have qt : (Q == i.tdiv j) = true := by simp only [beq_iff_eq]; omega
        have jn2 : ¬ j = 0 := HJN.out
        have jn : (j == 0) = false := by simpa using jn2
        clear hw0 hta htm hq1 hq2 hqa
        go_wp2_with fail
        go_ret
        first | exact ⟨rfl, hbw⟩ | exact ⟨congrArg (fun b => Ending.returned (Value.bool b)) qt, hbw⟩
      · have rm : (i.tmod j == 0) = false := by simpa using hr
        have rm2 : (i.tmod j != 0) = true := by simpa using hr
        have i1 : decide (i < 0) = true := decide_eq_true hs
        rw [i1] at hw0
        rw [if_pos ⟨hr, by decide⟩] at hw0
        have tv : wrap64 (i.tdiv j - 1) = i.tdiv j - 1 := by rw [← hw0]; simp only [wrap64]; omega
        have qt : (Q == i.tdiv j - 1) = true := by simp only [beq_iff_eq]; omega
        have jn2 : ¬ j = 0 := HJN.out
        have jn : (j == 0) = false := by simpa using jn2
        clear hw0 hta htm hq1 hq2 hqa
        go_wp2_with fail
        go_ret
        first | exact ⟨rfl, hbw⟩ | exact ⟨congrArg (fun b => Ending.returned (Value.bool b)) qt, hbw⟩
      · have rm : (i.tmod j == 0) = false := by simpa using hr
        have rm2 : (i.tmod j != 0) = true := by simpa using hr
        have i1 : decide (i < 0) = false := decide_eq_false hs
        rw [i1] at hw0
        rw [if_neg (fun h => h.2 rfl)] at hw0
        have qt : (Q == i.tdiv j) = true := by simp only [beq_iff_eq]; omega
        have jn2 : ¬ j = 0 := HJN.out
        have jn : (j == 0) = false := by simpa using jn2
        clear hw0 hta htm hq1 hq2 hqa hs
        go_wp2_with fail
        go_ret
        first | exact ⟨rfl, hbw⟩ | exact ⟨congrArg (fun b => Ending.returned (Value.bool b)) qt, hbw⟩
  · refine (zsmall Zs.out).mono ?_
    rintro e v12 ⟨rfl, hb12⟩
    rw [if_neg (by omega)]
    have Yx : Hid (Box v12 gx (.bool s3) (.slice p3 m3 m3)) := Xx.out.below hb12
    clear Xx
    have Xx := Yx
    clear Yx
    have Yy : Hid (Box v12 gy (.bool s4) (.slice p4 m4 m4)) := Xy.out.below hb12
    clear Xy
    have Xy := Yy
    clear Yy
    have Ys : Hid (Box v12 gs (.bool s11) (.slice p11 m11 m11)) := Xs.out.below hb12
    clear Xs
    have Xs := Ys
    clear Ys
    have HT' : Hid (Tab v12) := HT.out.below hb12
    clear HT
    have HT := HT'
    clear HT'
    have Zx' : Hid (ZN v12 s3 p3 m3 m3 (i)) := Zx.out.below hb12
    clear Zx
    have Zx := Zx'
    clear Zx'
    have Zy' : Hid (ZN v12 s4 p4 m4 m4 (j)) := Zy.out.below hb12
    clear Zy
    have Zy := Zy'
    clear Zy'
    have Zs' : Hid (ZN v12 s11 p11 m11 m11 (i + j)) := Zs.out.below hb12
    clear Zs
    have Zs := Zs'
    clear Zs'
    have hbw' := Below.on hbw hb12
    clear hbw
    have hbw := hbw'
    clear hbw'
    clear hb12
    have j0 : decide (0 < j) = true := decide_eq_true (by omega)
    have j1 : decide (j < 0) = false := decide_eq_false (by omega)
    have jw0 : wrap64 (9223372036854775807 - j) = 9223372036854775807 - j := by simp only [wrap64]; omega
    have jo : decide (9223372036854775807 - j < i) = true := decide_eq_true (by omega)
    have jn : (j == 0) = false := by simp; omega
    have jn2 : ¬ j = 0 := by omega
    have HJN : Hid (j ≠ 0) := jn2
    by_cases him : i = -9223372036854775808
    · have im : (i == -9223372036854775808) = true := by simpa using him
      clear hi0 hi1 hj0 hj1 hc him
      go_wp2_with fail
      go_ret
      exact ⟨rfl, hbw⟩
    · have im : (i == -9223372036854775808) = false := by simpa using him
      have HIM : Hid (i ≠ -9223372036854775808) := him
      have hjs : 0 < j := by omega
      have HJS : Hid (0 < j) := hjs
      clear hjs
      clear hi0 hi1 hj0 hj1 hc him
      obtain ⟨cx0, cx1, fx0, fx1⟩ := Xx.out
      have hnex : gx < v12.heap.size := World.block_lt_of_cell? v12 _ cx0
      obtain ⟨cy0, cy1, fy0, fy1⟩ := Xy.out
      have hney : gy < v12.heap.size := World.block_lt_of_cell? v12 _ cy0
      go_wp2_with fail
      clear cx0 cx1 fx0 fx1 hnex
      clear cy0 cy1 fy0 fy1 hney
      clear jn jn2 im jo jw0 j0 j1
      obtain ⟨Q, hQ⟩ : ∃ Q, Q = fl (decide (i < 0) != decide (j < 0)) i.natAbs j.natAbs := ⟨_, rfl⟩
      have HQ : Hid (Q = fl (decide (i < 0) != decide (j < 0)) i.natAbs j.natAbs) := hQ
      clear hQ
      refine (zfdiv Zx.out Zy.out HJN.out).mono ?_
      rintro e v13 ⟨⟨s13, p13, m13, rfl, hz⟩, hb13⟩
      have Yx : Hid (Box v13 gx (.bool s3) (.slice p3 m3 m3)) := Xx.out.below hb13
      clear Xx
      have Xx := Yx
      clear Yx
      have Yy : Hid (Box v13 gy (.bool s4) (.slice p4 m4 m4)) := Xy.out.below hb13
      clear Xy
      have Xy := Yy
      clear Yy
      have Ys : Hid (Box v13 gs (.bool s11) (.slice p11 m11 m11)) := Xs.out.below hb13
      clear Xs
      have Xs := Ys
      clear Ys
      have HT' : Hid (Tab v13) := HT.out.below hb13
      clear HT
      have HT := HT'
      clear HT'
      have Zx' : Hid (ZN v13 s3 p3 m3 m3 (i)) := Zx.out.below hb13
      clear Zx
      have Zx := Zx'
      clear Zx'
      have Zy' : Hid (ZN v13 s4 p4 m4 m4 (j)) := Zy.out.below hb13
      clear Zy
      have Zy := Zy'
      clear Zy'
      have Zs' : Hid (ZN v13 s11 p11 m11 m11 (i + j)) := Zs.out.below hb13
      clear Zs
      have Zs := Zs'
      clear Zs'
      have hbw' := Below.on hbw hb13
      clear hbw
      have hbw := hbw'
      clear hbw'
      clear hb13
      have hz := hz.cast (z' := Q) (HQ.out.symm)
      have Zq : Hid (ZN v13 s13 p13 m13 m13 (Q)) := hz
      clear hz
      go_wp2_with fail
      have Xq0 : Hid (Box (v13.alloc (.cells #[.bool s13, .slice p13 m13 m13] 35)) v13.heap.size (.bool s13) (.slice p13 m13 m13)) := Box.new v13 _ _ _
      have hbn : Below v13.heap.size v13 (v13.alloc (.cells #[.bool s13, .slice p13 m13 m13] 35)) := below1 v13 _
      generalize v13.alloc (.cells #[.bool s13, .slice p13 m13 m13] 35) = W13 at *
      have HGq : Hid (w.heap.size ≤ v13.heap.size) := hbw.size
      have Yx : Hid (Box W13 gx (.bool s3) (.slice p3 m3 m3)) := Xx.out.below hbn
      clear Xx
      have Xx := Yx
      clear Yx
      have Yy : Hid (Box W13 gy (.bool s4) (.slice p4 m4 m4)) := Xy.out.below hbn
      clear Xy
      have Xy := Yy
      clear Yy
      have Ys : Hid (Box W13 gs (.bool s11) (.slice p11 m11 m11)) := Xs.out.below hbn
      clear Xs
      have Xs := Ys
      clear Ys
      have HT' : Hid (Tab W13) := HT.out.below hbn
      clear HT
      have HT := HT'
      clear HT'
      have Zx' : Hid (ZN W13 s3 p3 m3 m3 (i)) := Zx.out.below hbn
      clear Zx
      have Zx := Zx'
      clear Zx'
      have Zy' : Hid (ZN W13 s4 p4 m4 m4 (j)) := Zy.out.below hbn
      clear Zy
      have Zy := Zy'
      clear Zy'
      have Zs' : Hid (ZN W13 s11 p11 m11 m11 (i + j)) := Zs.out.below hbn
      clear Zs
      have Zs := Zs'
      clear Zs'
      have Zq' : Hid (ZN W13 s13 p13 m13 m13 (Q)) := Zq.out.below hbn
      clear Zq
      have Zq := Zq'
      clear Zq'
      have hbw' := Below.on hbw hbn
      clear hbw
      have hbw := hbw'
      clear hbw'
      clear hbn
      generalize v13.heap.size = gq at *
      have Xq := Xq0
      clear Xq0
      refine (zsmall Zq.out).mono ?_
      rintro e v14 ⟨rfl, hb14⟩
      have hqa : Q.natAbs ≤ i.natAbs := by rw [HQ.out]; exact fl_abs _ _ _
      have hq1 := HI.out
      have hq2 := HIM.out
      rw [if_pos (by omega)]
      clear hqa hq1 hq2
      have Yx : Hid (Box v14 gx (.bool s3) (.slice p3 m3 m3)) := Xx.out.below hb14
      clear Xx
      have Xx := Yx
      clear Yx
      have Yy : Hid (Box v14 gy (.bool s4) (.slice p4 m4 m4)) := Xy.out.below hb14
      clear Xy
      have Xy := Yy
      clear Yy
      have Ys : Hid (Box v14 gs (.bool s11) (.slice p11 m11 m11)) := Xs.out.below hb14
      clear Xs
      have Xs := Ys
      clear Ys
      have Yq : Hid (Box v14 gq (.bool s13) (.slice p13 m13 m13)) := Xq.out.below hb14
      clear Xq
      have Xq := Yq
      clear Yq
      have HT' : Hid (Tab v14) := HT.out.below hb14
      clear HT
      have HT := HT'
      clear HT'
      have Zx' : Hid (ZN v14 s3 p3 m3 m3 (i)) := Zx.out.below hb14
      clear Zx
      have Zx := Zx'
      clear Zx'
      have Zy' : Hid (ZN v14 s4 p4 m4 m4 (j)) := Zy.out.below hb14
      clear Zy
      have Zy := Zy'
      clear Zy'
      have Zs' : Hid (ZN v14 s11 p11 m11 m11 (i + j)) := Zs.out.below hb14
      clear Zs
      have Zs := Zs'
      clear Zs'
      have Zq' : Hid (ZN v14 s13 p13 m13 m13 (Q)) := Zq.out.below hb14
      clear Zq
      have Zq := Zq'
      clear Zq'
      have hbw' := Below.on hbw hb14
      clear hbw
      have hbw := hbw'
      clear hbw'
      clear hb14
      have hw0 := HQ.out
      rw [fl_want] at hw0
      have hta : (i.tdiv j).natAbs ≤ i.natAbs := by rw [Int.natAbs_tdiv]; exact Nat.div_le_self _ _
      have htm : (i.tmod j).natAbs ≤ i.natAbs := by rw [Int.natAbs_tmod]; exact Nat.mod_le _ _
      have hq1 := HI.out
      have hq2 := HIM.out
      have hqa : Q.natAbs ≤ i.natAbs := by rw [HQ.out]; exact fl_abs _ _ _
      have tw : wrap64 (i.tdiv j) = i.tdiv j := by simp only [wrap64]; omega
      have tm : wrap64 (i.tmod j) = i.tmod j := by simp only [wrap64]; omega
      have j1 : decide (j < 0) = false := decide_eq_false (by have := HJN.out; have := HJS.out; omega)
      rw [j1] at hw0
      rcases (by omega : i.tmod j = 0 ∨ (i.tmod j ≠ 0 ∧ i < 0) ∨ (i.tmod j ≠ 0 ∧ ¬ i < 0)) with hr | ⟨hr, hs⟩ | ⟨hr, hs⟩
      · have rm : (i.tmod j == 0) = true := by simpa using hr
        have rm2 : (i.tmod j != 0) = false := by simpa using hr
        rw [if_neg (fun h => h.1 hr)] at hw0
        have qt : (Q == i.tdiv j) = true := by simp only [beq_iff_eq]; omega
        have jn2 : ¬ j = 0 := HJN.out
        have jn : (j == 0) = false := by simpa using jn2
        clear hw0 hta htm hq1 hq2 hqa
        go_wp2_with fail
        go_ret
        first | exact ⟨rfl, hbw⟩ | exact ⟨congrArg (fun b => Ending.returned (Value.bool b)) qt, hbw⟩
      · have rm : (i.tmod j == 0) = false := by simpa using hr
        have rm2 : (i.tmod j != 0) = true := by simpa using hr
        have i1 : decide (i < 0) = true := decide_eq_true hs
        rw [i1] at hw0
        rw [if_pos ⟨hr, by decide⟩] at hw0
        have tv : wrap64 (i.tdiv j - 1) = i.tdiv j - 1 := by rw [← hw0]; simp only [wrap64]; omega
        have qt : (Q == i.tdiv j - 1) = true := by simp only [beq_iff_eq]; omega
        have jn2 : ¬ j = 0 := HJN.out
        have jn : (j == 0) = false := by simpa using jn2
        clear hw0 hta htm hq1 hq2 hqa
        go_wp2_with fail
        go_ret
        first | exact ⟨rfl, hbw⟩ | exact ⟨congrArg (fun b => Ending.returned (Value.bool b)) qt, hbw⟩
      · have rm : (i.tmod j == 0) = false := by simpa using hr
        have rm2 : (i.tmod j != 0) = true := by simpa using hr
        have i1 : decide (i < 0) = false := decide_eq_false hs
        rw [i1] at hw0
        rw [if_neg (fun h => h.2 rfl)] at hw0
        have qt : (Q == i.tdiv j) = true := by simp only [beq_iff_eq]; omega
        have jn2 : ¬ j = 0 := HJN.out
        have jn : (j == 0) = false := by simpa using jn2
        clear hw0 hta htm hq1 hq2 hqa hs
        go_wp2_with fail
        go_ret
        first | exact ⟨rfl, hbw⟩ | exact ⟨congrArg (fun b => Ending.returned (Value.bool b)) qt, hbw⟩
  · refine (zsmall Zs.out).mono ?_
    rintro e v12 ⟨rfl, hb12⟩
    rw [if_pos (by omega)]
    have Yx : Hid (Box v12 gx (.bool s3) (.slice p3 m3 m3)) := Xx.out.below hb12
    clear Xx
    have Xx := Yx
    clear Yx
    have Yy : Hid (Box v12 gy (.bool s4) (.slice p4 m4 m4)) := Xy.out.below hb12
    clear Xy
    have Xy := Yy
    clear Yy
    have Ys : Hid (Box v12 gs (.bool s11) (.slice p11 m11 m11)) := Xs.out.below hb12
    clear Xs
    have Xs := Ys
    clear Ys
    have HT' : Hid (Tab v12) := HT.out.below hb12
    clear HT
    have HT := HT'
    clear HT'
    have Zx' : Hid (ZN v12 s3 p3 m3 m3 (i)) := Zx.out.below hb12
    clear Zx
    have Zx := Zx'
    clear Zx'
    have Zy' : Hid (ZN v12 s4 p4 m4 m4 (j)) := Zy.out.below hb12
    clear Zy
    have Zy := Zy'
    clear Zy'
    have Zs' : Hid (ZN v12 s11 p11 m11 m11 (i + j)) := Zs.out.below hb12
    clear Zs
    have Zs := Zs'
    clear Zs'
    have hbw' := Below.on hbw hb12
    clear hbw
    have hbw := hbw'
    clear hbw'
    clear hb12
    have j0 : decide (0 < j) = false := decide_eq_false (by omega)
    have j1 : decide (j < 0) = true := decide_eq_true (by omega)
    have jw1 : wrap64 (-9223372036854775808 - j) = -9223372036854775808 - j := by simp only [wrap64]; omega
    have jo : decide (i < -9223372036854775808 - j) = false := decide_eq_false (by omega)
    have jn : (j == 0) = false := by simp; omega
    have jn2 : ¬ j = 0 := by omega
    have HJN : Hid (j ≠ 0) := jn2
    have js : wrap64 (i + j) = i + j := by simp only [wrap64]; omega
    by_cases him : i = -9223372036854775808
    · have im : (i == -9223372036854775808) = true := by simpa using him
      clear hi0 hi1 hj0 hj1 hc him
      go_wp2_with fail
      go_ret
      exact ⟨rfl, hbw⟩
    · have im : (i == -9223372036854775808) = false := by simpa using him
      have HIM : Hid (i ≠ -9223372036854775808) := him
      have hjs : j < 0 := by omega
      have HJS : Hid (j < 0) := hjs
      clear hjs
      clear hi0 hi1 hj0 hj1 hc him
      obtain ⟨cx0, cx1, fx0, fx1⟩ := Xx.out
      have hnex : gx < v12.heap.size := World.block_lt_of_cell? v12 _ cx0
      obtain ⟨cy0, cy1, fy0, fy1⟩ := Xy.out
      have hney : gy < v12.heap.size := World.block_lt_of_cell? v12 _ cy0
      go_wp2_with fail
      clear cx0 cx1 fx0 fx1 hnex
      clear cy0 cy1 fy0 fy1 hney
      clear jn jn2 im jo jw1 j0 j1 js
      obtain ⟨Q, hQ⟩ : ∃ Q, Q = fl (decide (i < 0) != decide (j < 0)) i.natAbs j.natAbs := ⟨_, rfl⟩
      have HQ : Hid (Q = fl (decide (i < 0) != decide (j < 0)) i.natAbs j.natAbs) := hQ
      clear hQ
      refine (zfdiv Zx.out Zy.out HJN.out).mono ?_
      rintro e v13 ⟨⟨s13, p13, m13, rfl, hz⟩, hb13⟩
      have Yx : Hid (Box v13 gx (.bool s3) (.slice p3 m3 m3)) := Xx.out.below hb13
      clear Xx
      have Xx := Yx
      clear Yx
      have Yy : Hid (Box v13 gy (.bool s4) (.slice p4 m4 m4)) := Xy.out.below hb13
      clear Xy
      have Xy := Yy
      clear Yy
      have Ys : Hid (Box v13 gs (.bool s11) (.slice p11 m11 m11)) := Xs.out.below hb13
      clear Xs
      have Xs := Ys
      clear Ys
      have HT' : Hid (Tab v13) := HT.out.below hb13
      clear HT
      have HT := HT'
      clear HT'
      have Zx' : Hid (ZN v13 s3 p3 m3 m3 (i)) := Zx.out.below hb13
      clear Zx
      have Zx := Zx'
      clear Zx'
      have Zy' : Hid (ZN v13 s4 p4 m4 m4 (j)) := Zy.out.below hb13
      clear Zy
      have Zy := Zy'
      clear Zy'
      have Zs' : Hid (ZN v13 s11 p11 m11 m11 (i + j)) := Zs.out.below hb13
      clear Zs
      have Zs := Zs'
      clear Zs'
      have hbw' := Below.on hbw hb13
      clear hbw
      have hbw := hbw'
      clear hbw'
      clear hb13
      have hz := hz.cast (z' := Q) (HQ.out.symm)
      have Zq : Hid (ZN v13 s13 p13 m13 m13 (Q)) := hz
      clear hz
      go_wp2_with fail
      have Xq0 : Hid (Box (v13.alloc (.cells #[.bool s13, .slice p13 m13 m13] 35)) v13.heap.size (.bool s13) (.slice p13 m13 m13)) := Box.new v13 _ _ _
      have hbn : Below v13.heap.size v13 (v13.alloc (.cells #[.bool s13, .slice p13 m13 m13] 35)) := below1 v13 _
      generalize v13.alloc (.cells #[.bool s13, .slice p13 m13 m13] 35) = W13 at *
      have HGq : Hid (w.heap.size ≤ v13.heap.size) := hbw.size
      have Yx : Hid (Box W13 gx (.bool s3) (.slice p3 m3 m3)) := Xx.out.below hbn
      clear Xx
      have Xx := Yx
      clear Yx
      have Yy : Hid (Box W13 gy (.bool s4) (.slice p4 m4 m4)) := Xy.out.below hbn
      clear Xy
      have Xy := Yy
      clear Yy
      have Ys : Hid (Box W13 gs (.bool s11) (.slice p11 m11 m11)) := Xs.out.below hbn
      clear Xs
      have Xs := Ys
      clear Ys
      have HT' : Hid (Tab W13) := HT.out.below hbn
      clear HT
      have HT := HT'
      clear HT'
      have Zx' : Hid (ZN W13 s3 p3 m3 m3 (i)) := Zx.out.below hbn
      clear Zx
      have Zx := Zx'
      clear Zx'
      have Zy' : Hid (ZN W13 s4 p4 m4 m4 (j)) := Zy.out.below hbn
      clear Zy
      have Zy := Zy'
      clear Zy'
      have Zs' : Hid (ZN W13 s11 p11 m11 m11 (i + j)) := Zs.out.below hbn
      clear Zs
      have Zs := Zs'
      clear Zs'
      have Zq' : Hid (ZN W13 s13 p13 m13 m13 (Q)) := Zq.out.below hbn
      clear Zq
      have Zq := Zq'
      clear Zq'
      have hbw' := Below.on hbw hbn
      clear hbw
      have hbw := hbw'
      clear hbw'
      clear hbn
      generalize v13.heap.size = gq at *
      have Xq := Xq0
      clear Xq0
      refine (zsmall Zq.out).mono ?_
      rintro e v14 ⟨rfl, hb14⟩
      have hqa : Q.natAbs ≤ i.natAbs := by rw [HQ.out]; exact fl_abs _ _ _
      have hq1 := HI.out
      have hq2 := HIM.out
      rw [if_pos (by omega)]
      clear hqa hq1 hq2
      have Yx : Hid (Box v14 gx (.bool s3) (.slice p3 m3 m3)) := Xx.out.below hb14
      clear Xx
      have Xx := Yx
      clear Yx
      have Yy : Hid (Box v14 gy (.bool s4) (.slice p4 m4 m4)) := Xy.out.below hb14
      clear Xy
      have Xy := Yy
      clear Yy
      have Ys : Hid (Box v14 gs (.bool s11) (.slice p11 m11 m11)) := Xs.out.below hb14
      clear Xs
      have Xs := Ys
      clear Ys
      have Yq : Hid (Box v14 gq (.bool s13) (.slice p13 m13 m13)) := Xq.out.below hb14
      clear Xq
      have Xq := Yq
      clear Yq
      have HT' : Hid (Tab v14) := HT.out.below hb14
      clear HT
      have HT := HT'
      clear HT'
      have Zx' : Hid (ZN v14 s3 p3 m3 m3 (i)) := Zx.out.below hb14
      clear Zx
      have Zx := Zx'
      clear Zx'
      have Zy' : Hid (ZN v14 s4 p4 m4 m4 (j)) := Zy.out.below hb14
      clear Zy
      have Zy := Zy'
      clear Zy'
      have Zs' : Hid (ZN v14 s11 p11 m11 m11 (i + j)) := Zs.out.below hb14
      clear Zs
      have Zs := Zs'
      clear Zs'
      have Zq' : Hid (ZN v14 s13 p13 m13 m13 (Q)) := Zq.out.below hb14
      clear Zq
      have Zq := Zq'
      clear Zq'
      have hbw' := Below.on hbw hb14
      clear hbw
      have hbw := hbw'
      clear hbw'
      clear hb14
      have hw0 := HQ.out
      rw [fl_want] at hw0
      have hta : (i.tdiv j).natAbs ≤ i.natAbs := by rw [Int.natAbs_tdiv]; exact Nat.div_le_self _ _
      have htm : (i.tmod j).natAbs ≤ i.natAbs := by rw [Int.natAbs_tmod]; exact Nat.mod_le _ _
      have hq1 := HI.out
      have hq2 := HIM.out
      have hqa : Q.natAbs ≤ i.natAbs := by rw [HQ.out]; exact fl_abs _ _ _
      have tw : wrap64 (i.tdiv j) = i.tdiv j := by simp only [wrap64]; omega
      have tm : wrap64 (i.tmod j) = i.tmod j := by simp only [wrap64]; omega
      have j1 : decide (j < 0) = true := decide_eq_true (by have := HJN.out; have := HJS.out; omega)
      rw [j1] at hw0
      rcases (by omega : i.tmod j = 0 ∨ (i.tmod j ≠ 0 ∧ i < 0) ∨ (i.tmod j ≠ 0 ∧ ¬ i < 0)) with hr | ⟨hr, hs⟩ | ⟨hr, hs⟩
      · have rm : (i.tmod j == 0) = true := by simpa using hr
        have rm2 : (i.tmod j != 0) = false := by simpa using hr
        rw [if_neg (fun h => h.1 hr)] at hw0
        have qt : (Q == i.tdiv j) = true := by simp only [beq_iff_eq]; omega
        have jn2 : ¬ j = 0 := HJN.out
        have jn : (j == 0) = false := by simpa using jn2
        clear hw0 hta htm hq1 hq2 hqa
        go_wp2_with fail
        go_ret
        first | exact ⟨rfl, hbw⟩ | exact ⟨congrArg (fun b => Ending.returned (Value.bool b)) qt, hbw⟩
      · have rm : (i.tmod j == 0) = false := by simpa using hr
        have rm2 : (i.tmod j != 0) = true := by simpa using hr
        have i1 : decide (i < 0) = true := decide_eq_true hs
        rw [i1] at hw0
        rw [if_neg (fun h => h.2 rfl)] at hw0
        have qt : (Q == i.tdiv j) = true := by simp only [beq_iff_eq]; omega
        have jn2 : ¬ j = 0 := HJN.out
        have jn : (j == 0) = false := by simpa using jn2
        clear hw0 hta htm hq1 hq2 hqa
        go_wp2_with fail
        go_ret
        first | exact ⟨rfl, hbw⟩ | exact ⟨congrArg (fun b => Ending.returned (Value.bool b)) qt, hbw⟩
      · have rm : (i.tmod j == 0) = false := by simpa using hr
        have rm2 : (i.tmod j != 0) = true := by simpa using hr
        have i1 : decide (i < 0) = false := decide_eq_false hs
        rw [i1] at hw0
        rw [if_pos ⟨hr, by decide⟩] at hw0
        have tv : wrap64 (i.tdiv j - 1) = i.tdiv j - 1 := by rw [← hw0]; simp only [wrap64]; omega
        have qt : (Q == i.tdiv j - 1) = true := by simp only [beq_iff_eq]; omega
        have jn2 : ¬ j = 0 := HJN.out
        have jn : (j == 0) = false := by simpa using jn2
        clear hw0 hta htm hq1 hq2 hqa hs
        go_wp2_with fail
        go_ret
        first | exact ⟨rfl, hbw⟩ | exact ⟨congrArg (fun b => Ending.returned (Value.bool b)) qt, hbw⟩
  · refine (zsmall Zs.out).mono ?_
    rintro e v12 ⟨rfl, hb12⟩
    rw [if_neg (by omega)]
    have Yx : Hid (Box v12 gx (.bool s3) (.slice p3 m3 m3)) := Xx.out.below hb12
    clear Xx
    have Xx := Yx
    clear Yx
    have Yy : Hid (Box v12 gy (.bool s4) (.slice p4 m4 m4)) := Xy.out.below hb12
    clear Xy
    have Xy := Yy
    clear Yy
    have Ys : Hid (Box v12 gs (.bool s11) (.slice p11 m11 m11)) := Xs.out.below hb12
    clear Xs
    have Xs := Ys
    clear Ys
    have HT' : Hid (Tab v12) := HT.out.below hb12
    clear HT
    have HT := HT'
    clear HT'
    have Zx' : Hid (ZN v12 s3 p3 m3 m3 (i)) := Zx.out.below hb12
    clear Zx
    have Zx := Zx'
    clear Zx'
    have Zy' : Hid (ZN v12 s4 p4 m4 m4 (j)) := Zy.out.below hb12
    clear Zy
    have Zy := Zy'
    clear Zy'
    have Zs' : Hid (ZN v12 s11 p11 m11 m11 (i + j)) := Zs.out.below hb12
    clear Zs
    have Zs := Zs'
    clear Zs'
    have hbw' := Below.on hbw hb12
    clear hbw
    have hbw := hbw'
    clear hbw'
    clear hb12
    have j0 : decide (0 < j) = false := decide_eq_false (by omega)
    have j1 : decide (j < 0) = true := decide_eq_true (by omega)
    have jw1 : wrap64 (-9223372036854775808 - j) = -9223372036854775808 - j := by simp only [wrap64]; omega
    have jo : decide (i < -9223372036854775808 - j) = true := decide_eq_true (by omega)
    have jn : (j == 0) = false := by simp; omega
    have jn2 : ¬ j = 0 := by omega
    have HJN : Hid (j ≠ 0) := jn2
    by_cases him : i = -9223372036854775808
    · have im : (i == -9223372036854775808) = true := by simpa using him
      clear hi0 hi1 hj0 hj1 hc him
      go_wp2_with fail
      go_ret
      exact ⟨rfl, hbw⟩
    · have im : (i == -9223372036854775808) = false := by simpa using him
      have HIM : Hid (i ≠ -9223372036854775808) := him
      have hjs : j < 0 := by omega
      have HJS : Hid (j < 0) := hjs
      clear hjs
      clear hi0 hi1 hj0 hj1 hc him
      obtain ⟨cx0, cx1, fx0, fx1⟩ := Xx.out
      have hnex : gx < v12.heap.size := World.block_lt_of_cell? v12 _ cx0
      obtain ⟨cy0, cy1, fy0, fy1⟩ := Xy.out
      have hney : gy < v12.heap.size := World.block_lt_of_cell? v12 _ cy0
      go_wp2_with fail
      clear cx0 cx1 fx0 fx1 hnex
      clear cy0 cy1 fy0 fy1 hney
      clear jn jn2 im jo jw1 j0 j1
      obtain ⟨Q, hQ⟩ : ∃ Q, Q = fl (decide (i < 0) != decide (j < 0)) i.natAbs j.natAbs := ⟨_, rfl⟩
      have HQ : Hid (Q = fl (decide (i < 0) != decide (j < 0)) i.natAbs j.natAbs) := hQ
      clear hQ
      refine (zfdiv Zx.out Zy.out HJN.out).mono ?_
      rintro e v13 ⟨⟨s13, p13, m13, rfl, hz⟩, hb13⟩
      have Yx : Hid (Box v13 gx (.bool s3) (.slice p3 m3 m3)) := Xx.out.below hb13
      clear Xx
      have Xx := Yx
      clear Yx
      have Yy : Hid (Box v13 gy (.bool s4) (.slice p4 m4 m4)) := Xy.out.below hb13
      clear Xy
      have Xy := Yy
      clear Yy
      have Ys : Hid (Box v13 gs (.bool s11) (.slice p11 m11 m11)) := Xs.out.below hb13
      clear Xs
      have Xs := Ys
      clear Ys
      have HT' : Hid (Tab v13) := HT.out.below hb13
      clear HT
      have HT := HT'
      clear HT'
      have Zx' : Hid (ZN v13 s3 p3 m3 m3 (i)) := Zx.out.below hb13
      clear Zx
      have Zx := Zx'
      clear Zx'
      have Zy' : Hid (ZN v13 s4 p4 m4 m4 (j)) := Zy.out.below hb13
      clear Zy
      have Zy := Zy'
      clear Zy'
      have Zs' : Hid (ZN v13 s11 p11 m11 m11 (i + j)) := Zs.out.below hb13
      clear Zs
      have Zs := Zs'
      clear Zs'
      have hbw' := Below.on hbw hb13
      clear hbw
      have hbw := hbw'
      clear hbw'
      clear hb13
      have hz := hz.cast (z' := Q) (HQ.out.symm)
      have Zq : Hid (ZN v13 s13 p13 m13 m13 (Q)) := hz
      clear hz
      go_wp2_with fail
      have Xq0 : Hid (Box (v13.alloc (.cells #[.bool s13, .slice p13 m13 m13] 35)) v13.heap.size (.bool s13) (.slice p13 m13 m13)) := Box.new v13 _ _ _
      have hbn : Below v13.heap.size v13 (v13.alloc (.cells #[.bool s13, .slice p13 m13 m13] 35)) := below1 v13 _
      generalize v13.alloc (.cells #[.bool s13, .slice p13 m13 m13] 35) = W13 at *
      have HGq : Hid (w.heap.size ≤ v13.heap.size) := hbw.size
      have Yx : Hid (Box W13 gx (.bool s3) (.slice p3 m3 m3)) := Xx.out.below hbn
      clear Xx
      have Xx := Yx
      clear Yx
      have Yy : Hid (Box W13 gy (.bool s4) (.slice p4 m4 m4)) := Xy.out.below hbn
      clear Xy
      have Xy := Yy
      clear Yy
      have Ys : Hid (Box W13 gs (.bool s11) (.slice p11 m11 m11)) := Xs.out.below hbn
      clear Xs
      have Xs := Ys
      clear Ys
      have HT' : Hid (Tab W13) := HT.out.below hbn
      clear HT
      have HT := HT'
      clear HT'
      have Zx' : Hid (ZN W13 s3 p3 m3 m3 (i)) := Zx.out.below hbn
      clear Zx
      have Zx := Zx'
      clear Zx'
      have Zy' : Hid (ZN W13 s4 p4 m4 m4 (j)) := Zy.out.below hbn
      clear Zy
      have Zy := Zy'
      clear Zy'
      have Zs' : Hid (ZN W13 s11 p11 m11 m11 (i + j)) := Zs.out.below hbn
      clear Zs
      have Zs := Zs'
      clear Zs'
      have Zq' : Hid (ZN W13 s13 p13 m13 m13 (Q)) := Zq.out.below hbn
      clear Zq
      have Zq := Zq'
      clear Zq'
      have hbw' := Below.on hbw hbn
      clear hbw
      have hbw := hbw'
      clear hbw'
      clear hbn
      generalize v13.heap.size = gq at *
      have Xq := Xq0
      clear Xq0
      refine (zsmall Zq.out).mono ?_
      rintro e v14 ⟨rfl, hb14⟩
      have hqa : Q.natAbs ≤ i.natAbs := by rw [HQ.out]; exact fl_abs _ _ _
      have hq1 := HI.out
      have hq2 := HIM.out
      rw [if_pos (by omega)]
      clear hqa hq1 hq2
      have Yx : Hid (Box v14 gx (.bool s3) (.slice p3 m3 m3)) := Xx.out.below hb14
      clear Xx
      have Xx := Yx
      clear Yx
      have Yy : Hid (Box v14 gy (.bool s4) (.slice p4 m4 m4)) := Xy.out.below hb14
      clear Xy
      have Xy := Yy
      clear Yy
      have Ys : Hid (Box v14 gs (.bool s11) (.slice p11 m11 m11)) := Xs.out.below hb14
      clear Xs
      have Xs := Ys
      clear Ys
      have Yq : Hid (Box v14 gq (.bool s13) (.slice p13 m13 m13)) := Xq.out.below hb14
      clear Xq
      have Xq := Yq
      clear Yq
      have HT' : Hid (Tab v14) := HT.out.below hb14
      clear HT
      have HT := HT'
      clear HT'
      have Zx' : Hid (ZN v14 s3 p3 m3 m3 (i)) := Zx.out.below hb14
      clear Zx
      have Zx := Zx'
      clear Zx'
      have Zy' : Hid (ZN v14 s4 p4 m4 m4 (j)) := Zy.out.below hb14
      clear Zy
      have Zy := Zy'
      clear Zy'
      have Zs' : Hid (ZN v14 s11 p11 m11 m11 (i + j)) := Zs.out.below hb14
      clear Zs
      have Zs := Zs'
      clear Zs'
      have Zq' : Hid (ZN v14 s13 p13 m13 m13 (Q)) := Zq.out.below hb14
      clear Zq
      have Zq := Zq'
      clear Zq'
      have hbw' := Below.on hbw hb14
      clear hbw
      have hbw := hbw'
      clear hbw'
      clear hb14
      have hw0 := HQ.out
      rw [fl_want] at hw0
      have hta : (i.tdiv j).natAbs ≤ i.natAbs := by rw [Int.natAbs_tdiv]; exact Nat.div_le_self _ _
      have htm : (i.tmod j).natAbs ≤ i.natAbs := by rw [Int.natAbs_tmod]; exact Nat.mod_le _ _
      have hq1 := HI.out
      have hq2 := HIM.out
      have hqa : Q.natAbs ≤ i.natAbs := by rw [HQ.out]; exact fl_abs _ _ _
      have tw : wrap64 (i.tdiv j) = i.tdiv j := by simp only [wrap64]; omega
      have tm : wrap64 (i.tmod j) = i.tmod j := by simp only [wrap64]; omega
      have j1 : decide (j < 0) = true := decide_eq_true (by have := HJN.out; have := HJS.out; omega)
      rw [j1] at hw0
      rcases (by omega : i.tmod j = 0 ∨ (i.tmod j ≠ 0 ∧ i < 0) ∨ (i.tmod j ≠ 0 ∧ ¬ i < 0)) with hr | ⟨hr, hs⟩ | ⟨hr, hs⟩
      · have rm : (i.tmod j == 0) = true := by simpa using hr
        have rm2 : (i.tmod j != 0) = false := by simpa using hr
        rw [if_neg (fun h => h.1 hr)] at hw0
        have qt : (Q == i.tdiv j) = true := by simp only [beq_iff_eq]; omega
        have jn2 : ¬ j = 0 := HJN.out
        have jn : (j == 0) = false := by simpa using jn2
        clear hw0 hta htm hq1 hq2 hqa
        go_wp2_with fail
        go_ret
        first | exact ⟨rfl, hbw⟩ | exact ⟨congrArg (fun b => Ending.returned (Value.bool b)) qt, hbw⟩
      · have rm : (i.tmod j == 0) = false := by simpa using hr
        have rm2 : (i.tmod j != 0) = true := by simpa using hr
        have i1 : decide (i < 0) = true := decide_eq_true hs
        rw [i1] at hw0
        rw [if_neg (fun h => h.2 rfl)] at hw0
        have qt : (Q == i.tdiv j) = true := by simp only [beq_iff_eq]; omega
        have jn2 : ¬ j = 0 := HJN.out
        have jn : (j == 0) = false := by simpa using jn2
        clear hw0 hta htm hq1 hq2 hqa
        go_wp2_with fail
        go_ret
        first | exact ⟨rfl, hbw⟩ | exact ⟨congrArg (fun b => Ending.returned (Value.bool b)) qt, hbw⟩
      · have rm : (i.tmod j == 0) = false := by simpa using hr
        have rm2 : (i.tmod j != 0) = true := by simpa using hr
        have i1 : decide (i < 0) = false := decide_eq_false hs
        rw [i1] at hw0
        rw [if_pos ⟨hr, by decide⟩] at hw0
        have tv : wrap64 (i.tdiv j - 1) = i.tdiv j - 1 := by rw [← hw0]; simp only [wrap64]; omega
        have qt : (Q == i.tdiv j - 1) = true := by simp only [beq_iff_eq]; omega
        have jn2 : ¬ j = 0 := HJN.out
        have jn : (j == 0) = false := by simpa using jn2
        clear hw0 hta htm hq1 hq2 hqa hs
        go_wp2_with fail
        go_ret
        first | exact ⟨rfl, hbw⟩ | exact ⟨congrArg (fun b => Ending.returned (Value.bool b)) qt, hbw⟩
end Go.Proofs.YteoihhgaipplfaaDoor

