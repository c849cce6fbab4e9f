import Derived.Test.YteoihhgaipplfaaDoorJ15
namespace Go.Proofs.YteoihhgaipplfaaDoor
open Go.RowKit Go.Shelf

theorem sgnI_neg (x : Int) : sgnI (-x) = -sgnI x := by
  unfold sgnI
  rcases Int.lt_trichotomy x 0 with h | h | h
  · rw [if_neg (by omega), if_neg (by omega), if_pos h]; rfl
  · subst h; rfl
  · rw [if_pos (by omega), if_neg (by omega), if_neg (by omega)]
theorem fl_neg (x : Int) (d : Nat) : fl (decide (-x < 0)) (-x).natAbs d = - ce (decide (x < 0)) x.natAbs d := by
  rw [Int.natAbs_neg]
  by_cases hx : x = 0
  · subst hx
    simp [fl, ce, iv]
  · rw [show decide (-x < 0) = !decide (x < 0) from by rw [← decide_not]; exact decide_eq_decide.2 (by omega)]
    exact fl_not _ _ _
theorem ne_neg (x : Int) (d : Nat) : ne (decide (-x < 0)) (-x).natAbs d = - ne (decide (x < 0)) x.natAbs d := by
  rw [Int.natAbs_neg]
  by_cases hx : x = 0
  · subst hx
    simp [ne, neUp, iv]
  · rw [show decide (-x < 0) = !decide (x < 0) from by rw [← decide_not]; exact decide_eq_decide.2 (by omega)]
    exact ne_not _ _ _
theorem fl_negy (x y : Int) (hy : y ≠ 0) : fl (decide (x < 0) != decide (-y < 0)) x.natAbs (-y).natAbs = - ce (decide (x < 0) != decide (y < 0)) x.natAbs y.natAbs := by
  rw [Int.natAbs_neg, show decide (-y < 0) = !decide (y < 0) from by rw [← decide_not]; exact decide_eq_decide.2 (by omega), ← fl_not]
  congr 1
  cases decide (x < 0) <;> cases decide (y < 0) <;> rfl
set_option maxRecDepth 20000 in
set_option maxHeartbeats 16000000 in
theorem nummirrors_walk {p q : Option Addr} {n m c d : Nat} {xs ys : List Nat} {w : World} (sa sb : Bool) (h : At w p n c xs) (k : At w q m d ys) (hn : n ≤ 17592186044416) (hm : m ≤ 17592186044416) (kk : Int) (hk1 : kk ≤ 9223372036854775807) (hT : Tab w) :
    Calls Tryd.prog 5 #[ZV sa p n c, ZV sb q m d, .int .i64 kk] w fun e w' => e = .returned (.bool true) ∧ Below w.heap.size w w' := by
  have HT : Hid (Tab w) := hT
  have A0 : Hid (At w p n c xs) := h
  have B0 : Hid (At w q m d ys) := k
  have HK : Hid (kk ≤ 9223372036854775807) := hk1
  have HNM : Hid (n ≤ 17592186044416 ∧ m ≤ 17592186044416) := ⟨hn, hm⟩
  clear hT h k hk1 hn hm
  go_enter Tryd.func5, Tryd.ntmps5
  go_wp2_with fail
  obtain ⟨W0, hW0⟩ : ∃ W0, W0 = ((w.alloc (.cells #[.bool sa, .slice p n c] 35)).alloc (.cells #[.bool sb, .slice q m d] 35)) := ⟨_, rfl⟩
  have Xa : Hid (Box W0 (w.heap.size) (.bool sa) (.slice p n c)) := by rw [hW0]; exact ⟨by go_simp, by go_simp, by go_simp, by go_simp⟩
  have Xb : Hid (Box W0 (w.heap.size + 1) (.bool sb) (.slice q m d)) := by rw [hW0]; exact ⟨by go_simp, by go_simp, by go_simp, by go_simp⟩
  have hb0 : Below w.heap.size w W0 := by rw [hW0]; exact below2 w _ _
  rw [← hW0]
  clear hW0
  have hbw : Below w.heap.size w w := Below.refl _ _
  obtain ⟨gb, hgb⟩ : ∃ g, g = w.heap.size + 1 := ⟨_, rfl⟩
  have HGb : Hid (w.heap.size ≤ gb) := by rw [hgb]; show _ ≤ _; omega
  rw [← hgb] at Xb
  try rw [← hgb]
  obtain ⟨ga, hga⟩ : ∃ g, g = w.heap.size := ⟨_, rfl⟩
  have HGa : Hid (w.heap.size ≤ ga) := by rw [hga]; show _ ≤ _; omega
  rw [← hga] at Xa
  try rw [← hga]
  have HGD : Hid (ga ≠ gb ∧ gb ≠ ga) := by rw [hga, hgb]; exact ⟨by omega, by omega⟩
  clear hga hgb
  have HT' : Hid (Tab W0) := HT.out.below hb0
  clear HT
  have HT := HT'
  clear HT'
  have A0' : Hid (At W0 p n c xs) := A0.out.below hb0
  clear A0
  have A0 := A0'
  clear A0'
  have B0' : Hid (At W0 q m d ys) := B0.out.below hb0
  clear B0
  have B0 := B0'
  clear B0'
  have hbw' := Below.on hbw hb0
  clear hbw
  have hbw := hbw'
  clear hbw'
  clear hb0
  refine (formed_any sa A0.out HNM.out.1).mono ?_
  rintro e v1 ⟨s1, p1, m1, c1, u1, o1, rfl, ho1, hA1, hn1, ht1, hb1⟩
  have Ya : Hid (Box v1 ga (.bool sa) (.slice p n c)) := Xa.out.below hb1
  clear Xa
  have Xa := Ya
  clear Ya
  have Yb : Hid (Box v1 gb (.bool sb) (.slice q m d)) := Xb.out.below hb1
  clear Xb
  have Xb := Yb
  clear Yb
  have HT' : Hid (Tab v1) := HT.out.below hb1
  clear HT
  have HT := HT'
  clear HT'
  have A0' : Hid (At v1 p n c xs) := A0.out.below hb1
  clear A0
  have A0 := A0'
  clear A0'
  have B0' : Hid (At v1 q m d ys) := B0.out.below hb1
  clear B0
  have B0 := B0'
  clear B0'
  have hbw' := Below.on hbw hb1
  clear hbw
  have hbw := hbw'
  clear hbw'
  clear hb1
  obtain ⟨ax, hax⟩ : ∃ a : Nat, a = valB B64 xs := ⟨_, rfl⟩
  rw [← hax] at hn1 ht1
  have Fx : Hid (Nf B64 u1 ax ∧ (s1 = true → 0 < ax) ∧ o1 = decide (m1 ≤ 8192)) := ⟨hn1, ht1, ho1⟩
  have Qx : Hid (At v1 p1 m1 c1 u1) := hA1
  clear hn1 ht1 ho1 hA1 hax
  clear A0
  obtain ⟨cb0, cb1, fb0, fb1⟩ := Xb.out
  have hneb : gb < v1.heap.size := World.block_lt_of_cell? v1 _ cb0
  go_wp2_with fail
  clear cb0 cb1 fb0 fb1 hneb
  have Xx0 : Hid (Box (v1.alloc (.cells #[.bool s1, .slice p1 m1 c1] 35)) v1.heap.size (.bool s1) (.slice p1 m1 c1)) := Box.new v1 _ _ _
  have hbn : Below v1.heap.size v1 (v1.alloc (.cells #[.bool s1, .slice p1 m1 c1] 35)) := below1 v1 _
  generalize v1.alloc (.cells #[.bool s1, .slice p1 m1 c1] 35) = W1 at *
  have HGx : Hid (w.heap.size ≤ v1.heap.size) := hbw.size
  have Ya : Hid (Box W1 ga (.bool sa) (.slice p n c)) := Xa.out.below hbn
  clear Xa
  have Xa := Ya
  clear Ya
  have Yb : Hid (Box W1 gb (.bool sb) (.slice q m d)) := Xb.out.below hbn
  clear Xb
  have Xb := Yb
  clear Yb
  have HT' : Hid (Tab W1) := HT.out.below hbn
  clear HT
  have HT := HT'
  clear HT'
  have B0' : Hid (At W1 q m d ys) := B0.out.below hbn
  clear B0
  have B0 := B0'
  clear B0'
  have Qx' : Hid (At W1 p1 m1 c1 u1) := Qx.out.below hbn
  clear Qx
  have Qx := Qx'
  clear Qx'
  have hbw' := Below.on hbw hbn
  clear hbw
  have hbw := hbw'
  clear hbw'
  clear hbn
  generalize v1.heap.size = gx at *
  have Xx := Xx0
  clear Xx0
  clear Xa
  refine (formed_any sb B0.out HNM.out.2).mono ?_
  rintro e v2 ⟨s2, p2, m2, c2, u2, o2, rfl, ho2, hA2, hn2, ht2, hb2⟩
  have Yb : Hid (Box v2 gb (.bool sb) (.slice q m d)) := Xb.out.below hb2
  clear Xb
  have Xb := Yb
  clear Yb
  have Yx : Hid (Box v2 gx (.bool s1) (.slice p1 m1 c1)) := Xx.out.below hb2
  clear Xx
  have Xx := Yx
  clear Yx
  have HT' : Hid (Tab v2) := HT.out.below hb2
  clear HT
  have HT := HT'
  clear HT'
  have B0' : Hid (At v2 q m d ys) := B0.out.below hb2
  clear B0
  have B0 := B0'
  clear B0'
  have Qx' : Hid (At v2 p1 m1 c1 u1) := Qx.out.below hb2
  clear Qx
  have Qx := Qx'
  clear Qx'
  have hbw' := Below.on hbw hb2
  clear hbw
  have hbw := hbw'
  clear hbw'
  clear hb2
  obtain ⟨ay, hay⟩ : ∃ a : Nat, a = valB B64 ys := ⟨_, rfl⟩
  rw [← hay] at hn2 ht2
  have Fy : Hid (Nf B64 u2 ay ∧ (s2 = true → 0 < ay) ∧ o2 = decide (m2 ≤ 8192)) := ⟨hn2, ht2, ho2⟩
  have Qy : Hid (At v2 p2 m2 c2 u2) := hA2
  clear hn2 ht2 ho2 hA2 hay
  clear B0
  go_wp2_with fail
  have Xy0 : Hid (Box (v2.alloc (.cells #[.bool s2, .slice p2 m2 c2] 35)) v2.heap.size (.bool s2) (.slice p2 m2 c2)) := Box.new v2 _ _ _
  have hbn : Below v2.heap.size v2 (v2.alloc (.cells #[.bool s2, .slice p2 m2 c2] 35)) := below1 v2 _
  generalize v2.alloc (.cells #[.bool s2, .slice p2 m2 c2] 35) = W2 at *
  have HGy : Hid (w.heap.size ≤ v2.heap.size) := hbw.size
  have Yb : Hid (Box W2 gb (.bool sb) (.slice q m d)) := Xb.out.below hbn
  clear Xb
  have Xb := Yb
  clear Yb
  have Yx : Hid (Box W2 gx (.bool s1) (.slice p1 m1 c1)) := Xx.out.below hbn
  clear Xx
  have Xx := Yx
  clear Yx
  have HT' : Hid (Tab W2) := HT.out.below hbn
  clear HT
  have HT := HT'
  clear HT'
  have Qx' : Hid (At W2 p1 m1 c1 u1) := Qx.out.below hbn
  clear Qx
  have Qx := Qx'
  clear Qx'
  have Qy' : Hid (At W2 p2 m2 c2 u2) := Qy.out.below hbn
  clear Qy
  have Qy := Qy'
  clear Qy'
  have hbw' := Below.on hbw hbn
  clear hbw
  have hbw := hbw'
  clear hbw'
  clear hbn
  generalize v2.heap.size = gy at *
  have Xy := Xy0
  clear Xy0
  clear Xb
  refine (awake4_any _).mono ?_
  rintro e v3 ⟨rfl, hb3⟩
  have Yx : Hid (Box v3 gx (.bool s1) (.slice p1 m1 c1)) := Xx.out.below hb3
  clear Xx
  have Xx := Yx
  clear Yx
  have Yy : Hid (Box v3 gy (.bool s2) (.slice p2 m2 c2)) := Xy.out.below hb3
  clear Xy
  have Xy := Yy
  clear Yy
  have HT' : Hid (Tab v3) := HT.out.below hb3
  clear HT
  have HT := HT'
  clear HT'
  have Qx' : Hid (At v3 p1 m1 c1 u1) := Qx.out.below hb3
  clear Qx
  have Qx := Qx'
  clear Qx'
  have Qy' : Hid (At v3 p2 m2 c2 u2) := Qy.out.below hb3
  clear Qy
  have Qy := Qy'
  clear Qy'
  have hbw' := Below.on hbw hb3
  clear hbw
  have hbw := hbw'
  clear hbw'
  clear hb3
  go_wp2_with fail
  refine (halves_any _ HT.out).mono ?_
  rintro e v4 ⟨rfl, hb4⟩
  have Yx : Hid (Box v4 gx (.bool s1) (.slice p1 m1 c1)) := Xx.out.below hb4
  clear Xx
  have Xx := Yx
  clear Yx
  have Yy : Hid (Box v4 gy (.bool s2) (.slice p2 m2 c2)) := Xy.out.below hb4
  clear Xy
  have Xy := Yy
  clear Yy
  have HT' : Hid (Tab v4) := HT.out.below hb4
  clear HT
  have HT := HT'
  clear HT'
  have Qx' : Hid (At v4 p1 m1 c1 u1) := Qx.out.below hb4
  clear Qx
  have Qx := Qx'
  clear Qx'
  have Qy' : Hid (At v4 p2 m2 c2 u2) := Qy.out.below hb4
  clear Qy
  have Qy := Qy'
  clear Qy'
  have hbw' := Below.on hbw hb4
  clear hbw
  have hbw := hbw'
  clear hbw'
  clear hb4
  cases o1
  · go_wp2_with fail
    go_ret
    exact ⟨rfl, hbw⟩
  cases o2
  · go_wp2_with fail
    go_ret
    exact ⟨rfl, hbw⟩
  obtain ⟨x, hx⟩ : ∃ z, z = iv s1 ax := ⟨_, rfl⟩
  have Zx : Hid (ZN v4 s1 p1 m1 c1 x) := (ZN.of ⟨Qx.out, Fx.out.1, of_decide_eq_true Fx.out.2.2.symm⟩ Fx.out.2.1).cast hx.symm
  clear hx
  clear Qx
  obtain ⟨y, hy⟩ : ∃ z, z = iv s2 ay := ⟨_, rfl⟩
  have Zy : Hid (ZN v4 s2 p2 m2 c2 y) := (ZN.of ⟨Qy.out, Fy.out.1, of_decide_eq_true Fy.out.2.2.symm⟩ Fy.out.2.1).cast hy.symm
  clear hy
  clear Qy
  obtain ⟨cx0, cx1, fx0, fx1⟩ := Xx.out
  have hnex : gx < v4.heap.size := World.block_lt_of_cell? v4 _ cx0
  go_wp2_with fail
  clear cx0 cx1 fx0 fx1 hnex
  refine (zneg Zx.out).mono ?_
  rintro e v5 ⟨⟨s5, p5, m5, rfl, hz⟩, hb5⟩
  have Yx : Hid (Box v5 gx (.bool s1) (.slice p1 m1 c1)) := Xx.out.below hb5
  clear Xx
  have Xx := Yx
  clear Yx
  have Yy : Hid (Box v5 gy (.bool s2) (.slice p2 m2 c2)) := Xy.out.below hb5
  clear Xy
  have Xy := Yy
  clear Yy
  have HT' : Hid (Tab v5) := HT.out.below hb5
  clear HT
  have HT := HT'
  clear HT'
  have Zx' : Hid (ZN v5 s1 p1 m1 c1 x) := Zx.out.below hb5
  clear Zx
  have Zx := Zx'
  clear Zx'
  have Zy' : Hid (ZN v5 s2 p2 m2 c2 y) := Zy.out.below hb5
  clear Zy
  have Zy := Zy'
  clear Zy'
  have hbw' := Below.on hbw hb5
  clear hbw
  have hbw := hbw'
  clear hbw'
  clear hb5
  have Zz : Hid (ZN v5 s5 p5 m5 m5 (-x)) := hz
  clear hz
  obtain ⟨cy0, cy1, fy0, fy1⟩ := Xy.out
  have hney : gy < v5.heap.size := World.block_lt_of_cell? v5 _ cy0
  go_wp2_with fail
  clear cy0 cy1 fy0 fy1 hney
  have Xz0 : Hid (Box (v5.alloc (.cells #[.bool s5, .slice p5 m5 m5] 35)) v5.heap.size (.bool s5) (.slice p5 m5 m5)) := Box.new v5 _ _ _
  have hbn : Below v5.heap.size v5 (v5.alloc (.cells #[.bool s5, .slice p5 m5 m5] 35)) := below1 v5 _
  generalize v5.alloc (.cells #[.bool s5, .slice p5 m5 m5] 35) = W5 at *
  have HGz : Hid (w.heap.size ≤ v5.heap.size) := hbw.size
  have Yx : Hid (Box W5 gx (.bool s1) (.slice p1 m1 c1)) := Xx.out.below hbn
  clear Xx
  have Xx := Yx
  clear Yx
  have Yy : Hid (Box W5 gy (.bool s2) (.slice p2 m2 c2)) := Xy.out.below hbn
  clear Xy
  have Xy := Yy
  clear Yy
  have HT' : Hid (Tab W5) := HT.out.below hbn
  clear HT
  have HT := HT'
  clear HT'
  have Zx' : Hid (ZN W5 s1 p1 m1 c1 x) := Zx.out.below hbn
  clear Zx
  have Zx := Zx'
  clear Zx'
  have Zy' : Hid (ZN W5 s2 p2 m2 c2 y) := Zy.out.below hbn
  clear Zy
  have Zy := Zy'
  clear Zy'
  have Zz' : Hid (ZN W5 s5 p5 m5 m5 (-x)) := Zz.out.below hbn
  clear Zz
  have Zz := Zz'
  clear Zz'
  have hbw' := Below.on hbw hbn
  clear hbw
  have hbw := hbw'
  clear hbw'
  clear hbn
  generalize v5.heap.size = gz at *
  have Xz := Xz0
  clear Xz0
  refine (zneg Zy.out).mono ?_
  rintro e v6 ⟨⟨s6, p6, m6, rfl, hz⟩, hb6⟩
  have Yx : Hid (Box v6 gx (.bool s1) (.slice p1 m1 c1)) := Xx.out.below hb6
  clear Xx
  have Xx := Yx
  clear Yx
  have Yy : Hid (Box v6 gy (.bool s2) (.slice p2 m2 c2)) := Xy.out.below hb6
  clear Xy
  have Xy := Yy
  clear Yy
  have Yz : Hid (Box v6 gz (.bool s5) (.slice p5 m5 m5)) := Xz.out.below hb6
  clear Xz
  have Xz := Yz
  clear Yz
  have HT' : Hid (Tab v6) := HT.out.below hb6
  clear HT
  have HT := HT'
  clear HT'
  have Zx' : Hid (ZN v6 s1 p1 m1 c1 x) := Zx.out.below hb6
  clear Zx
  have Zx := Zx'
  clear Zx'
  have Zy' : Hid (ZN v6 s2 p2 m2 c2 y) := Zy.out.below hb6
  clear Zy
  have Zy := Zy'
  clear Zy'
  have Zz' : Hid (ZN v6 s5 p5 m5 m5 (-x)) := Zz.out.below hb6
  clear Zz
  have Zz := Zz'
  clear Zz'
  have hbw' := Below.on hbw hb6
  clear hbw
  have hbw := hbw'
  clear hbw'
  clear hb6
  have Zw : Hid (ZN v6 s6 p6 m6 m6 (-y)) := hz
  clear hz
  obtain ⟨cz0, cz1, fz0, fz1⟩ := Xz.out
  have hnez : gz < v6.heap.size := World.block_lt_of_cell? v6 _ cz0
  go_wp2_with fail
  clear cz0 cz1 fz0 fz1 hnez
  have Xw0 : Hid (Box (v6.alloc (.cells #[.bool s6, .slice p6 m6 m6] 35)) v6.heap.size (.bool s6) (.slice p6 m6 m6)) := Box.new v6 _ _ _
  have hbn : Below v6.heap.size v6 (v6.alloc (.cells #[.bool s6, .slice p6 m6 m6] 35)) := below1 v6 _
  generalize v6.alloc (.cells #[.bool s6, .slice p6 m6 m6] 35) = W6 at *
  have HGw : Hid (w.heap.size ≤ v6.heap.size) := hbw.size
  have Yx : Hid (Box W6 gx (.bool s1) (.slice p1 m1 c1)) := Xx.out.below hbn
  clear Xx
  have Xx := Yx
  clear Yx
  have Yy : Hid (Box W6 gy (.bool s2) (.slice p2 m2 c2)) := Xy.out.below hbn
  clear Xy
  have Xy := Yy
  clear Yy
  have Yz : Hid (Box W6 gz (.bool s5) (.slice p5 m5 m5)) := Xz.out.below hbn
  clear Xz
  have Xz := Yz
  clear Yz
  have HT' : Hid (Tab W6) := HT.out.below hbn
  clear HT
  have HT := HT'
  clear HT'
  have Zx' : Hid (ZN W6 s1 p1 m1 c1 x) := Zx.out.below hbn
  clear Zx
  have Zx := Zx'
  clear Zx'
  have Zy' : Hid (ZN W6 s2 p2 m2 c2 y) := Zy.out.below hbn
  clear Zy
  have Zy := Zy'
  clear Zy'
  have Zz' : Hid (ZN W6 s5 p5 m5 m5 (-x)) := Zz.out.below hbn
  clear Zz
  have Zz := Zz'
  clear Zz'
  have Zw' : Hid (ZN W6 s6 p6 m6 m6 (-y)) := Zw.out.below hbn
  clear Zw
  have Zw := Zw'
  clear Zw'
  have hbw' := Below.on hbw hbn
  clear hbw
  have hbw := hbw'
  clear hbw'
  clear hbn
  generalize v6.heap.size = gw at *
  have Xw := Xw0
  clear Xw0
  refine (zneg Zz.out).mono ?_
  rintro e v7 ⟨⟨s7, p7, m7, rfl, hz⟩, hb7⟩
  have Yx : Hid (Box v7 gx (.bool s1) (.slice p1 m1 c1)) := Xx.out.below hb7
  clear Xx
  have Xx := Yx
  clear Yx
  have Yy : Hid (Box v7 gy (.bool s2) (.slice p2 m2 c2)) := Xy.out.below hb7
  clear Xy
  have Xy := Yy
  clear Yy
  have Yz : Hid (Box v7 gz (.bool s5) (.slice p5 m5 m5)) := Xz.out.below hb7
  clear Xz
  have Xz := Yz
  clear Yz
  have Yw : Hid (Box v7 gw (.bool s6) (.slice p6 m6 m6)) := Xw.out.below hb7
  clear Xw
  have Xw := Yw
  clear Yw
  have HT' : Hid (Tab v7) := HT.out.below hb7
  clear HT
  have HT := HT'
  clear HT'
  have Zx' : Hid (ZN v7 s1 p1 m1 c1 x) := Zx.out.below hb7
  clear Zx
  have Zx := Zx'
  clear Zx'
  have Zy' : Hid (ZN v7 s2 p2 m2 c2 y) := Zy.out.below hb7
  clear Zy
  have Zy := Zy'
  clear Zy'
  have Zz' : Hid (ZN v7 s5 p5 m5 m5 (-x)) := Zz.out.below hb7
  clear Zz
  have Zz := Zz'
  clear Zz'
  have Zw' : Hid (ZN v7 s6 p6 m6 m6 (-y)) := Zw.out.below hb7
  clear Zw
  have Zw := Zw'
  clear Zw'
  have hbw' := Below.on hbw hb7
  clear hbw
  have hbw := hbw'
  clear hbw'
  clear hb7
  have hz := hz.cast (z' := x) (by omega)
  have Zback : Hid (ZN v7 s7 p7 m7 m7 (x)) := hz
  clear hz
  obtain ⟨cx0, cx1, fx0, fx1⟩ := Xx.out
  have hnex : gx < v7.heap.size := World.block_lt_of_cell? v7 _ cx0
  go_wp2_with fail
  clear cx0 cx1 fx0 fx1 hnex
  have Xback0 : Hid (Box (v7.alloc (.cells #[.bool s7, .slice p7 m7 m7] 35)) v7.heap.size (.bool s7) (.slice p7 m7 m7)) := Box.new v7 _ _ _
  have hbn : Below v7.heap.size v7 (v7.alloc (.cells #[.bool s7, .slice p7 m7 m7] 35)) := below1 v7 _
  generalize v7.alloc (.cells #[.bool s7, .slice p7 m7 m7] 35) = W7 at *
  have HGback : Hid (w.heap.size ≤ v7.heap.size) := hbw.size
  have Yx : Hid (Box W7 gx (.bool s1) (.slice p1 m1 c1)) := Xx.out.below hbn
  clear Xx
  have Xx := Yx
  clear Yx
  have Yy : Hid (Box W7 gy (.bool s2) (.slice p2 m2 c2)) := Xy.out.below hbn
  clear Xy
  have Xy := Yy
  clear Yy
  have Yz : Hid (Box W7 gz (.bool s5) (.slice p5 m5 m5)) := Xz.out.below hbn
  clear Xz
  have Xz := Yz
  clear Yz
  have Yw : Hid (Box W7 gw (.bool s6) (.slice p6 m6 m6)) := Xw.out.below hbn
  clear Xw
  have Xw := Yw
  clear Yw
  have HT' : Hid (Tab W7) := HT.out.below hbn
  clear HT
  have HT := HT'
  clear HT'
  have Zx' : Hid (ZN W7 s1 p1 m1 c1 x) := Zx.out.below hbn
  clear Zx
  have Zx := Zx'
  clear Zx'
  have Zy' : Hid (ZN W7 s2 p2 m2 c2 y) := Zy.out.below hbn
  clear Zy
  have Zy := Zy'
  clear Zy'
  have Zz' : Hid (ZN W7 s5 p5 m5 m5 (-x)) := Zz.out.below hbn
  clear Zz
  have Zz := Zz'
  clear Zz'
  have Zw' : Hid (ZN W7 s6 p6 m6 m6 (-y)) := Zw.out.below hbn
  clear Zw
  have Zw := Zw'
  clear Zw'
  have Zback' : Hid (ZN W7 s7 p7 m7 m7 (x)) := Zback.out.below hbn
  clear Zback
  have Zback := Zback'
  clear Zback'
  have hbw' := Below.on hbw hbn
  clear hbw
  have hbw := hbw'
  clear hbw'
  clear hbn
  generalize v7.heap.size = gback at *
  have Xback := Xback0
  clear Xback0
  obtain ⟨sg, hsg⟩ : ∃ sg, sg = sgnI x := ⟨_, rfl⟩
  have HSG : Hid (sg = sgnI x) := hsg
  have hw2 : IntKind.i64.wrap (-sg) = -sg := by rw [hsg]; unfold sgnI; split; (decide +kernel); split <;> decide +kernel
  have hbn : (-sg != -sg) = false := by simp
  have hw : wrap64 (-sg) = -sg := by rw [hsg]; unfold sgnI; split; (decide +kernel); split <;> decide +kernel
  have hbb : (-sg == -sg) = true := by simp
  clear hsg
  obtain ⟨W8, hW8⟩ : ∃ W1, W1 = W7.drew := ⟨_, rfl⟩
  have hbd : Below W7.heap.size W7 W8 := by rw [hW8]; exact bDrew1 (Below.refl _ _)
  have Yx : Hid (Box W8 gx (.bool s1) (.slice p1 m1 c1)) := Xx.out.below hbd
  clear Xx
  have Xx := Yx
  clear Yx
  have Yy : Hid (Box W8 gy (.bool s2) (.slice p2 m2 c2)) := Xy.out.below hbd
  clear Xy
  have Xy := Yy
  clear Yy
  have Yz : Hid (Box W8 gz (.bool s5) (.slice p5 m5 m5)) := Xz.out.below hbd
  clear Xz
  have Xz := Yz
  clear Yz
  have Yw : Hid (Box W8 gw (.bool s6) (.slice p6 m6 m6)) := Xw.out.below hbd
  clear Xw
  have Xw := Yw
  clear Yw
  have Yback : Hid (Box W8 gback (.bool s7) (.slice p7 m7 m7)) := Xback.out.below hbd
  clear Xback
  have Xback := Yback
  clear Yback
  have HT' : Hid (Tab W8) := HT.out.below hbd
  clear HT
  have HT := HT'
  clear HT'
  have Zx' : Hid (ZN W8 s1 p1 m1 c1 x) := Zx.out.below hbd
  clear Zx
  have Zx := Zx'
  clear Zx'
  have Zy' : Hid (ZN W8 s2 p2 m2 c2 y) := Zy.out.below hbd
  clear Zy
  have Zy := Zy'
  clear Zy'
  have Zz' : Hid (ZN W8 s5 p5 m5 m5 (-x)) := Zz.out.below hbd
  clear Zz
  have Zz := Zz'
  clear Zz'
  have Zw' : Hid (ZN W8 s6 p6 m6 m6 (-y)) := Zw.out.below hbd
  clear Zw
  have Zw := Zw'
  clear Zw'
  have Zback' : Hid (ZN W8 s7 p7 m7 m7 (x)) := Zback.out.below hbd
  clear Zback
  have Zback := Zback'
  clear Zback'
  have hbw' := Below.on hbw hbd
  clear hbw
  have hbw := hbw'
  clear hbw'
  clear hbd
  have HJ : Hid ((fun W' : World => W'.cell? ⟨gback, 0, none⟩ = some (.bool s7) ∧ W'.cell? ⟨gback, 1, none⟩ = some (.slice p7 m7 m7) ∧ W'.cell? ⟨gx, 0, none⟩ = some (.bool s1) ∧ W'.cell? ⟨gx, 1, none⟩ = some (.slice p1 m1 c1) ∧ W'.cell? ⟨gz, 0, none⟩ = some (.bool s5) ∧ W'.cell? ⟨gz, 1, none⟩ = some (.slice p5 m5 m5)) W8) := ⟨Xback.out.c0, Xback.out.c1, Xx.out.c0, Xx.out.c1, Xz.out.c0, Xz.out.c1⟩
  refine wp_region_J (fun W' => W'.cell? ⟨gback, 0, none⟩ = some (.bool s7) ∧ W'.cell? ⟨gback, 1, none⟩ = some (.slice p7 m7 m7) ∧ W'.cell? ⟨gx, 0, none⟩ = some (.bool s1) ∧ W'.cell? ⟨gx, 1, none⟩ = some (.slice p1 m1 c1) ∧ W'.cell? ⟨gz, 0, none⟩ = some (.bool s5) ∧ W'.cell? ⟨gz, 1, none⟩ = some (.slice p5 m5 m5)) (by kernel_rfl) ?_
  rw [← hW8]
  clear hW8
  refine wpJ_take (i := 0) (v := ?v1x0) rfl (by kernel_rfl) (by kernel_rfl) (by kernel_rfl) (fun _ _ _ h => h) (by kernel_rfl) ?hy1x0 HJ.out ?rest1x0
  case hy1x0 => (intro W' hJ; obtain ⟨j0, j1, j2, j3, j4, j5⟩ := hJ; go_simp; first | done | with_reducible rfl)
  refine wpJ_take (i := 1) (v := ?v2x1) rfl (by kernel_rfl) (by kernel_rfl) (by kernel_rfl) (fun _ _ _ h => h) (by kernel_rfl) ?hy2x1 HJ.out ?rest2x1
  case hy2x1 => (intro W' hJ; obtain ⟨j0, j1, j2, j3, j4, j5⟩ := hJ; go_simp; first | done | with_reducible rfl)
  refine wpJ_take (i := 2) (v := ?v3x2) rfl (by kernel_rfl) (by kernel_rfl) (by kernel_rfl) (fun _ _ _ h => h) (by kernel_rfl) ?hy3x2 HJ.out ?rest3x2
  case hy3x2 => (intro W' hJ; obtain ⟨j0, j1, j2, j3, j4, j5⟩ := hJ; go_simp; first | done | with_reducible rfl)
  refine wpJ_take (i := 3) (v := ?v4x3) rfl (by kernel_rfl) (by kernel_rfl) (by kernel_rfl) (fun _ _ _ h => h) (by kernel_rfl) ?hy4x3 HJ.out ?rest4x3
  case hy4x3 => (intro W' hJ; obtain ⟨j0, j1, j2, j3, j4, j5⟩ := hJ; go_simp; first | done | with_reducible rfl)
  refine wpJ_take (i := 4) (v := ?v5x4) rfl (by kernel_rfl) (by kernel_rfl) (by kernel_rfl) (fun _ _ _ h => h) (by kernel_rfl) ?hy5x4 HJ.out ?rest5x4
  case hy5x4 => (intro W' hJ; obtain ⟨j0, j1, j2, j3, j4, j5⟩ := hJ; go_simp; first | done | with_reducible rfl)
  refine wpJ_take (i := 5) (v := ?v6x5) rfl (by kernel_rfl) (by kernel_rfl) (by kernel_rfl) (fun _ _ _ h => h) (by kernel_rfl) ?hy6x5 HJ.out ?rest6x5
  case hy6x5 => (intro W' hJ; obtain ⟨j0, j1, j2, j3, j4, j5⟩ := hJ; go_simp; first | done | with_reducible rfl)
  refine wpJ_take (i := 6) (v := ?v7x6) rfl (by kernel_rfl) (by kernel_rfl) (by kernel_rfl) (fun _ _ _ h => h) (by kernel_rfl) ?hy7x6 HJ.out ?rest7x6
  case hy7x6 => (intro W' hJ; obtain ⟨j0, j1, j2, j3, j4, j5⟩ := hJ; go_simp; first | done | with_reducible rfl)
  refine wpJ_take (i := 7) (v := ?v8x7) rfl (by kernel_rfl) (by kernel_rfl) (by kernel_rfl) (fun _ _ _ h => h) (by kernel_rfl) ?hy8x7 HJ.out ?rest8x7
  case hy8x7 => (intro W' hJ; obtain ⟨j0, j1, j2, j3, j4, j5⟩ := hJ; go_simp; first | done | with_reducible rfl)
  refine wpJ_take (i := 8) (v := ?v9x8) rfl (by kernel_rfl) (by kernel_rfl) (by kernel_rfl) (fun _ _ _ h => h) (by kernel_rfl) ?hy9x8 HJ.out ?rest9x8
  case hy9x8 => (intro W' hJ; obtain ⟨j0, j1, j2, j3, j4, j5⟩ := hJ; go_simp; first | done | with_reducible rfl)
  refine wpJ_take (i := 9) (v := ?v10x9) rfl (by kernel_rfl) (by kernel_rfl) (by kernel_rfl) (fun _ _ _ h => h) (by kernel_rfl) ?hy10x9 HJ.out ?rest10x9
  case hy10x9 => (intro W' hJ; obtain ⟨j0, j1, j2, j3, j4, j5⟩ := hJ; go_simp; first | done | with_reducible rfl)
  refine wpJ_take (i := 10) (v := ?v11x10) rfl (by kernel_rfl) (by kernel_rfl) (by kernel_rfl) (fun _ _ _ h => h) (by kernel_rfl) ?hy11x10 HJ.out ?rest11x10
  case hy11x10 => (intro W' hJ; obtain ⟨j0, j1, j2, j3, j4, j5⟩ := hJ; go_simp; first | done | with_reducible rfl)
  refine wpJ_take (i := 11) (v := ?v12x11) rfl (by kernel_rfl) (by kernel_rfl) (by kernel_rfl) (fun _ _ _ h => h) (by kernel_rfl) ?hy12x11 HJ.out ?rest12x11
  case hy12x11 => (intro W' hJ; obtain ⟨j0, j1, j2, j3, j4, j5⟩ := hJ; go_simp; first | done | with_reducible rfl)
  refine wpJ_take (i := 12) (v := ?v13x12) rfl (by kernel_rfl) (by kernel_rfl) (by kernel_rfl) (fun _ _ _ h => h) (by kernel_rfl) ?hy13x12 HJ.out ?rest13x12
  case hy13x12 => (intro W' hJ; obtain ⟨j0, j1, j2, j3, j4, j5⟩ := hJ; go_simp; first | done | with_reducible rfl)
  refine wpJ_one (i := 13) (by kernel_rfl) rfl (by kernel_rfl) (fun KJ hK => ?_)
  go_simp
  refine (zsame Zback.out Zx.out).mono ?_
  rintro e v9 ⟨rfl, hb9⟩
  rw [decide_eq_true rfl]
  have Yx : Hid (Box v9 gx (.bool s1) (.slice p1 m1 c1)) := Xx.out.below hb9
  clear Xx
  have Xx := Yx
  clear Yx
  have Yy : Hid (Box v9 gy (.bool s2) (.slice p2 m2 c2)) := Xy.out.below hb9
  clear Xy
  have Xy := Yy
  clear Yy
  have Yz : Hid (Box v9 gz (.bool s5) (.slice p5 m5 m5)) := Xz.out.below hb9
  clear Xz
  have Xz := Yz
  clear Yz
  have Yw : Hid (Box v9 gw (.bool s6) (.slice p6 m6 m6)) := Xw.out.below hb9
  clear Xw
  have Xw := Yw
  clear Yw
  have Yback : Hid (Box v9 gback (.bool s7) (.slice p7 m7 m7)) := Xback.out.below hb9
  clear Xback
  have Xback := Yback
  clear Yback
  have HT' : Hid (Tab v9) := HT.out.below hb9
  clear HT
  have HT := HT'
  clear HT'
  have Zx' : Hid (ZN v9 s1 p1 m1 c1 x) := Zx.out.below hb9
  clear Zx
  have Zx := Zx'
  clear Zx'
  have Zy' : Hid (ZN v9 s2 p2 m2 c2 y) := Zy.out.below hb9
  clear Zy
  have Zy := Zy'
  clear Zy'
  have Zz' : Hid (ZN v9 s5 p5 m5 m5 (-x)) := Zz.out.below hb9
  clear Zz
  have Zz := Zz'
  clear Zz'
  have Zw' : Hid (ZN v9 s6 p6 m6 m6 (-y)) := Zw.out.below hb9
  clear Zw
  have Zw := Zw'
  clear Zw'
  have Zback' : Hid (ZN v9 s7 p7 m7 m7 (x)) := Zback.out.below hb9
  clear Zback
  have Zback := Zback'
  clear Zback'
  have hbw' := Below.on hbw hb9
  clear hbw
  have hbw := hbw'
  clear hbw'
  clear hb9
  clear HJ
  have HJ : Hid ((fun W' : World => W'.cell? ⟨gback, 0, none⟩ = some (.bool s7) ∧ W'.cell? ⟨gback, 1, none⟩ = some (.slice p7 m7 m7) ∧ W'.cell? ⟨gx, 0, none⟩ = some (.bool s1) ∧ W'.cell? ⟨gx, 1, none⟩ = some (.slice p1 m1 c1) ∧ W'.cell? ⟨gz, 0, none⟩ = some (.bool s5) ∧ W'.cell? ⟨gz, 1, none⟩ = some (.slice p5 m5 m5)) v9) := ⟨Xback.out.c0, Xback.out.c1, Xx.out.c0, Xx.out.c1, Xz.out.c0, Xz.out.c1⟩
  refine hK _ _ HJ.out ?_
  clear hK
  refine wpJ_take (i := 14) (v := ?v14x14) rfl (by kernel_rfl) (by kernel_rfl) (by kernel_rfl) (fun _ _ _ h => h) (by kernel_rfl) ?hy14x14 HJ.out ?rest14x14
  case hy14x14 => (intro W' hJ; obtain ⟨j0, j1, j2, j3, j4, j5⟩ := hJ; go_simp; first | done | with_reducible rfl)
  refine wpJ_take (i := 15) (v := ?v15x15) rfl (by kernel_rfl) (by kernel_rfl) (by kernel_rfl) (fun _ _ _ h => h) (by kernel_rfl) ?hy15x15 HJ.out ?rest15x15
  case hy15x15 => (intro W' hJ; obtain ⟨j0, j1, j2, j3, j4, j5⟩ := hJ; go_simp; first | done | with_reducible rfl)
  refine wpJ_take (i := 16) (v := ?v16x16) rfl (by kernel_rfl) (by kernel_rfl) (by kernel_rfl) (fun _ _ _ h => h) (by kernel_rfl) ?hy16x16 HJ.out ?rest16x16
  case hy16x16 => (intro W' hJ; obtain ⟨j0, j1, j2, j3, j4, j5⟩ := hJ; go_simp; first | done | with_reducible rfl)
  refine wpJ_take (i := 17) (v := ?v17x17) rfl (by kernel_rfl) (by kernel_rfl) (by kernel_rfl) (fun _ _ _ h => h) (by kernel_rfl) ?hy17x17 HJ.out ?rest17x17
  case hy17x17 => (intro W' hJ; obtain ⟨j0, j1, j2, j3, j4, j5⟩ := hJ; go_simp; first | done | with_reducible rfl)
  refine wpJ_take (i := 19) (v := ?v18x19) rfl (by kernel_rfl) (by kernel_rfl) (by kernel_rfl) (fun _ _ _ h => h) (by kernel_rfl) ?hy18x19 HJ.out ?rest18x19
  case hy18x19 => (intro W' hJ; obtain ⟨j0, j1, j2, j3, j4, j5⟩ := hJ; go_simp; first | done | with_reducible rfl)
  refine wpJ_one (i := 18) (by kernel_rfl) rfl (by kernel_rfl) (fun KJ hK => ?_)
  go_simp
  refine (zsign Zz.out).mono ?_
  rintro e v10 ⟨rfl, hb10⟩
  rw [sgnI_neg, ← HSG.out]
  have Yx : Hid (Box v10 gx (.bool s1) (.slice p1 m1 c1)) := Xx.out.below hb10
  clear Xx
  have Xx := Yx
  clear Yx
  have Yy : Hid (Box v10 gy (.bool s2) (.slice p2 m2 c2)) := Xy.out.below hb10
  clear Xy
  have Xy := Yy
  clear Yy
  have Yz : Hid (Box v10 gz (.bool s5) (.slice p5 m5 m5)) := Xz.out.below hb10
  clear Xz
  have Xz := Yz
  clear Yz
  have Yw : Hid (Box v10 gw (.bool s6) (.slice p6 m6 m6)) := Xw.out.below hb10
  clear Xw
  have Xw := Yw
  clear Yw
  have Yback : Hid (Box v10 gback (.bool s7) (.slice p7 m7 m7)) := Xback.out.below hb10
  clear Xback
  have Xback := Yback
  clear Yback
  have HT' : Hid (Tab v10) := HT.out.below hb10
  clear HT
  have HT := HT'
  clear HT'
  have Zx' : Hid (ZN v10 s1 p1 m1 c1 x) := Zx.out.below hb10
  clear Zx
  have Zx := Zx'
  clear Zx'
  have Zy' : Hid (ZN v10 s2 p2 m2 c2 y) := Zy.out.below hb10
  clear Zy
  have Zy := Zy'
  clear Zy'
  have Zz' : Hid (ZN v10 s5 p5 m5 m5 (-x)) := Zz.out.below hb10
  clear Zz
  have Zz := Zz'
  clear Zz'
  have Zw' : Hid (ZN v10 s6 p6 m6 m6 (-y)) := Zw.out.below hb10
  clear Zw
  have Zw := Zw'
  clear Zw'
  have Zback' : Hid (ZN v10 s7 p7 m7 m7 (x)) := Zback.out.below hb10
  clear Zback
  have Zback := Zback'
  clear Zback'
  have hbw' := Below.on hbw hb10
  clear hbw
  have hbw := hbw'
  clear hbw'
  clear hb10
  clear HJ
  have HJ : Hid ((fun W' : World => W'.cell? ⟨gback, 0, none⟩ = some (.bool s7) ∧ W'.cell? ⟨gback, 1, none⟩ = some (.slice p7 m7 m7) ∧ W'.cell? ⟨gx, 0, none⟩ = some (.bool s1) ∧ W'.cell? ⟨gx, 1, none⟩ = some (.slice p1 m1 c1) ∧ W'.cell? ⟨gz, 0, none⟩ = some (.bool s5) ∧ W'.cell? ⟨gz, 1, none⟩ = some (.slice p5 m5 m5)) v10) := ⟨Xback.out.c0, Xback.out.c1, Xx.out.c0, Xx.out.c1, Xz.out.c0, Xz.out.c1⟩
  refine hK _ _ HJ.out ?_
  clear hK
  refine wpJ_one (i := 20) (by kernel_rfl) rfl (by kernel_rfl) (fun KJ hK => ?_)
  go_simp
  refine (zsign Zx.out).mono ?_
  rintro e v11 ⟨rfl, hb11⟩
  rw [← HSG.out]
  have Yx : Hid (Box v11 gx (.bool s1) (.slice p1 m1 c1)) := Xx.out.below hb11
  clear Xx
  have Xx := Yx
  clear Yx
  have Yy : Hid (Box v11 gy (.bool s2) (.slice p2 m2 c2)) := Xy.out.below hb11
  clear Xy
  have Xy := Yy
  clear Yy
  have Yz : Hid (Box v11 gz (.bool s5) (.slice p5 m5 m5)) := Xz.out.below hb11
  clear Xz
  have Xz := Yz
  clear Yz
  have Yw : Hid (Box v11 gw (.bool s6) (.slice p6 m6 m6)) := Xw.out.below hb11
  clear Xw
  have Xw := Yw
  clear Yw
  have Yback : Hid (Box v11 gback (.bool s7) (.slice p7 m7 m7)) := Xback.out.below hb11
  clear Xback
  have Xback := Yback
  clear Yback
  have HT' : Hid (Tab v11) := HT.out.below hb11
  clear HT
  have HT := HT'
  clear HT'
  have Zx' : Hid (ZN v11 s1 p1 m1 c1 x) := Zx.out.below hb11
  clear Zx
  have Zx := Zx'
  clear Zx'
  have Zy' : Hid (ZN v11 s2 p2 m2 c2 y) := Zy.out.below hb11
  clear Zy
  have Zy := Zy'
  clear Zy'
  have Zz' : Hid (ZN v11 s5 p5 m5 m5 (-x)) := Zz.out.below hb11
  clear Zz
  have Zz := Zz'
  clear Zz'
  have Zw' : Hid (ZN v11 s6 p6 m6 m6 (-y)) := Zw.out.below hb11
  clear Zw
  have Zw := Zw'
  clear Zw'
  have Zback' : Hid (ZN v11 s7 p7 m7 m7 (x)) := Zback.out.below hb11
  clear Zback
  have Zback := Zback'
  clear Zback'
  have hbw' := Below.on hbw hb11
  clear hbw
  have hbw := hbw'
  clear hbw'
  clear hb11
  clear HJ
  have HJ : Hid ((fun W' : World => W'.cell? ⟨gback, 0, none⟩ = some (.bool s7) ∧ W'.cell? ⟨gback, 1, none⟩ = some (.slice p7 m7 m7) ∧ W'.cell? ⟨gx, 0, none⟩ = some (.bool s1) ∧ W'.cell? ⟨gx, 1, none⟩ = some (.slice p1 m1 c1) ∧ W'.cell? ⟨gz, 0, none⟩ = some (.bool s5) ∧ W'.cell? ⟨gz, 1, none⟩ = some (.slice p5 m5 m5)) v11) := ⟨Xback.out.c0, Xback.out.c1, Xx.out.c0, Xx.out.c1, Xz.out.c0, Xz.out.c1⟩
  refine hK _ _ HJ.out ?_
  clear hK
  refine wpJ_take (i := 21) (v := ?v19x21) rfl (by kernel_rfl) (by kernel_rfl) (by kernel_rfl) (fun _ _ _ h => h) (by kernel_rfl) ?hy19x21 HJ.out ?rest19x21
  case hy19x21 => (intro W' hJ; obtain ⟨j0, j1, j2, j3, j4, j5⟩ := hJ; go_simp; first | done | with_reducible rfl)
  refine wpJ_take (i := 22) (v := ?v20x22) rfl (by kernel_rfl) (by kernel_rfl) (by kernel_rfl) (fun _ _ _ h => h) (by kernel_rfl) ?hy20x22 HJ.out ?rest20x22
  case hy20x22 => (intro W' hJ; obtain ⟨j0, j1, j2, j3, j4, j5⟩ := hJ; go_simp; first | done | with_reducible rfl)
  refine wpJ_take (i := 23) (v := ?v21x23) rfl (by kernel_rfl) (by kernel_rfl) (by kernel_rfl) (fun _ _ _ h => h) (by kernel_rfl) ?hy21x23 HJ.out ?rest21x23
  case hy21x23 => (intro W' hJ; obtain ⟨j0, j1, j2, j3, j4, j5⟩ := hJ; go_simp; first | done | with_reducible rfl)
  refine wpJ_done (by kernel_rfl) ?_ _
  clear HJ
  clear hw hbb hw2 hbn
  clear Xback
  clear Zback
  by_cases hk : kk < 0
  · have hkb : decide (kk < 0) = true := decide_eq_true hk
    obtain ⟨cx0, cx1, fx0, fx1⟩ := Xx.out
    have hnex : gx < v11.heap.size := World.block_lt_of_cell? v11 _ cx0
    go_wp2_with fail
    clear cx0 cx1 fx0 fx1 hnex
    refine (fshr_neg s1 p1 m1 c1 kk hk v11).mono ?_
    rintro e v12 ⟨v, rfl, hv, hb12⟩
    obtain ⟨p12, m12, z12, rfl, _, _, _⟩ := hv
    have Yx : Hid (Box v12 gx (.bool s1) (.slice p1 m1 c1)) := Xx.out.below hb12
    clear Xx
    have Xx := Yx
    clear Yx
    have Yy : Hid (Box v12 gy (.bool s2) (.slice p2 m2 c2)) := Xy.out.below hb12
    clear Xy
    have Xy := Yy
    clear Yy
    have Yz : Hid (Box v12 gz (.bool s5) (.slice p5 m5 m5)) := Xz.out.below hb12
    clear Xz
    have Xz := Yz
    clear Yz
    have Yw : Hid (Box v12 gw (.bool s6) (.slice p6 m6 m6)) := Xw.out.below hb12
    clear Xw
    have Xw := Yw
    clear Yw
    have HT' : Hid (Tab v12) := HT.out.below hb12
    clear HT
    have HT := HT'
    clear HT'
    have Zx' : Hid (ZN v12 s1 p1 m1 c1 x) := Zx.out.below hb12
    clear Zx
    have Zx := Zx'
    clear Zx'
    have Zy' : Hid (ZN v12 s2 p2 m2 c2 y) := Zy.out.below hb12
    clear Zy
    have Zy := Zy'
    clear Zy'
    have Zz' : Hid (ZN v12 s5 p5 m5 m5 (-x)) := Zz.out.below hb12
    clear Zz
    have Zz := Zz'
    clear Zz'
    have Zw' : Hid (ZN v12 s6 p6 m6 m6 (-y)) := Zw.out.below hb12
    clear Zw
    have Zw := Zw'
    clear Zw'
    have hbw' := Below.on hbw hb12
    clear hbw
    have hbw := hbw'
    clear hbw'
    clear hb12
    clear hkb hk
    go_wp2_with fail
    go_ret
    exact ⟨rfl, Below.on hbw (below1 v12 _)⟩
  have hkb : decide (kk < 0) = false := decide_eq_false hk
  obtain ⟨K, rfl⟩ := Int.eq_ofNat_of_zero_le (by omega : 0 ≤ kk)
  have HKK : Hid (K ≤ 9223372036854775807) := by have := HK.out; show K ≤ _; omega
  clear hk HK
  obtain ⟨cz0, cz1, fz0, fz1⟩ := Xz.out
  have hnez : gz < v11.heap.size := World.block_lt_of_cell? v11 _ cz0
  go_wp2_with fail
  clear cz0 cz1 fz0 fz1 hnez
  clear hkb
  obtain ⟨C, hC⟩ : ∃ v, v = ce (decide (x < 0)) x.natAbs (2 ^ K) := ⟨_, rfl⟩
  have HC : Hid (C = ce (decide (x < 0)) x.natAbs (2 ^ K)) := hC
  clear hC
  obtain ⟨N, hN⟩ : ∃ v, v = ne (decide (x < 0)) x.natAbs (2 ^ K) := ⟨_, rfl⟩
  have HN : Hid (N = ne (decide (x < 0)) x.natAbs (2 ^ K)) := hN
  clear hN
  refine (zfshr Zz.out K HKK.out HT.out).mono ?_
  rintro e v13 ⟨⟨s13, p13, m13, rfl, hz⟩, hb13⟩
  have Yx : Hid (Box v13 gx (.bool s1) (.slice p1 m1 c1)) := Xx.out.below hb13
  clear Xx
  have Xx := Yx
  clear Yx
  have Yy : Hid (Box v13 gy (.bool s2) (.slice p2 m2 c2)) := Xy.out.below hb13
  clear Xy
  have Xy := Yy
  clear Yy
  have Yz : Hid (Box v13 gz (.bool s5) (.slice p5 m5 m5)) := Xz.out.below hb13
  clear Xz
  have Xz := Yz
  clear Yz
  have Yw : Hid (Box v13 gw (.bool s6) (.slice p6 m6 m6)) := Xw.out.below hb13
  clear Xw
  have Xw := Yw
  clear Yw
  have HT' : Hid (Tab v13) := HT.out.below hb13
  clear HT
  have HT := HT'
  clear HT'
  have Zx' : Hid (ZN v13 s1 p1 m1 c1 x) := Zx.out.below hb13
  clear Zx
  have Zx := Zx'
  clear Zx'
  have Zy' : Hid (ZN v13 s2 p2 m2 c2 y) := Zy.out.below hb13
  clear Zy
  have Zy := Zy'
  clear Zy'
  have Zz' : Hid (ZN v13 s5 p5 m5 m5 (-x)) := Zz.out.below hb13
  clear Zz
  have Zz := Zz'
  clear Zz'
  have Zw' : Hid (ZN v13 s6 p6 m6 m6 (-y)) := Zw.out.below hb13
  clear Zw
  have Zw := Zw'
  clear Zw'
  have hbw' := Below.on hbw hb13
  clear hbw
  have hbw := hbw'
  clear hbw'
  clear hb13
  have hz := hz.cast (z' := -C) (by rw [HC.out]; exact fl_neg x _)
  have Zfl : Hid (ZN v13 s13 p13 m13 m13 (-C)) := hz
  clear hz
  obtain ⟨cx0, cx1, fx0, fx1⟩ := Xx.out
  have hnex : gx < v13.heap.size := World.block_lt_of_cell? v13 _ cx0
  go_wp2_with fail
  clear cx0 cx1 fx0 fx1 hnex
  have Xfl0 : Hid (Box (v13.alloc (.cells #[.bool s13, .slice p13 m13 m13] 35)) v13.heap.size (.bool s13) (.slice p13 m13 m13)) := Box.new v13 _ _ _
  have hbn : Below v13.heap.size v13 (v13.alloc (.cells #[.bool s13, .slice p13 m13 m13] 35)) := below1 v13 _
  generalize v13.alloc (.cells #[.bool s13, .slice p13 m13 m13] 35) = W13 at *
  have HGfl : Hid (w.heap.size ≤ v13.heap.size) := hbw.size
  have Yx : Hid (Box W13 gx (.bool s1) (.slice p1 m1 c1)) := Xx.out.below hbn
  clear Xx
  have Xx := Yx
  clear Yx
  have Yy : Hid (Box W13 gy (.bool s2) (.slice p2 m2 c2)) := Xy.out.below hbn
  clear Xy
  have Xy := Yy
  clear Yy
  have Yz : Hid (Box W13 gz (.bool s5) (.slice p5 m5 m5)) := Xz.out.below hbn
  clear Xz
  have Xz := Yz
  clear Yz
  have Yw : Hid (Box W13 gw (.bool s6) (.slice p6 m6 m6)) := Xw.out.below hbn
  clear Xw
  have Xw := Yw
  clear Yw
  have HT' : Hid (Tab W13) := HT.out.below hbn
  clear HT
  have HT := HT'
  clear HT'
  have Zx' : Hid (ZN W13 s1 p1 m1 c1 x) := Zx.out.below hbn
  clear Zx
  have Zx := Zx'
  clear Zx'
  have Zy' : Hid (ZN W13 s2 p2 m2 c2 y) := Zy.out.below hbn
  clear Zy
  have Zy := Zy'
  clear Zy'
  have Zz' : Hid (ZN W13 s5 p5 m5 m5 (-x)) := Zz.out.below hbn
  clear Zz
  have Zz := Zz'
  clear Zz'
  have Zw' : Hid (ZN W13 s6 p6 m6 m6 (-y)) := Zw.out.below hbn
  clear Zw
  have Zw := Zw'
  clear Zw'
  have Zfl' : Hid (ZN W13 s13 p13 m13 m13 (-C)) := Zfl.out.below hbn
  clear Zfl
  have Zfl := Zfl'
  clear Zfl'
  have hbw' := Below.on hbw hbn
  clear hbw
  have hbw := hbw'
  clear hbw'
  clear hbn
  generalize v13.heap.size = gfl at *
  have Xfl := Xfl0
  clear Xfl0
  refine (zcshr Zx.out K HKK.out HT.out).mono ?_
  rintro e v14 ⟨⟨s14, p14, m14, rfl, hz⟩, hb14⟩
  have Yx : Hid (Box v14 gx (.bool s1) (.slice p1 m1 c1)) := Xx.out.below hb14
  clear Xx
  have Xx := Yx
  clear Yx
  have Yy : Hid (Box v14 gy (.bool s2) (.slice p2 m2 c2)) := Xy.out.below hb14
  clear Xy
  have Xy := Yy
  clear Yy
  have Yz : Hid (Box v14 gz (.bool s5) (.slice p5 m5 m5)) := Xz.out.below hb14
  clear Xz
  have Xz := Yz
  clear Yz
  have Yw : Hid (Box v14 gw (.bool s6) (.slice p6 m6 m6)) := Xw.out.below hb14
  clear Xw
  have Xw := Yw
  clear Yw
  have Yfl : Hid (Box v14 gfl (.bool s13) (.slice p13 m13 m13)) := Xfl.out.below hb14
  clear Xfl
  have Xfl := Yfl
  clear Yfl
  have HT' : Hid (Tab v14) := HT.out.below hb14
  clear HT
  have HT := HT'
  clear HT'
  have Zx' : Hid (ZN v14 s1 p1 m1 c1 x) := Zx.out.below hb14
  clear Zx
  have Zx := Zx'
  clear Zx'
  have Zy' : Hid (ZN v14 s2 p2 m2 c2 y) := Zy.out.below hb14
  clear Zy
  have Zy := Zy'
  clear Zy'
  have Zz' : Hid (ZN v14 s5 p5 m5 m5 (-x)) := Zz.out.below hb14
  clear Zz
  have Zz := Zz'
  clear Zz'
  have Zw' : Hid (ZN v14 s6 p6 m6 m6 (-y)) := Zw.out.below hb14
  clear Zw
  have Zw := Zw'
  clear Zw'
  have Zfl' : Hid (ZN v14 s13 p13 m13 m13 (-C)) := Zfl.out.below hb14
  clear Zfl
  have Zfl := Zfl'
  clear Zfl'
  have hbw' := Below.on hbw hb14
  clear hbw
  have hbw := hbw'
  clear hbw'
  clear hb14
  have hz := hz.cast (z' := C) (HC.out.symm)
  have Zcl : Hid (ZN v14 s14 p14 m14 m14 (C)) := hz
  clear hz
  obtain ⟨cz0, cz1, fz0, fz1⟩ := Xz.out
  have hnez : gz < v14.heap.size := World.block_lt_of_cell? v14 _ cz0
  go_wp2_with fail
  clear cz0 cz1 fz0 fz1 hnez
  have Xcl0 : Hid (Box (v14.alloc (.cells #[.bool s14, .slice p14 m14 m14] 35)) v14.heap.size (.bool s14) (.slice p14 m14 m14)) := Box.new v14 _ _ _
  have hbn : Below v14.heap.size v14 (v14.alloc (.cells #[.bool s14, .slice p14 m14 m14] 35)) := below1 v14 _
  generalize v14.alloc (.cells #[.bool s14, .slice p14 m14 m14] 35) = W14 at *
  have HGcl : Hid (w.heap.size ≤ v14.heap.size) := hbw.size
  have Yx : Hid (Box W14 gx (.bool s1) (.slice p1 m1 c1)) := Xx.out.below hbn
  clear Xx
  have Xx := Yx
  clear Yx
  have Yy : Hid (Box W14 gy (.bool s2) (.slice p2 m2 c2)) := Xy.out.below hbn
  clear Xy
  have Xy := Yy
  clear Yy
  have Yz : Hid (Box W14 gz (.bool s5) (.slice p5 m5 m5)) := Xz.out.below hbn
  clear Xz
  have Xz := Yz
  clear Yz
  have Yw : Hid (Box W14 gw (.bool s6) (.slice p6 m6 m6)) := Xw.out.below hbn
  clear Xw
  have Xw := Yw
  clear Yw
  have Yfl : Hid (Box W14 gfl (.bool s13) (.slice p13 m13 m13)) := Xfl.out.below hbn
  clear Xfl
  have Xfl := Yfl
  clear Yfl
  have HT' : Hid (Tab W14) := HT.out.below hbn
  clear HT
  have HT := HT'
  clear HT'
  have Zx' : Hid (ZN W14 s1 p1 m1 c1 x) := Zx.out.below hbn
  clear Zx
  have Zx := Zx'
  clear Zx'
  have Zy' : Hid (ZN W14 s2 p2 m2 c2 y) := Zy.out.below hbn
  clear Zy
  have Zy := Zy'
  clear Zy'
  have Zz' : Hid (ZN W14 s5 p5 m5 m5 (-x)) := Zz.out.below hbn
  clear Zz
  have Zz := Zz'
  clear Zz'
  have Zw' : Hid (ZN W14 s6 p6 m6 m6 (-y)) := Zw.out.below hbn
  clear Zw
  have Zw := Zw'
  clear Zw'
  have Zfl' : Hid (ZN W14 s13 p13 m13 m13 (-C)) := Zfl.out.below hbn
  clear Zfl
  have Zfl := Zfl'
  clear Zfl'
  have Zcl' : Hid (ZN W14 s14 p14 m14 m14 (C)) := Zcl.out.below hbn
  clear Zcl
  have Zcl := Zcl'
  clear Zcl'
  have hbw' := Below.on hbw hbn
  clear hbw
  have hbw := hbw'
  clear hbw'
  clear hbn
  generalize v14.heap.size = gcl at *
  have Xcl := Xcl0
  clear Xcl0
  refine (zrshr Zz.out K HKK.out HT.out).mono ?_
  rintro e v15 ⟨⟨s15, p15, m15, rfl, hz⟩, hb15⟩
  have Yx : Hid (Box v15 gx (.bool s1) (.slice p1 m1 c1)) := Xx.out.below hb15
  clear Xx
  have Xx := Yx
  clear Yx
  have Yy : Hid (Box v15 gy (.bool s2) (.slice p2 m2 c2)) := Xy.out.below hb15
  clear Xy
  have Xy := Yy
  clear Yy
  have Yz : Hid (Box v15 gz (.bool s5) (.slice p5 m5 m5)) := Xz.out.below hb15
  clear Xz
  have Xz := Yz
  clear Yz
  have Yw : Hid (Box v15 gw (.bool s6) (.slice p6 m6 m6)) := Xw.out.below hb15
  clear Xw
  have Xw := Yw
  clear Yw
  have Yfl : Hid (Box v15 gfl (.bool s13) (.slice p13 m13 m13)) := Xfl.out.below hb15
  clear Xfl
  have Xfl := Yfl
  clear Yfl
  have Ycl : Hid (Box v15 gcl (.bool s14) (.slice p14 m14 m14)) := Xcl.out.below hb15
  clear Xcl
  have Xcl := Ycl
  clear Ycl
  have HT' : Hid (Tab v15) := HT.out.below hb15
  clear HT
  have HT := HT'
  clear HT'
  have Zx' : Hid (ZN v15 s1 p1 m1 c1 x) := Zx.out.below hb15
  clear Zx
  have Zx := Zx'
  clear Zx'
  have Zy' : Hid (ZN v15 s2 p2 m2 c2 y) := Zy.out.below hb15
  clear Zy
  have Zy := Zy'
  clear Zy'
  have Zz' : Hid (ZN v15 s5 p5 m5 m5 (-x)) := Zz.out.below hb15
  clear Zz
  have Zz := Zz'
  clear Zz'
  have Zw' : Hid (ZN v15 s6 p6 m6 m6 (-y)) := Zw.out.below hb15
  clear Zw
  have Zw := Zw'
  clear Zw'
  have Zfl' : Hid (ZN v15 s13 p13 m13 m13 (-C)) := Zfl.out.below hb15
  clear Zfl
  have Zfl := Zfl'
  clear Zfl'
  have Zcl' : Hid (ZN v15 s14 p14 m14 m14 (C)) := Zcl.out.below hb15
  clear Zcl
  have Zcl := Zcl'
  clear Zcl'
  have hbw' := Below.on hbw hb15
  clear hbw
  have hbw := hbw'
  clear hbw'
  clear hb15
  have hz := hz.cast (z' := -N) (by rw [HN.out]; exact ne_neg x _)
  have Znl : Hid (ZN v15 s15 p15 m15 m15 (-N)) := hz
  clear hz
  obtain ⟨cx0, cx1, fx0, fx1⟩ := Xx.out
  have hnex : gx < v15.heap.size := World.block_lt_of_cell? v15 _ cx0
  go_wp2_with fail
  clear cx0 cx1 fx0 fx1 hnex
  have Xnl0 : Hid (Box (v15.alloc (.cells #[.bool s15, .slice p15 m15 m15] 35)) v15.heap.size (.bool s15) (.slice p15 m15 m15)) := Box.new v15 _ _ _
  have hbn : Below v15.heap.size v15 (v15.alloc (.cells #[.bool s15, .slice p15 m15 m15] 35)) := below1 v15 _
  generalize v15.alloc (.cells #[.bool s15, .slice p15 m15 m15] 35) = W15 at *
  have HGnl : Hid (w.heap.size ≤ v15.heap.size) := hbw.size
  have Yx : Hid (Box W15 gx (.bool s1) (.slice p1 m1 c1)) := Xx.out.below hbn
  clear Xx
  have Xx := Yx
  clear Yx
  have Yy : Hid (Box W15 gy (.bool s2) (.slice p2 m2 c2)) := Xy.out.below hbn
  clear Xy
  have Xy := Yy
  clear Yy
  have Yz : Hid (Box W15 gz (.bool s5) (.slice p5 m5 m5)) := Xz.out.below hbn
  clear Xz
  have Xz := Yz
  clear Yz
  have Yw : Hid (Box W15 gw (.bool s6) (.slice p6 m6 m6)) := Xw.out.below hbn
  clear Xw
  have Xw := Yw
  clear Yw
  have Yfl : Hid (Box W15 gfl (.bool s13) (.slice p13 m13 m13)) := Xfl.out.below hbn
  clear Xfl
  have Xfl := Yfl
  clear Yfl
  have Ycl : Hid (Box W15 gcl (.bool s14) (.slice p14 m14 m14)) := Xcl.out.below hbn
  clear Xcl
  have Xcl := Ycl
  clear Ycl
  have HT' : Hid (Tab W15) := HT.out.below hbn
  clear HT
  have HT := HT'
  clear HT'
  have Zx' : Hid (ZN W15 s1 p1 m1 c1 x) := Zx.out.below hbn
  clear Zx
  have Zx := Zx'
  clear Zx'
  have Zy' : Hid (ZN W15 s2 p2 m2 c2 y) := Zy.out.below hbn
  clear Zy
  have Zy := Zy'
  clear Zy'
  have Zz' : Hid (ZN W15 s5 p5 m5 m5 (-x)) := Zz.out.below hbn
  clear Zz
  have Zz := Zz'
  clear Zz'
  have Zw' : Hid (ZN W15 s6 p6 m6 m6 (-y)) := Zw.out.below hbn
  clear Zw
  have Zw := Zw'
  clear Zw'
  have Zfl' : Hid (ZN W15 s13 p13 m13 m13 (-C)) := Zfl.out.below hbn
  clear Zfl
  have Zfl := Zfl'
  clear Zfl'
  have Zcl' : Hid (ZN W15 s14 p14 m14 m14 (C)) := Zcl.out.below hbn
  clear Zcl
  have Zcl := Zcl'
  clear Zcl'
  have Znl' : Hid (ZN W15 s15 p15 m15 m15 (-N)) := Znl.out.below hbn
  clear Znl
  have Znl := Znl'
  clear Znl'
  have hbw' := Below.on hbw hbn
  clear hbw
  have hbw := hbw'
  clear hbw'
  clear hbn
  generalize v15.heap.size = gnl at *
  have Xnl := Xnl0
  clear Xnl0
  refine (zrshr Zx.out K HKK.out HT.out).mono ?_
  rintro e v16 ⟨⟨s16, p16, m16, rfl, hz⟩, hb16⟩
  have Yx : Hid (Box v16 gx (.bool s1) (.slice p1 m1 c1)) := Xx.out.below hb16
  clear Xx
  have Xx := Yx
  clear Yx
  have Yy : Hid (Box v16 gy (.bool s2) (.slice p2 m2 c2)) := Xy.out.below hb16
  clear Xy
  have Xy := Yy
  clear Yy
  have Yz : Hid (Box v16 gz (.bool s5) (.slice p5 m5 m5)) := Xz.out.below hb16
  clear Xz
  have Xz := Yz
  clear Yz
  have Yw : Hid (Box v16 gw (.bool s6) (.slice p6 m6 m6)) := Xw.out.below hb16
  clear Xw
  have Xw := Yw
  clear Yw
  have Yfl : Hid (Box v16 gfl (.bool s13) (.slice p13 m13 m13)) := Xfl.out.below hb16
  clear Xfl
  have Xfl := Yfl
  clear Yfl
  have Ycl : Hid (Box v16 gcl (.bool s14) (.slice p14 m14 m14)) := Xcl.out.below hb16
  clear Xcl
  have Xcl := Ycl
  clear Ycl
  have Ynl : Hid (Box v16 gnl (.bool s15) (.slice p15 m15 m15)) := Xnl.out.below hb16
  clear Xnl
  have Xnl := Ynl
  clear Ynl
  have HT' : Hid (Tab v16) := HT.out.below hb16
  clear HT
  have HT := HT'
  clear HT'
  have Zx' : Hid (ZN v16 s1 p1 m1 c1 x) := Zx.out.below hb16
  clear Zx
  have Zx := Zx'
  clear Zx'
  have Zy' : Hid (ZN v16 s2 p2 m2 c2 y) := Zy.out.below hb16
  clear Zy
  have Zy := Zy'
  clear Zy'
  have Zz' : Hid (ZN v16 s5 p5 m5 m5 (-x)) := Zz.out.below hb16
  clear Zz
  have Zz := Zz'
  clear Zz'
  have Zw' : Hid (ZN v16 s6 p6 m6 m6 (-y)) := Zw.out.below hb16
  clear Zw
  have Zw := Zw'
  clear Zw'
  have Zfl' : Hid (ZN v16 s13 p13 m13 m13 (-C)) := Zfl.out.below hb16
  clear Zfl
  have Zfl := Zfl'
  clear Zfl'
  have Zcl' : Hid (ZN v16 s14 p14 m14 m14 (C)) := Zcl.out.below hb16
  clear Zcl
  have Zcl := Zcl'
  clear Zcl'
  have Znl' : Hid (ZN v16 s15 p15 m15 m15 (-N)) := Znl.out.below hb16
  clear Znl
  have Znl := Znl'
  clear Znl'
  have hbw' := Below.on hbw hb16
  clear hbw
  have hbw := hbw'
  clear hbw'
  clear hb16
  have hz := hz.cast (z' := N) (HN.out.symm)
  have Znr : Hid (ZN v16 s16 p16 m16 m16 (N)) := hz
  clear hz
  obtain ⟨ccl0, ccl1, fcl0, fcl1⟩ := Xcl.out
  have hnecl : gcl < v16.heap.size := World.block_lt_of_cell? v16 _ ccl0
  go_wp2_with fail
  clear ccl0 ccl1 fcl0 fcl1 hnecl
  have Xnr0 : Hid (Box (v16.alloc (.cells #[.bool s16, .slice p16 m16 m16] 35)) v16.heap.size (.bool s16) (.slice p16 m16 m16)) := Box.new v16 _ _ _
  have hbn : Below v16.heap.size v16 (v16.alloc (.cells #[.bool s16, .slice p16 m16 m16] 35)) := below1 v16 _
  generalize v16.alloc (.cells #[.bool s16, .slice p16 m16 m16] 35) = W16 at *
  have HGnr : Hid (w.heap.size ≤ v16.heap.size) := hbw.size
  have Yx : Hid (Box W16 gx (.bool s1) (.slice p1 m1 c1)) := Xx.out.below hbn
  clear Xx
  have Xx := Yx
  clear Yx
  have Yy : Hid (Box W16 gy (.bool s2) (.slice p2 m2 c2)) := Xy.out.below hbn
  clear Xy
  have Xy := Yy
  clear Yy
  have Yz : Hid (Box W16 gz (.bool s5) (.slice p5 m5 m5)) := Xz.out.below hbn
  clear Xz
  have Xz := Yz
  clear Yz
  have Yw : Hid (Box W16 gw (.bool s6) (.slice p6 m6 m6)) := Xw.out.below hbn
  clear Xw
  have Xw := Yw
  clear Yw
  have Yfl : Hid (Box W16 gfl (.bool s13) (.slice p13 m13 m13)) := Xfl.out.below hbn
  clear Xfl
  have Xfl := Yfl
  clear Yfl
  have Ycl : Hid (Box W16 gcl (.bool s14) (.slice p14 m14 m14)) := Xcl.out.below hbn
  clear Xcl
  have Xcl := Ycl
  clear Ycl
  have Ynl : Hid (Box W16 gnl (.bool s15) (.slice p15 m15 m15)) := Xnl.out.below hbn
  clear Xnl
  have Xnl := Ynl
  clear Ynl
  have HT' : Hid (Tab W16) := HT.out.below hbn
  clear HT
  have HT := HT'
  clear HT'
  have Zx' : Hid (ZN W16 s1 p1 m1 c1 x) := Zx.out.below hbn
  clear Zx
  have Zx := Zx'
  clear Zx'
  have Zy' : Hid (ZN W16 s2 p2 m2 c2 y) := Zy.out.below hbn
  clear Zy
  have Zy := Zy'
  clear Zy'
  have Zz' : Hid (ZN W16 s5 p5 m5 m5 (-x)) := Zz.out.below hbn
  clear Zz
  have Zz := Zz'
  clear Zz'
  have Zw' : Hid (ZN W16 s6 p6 m6 m6 (-y)) := Zw.out.below hbn
  clear Zw
  have Zw := Zw'
  clear Zw'
  have Zfl' : Hid (ZN W16 s13 p13 m13 m13 (-C)) := Zfl.out.below hbn
  clear Zfl
  have Zfl := Zfl'
  clear Zfl'
  have Zcl' : Hid (ZN W16 s14 p14 m14 m14 (C)) := Zcl.out.below hbn
  clear Zcl
  have Zcl := Zcl'
  clear Zcl'
  have Znl' : Hid (ZN W16 s15 p15 m15 m15 (-N)) := Znl.out.below hbn
  clear Znl
  have Znl := Znl'
  clear Znl'
  have Znr' : Hid (ZN W16 s16 p16 m16 m16 (N)) := Znr.out.below hbn
  clear Znr
  have Znr := Znr'
  clear Znr'
  have hbw' := Below.on hbw hbn
  clear hbw
  have hbw := hbw'
  clear hbw'
  clear hbn
  generalize v16.heap.size = gnr at *
  have Xnr := Xnr0
  clear Xnr0
  refine (zneg Zcl.out).mono ?_
  rintro e v17 ⟨⟨s17, p17, m17, rfl, hz⟩, hb17⟩
  have Yx : Hid (Box v17 gx (.bool s1) (.slice p1 m1 c1)) := Xx.out.below hb17
  clear Xx
  have Xx := Yx
  clear Yx
  have Yy : Hid (Box v17 gy (.bool s2) (.slice p2 m2 c2)) := Xy.out.below hb17
  clear Xy
  have Xy := Yy
  clear Yy
  have Yz : Hid (Box v17 gz (.bool s5) (.slice p5 m5 m5)) := Xz.out.below hb17
  clear Xz
  have Xz := Yz
  clear Yz
  have Yw : Hid (Box v17 gw (.bool s6) (.slice p6 m6 m6)) := Xw.out.below hb17
  clear Xw
  have Xw := Yw
  clear Yw
  have Yfl : Hid (Box v17 gfl (.bool s13) (.slice p13 m13 m13)) := Xfl.out.below hb17
  clear Xfl
  have Xfl := Yfl
  clear Yfl
  have Ycl : Hid (Box v17 gcl (.bool s14) (.slice p14 m14 m14)) := Xcl.out.below hb17
  clear Xcl
  have Xcl := Ycl
  clear Ycl
  have Ynl : Hid (Box v17 gnl (.bool s15) (.slice p15 m15 m15)) := Xnl.out.below hb17
  clear Xnl
  have Xnl := Ynl
  clear Ynl
  have Ynr : Hid (Box v17 gnr (.bool s16) (.slice p16 m16 m16)) := Xnr.out.below hb17
  clear Xnr
  have Xnr := Ynr
  clear Ynr
  have HT' : Hid (Tab v17) := HT.out.below hb17
  clear HT
  have HT := HT'
  clear HT'
  have Zx' : Hid (ZN v17 s1 p1 m1 c1 x) := Zx.out.below hb17
  clear Zx
  have Zx := Zx'
  clear Zx'
  have Zy' : Hid (ZN v17 s2 p2 m2 c2 y) := Zy.out.below hb17
  clear Zy
  have Zy := Zy'
  clear Zy'
  have Zz' : Hid (ZN v17 s5 p5 m5 m5 (-x)) := Zz.out.below hb17
  clear Zz
  have Zz := Zz'
  clear Zz'
  have Zw' : Hid (ZN v17 s6 p6 m6 m6 (-y)) := Zw.out.below hb17
  clear Zw
  have Zw := Zw'
  clear Zw'
  have Zfl' : Hid (ZN v17 s13 p13 m13 m13 (-C)) := Zfl.out.below hb17
  clear Zfl
  have Zfl := Zfl'
  clear Zfl'
  have Zcl' : Hid (ZN v17 s14 p14 m14 m14 (C)) := Zcl.out.below hb17
  clear Zcl
  have Zcl := Zcl'
  clear Zcl'
  have Znl' : Hid (ZN v17 s15 p15 m15 m15 (-N)) := Znl.out.below hb17
  clear Znl
  have Znl := Znl'
  clear Znl'
  have Znr' : Hid (ZN v17 s16 p16 m16 m16 (N)) := Znr.out.below hb17
  clear Znr
  have Znr := Znr'
  clear Znr'
  have hbw' := Below.on hbw hb17
  clear hbw
  have hbw := hbw'
  clear hbw'
  clear hb17
  have Zminus : Hid (ZN v17 s17 p17 m17 m17 (-C)) := hz
  clear hz
  obtain ⟨cnr0, cnr1, fnr0, fnr1⟩ := Xnr.out
  have hnenr : gnr < v17.heap.size := World.block_lt_of_cell? v17 _ cnr0
  go_wp2_with fail
  clear cnr0 cnr1 fnr0 fnr1 hnenr
  have Xminus0 : Hid (Box (v17.alloc (.cells #[.bool s17, .slice p17 m17 m17] 35)) v17.heap.size (.bool s17) (.slice p17 m17 m17)) := Box.new v17 _ _ _
  have hbn : Below v17.heap.size v17 (v17.alloc (.cells #[.bool s17, .slice p17 m17 m17] 35)) := below1 v17 _
  generalize v17.alloc (.cells #[.bool s17, .slice p17 m17 m17] 35) = W17 at *
  have HGminus : Hid (w.heap.size ≤ v17.heap.size) := hbw.size
  have Yx : Hid (Box W17 gx (.bool s1) (.slice p1 m1 c1)) := Xx.out.below hbn
  clear Xx
  have Xx := Yx
  clear Yx
  have Yy : Hid (Box W17 gy (.bool s2) (.slice p2 m2 c2)) := Xy.out.below hbn
  clear Xy
  have Xy := Yy
  clear Yy
  have Yz : Hid (Box W17 gz (.bool s5) (.slice p5 m5 m5)) := Xz.out.below hbn
  clear Xz
  have Xz := Yz
  clear Yz
  have Yw : Hid (Box W17 gw (.bool s6) (.slice p6 m6 m6)) := Xw.out.below hbn
  clear Xw
  have Xw := Yw
  clear Yw
  have Yfl : Hid (Box W17 gfl (.bool s13) (.slice p13 m13 m13)) := Xfl.out.below hbn
  clear Xfl
  have Xfl := Yfl
  clear Yfl
  have Ycl : Hid (Box W17 gcl (.bool s14) (.slice p14 m14 m14)) := Xcl.out.below hbn
  clear Xcl
  have Xcl := Ycl
  clear Ycl
  have Ynl : Hid (Box W17 gnl (.bool s15) (.slice p15 m15 m15)) := Xnl.out.below hbn
  clear Xnl
  have Xnl := Ynl
  clear Ynl
  have Ynr : Hid (Box W17 gnr (.bool s16) (.slice p16 m16 m16)) := Xnr.out.below hbn
  clear Xnr
  have Xnr := Ynr
  clear Ynr
  have HT' : Hid (Tab W17) := HT.out.below hbn
  clear HT
  have HT := HT'
  clear HT'
  have Zx' : Hid (ZN W17 s1 p1 m1 c1 x) := Zx.out.below hbn
  clear Zx
  have Zx := Zx'
  clear Zx'
  have Zy' : Hid (ZN W17 s2 p2 m2 c2 y) := Zy.out.below hbn
  clear Zy
  have Zy := Zy'
  clear Zy'
  have Zz' : Hid (ZN W17 s5 p5 m5 m5 (-x)) := Zz.out.below hbn
  clear Zz
  have Zz := Zz'
  clear Zz'
  have Zw' : Hid (ZN W17 s6 p6 m6 m6 (-y)) := Zw.out.below hbn
  clear Zw
  have Zw := Zw'
  clear Zw'
  have Zfl' : Hid (ZN W17 s13 p13 m13 m13 (-C)) := Zfl.out.below hbn
  clear Zfl
  have Zfl := Zfl'
  clear Zfl'
  have Zcl' : Hid (ZN W17 s14 p14 m14 m14 (C)) := Zcl.out.below hbn
  clear Zcl
  have Zcl := Zcl'
  clear Zcl'
  have Znl' : Hid (ZN W17 s15 p15 m15 m15 (-N)) := Znl.out.below hbn
  clear Znl
  have Znl := Znl'
  clear Znl'
  have Znr' : Hid (ZN W17 s16 p16 m16 m16 (N)) := Znr.out.below hbn
  clear Znr
  have Znr := Znr'
  clear Znr'
  have Zminus' : Hid (ZN W17 s17 p17 m17 m17 (-C)) := Zminus.out.below hbn
  clear Zminus
  have Zminus := Zminus'
  clear Zminus'
  have hbw' := Below.on hbw hbn
  clear hbw
  have hbw := hbw'
  clear hbw'
  clear hbn
  generalize v17.heap.size = gminus at *
  have Xminus := Xminus0
  clear Xminus0
  clear Zcl
  clear Xcl
  refine (zneg Znr.out).mono ?_
  rintro e v18 ⟨⟨s18, p18, m18, rfl, hz⟩, hb18⟩
  have Yx : Hid (Box v18 gx (.bool s1) (.slice p1 m1 c1)) := Xx.out.below hb18
  clear Xx
  have Xx := Yx
  clear Yx
  have Yy : Hid (Box v18 gy (.bool s2) (.slice p2 m2 c2)) := Xy.out.below hb18
  clear Xy
  have Xy := Yy
  clear Yy
  have Yz : Hid (Box v18 gz (.bool s5) (.slice p5 m5 m5)) := Xz.out.below hb18
  clear Xz
  have Xz := Yz
  clear Yz
  have Yw : Hid (Box v18 gw (.bool s6) (.slice p6 m6 m6)) := Xw.out.below hb18
  clear Xw
  have Xw := Yw
  clear Yw
  have Yfl : Hid (Box v18 gfl (.bool s13) (.slice p13 m13 m13)) := Xfl.out.below hb18
  clear Xfl
  have Xfl := Yfl
  clear Yfl
  have Ynl : Hid (Box v18 gnl (.bool s15) (.slice p15 m15 m15)) := Xnl.out.below hb18
  clear Xnl
  have Xnl := Ynl
  clear Ynl
  have Ynr : Hid (Box v18 gnr (.bool s16) (.slice p16 m16 m16)) := Xnr.out.below hb18
  clear Xnr
  have Xnr := Ynr
  clear Ynr
  have Yminus : Hid (Box v18 gminus (.bool s17) (.slice p17 m17 m17)) := Xminus.out.below hb18
  clear Xminus
  have Xminus := Yminus
  clear Yminus
  have HT' : Hid (Tab v18) := HT.out.below hb18
  clear HT
  have HT := HT'
  clear HT'
  have Zx' : Hid (ZN v18 s1 p1 m1 c1 x) := Zx.out.below hb18
  clear Zx
  have Zx := Zx'
  clear Zx'
  have Zy' : Hid (ZN v18 s2 p2 m2 c2 y) := Zy.out.below hb18
  clear Zy
  have Zy := Zy'
  clear Zy'
  have Zz' : Hid (ZN v18 s5 p5 m5 m5 (-x)) := Zz.out.below hb18
  clear Zz
  have Zz := Zz'
  clear Zz'
  have Zw' : Hid (ZN v18 s6 p6 m6 m6 (-y)) := Zw.out.below hb18
  clear Zw
  have Zw := Zw'
  clear Zw'
  have Zfl' : Hid (ZN v18 s13 p13 m13 m13 (-C)) := Zfl.out.below hb18
  clear Zfl
  have Zfl := Zfl'
  clear Zfl'
  have Znl' : Hid (ZN v18 s15 p15 m15 m15 (-N)) := Znl.out.below hb18
  clear Znl
  have Znl := Znl'
  clear Znl'
  have Znr' : Hid (ZN v18 s16 p16 m16 m16 (N)) := Znr.out.below hb18
  clear Znr
  have Znr := Znr'
  clear Znr'
  have Zminus' : Hid (ZN v18 s17 p17 m17 m17 (-C)) := Zminus.out.below hb18
  clear Zminus
  have Zminus := Zminus'
  clear Zminus'
  have hbw' := Below.on hbw hb18
  clear hbw
  have hbw := hbw'
  clear hbw'
  clear hb18
  have Zless : Hid (ZN v18 s18 p18 m18 m18 (-N)) := hz
  clear hz
  obtain ⟨cfl0, cfl1, ffl0, ffl1⟩ := Xfl.out
  have hnefl : gfl < v18.heap.size := World.block_lt_of_cell? v18 _ cfl0
  obtain ⟨cminus0, cminus1, fminus0, fminus1⟩ := Xminus.out
  have hneminus : gminus < v18.heap.size := World.block_lt_of_cell? v18 _ cminus0
  go_wp2_with fail
  clear cfl0 cfl1 ffl0 ffl1 hnefl
  clear cminus0 cminus1 fminus0 fminus1 hneminus
  have Xless0 : Hid (Box (v18.alloc (.cells #[.bool s18, .slice p18 m18 m18] 35)) v18.heap.size (.bool s18) (.slice p18 m18 m18)) := Box.new v18 _ _ _
  have hbn : Below v18.heap.size v18 (v18.alloc (.cells #[.bool s18, .slice p18 m18 m18] 35)) := below1 v18 _
  generalize v18.alloc (.cells #[.bool s18, .slice p18 m18 m18] 35) = W18 at *
  have HGless : Hid (w.heap.size ≤ v18.heap.size) := hbw.size
  have Yx : Hid (Box W18 gx (.bool s1) (.slice p1 m1 c1)) := Xx.out.below hbn
  clear Xx
  have Xx := Yx
  clear Yx
  have Yy : Hid (Box W18 gy (.bool s2) (.slice p2 m2 c2)) := Xy.out.below hbn
  clear Xy
  have Xy := Yy
  clear Yy
  have Yz : Hid (Box W18 gz (.bool s5) (.slice p5 m5 m5)) := Xz.out.below hbn
  clear Xz
  have Xz := Yz
  clear Yz
  have Yw : Hid (Box W18 gw (.bool s6) (.slice p6 m6 m6)) := Xw.out.below hbn
  clear Xw
  have Xw := Yw
  clear Yw
  have Yfl : Hid (Box W18 gfl (.bool s13) (.slice p13 m13 m13)) := Xfl.out.below hbn
  clear Xfl
  have Xfl := Yfl
  clear Yfl
  have Ynl : Hid (Box W18 gnl (.bool s15) (.slice p15 m15 m15)) := Xnl.out.below hbn
  clear Xnl
  have Xnl := Ynl
  clear Ynl
  have Ynr : Hid (Box W18 gnr (.bool s16) (.slice p16 m16 m16)) := Xnr.out.below hbn
  clear Xnr
  have Xnr := Ynr
  clear Ynr
  have Yminus : Hid (Box W18 gminus (.bool s17) (.slice p17 m17 m17)) := Xminus.out.below hbn
  clear Xminus
  have Xminus := Yminus
  clear Yminus
  have HT' : Hid (Tab W18) := HT.out.below hbn
  clear HT
  have HT := HT'
  clear HT'
  have Zx' : Hid (ZN W18 s1 p1 m1 c1 x) := Zx.out.below hbn
  clear Zx
  have Zx := Zx'
  clear Zx'
  have Zy' : Hid (ZN W18 s2 p2 m2 c2 y) := Zy.out.below hbn
  clear Zy
  have Zy := Zy'
  clear Zy'
  have Zz' : Hid (ZN W18 s5 p5 m5 m5 (-x)) := Zz.out.below hbn
  clear Zz
  have Zz := Zz'
  clear Zz'
  have Zw' : Hid (ZN W18 s6 p6 m6 m6 (-y)) := Zw.out.below hbn
  clear Zw
  have Zw := Zw'
  clear Zw'
  have Zfl' : Hid (ZN W18 s13 p13 m13 m13 (-C)) := Zfl.out.below hbn
  clear Zfl
  have Zfl := Zfl'
  clear Zfl'
  have Znl' : Hid (ZN W18 s15 p15 m15 m15 (-N)) := Znl.out.below hbn
  clear Znl
  have Znl := Znl'
  clear Znl'
  have Znr' : Hid (ZN W18 s16 p16 m16 m16 (N)) := Znr.out.below hbn
  clear Znr
  have Znr := Znr'
  clear Znr'
  have Zminus' : Hid (ZN W18 s17 p17 m17 m17 (-C)) := Zminus.out.below hbn
  clear Zminus
  have Zminus := Zminus'
  clear Zminus'
  have Zless' : Hid (ZN W18 s18 p18 m18 m18 (-N)) := Zless.out.below hbn
  clear Zless
  have Zless := Zless'
  clear Zless'
  have hbw' := Below.on hbw hbn
  clear hbw
  have hbw := hbw'
  clear hbw'
  clear hbn
  generalize v18.heap.size = gless at *
  have Xless := Xless0
  clear Xless0
  clear Znr
  clear Xnr
  refine (zsame Zfl.out Zminus.out).mono ?_
  rintro e v19 ⟨rfl, hb19⟩
  rw [decide_eq_true rfl]
  have Yx : Hid (Box v19 gx (.bool s1) (.slice p1 m1 c1)) := Xx.out.below hb19
  clear Xx
  have Xx := Yx
  clear Yx
  have Yy : Hid (Box v19 gy (.bool s2) (.slice p2 m2 c2)) := Xy.out.below hb19
  clear Xy
  have Xy := Yy
  clear Yy
  have Yz : Hid (Box v19 gz (.bool s5) (.slice p5 m5 m5)) := Xz.out.below hb19
  clear Xz
  have Xz := Yz
  clear Yz
  have Yw : Hid (Box v19 gw (.bool s6) (.slice p6 m6 m6)) := Xw.out.below hb19
  clear Xw
  have Xw := Yw
  clear Yw
  have Yfl : Hid (Box v19 gfl (.bool s13) (.slice p13 m13 m13)) := Xfl.out.below hb19
  clear Xfl
  have Xfl := Yfl
  clear Yfl
  have Ynl : Hid (Box v19 gnl (.bool s15) (.slice p15 m15 m15)) := Xnl.out.below hb19
  clear Xnl
  have Xnl := Ynl
  clear Ynl
  have Yminus : Hid (Box v19 gminus (.bool s17) (.slice p17 m17 m17)) := Xminus.out.below hb19
  clear Xminus
  have Xminus := Yminus
  clear Yminus
  have Yless : Hid (Box v19 gless (.bool s18) (.slice p18 m18 m18)) := Xless.out.below hb19
  clear Xless
  have Xless := Yless
  clear Yless
  have HT' : Hid (Tab v19) := HT.out.below hb19
  clear HT
  have HT := HT'
  clear HT'
  have Zx' : Hid (ZN v19 s1 p1 m1 c1 x) := Zx.out.below hb19
  clear Zx
  have Zx := Zx'
  clear Zx'
  have Zy' : Hid (ZN v19 s2 p2 m2 c2 y) := Zy.out.below hb19
  clear Zy
  have Zy := Zy'
  clear Zy'
  have Zz' : Hid (ZN v19 s5 p5 m5 m5 (-x)) := Zz.out.below hb19
  clear Zz
  have Zz := Zz'
  clear Zz'
  have Zw' : Hid (ZN v19 s6 p6 m6 m6 (-y)) := Zw.out.below hb19
  clear Zw
  have Zw := Zw'
  clear Zw'
  have Zfl' : Hid (ZN v19 s13 p13 m13 m13 (-C)) := Zfl.out.below hb19
  clear Zfl
  have Zfl := Zfl'
  clear Zfl'
  have Znl' : Hid (ZN v19 s15 p15 m15 m15 (-N)) := Znl.out.below hb19
  clear Znl
  have Znl := Znl'
  clear Znl'
  have Zminus' : Hid (ZN v19 s17 p17 m17 m17 (-C)) := Zminus.out.below hb19
  clear Zminus
  have Zminus := Zminus'
  clear Zminus'
  have Zless' : Hid (ZN v19 s18 p18 m18 m18 (-N)) := Zless.out.below hb19
  clear Zless
  have Zless := Zless'
  clear Zless'
  have hbw' := Below.on hbw hb19
  clear hbw
  have hbw := hbw'
  clear hbw'
  clear hb19
  clear Xfl
  clear Xminus
  clear Zfl
  clear Zminus
  obtain ⟨cnl0, cnl1, fnl0, fnl1⟩ := Xnl.out
  have hnenl : gnl < v19.heap.size := World.block_lt_of_cell? v19 _ cnl0
  obtain ⟨cless0, cless1, fless0, fless1⟩ := Xless.out
  have hneless : gless < v19.heap.size := World.block_lt_of_cell? v19 _ cless0
  go_wp2_with fail
  clear cnl0 cnl1 fnl0 fnl1 hnenl
  clear cless0 cless1 fless0 fless1 hneless
  refine (zsame Znl.out Zless.out).mono ?_
  rintro e v20 ⟨rfl, hb20⟩
  rw [decide_eq_true rfl]
  have Yx : Hid (Box v20 gx (.bool s1) (.slice p1 m1 c1)) := Xx.out.below hb20
  clear Xx
  have Xx := Yx
  clear Yx
  have Yy : Hid (Box v20 gy (.bool s2) (.slice p2 m2 c2)) := Xy.out.below hb20
  clear Xy
  have Xy := Yy
  clear Yy
  have Yz : Hid (Box v20 gz (.bool s5) (.slice p5 m5 m5)) := Xz.out.below hb20
  clear Xz
  have Xz := Yz
  clear Yz
  have Yw : Hid (Box v20 gw (.bool s6) (.slice p6 m6 m6)) := Xw.out.below hb20
  clear Xw
  have Xw := Yw
  clear Yw
  have Ynl : Hid (Box v20 gnl (.bool s15) (.slice p15 m15 m15)) := Xnl.out.below hb20
  clear Xnl
  have Xnl := Ynl
  clear Ynl
  have Yless : Hid (Box v20 gless (.bool s18) (.slice p18 m18 m18)) := Xless.out.below hb20
  clear Xless
  have Xless := Yless
  clear Yless
  have HT' : Hid (Tab v20) := HT.out.below hb20
  clear HT
  have HT := HT'
  clear HT'
  have Zx' : Hid (ZN v20 s1 p1 m1 c1 x) := Zx.out.below hb20
  clear Zx
  have Zx := Zx'
  clear Zx'
  have Zy' : Hid (ZN v20 s2 p2 m2 c2 y) := Zy.out.below hb20
  clear Zy
  have Zy := Zy'
  clear Zy'
  have Zz' : Hid (ZN v20 s5 p5 m5 m5 (-x)) := Zz.out.below hb20
  clear Zz
  have Zz := Zz'
  clear Zz'
  have Zw' : Hid (ZN v20 s6 p6 m6 m6 (-y)) := Zw.out.below hb20
  clear Zw
  have Zw := Zw'
  clear Zw'
  have Znl' : Hid (ZN v20 s15 p15 m15 m15 (-N)) := Znl.out.below hb20
  clear Znl
  have Znl := Znl'
  clear Znl'
  have Zless' : Hid (ZN v20 s18 p18 m18 m18 (-N)) := Zless.out.below hb20
  clear Zless
  have Zless := Zless'
  clear Zless'
  have hbw' := Below.on hbw hb20
  clear hbw
  have hbw := hbw'
  clear hbw'
  clear hb20
  clear Xnl
  clear Xless
  clear Znl
  clear Zless
  obtain ⟨cx0, cx1, fx0, fx1⟩ := Xx.out
  have hnex : gx < v20.heap.size := World.block_lt_of_cell? v20 _ cx0
  obtain ⟨cw0, cw1, fw0, fw1⟩ := Xw.out
  have hnew : gw < v20.heap.size := World.block_lt_of_cell? v20 _ cw0
  go_wp2_with fail
  clear cx0 cx1 fx0 fx1 hnex
  clear cw0 cw1 fw0 fw1 hnew
  by_cases hy : y = 0
  · have HY : Hid (y = 0) := hy
    clear hy
    refine (zfdiv0 Zx.out Zw.out (by rw [HY.out]; rfl)).mono ?_
    rintro e v21 ⟨s21, p21, m21, rfl, hz, hb21⟩
    have Yx : Hid (Box v21 gx (.bool s1) (.slice p1 m1 c1)) := Xx.out.below hb21
    clear Xx
    have Xx := Yx
    clear Yx
    have Yy : Hid (Box v21 gy (.bool s2) (.slice p2 m2 c2)) := Xy.out.below hb21
    clear Xy
    have Xy := Yy
    clear Yy
    have Yz : Hid (Box v21 gz (.bool s5) (.slice p5 m5 m5)) := Xz.out.below hb21
    clear Xz
    have Xz := Yz
    clear Yz
    have Yw : Hid (Box v21 gw (.bool s6) (.slice p6 m6 m6)) := Xw.out.below hb21
    clear Xw
    have Xw := Yw
    clear Yw
    have HT' : Hid (Tab v21) := HT.out.below hb21
    clear HT
    have HT := HT'
    clear HT'
    have Zx' : Hid (ZN v21 s1 p1 m1 c1 x) := Zx.out.below hb21
    clear Zx
    have Zx := Zx'
    clear Zx'
    have Zy' : Hid (ZN v21 s2 p2 m2 c2 y) := Zy.out.below hb21
    clear Zy
    have Zy := Zy'
    clear Zy'
    have Zz' : Hid (ZN v21 s5 p5 m5 m5 (-x)) := Zz.out.below hb21
    clear Zz
    have Zz := Zz'
    clear Zz'
    have Zw' : Hid (ZN v21 s6 p6 m6 m6 (-y)) := Zw.out.below hb21
    clear Zw
    have Zw := Zw'
    clear Zw'
    have hbw' := Below.on hbw hb21
    clear hbw
    have hbw := hbw'
    clear hbw'
    clear hb21
    have Zf1 : Hid (ZN v21 s21 p21 m21 m21 (0)) := hz
    clear hz
    obtain ⟨cx0, cx1, fx0, fx1⟩ := Xx.out
    have hnex : gx < v21.heap.size := World.block_lt_of_cell? v21 _ cx0
    obtain ⟨cy0, cy1, fy0, fy1⟩ := Xy.out
    have hney : gy < v21.heap.size := World.block_lt_of_cell? v21 _ cy0
    go_wp2_with fail
    clear cx0 cx1 fx0 fx1 hnex
    clear cy0 cy1 fy0 fy1 hney
    have Xf10 : Hid (Box (v21.alloc (.cells #[.bool s21, .slice p21 m21 m21] 35)) v21.heap.size (.bool s21) (.slice p21 m21 m21)) := Box.new v21 _ _ _
    have hbn : Below v21.heap.size v21 (v21.alloc (.cells #[.bool s21, .slice p21 m21 m21] 35)) := below1 v21 _
    generalize v21.alloc (.cells #[.bool s21, .slice p21 m21 m21] 35) = W21 at *
    have HGf1 : Hid (w.heap.size ≤ v21.heap.size) := hbw.size
    have Yx : Hid (Box W21 gx (.bool s1) (.slice p1 m1 c1)) := Xx.out.below hbn
    clear Xx
    have Xx := Yx
    clear Yx
    have Yy : Hid (Box W21 gy (.bool s2) (.slice p2 m2 c2)) := Xy.out.below hbn
    clear Xy
    have Xy := Yy
    clear Yy
    have Yz : Hid (Box W21 gz (.bool s5) (.slice p5 m5 m5)) := Xz.out.below hbn
    clear Xz
    have Xz := Yz
    clear Yz
    have Yw : Hid (Box W21 gw (.bool s6) (.slice p6 m6 m6)) := Xw.out.below hbn
    clear Xw
    have Xw := Yw
    clear Yw
    have HT' : Hid (Tab W21) := HT.out.below hbn
    clear HT
    have HT := HT'
    clear HT'
    have Zx' : Hid (ZN W21 s1 p1 m1 c1 x) := Zx.out.below hbn
    clear Zx
    have Zx := Zx'
    clear Zx'
    have Zy' : Hid (ZN W21 s2 p2 m2 c2 y) := Zy.out.below hbn
    clear Zy
    have Zy := Zy'
    clear Zy'
    have Zz' : Hid (ZN W21 s5 p5 m5 m5 (-x)) := Zz.out.below hbn
    clear Zz
    have Zz := Zz'
    clear Zz'
    have Zw' : Hid (ZN W21 s6 p6 m6 m6 (-y)) := Zw.out.below hbn
    clear Zw
    have Zw := Zw'
    clear Zw'
    have Zf1' : Hid (ZN W21 s21 p21 m21 m21 (0)) := Zf1.out.below hbn
    clear Zf1
    have Zf1 := Zf1'
    clear Zf1'
    have hbw' := Below.on hbw hbn
    clear hbw
    have hbw := hbw'
    clear hbw'
    clear hbn
    generalize v21.heap.size = gf1 at *
    have Xf1 := Xf10
    clear Xf10
    refine (zcdiv0 Zx.out Zy.out HY.out).mono ?_
    rintro e v22 ⟨s22, p22, m22, rfl, hz, hb22⟩
    have Yx : Hid (Box v22 gx (.bool s1) (.slice p1 m1 c1)) := Xx.out.below hb22
    clear Xx
    have Xx := Yx
    clear Yx
    have Yy : Hid (Box v22 gy (.bool s2) (.slice p2 m2 c2)) := Xy.out.below hb22
    clear Xy
    have Xy := Yy
    clear Yy
    have Yz : Hid (Box v22 gz (.bool s5) (.slice p5 m5 m5)) := Xz.out.below hb22
    clear Xz
    have Xz := Yz
    clear Yz
    have Yw : Hid (Box v22 gw (.bool s6) (.slice p6 m6 m6)) := Xw.out.below hb22
    clear Xw
    have Xw := Yw
    clear Yw
    have Yf1 : Hid (Box v22 gf1 (.bool s21) (.slice p21 m21 m21)) := Xf1.out.below hb22
    clear Xf1
    have Xf1 := Yf1
    clear Yf1
    have HT' : Hid (Tab v22) := HT.out.below hb22
    clear HT
    have HT := HT'
    clear HT'
    have Zx' : Hid (ZN v22 s1 p1 m1 c1 x) := Zx.out.below hb22
    clear Zx
    have Zx := Zx'
    clear Zx'
    have Zy' : Hid (ZN v22 s2 p2 m2 c2 y) := Zy.out.below hb22
    clear Zy
    have Zy := Zy'
    clear Zy'
    have Zz' : Hid (ZN v22 s5 p5 m5 m5 (-x)) := Zz.out.below hb22
    clear Zz
    have Zz := Zz'
    clear Zz'
    have Zw' : Hid (ZN v22 s6 p6 m6 m6 (-y)) := Zw.out.below hb22
    clear Zw
    have Zw := Zw'
    clear Zw'
    have Zf1' : Hid (ZN v22 s21 p21 m21 m21 (0)) := Zf1.out.below hb22
    clear Zf1
    have Zf1 := Zf1'
    clear Zf1'
    have hbw' := Below.on hbw hb22
    clear hbw
    have hbw := hbw'
    clear hbw'
    clear hb22
    have Zc1 : Hid (ZN v22 s22 p22 m22 m22 (0)) := hz
    clear hz
    go_wp2_with fail
    have Xc10 : Hid (Box (v22.alloc (.cells #[.bool s22, .slice p22 m22 m22] 35)) v22.heap.size (.bool s22) (.slice p22 m22 m22)) := Box.new v22 _ _ _
    have hbn : Below v22.heap.size v22 (v22.alloc (.cells #[.bool s22, .slice p22 m22 m22] 35)) := below1 v22 _
    generalize v22.alloc (.cells #[.bool s22, .slice p22 m22 m22] 35) = W22 at *
    have HGc1 : Hid (w.heap.size ≤ v22.heap.size) := hbw.size
    have Yx : Hid (Box W22 gx (.bool s1) (.slice p1 m1 c1)) := Xx.out.below hbn
    clear Xx
    have Xx := Yx
    clear Yx
    have Yy : Hid (Box W22 gy (.bool s2) (.slice p2 m2 c2)) := Xy.out.below hbn
    clear Xy
    have Xy := Yy
    clear Yy
    have Yz : Hid (Box W22 gz (.bool s5) (.slice p5 m5 m5)) := Xz.out.below hbn
    clear Xz
    have Xz := Yz
    clear Yz
    have Yw : Hid (Box W22 gw (.bool s6) (.slice p6 m6 m6)) := Xw.out.below hbn
    clear Xw
    have Xw := Yw
    clear Yw
    have Yf1 : Hid (Box W22 gf1 (.bool s21) (.slice p21 m21 m21)) := Xf1.out.below hbn
    clear Xf1
    have Xf1 := Yf1
    clear Yf1
    have HT' : Hid (Tab W22) := HT.out.below hbn
    clear HT
    have HT := HT'
    clear HT'
    have Zx' : Hid (ZN W22 s1 p1 m1 c1 x) := Zx.out.below hbn
    clear Zx
    have Zx := Zx'
    clear Zx'
    have Zy' : Hid (ZN W22 s2 p2 m2 c2 y) := Zy.out.below hbn
    clear Zy
    have Zy := Zy'
    clear Zy'
    have Zz' : Hid (ZN W22 s5 p5 m5 m5 (-x)) := Zz.out.below hbn
    clear Zz
    have Zz := Zz'
    clear Zz'
    have Zw' : Hid (ZN W22 s6 p6 m6 m6 (-y)) := Zw.out.below hbn
    clear Zw
    have Zw := Zw'
    clear Zw'
    have Zf1' : Hid (ZN W22 s21 p21 m21 m21 (0)) := Zf1.out.below hbn
    clear Zf1
    have Zf1 := Zf1'
    clear Zf1'
    have Zc1' : Hid (ZN W22 s22 p22 m22 m22 (0)) := Zc1.out.below hbn
    clear Zc1
    have Zc1 := Zc1'
    clear Zc1'
    have hbw' := Below.on hbw hbn
    clear hbw
    have hbw := hbw'
    clear hbw'
    clear hbn
    generalize v22.heap.size = gc1 at *
    have Xc1 := Xc10
    clear Xc10
    refine (zneg Zc1.out).mono ?_
    rintro e v23 ⟨⟨s23, p23, m23, rfl, hz⟩, hb23⟩
    have Yx : Hid (Box v23 gx (.bool s1) (.slice p1 m1 c1)) := Xx.out.below hb23
    clear Xx
    have Xx := Yx
    clear Yx
    have Yy : Hid (Box v23 gy (.bool s2) (.slice p2 m2 c2)) := Xy.out.below hb23
    clear Xy
    have Xy := Yy
    clear Yy
    have Yz : Hid (Box v23 gz (.bool s5) (.slice p5 m5 m5)) := Xz.out.below hb23
    clear Xz
    have Xz := Yz
    clear Yz
    have Yw : Hid (Box v23 gw (.bool s6) (.slice p6 m6 m6)) := Xw.out.below hb23
    clear Xw
    have Xw := Yw
    clear Yw
    have Yf1 : Hid (Box v23 gf1 (.bool s21) (.slice p21 m21 m21)) := Xf1.out.below hb23
    clear Xf1
    have Xf1 := Yf1
    clear Yf1
    have Yc1 : Hid (Box v23 gc1 (.bool s22) (.slice p22 m22 m22)) := Xc1.out.below hb23
    clear Xc1
    have Xc1 := Yc1
    clear Yc1
    have HT' : Hid (Tab v23) := HT.out.below hb23
    clear HT
    have HT := HT'
    clear HT'
    have Zx' : Hid (ZN v23 s1 p1 m1 c1 x) := Zx.out.below hb23
    clear Zx
    have Zx := Zx'
    clear Zx'
    have Zy' : Hid (ZN v23 s2 p2 m2 c2 y) := Zy.out.below hb23
    clear Zy
    have Zy := Zy'
    clear Zy'
    have Zz' : Hid (ZN v23 s5 p5 m5 m5 (-x)) := Zz.out.below hb23
    clear Zz
    have Zz := Zz'
    clear Zz'
    have Zw' : Hid (ZN v23 s6 p6 m6 m6 (-y)) := Zw.out.below hb23
    clear Zw
    have Zw := Zw'
    clear Zw'
    have Zf1' : Hid (ZN v23 s21 p21 m21 m21 (0)) := Zf1.out.below hb23
    clear Zf1
    have Zf1 := Zf1'
    clear Zf1'
    have Zc1' : Hid (ZN v23 s22 p22 m22 m22 (0)) := Zc1.out.below hb23
    clear Zc1
    have Zc1 := Zc1'
    clear Zc1'
    have hbw' := Below.on hbw hb23
    clear hbw
    have hbw := hbw'
    clear hbw'
    clear hb23
    have Zc2 : Hid (ZN v23 s23 p23 m23 m23 (-0)) := hz
    clear hz
    obtain ⟨cy0, cy1, fy0, fy1⟩ := Xy.out
    have hney : gy < v23.heap.size := World.block_lt_of_cell? v23 _ cy0
    go_wp2_with fail
    clear cy0 cy1 fy0 fy1 hney
    have Xc20 : Hid (Box (v23.alloc (.cells #[.bool s23, .slice p23 m23 m23] 35)) v23.heap.size (.bool s23) (.slice p23 m23 m23)) := Box.new v23 _ _ _
    have hbn : Below v23.heap.size v23 (v23.alloc (.cells #[.bool s23, .slice p23 m23 m23] 35)) := below1 v23 _
    generalize v23.alloc (.cells #[.bool s23, .slice p23 m23 m23] 35) = W23 at *
    have HGc2 : Hid (w.heap.size ≤ v23.heap.size) := hbw.size
    have Yx : Hid (Box W23 gx (.bool s1) (.slice p1 m1 c1)) := Xx.out.below hbn
    clear Xx
    have Xx := Yx
    clear Yx
    have Yy : Hid (Box W23 gy (.bool s2) (.slice p2 m2 c2)) := Xy.out.below hbn
    clear Xy
    have Xy := Yy
    clear Yy
    have Yz : Hid (Box W23 gz (.bool s5) (.slice p5 m5 m5)) := Xz.out.below hbn
    clear Xz
    have Xz := Yz
    clear Yz
    have Yw : Hid (Box W23 gw (.bool s6) (.slice p6 m6 m6)) := Xw.out.below hbn
    clear Xw
    have Xw := Yw
    clear Yw
    have Yf1 : Hid (Box W23 gf1 (.bool s21) (.slice p21 m21 m21)) := Xf1.out.below hbn
    clear Xf1
    have Xf1 := Yf1
    clear Yf1
    have Yc1 : Hid (Box W23 gc1 (.bool s22) (.slice p22 m22 m22)) := Xc1.out.below hbn
    clear Xc1
    have Xc1 := Yc1
    clear Yc1
    have HT' : Hid (Tab W23) := HT.out.below hbn
    clear HT
    have HT := HT'
    clear HT'
    have Zx' : Hid (ZN W23 s1 p1 m1 c1 x) := Zx.out.below hbn
    clear Zx
    have Zx := Zx'
    clear Zx'
    have Zy' : Hid (ZN W23 s2 p2 m2 c2 y) := Zy.out.below hbn
    clear Zy
    have Zy := Zy'
    clear Zy'
    have Zz' : Hid (ZN W23 s5 p5 m5 m5 (-x)) := Zz.out.below hbn
    clear Zz
    have Zz := Zz'
    clear Zz'
    have Zw' : Hid (ZN W23 s6 p6 m6 m6 (-y)) := Zw.out.below hbn
    clear Zw
    have Zw := Zw'
    clear Zw'
    have Zf1' : Hid (ZN W23 s21 p21 m21 m21 (0)) := Zf1.out.below hbn
    clear Zf1
    have Zf1 := Zf1'
    clear Zf1'
    have Zc1' : Hid (ZN W23 s22 p22 m22 m22 (0)) := Zc1.out.below hbn
    clear Zc1
    have Zc1 := Zc1'
    clear Zc1'
    have Zc2' : Hid (ZN W23 s23 p23 m23 m23 (-0)) := Zc2.out.below hbn
    clear Zc2
    have Zc2 := Zc2'
    clear Zc2'
    have hbw' := Below.on hbw hbn
    clear hbw
    have hbw := hbw'
    clear hbw'
    clear hbn
    generalize v23.heap.size = gc2 at *
    have Xc2 := Xc20
    clear Xc20
    refine (zsign Zy.out).mono ?_
    rintro e v24 ⟨rfl, hb24⟩
    rw [show sgnI y = 0 from by rw [HY.out]; rfl]
    have Yx : Hid (Box v24 gx (.bool s1) (.slice p1 m1 c1)) := Xx.out.below hb24
    clear Xx
    have Xx := Yx
    clear Yx
    have Yy : Hid (Box v24 gy (.bool s2) (.slice p2 m2 c2)) := Xy.out.below hb24
    clear Xy
    have Xy := Yy
    clear Yy
    have Yz : Hid (Box v24 gz (.bool s5) (.slice p5 m5 m5)) := Xz.out.below hb24
    clear Xz
    have Xz := Yz
    clear Yz
    have Yw : Hid (Box v24 gw (.bool s6) (.slice p6 m6 m6)) := Xw.out.below hb24
    clear Xw
    have Xw := Yw
    clear Yw
    have Yf1 : Hid (Box v24 gf1 (.bool s21) (.slice p21 m21 m21)) := Xf1.out.below hb24
    clear Xf1
    have Xf1 := Yf1
    clear Yf1
    have Yc1 : Hid (Box v24 gc1 (.bool s22) (.slice p22 m22 m22)) := Xc1.out.below hb24
    clear Xc1
    have Xc1 := Yc1
    clear Yc1
    have Yc2 : Hid (Box v24 gc2 (.bool s23) (.slice p23 m23 m23)) := Xc2.out.below hb24
    clear Xc2
    have Xc2 := Yc2
    clear Yc2
    have HT' : Hid (Tab v24) := HT.out.below hb24
    clear HT
    have HT := HT'
    clear HT'
    have Zx' : Hid (ZN v24 s1 p1 m1 c1 x) := Zx.out.below hb24
    clear Zx
    have Zx := Zx'
    clear Zx'
    have Zy' : Hid (ZN v24 s2 p2 m2 c2 y) := Zy.out.below hb24
    clear Zy
    have Zy := Zy'
    clear Zy'
    have Zz' : Hid (ZN v24 s5 p5 m5 m5 (-x)) := Zz.out.below hb24
    clear Zz
    have Zz := Zz'
    clear Zz'
    have Zw' : Hid (ZN v24 s6 p6 m6 m6 (-y)) := Zw.out.below hb24
    clear Zw
    have Zw := Zw'
    clear Zw'
    have Zf1' : Hid (ZN v24 s21 p21 m21 m21 (0)) := Zf1.out.below hb24
    clear Zf1
    have Zf1 := Zf1'
    clear Zf1'
    have Zc1' : Hid (ZN v24 s22 p22 m22 m22 (0)) := Zc1.out.below hb24
    clear Zc1
    have Zc1 := Zc1'
    clear Zc1'
    have Zc2' : Hid (ZN v24 s23 p23 m23 m23 (-0)) := Zc2.out.below hb24
    clear Zc2
    have Zc2 := Zc2'
    clear Zc2'
    have hbw' := Below.on hbw hb24
    clear hbw
    have hbw := hbw'
    clear hbw'
    clear hb24
    go_wp2_with fail
    go_ret
    exact ⟨rfl, hbw⟩
  have HY : Hid (y ≠ 0) := hy
  clear hy
  obtain ⟨D, hD⟩ : ∃ v, v = ce (decide (x < 0) != decide (y < 0)) x.natAbs y.natAbs := ⟨_, rfl⟩
  have HD : Hid (D = ce (decide (x < 0) != decide (y < 0)) x.natAbs y.natAbs) := hD
  clear hD
  refine (zfdiv Zx.out Zw.out (by have := HY.out; omega)).mono ?_
  rintro e v21 ⟨⟨s21, p21, m21, rfl, hz⟩, hb21⟩
  have Yx : Hid (Box v21 gx (.bool s1) (.slice p1 m1 c1)) := Xx.out.below hb21
  clear Xx
  have Xx := Yx
  clear Yx
  have Yy : Hid (Box v21 gy (.bool s2) (.slice p2 m2 c2)) := Xy.out.below hb21
  clear Xy
  have Xy := Yy
  clear Yy
  have Yz : Hid (Box v21 gz (.bool s5) (.slice p5 m5 m5)) := Xz.out.below hb21
  clear Xz
  have Xz := Yz
  clear Yz
  have Yw : Hid (Box v21 gw (.bool s6) (.slice p6 m6 m6)) := Xw.out.below hb21
  clear Xw
  have Xw := Yw
  clear Yw
  have HT' : Hid (Tab v21) := HT.out.below hb21
  clear HT
  have HT := HT'
  clear HT'
  have Zx' : Hid (ZN v21 s1 p1 m1 c1 x) := Zx.out.below hb21
  clear Zx
  have Zx := Zx'
  clear Zx'
  have Zy' : Hid (ZN v21 s2 p2 m2 c2 y) := Zy.out.below hb21
  clear Zy
  have Zy := Zy'
  clear Zy'
  have Zz' : Hid (ZN v21 s5 p5 m5 m5 (-x)) := Zz.out.below hb21
  clear Zz
  have Zz := Zz'
  clear Zz'
  have Zw' : Hid (ZN v21 s6 p6 m6 m6 (-y)) := Zw.out.below hb21
  clear Zw
  have Zw := Zw'
  clear Zw'
  have hbw' := Below.on hbw hb21
  clear hbw
  have hbw := hbw'
  clear hbw'
  clear hb21
  have hz := hz.cast (z' := -D) (by rw [HD.out]; exact fl_negy x y HY.out)
  have Zf1 : Hid (ZN v21 s21 p21 m21 m21 (-D)) := hz
  clear hz
  obtain ⟨cx0, cx1, fx0, fx1⟩ := Xx.out
  have hnex : gx < v21.heap.size := World.block_lt_of_cell? v21 _ cx0
  obtain ⟨cy0, cy1, fy0, fy1⟩ := Xy.out
  have hney : gy < v21.heap.size := World.block_lt_of_cell? v21 _ cy0
  go_wp2_with fail
  clear cx0 cx1 fx0 fx1 hnex
  clear cy0 cy1 fy0 fy1 hney
  have Xf10 : Hid (Box (v21.alloc (.cells #[.bool s21, .slice p21 m21 m21] 35)) v21.heap.size (.bool s21) (.slice p21 m21 m21)) := Box.new v21 _ _ _
  have hbn : Below v21.heap.size v21 (v21.alloc (.cells #[.bool s21, .slice p21 m21 m21] 35)) := below1 v21 _
  generalize v21.alloc (.cells #[.bool s21, .slice p21 m21 m21] 35) = W21 at *
  have HGf1 : Hid (w.heap.size ≤ v21.heap.size) := hbw.size
  have Yx : Hid (Box W21 gx (.bool s1) (.slice p1 m1 c1)) := Xx.out.below hbn
  clear Xx
  have Xx := Yx
  clear Yx
  have Yy : Hid (Box W21 gy (.bool s2) (.slice p2 m2 c2)) := Xy.out.below hbn
  clear Xy
  have Xy := Yy
  clear Yy
  have Yz : Hid (Box W21 gz (.bool s5) (.slice p5 m5 m5)) := Xz.out.below hbn
  clear Xz
  have Xz := Yz
  clear Yz
  have Yw : Hid (Box W21 gw (.bool s6) (.slice p6 m6 m6)) := Xw.out.below hbn
  clear Xw
  have Xw := Yw
  clear Yw
  have HT' : Hid (Tab W21) := HT.out.below hbn
  clear HT
  have HT := HT'
  clear HT'
  have Zx' : Hid (ZN W21 s1 p1 m1 c1 x) := Zx.out.below hbn
  clear Zx
  have Zx := Zx'
  clear Zx'
  have Zy' : Hid (ZN W21 s2 p2 m2 c2 y) := Zy.out.below hbn
  clear Zy
  have Zy := Zy'
  clear Zy'
  have Zz' : Hid (ZN W21 s5 p5 m5 m5 (-x)) := Zz.out.below hbn
  clear Zz
  have Zz := Zz'
  clear Zz'
  have Zw' : Hid (ZN W21 s6 p6 m6 m6 (-y)) := Zw.out.below hbn
  clear Zw
  have Zw := Zw'
  clear Zw'
  have Zf1' : Hid (ZN W21 s21 p21 m21 m21 (-D)) := Zf1.out.below hbn
  clear Zf1
  have Zf1 := Zf1'
  clear Zf1'
  have hbw' := Below.on hbw hbn
  clear hbw
  have hbw := hbw'
  clear hbw'
  clear hbn
  generalize v21.heap.size = gf1 at *
  have Xf1 := Xf10
  clear Xf10
  refine (zcdiv Zx.out Zy.out HY.out).mono ?_
  rintro e v22 ⟨⟨s22, p22, m22, rfl, hz⟩, hb22⟩
  have Yx : Hid (Box v22 gx (.bool s1) (.slice p1 m1 c1)) := Xx.out.below hb22
  clear Xx
  have Xx := Yx
  clear Yx
  have Yy : Hid (Box v22 gy (.bool s2) (.slice p2 m2 c2)) := Xy.out.below hb22
  clear Xy
  have Xy := Yy
  clear Yy
  have Yz : Hid (Box v22 gz (.bool s5) (.slice p5 m5 m5)) := Xz.out.below hb22
  clear Xz
  have Xz := Yz
  clear Yz
  have Yw : Hid (Box v22 gw (.bool s6) (.slice p6 m6 m6)) := Xw.out.below hb22
  clear Xw
  have Xw := Yw
  clear Yw
  have Yf1 : Hid (Box v22 gf1 (.bool s21) (.slice p21 m21 m21)) := Xf1.out.below hb22
  clear Xf1
  have Xf1 := Yf1
  clear Yf1
  have HT' : Hid (Tab v22) := HT.out.below hb22
  clear HT
  have HT := HT'
  clear HT'
  have Zx' : Hid (ZN v22 s1 p1 m1 c1 x) := Zx.out.below hb22
  clear Zx
  have Zx := Zx'
  clear Zx'
  have Zy' : Hid (ZN v22 s2 p2 m2 c2 y) := Zy.out.below hb22
  clear Zy
  have Zy := Zy'
  clear Zy'
  have Zz' : Hid (ZN v22 s5 p5 m5 m5 (-x)) := Zz.out.below hb22
  clear Zz
  have Zz := Zz'
  clear Zz'
  have Zw' : Hid (ZN v22 s6 p6 m6 m6 (-y)) := Zw.out.below hb22
  clear Zw
  have Zw := Zw'
  clear Zw'
  have Zf1' : Hid (ZN v22 s21 p21 m21 m21 (-D)) := Zf1.out.below hb22
  clear Zf1
  have Zf1 := Zf1'
  clear Zf1'
  have hbw' := Below.on hbw hb22
  clear hbw
  have hbw := hbw'
  clear hbw'
  clear hb22
  have hz := hz.cast (z' := D) (HD.out.symm)
  have Zc1 : Hid (ZN v22 s22 p22 m22 m22 (D)) := hz
  clear hz
  go_wp2_with fail
  have Xc10 : Hid (Box (v22.alloc (.cells #[.bool s22, .slice p22 m22 m22] 35)) v22.heap.size (.bool s22) (.slice p22 m22 m22)) := Box.new v22 _ _ _
  have hbn : Below v22.heap.size v22 (v22.alloc (.cells #[.bool s22, .slice p22 m22 m22] 35)) := below1 v22 _
  generalize v22.alloc (.cells #[.bool s22, .slice p22 m22 m22] 35) = W22 at *
  have HGc1 : Hid (w.heap.size ≤ v22.heap.size) := hbw.size
  have Yx : Hid (Box W22 gx (.bool s1) (.slice p1 m1 c1)) := Xx.out.below hbn
  clear Xx
  have Xx := Yx
  clear Yx
  have Yy : Hid (Box W22 gy (.bool s2) (.slice p2 m2 c2)) := Xy.out.below hbn
  clear Xy
  have Xy := Yy
  clear Yy
  have Yz : Hid (Box W22 gz (.bool s5) (.slice p5 m5 m5)) := Xz.out.below hbn
  clear Xz
  have Xz := Yz
  clear Yz
  have Yw : Hid (Box W22 gw (.bool s6) (.slice p6 m6 m6)) := Xw.out.below hbn
  clear Xw
  have Xw := Yw
  clear Yw
  have Yf1 : Hid (Box W22 gf1 (.bool s21) (.slice p21 m21 m21)) := Xf1.out.below hbn
  clear Xf1
  have Xf1 := Yf1
  clear Yf1
  have HT' : Hid (Tab W22) := HT.out.below hbn
  clear HT
  have HT := HT'
  clear HT'
  have Zx' : Hid (ZN W22 s1 p1 m1 c1 x) := Zx.out.below hbn
  clear Zx
  have Zx := Zx'
  clear Zx'
  have Zy' : Hid (ZN W22 s2 p2 m2 c2 y) := Zy.out.below hbn
  clear Zy
  have Zy := Zy'
  clear Zy'
  have Zz' : Hid (ZN W22 s5 p5 m5 m5 (-x)) := Zz.out.below hbn
  clear Zz
  have Zz := Zz'
  clear Zz'
  have Zw' : Hid (ZN W22 s6 p6 m6 m6 (-y)) := Zw.out.below hbn
  clear Zw
  have Zw := Zw'
  clear Zw'
  have Zf1' : Hid (ZN W22 s21 p21 m21 m21 (-D)) := Zf1.out.below hbn
  clear Zf1
  have Zf1 := Zf1'
  clear Zf1'
  have Zc1' : Hid (ZN W22 s22 p22 m22 m22 (D)) := Zc1.out.below hbn
  clear Zc1
  have Zc1 := Zc1'
  clear Zc1'
  have hbw' := Below.on hbw hbn
  clear hbw
  have hbw := hbw'
  clear hbw'
  clear hbn
  generalize v22.heap.size = gc1 at *
  have Xc1 := Xc10
  clear Xc10
  refine (zneg Zc1.out).mono ?_
  rintro e v23 ⟨⟨s23, p23, m23, rfl, hz⟩, hb23⟩
  have Yx : Hid (Box v23 gx (.bool s1) (.slice p1 m1 c1)) := Xx.out.below hb23
  clear Xx
  have Xx := Yx
  clear Yx
  have Yy : Hid (Box v23 gy (.bool s2) (.slice p2 m2 c2)) := Xy.out.below hb23
  clear Xy
  have Xy := Yy
  clear Yy
  have Yz : Hid (Box v23 gz (.bool s5) (.slice p5 m5 m5)) := Xz.out.below hb23
  clear Xz
  have Xz := Yz
  clear Yz
  have Yw : Hid (Box v23 gw (.bool s6) (.slice p6 m6 m6)) := Xw.out.below hb23
  clear Xw
  have Xw := Yw
  clear Yw
  have Yf1 : Hid (Box v23 gf1 (.bool s21) (.slice p21 m21 m21)) := Xf1.out.below hb23
  clear Xf1
  have Xf1 := Yf1
  clear Yf1
  have Yc1 : Hid (Box v23 gc1 (.bool s22) (.slice p22 m22 m22)) := Xc1.out.below hb23
  clear Xc1
  have Xc1 := Yc1
  clear Yc1
  have HT' : Hid (Tab v23) := HT.out.below hb23
  clear HT
  have HT := HT'
  clear HT'
  have Zx' : Hid (ZN v23 s1 p1 m1 c1 x) := Zx.out.below hb23
  clear Zx
  have Zx := Zx'
  clear Zx'
  have Zy' : Hid (ZN v23 s2 p2 m2 c2 y) := Zy.out.below hb23
  clear Zy
  have Zy := Zy'
  clear Zy'
  have Zz' : Hid (ZN v23 s5 p5 m5 m5 (-x)) := Zz.out.below hb23
  clear Zz
  have Zz := Zz'
  clear Zz'
  have Zw' : Hid (ZN v23 s6 p6 m6 m6 (-y)) := Zw.out.below hb23
  clear Zw
  have Zw := Zw'
  clear Zw'
  have Zf1' : Hid (ZN v23 s21 p21 m21 m21 (-D)) := Zf1.out.below hb23
  clear Zf1
  have Zf1 := Zf1'
  clear Zf1'
  have Zc1' : Hid (ZN v23 s22 p22 m22 m22 (D)) := Zc1.out.below hb23
  clear Zc1
  have Zc1 := Zc1'
  clear Zc1'
  have hbw' := Below.on hbw hb23
  clear hbw
  have hbw := hbw'
  clear hbw'
  clear hb23
  have Zc2 : Hid (ZN v23 s23 p23 m23 m23 (-D)) := hz
  clear hz
  obtain ⟨cy0, cy1, fy0, fy1⟩ := Xy.out
  have hney : gy < v23.heap.size := World.block_lt_of_cell? v23 _ cy0
  go_wp2_with fail
  clear cy0 cy1 fy0 fy1 hney
  have Xc20 : Hid (Box (v23.alloc (.cells #[.bool s23, .slice p23 m23 m23] 35)) v23.heap.size (.bool s23) (.slice p23 m23 m23)) := Box.new v23 _ _ _
  have hbn : Below v23.heap.size v23 (v23.alloc (.cells #[.bool s23, .slice p23 m23 m23] 35)) := below1 v23 _
  generalize v23.alloc (.cells #[.bool s23, .slice p23 m23 m23] 35) = W23 at *
  have HGc2 : Hid (w.heap.size ≤ v23.heap.size) := hbw.size
  have Yx : Hid (Box W23 gx (.bool s1) (.slice p1 m1 c1)) := Xx.out.below hbn
  clear Xx
  have Xx := Yx
  clear Yx
  have Yy : Hid (Box W23 gy (.bool s2) (.slice p2 m2 c2)) := Xy.out.below hbn
  clear Xy
  have Xy := Yy
  clear Yy
  have Yz : Hid (Box W23 gz (.bool s5) (.slice p5 m5 m5)) := Xz.out.below hbn
  clear Xz
  have Xz := Yz
  clear Yz
  have Yw : Hid (Box W23 gw (.bool s6) (.slice p6 m6 m6)) := Xw.out.below hbn
  clear Xw
  have Xw := Yw
  clear Yw
  have Yf1 : Hid (Box W23 gf1 (.bool s21) (.slice p21 m21 m21)) := Xf1.out.below hbn
  clear Xf1
  have Xf1 := Yf1
  clear Yf1
  have Yc1 : Hid (Box W23 gc1 (.bool s22) (.slice p22 m22 m22)) := Xc1.out.below hbn
  clear Xc1
  have Xc1 := Yc1
  clear Yc1
  have HT' : Hid (Tab W23) := HT.out.below hbn
  clear HT
  have HT := HT'
  clear HT'
  have Zx' : Hid (ZN W23 s1 p1 m1 c1 x) := Zx.out.below hbn
  clear Zx
  have Zx := Zx'
  clear Zx'
  have Zy' : Hid (ZN W23 s2 p2 m2 c2 y) := Zy.out.below hbn
  clear Zy
  have Zy := Zy'
  clear Zy'
  have Zz' : Hid (ZN W23 s5 p5 m5 m5 (-x)) := Zz.out.below hbn
  clear Zz
  have Zz := Zz'
  clear Zz'
  have Zw' : Hid (ZN W23 s6 p6 m6 m6 (-y)) := Zw.out.below hbn
  clear Zw
  have Zw := Zw'
  clear Zw'
  have Zf1' : Hid (ZN W23 s21 p21 m21 m21 (-D)) := Zf1.out.below hbn
  clear Zf1
  have Zf1 := Zf1'
  clear Zf1'
  have Zc1' : Hid (ZN W23 s22 p22 m22 m22 (D)) := Zc1.out.below hbn
  clear Zc1
  have Zc1 := Zc1'
  clear Zc1'
  have Zc2' : Hid (ZN W23 s23 p23 m23 m23 (-D)) := Zc2.out.below hbn
  clear Zc2
  have Zc2 := Zc2'
  clear Zc2'
  have hbw' := Below.on hbw hbn
  clear hbw
  have hbw := hbw'
  clear hbw'
  clear hbn
  generalize v23.heap.size = gc2 at *
  have Xc2 := Xc20
  clear Xc20
  obtain ⟨sy, hsy⟩ : ∃ s, s = sgnI y := ⟨_, rfl⟩
  have sy0 : (sy == 0) = false := by rw [hsy]; unfold sgnI; have := HY.out; split; rfl; (first | rfl | (rw [if_neg this]; rfl))
  have HSY : Hid (sy = sgnI y) := hsy
  clear hsy
  refine (zsign Zy.out).mono ?_
  rintro e v24 ⟨rfl, hb24⟩
  rw [← HSY.out]
  have Yx : Hid (Box v24 gx (.bool s1) (.slice p1 m1 c1)) := Xx.out.below hb24
  clear Xx
  have Xx := Yx
  clear Yx
  have Yy : Hid (Box v24 gy (.bool s2) (.slice p2 m2 c2)) := Xy.out.below hb24
  clear Xy
  have Xy := Yy
  clear Yy
  have Yz : Hid (Box v24 gz (.bool s5) (.slice p5 m5 m5)) := Xz.out.below hb24
  clear Xz
  have Xz := Yz
  clear Yz
  have Yw : Hid (Box v24 gw (.bool s6) (.slice p6 m6 m6)) := Xw.out.below hb24
  clear Xw
  have Xw := Yw
  clear Yw
  have Yf1 : Hid (Box v24 gf1 (.bool s21) (.slice p21 m21 m21)) := Xf1.out.below hb24
  clear Xf1
  have Xf1 := Yf1
  clear Yf1
  have Yc1 : Hid (Box v24 gc1 (.bool s22) (.slice p22 m22 m22)) := Xc1.out.below hb24
  clear Xc1
  have Xc1 := Yc1
  clear Yc1
  have Yc2 : Hid (Box v24 gc2 (.bool s23) (.slice p23 m23 m23)) := Xc2.out.below hb24
  clear Xc2
  have Xc2 := Yc2
  clear Yc2
  have HT' : Hid (Tab v24) := HT.out.below hb24
  clear HT
  have HT := HT'
  clear HT'
  have Zx' : Hid (ZN v24 s1 p1 m1 c1 x) := Zx.out.below hb24
  clear Zx
  have Zx := Zx'
  clear Zx'
  have Zy' : Hid (ZN v24 s2 p2 m2 c2 y) := Zy.out.below hb24
  clear Zy
  have Zy := Zy'
  clear Zy'
  have Zz' : Hid (ZN v24 s5 p5 m5 m5 (-x)) := Zz.out.below hb24
  clear Zz
  have Zz := Zz'
  clear Zz'
  have Zw' : Hid (ZN v24 s6 p6 m6 m6 (-y)) := Zw.out.below hb24
  clear Zw
  have Zw := Zw'
  clear Zw'
  have Zf1' : Hid (ZN v24 s21 p21 m21 m21 (-D)) := Zf1.out.below hb24
  clear Zf1
  have Zf1 := Zf1'
  clear Zf1'
  have Zc1' : Hid (ZN v24 s22 p22 m22 m22 (D)) := Zc1.out.below hb24
  clear Zc1
  have Zc1 := Zc1'
  clear Zc1'
  have Zc2' : Hid (ZN v24 s23 p23 m23 m23 (-D)) := Zc2.out.below hb24
  clear Zc2
  have Zc2 := Zc2'
  clear Zc2'
  have hbw' := Below.on hbw hb24
  clear hbw
  have hbw := hbw'
  clear hbw'
  clear hb24
  obtain ⟨cf10, cf11, ff10, ff11⟩ := Xf1.out
  have hnef1 : gf1 < v24.heap.size := World.block_lt_of_cell? v24 _ cf10
  obtain ⟨cc20, cc21, fc20, fc21⟩ := Xc2.out
  have hnec2 : gc2 < v24.heap.size := World.block_lt_of_cell? v24 _ cc20
  go_wp2_with fail
  clear cf10 cf11 ff10 ff11 hnef1
  clear cc20 cc21 fc20 fc21 hnec2
  clear sy0
  refine (zsame Zf1.out Zc2.out).mono ?_
  rintro e v25 ⟨rfl, hb25⟩
  rw [decide_eq_true rfl]
  have Yx : Hid (Box v25 gx (.bool s1) (.slice p1 m1 c1)) := Xx.out.below hb25
  clear Xx
  have Xx := Yx
  clear Yx
  have Yy : Hid (Box v25 gy (.bool s2) (.slice p2 m2 c2)) := Xy.out.below hb25
  clear Xy
  have Xy := Yy
  clear Yy
  have Yz : Hid (Box v25 gz (.bool s5) (.slice p5 m5 m5)) := Xz.out.below hb25
  clear Xz
  have Xz := Yz
  clear Yz
  have Yw : Hid (Box v25 gw (.bool s6) (.slice p6 m6 m6)) := Xw.out.below hb25
  clear Xw
  have Xw := Yw
  clear Yw
  have Yf1 : Hid (Box v25 gf1 (.bool s21) (.slice p21 m21 m21)) := Xf1.out.below hb25
  clear Xf1
  have Xf1 := Yf1
  clear Yf1
  have Yc1 : Hid (Box v25 gc1 (.bool s22) (.slice p22 m22 m22)) := Xc1.out.below hb25
  clear Xc1
  have Xc1 := Yc1
  clear Yc1
  have Yc2 : Hid (Box v25 gc2 (.bool s23) (.slice p23 m23 m23)) := Xc2.out.below hb25
  clear Xc2
  have Xc2 := Yc2
  clear Yc2
  have HT' : Hid (Tab v25) := HT.out.below hb25
  clear HT
  have HT := HT'
  clear HT'
  have Zx' : Hid (ZN v25 s1 p1 m1 c1 x) := Zx.out.below hb25
  clear Zx
  have Zx := Zx'
  clear Zx'
  have Zy' : Hid (ZN v25 s2 p2 m2 c2 y) := Zy.out.below hb25
  clear Zy
  have Zy := Zy'
  clear Zy'
  have Zz' : Hid (ZN v25 s5 p5 m5 m5 (-x)) := Zz.out.below hb25
  clear Zz
  have Zz := Zz'
  clear Zz'
  have Zw' : Hid (ZN v25 s6 p6 m6 m6 (-y)) := Zw.out.below hb25
  clear Zw
  have Zw := Zw'
  clear Zw'
  have Zf1' : Hid (ZN v25 s21 p21 m21 m21 (-D)) := Zf1.out.below hb25
  clear Zf1
  have Zf1 := Zf1'
  clear Zf1'
  have Zc1' : Hid (ZN v25 s22 p22 m22 m22 (D)) := Zc1.out.below hb25
  clear Zc1
  have Zc1 := Zc1'
  clear Zc1'
  have Zc2' : Hid (ZN v25 s23 p23 m23 m23 (-D)) := Zc2.out.below hb25
  clear Zc2
  have Zc2 := Zc2'
  clear Zc2'
  have hbw' := Below.on hbw hb25
  clear hbw
  have hbw := hbw'
  clear hbw'
  clear hb25
  go_wp2_with fail
  go_ret
  exact ⟨rfl, hbw⟩
end Go.Proofs.YteoihhgaipplfaaDoor

