import Derived.Test.YteoihhgaipplfaaDoorJ15
namespace Go.Proofs.YteoihhgaipplfaaDoor
open Go.RowKit Go.Shelf

structure Nests (x y F C G M : Int) : Prop where
  bf : (F * y).natAbs ≤ x.natAbs + y.natAbs
  bg : (G * y).natAbs ≤ x.natAbs + y.natAbs
  sum : F * y + M = x
  step : C - F = if M = 0 then 0 else 1
  gor : G = F ∨ G = C
  sg : M = 0 ∨ (0 < M ∧ 0 < y) ∨ (M < 0 ∧ y < 0)
  ml : M.natAbs < y.natAbs
  off : 2 * (x - G * y).natAbs ≤ y.natAbs
  tie : 2 * (x - G * y).natAbs = y.natAbs → G.natAbs % 2 = 0
theorem nests_of (x y : Int) (hy : y ≠ 0) {F C G M : Int} (hF : F = fl (decide (x < 0) != decide (y < 0)) x.natAbs y.natAbs) (hC : C = ce (decide (x < 0) != decide (y < 0)) x.natAbs y.natAbs) (hG : G = ne (decide (x < 0) != decide (y < 0)) x.natAbs y.natAbs) (hM : M = mo (decide (x < 0)) (decide (y < 0)) x.natAbs y.natAbs) : Nests x y F C G M := by
  have hb : 0 < y.natAbs := by omega
  have ex := iv_abs x
  have ey := iv_abs y
  have hr := Nat.mod_lt x.natAbs hb
  have hM0 : M = 0 ↔ x.natAbs % y.natAbs = 0 := by
    rw [hM]; unfold mo
    generalize decide (x < 0) = s
    generalize decide (y < 0) = t
    generalize x.natAbs % y.natAbs = r at *
    by_cases h0 : r = 0
    · subst h0; cases s <;> cases t <;> simp [iv]
    · cases s <;> cases t <;> simp [iv, h0] <;> omega
  refine ⟨?_, ?_, ?_, ?_, ?_, ?_, ?_, ?_, ?_⟩
  · rw [hF]; have := fl_bound (decide (x < 0) != decide (y < 0)) (decide (y < 0)) x.natAbs y.natAbs; rwa [ey] at this
  · rw [hG]; have := ne_bound (decide (x < 0) != decide (y < 0)) (decide (y < 0)) x.natAbs y.natAbs; rwa [ey] at this
  · rw [hF, hM]; have := fl_mo (decide (x < 0)) (decide (y < 0)) x.natAbs y.natAbs hb; rwa [ex, ey] at this
  · rw [hC, hF, ce_fl]
    by_cases h0 : M = 0
    · rw [if_pos h0, if_pos (hM0.1 h0)]
    · rw [if_neg h0, if_neg (fun e => h0 (hM0.2 e))]
  · rw [hG, hF, hC]; exact ne_or _ _ _
  · by_cases h0 : M = 0
    · exact .inl h0
    · right
      have h1 := mt hM0.2 h0
      rw [hM]; unfold mo
      generalize x.natAbs % y.natAbs = r at *
      by_cases h2 : y < 0
      · right
        rw [decide_eq_true h2, iv_t]
        refine ⟨?_, h2⟩
        split <;> omega
      · left
        rw [decide_eq_false h2, iv_f]
        refine ⟨?_, by omega⟩
        split <;> omega
  · rw [hM]; unfold mo; rw [iv_natAbs]
    split
    · rename_i h2
      have : x.natAbs % y.natAbs ≠ 0 := by
        rw [Bool.and_eq_true] at h2
        exact of_decide_eq_true h2.2
      omega
    · exact hr
  · rw [hG]; have := (ne_off (decide (x < 0)) (decide (y < 0)) x.natAbs y.natAbs hb).1; rwa [ex, ey] at this
  · rw [hG]; have := (ne_off (decide (x < 0)) (decide (y < 0)) x.natAbs y.natAbs hb).2; rwa [ex, ey] at this
theorem sgn_apart {M y : Int} (h : M = 0 ∨ (0 < M ∧ 0 < y) ∨ (M < 0 ∧ y < 0)) (hy : y ≠ 0) : (sgnI M == -sgnI y) = false := by
  unfold sgnI
  rcases h with rfl | ⟨h1, h2⟩ | ⟨h1, h2⟩
  · rcases Int.lt_trichotomy y 0 with h | h | h
    · rw [if_pos h]; rfl
    · exact absurd h hy
    · rw [if_neg (by omega : ¬ y < 0), if_neg (by omega : ¬ y = 0)]; rfl
  · rw [if_neg (by omega), if_neg (by omega), if_neg (by omega), if_neg (by omega)]; rfl
  · rw [if_pos h1, if_pos h2]; rfl
theorem sgn_zero (M : Int) : (sgnI M == 0) = decide (M = 0) := by
  unfold sgnI
  rcases Int.lt_trichotomy M 0 with h | h | h
  · rw [if_pos h, decide_eq_false (by omega)]; rfl
  · subst h; rfl
  · rw [if_neg (by omega), if_neg (by omega), decide_eq_false (by omega)]; rfl
theorem ZN.abs {w : World} {s : Bool} {p : Option Addr} {m c : Nat} {z : Int} (h : ZN w s p m c z) : ZN w false p m c (z.natAbs : Int) := by
  obtain ⟨xs, hx⟩ := h.ex
  exact ⟨⟨xs, by rw [Int.natAbs_natCast]; exact hx⟩, (decide_eq_false (Int.not_lt.2 (Int.natCast_nonneg _))).symm⟩
theorem tie_or {D y : Int} {G : Nat} (h : 2 * D.natAbs ≤ y.natAbs) (k : 2 * D.natAbs = y.natAbs → G % 2 = 0) : cmpI ((2 * D).natAbs : Int) (y.natAbs : Int) = -1 ∨ (cmpI ((2 * D).natAbs : Int) (y.natAbs : Int) = 0 ∧ G % 2 = 0) := by
  have e : (2 * D).natAbs = 2 * D.natAbs := by rw [Int.natAbs_mul]; rfl
  rw [e]
  unfold cmpI
  rcases Nat.lt_or_ge (2 * D.natAbs) y.natAbs with h1 | h1
  · left; rw [if_pos (by omega)]
  · right; rw [if_neg (by omega), if_pos (by omega)]; exact ⟨rfl, k (by omega)⟩
theorem parity {w : World} {p : Option Addr} {m c : Nat} {xs : List Nat} {a : Nat} (h : Num w p m c xs a) (hm : 0 < m) : a % 2 = xs.getD 0 0 % 2 := by
  have hl := h.at_.len
  have h1 := h.nf.val
  have h2 := valB_drop B64 xs 0 (by omega)
  rw [List.drop_zero, h1] at h2
  rw [h2, B64_eq]
  omega
theorem zmax {w : World} {s t : Bool} {p q : Option Addr} {m c n d : Nat} {x y : Int} (h : ZN w s p m c x) (k : ZN w t q n d y) (hl : LIM ≤ x.natAbs + y.natAbs) : max m n = 8192 := by
  obtain ⟨xs, hx⟩ := h.ex
  obtain ⟨ys, hy⟩ := k.ex
  have h1 := hx.le; have h2 := hy.le
  rcases Nat.lt_or_ge (max m n) 8192 with hlt | hge
  · exfalso
    obtain ⟨K, hK⟩ : ∃ K, K = 8192 := ⟨8192, rfl⟩
    obtain ⟨J, hJ⟩ : ∃ J, J + 1 = K := ⟨8191, by rw [hK]⟩
    rw [LIM_eq K hK, ← hJ, Nat.pow_succ] at hl
    have ha := (hx.nf.len_le B64_one (k := J)).1 (by rw [hx.at_.len]; omega)
    have hb := (hy.nf.len_le B64_one (k := J)).1 (by rw [hy.at_.len]; omega)
    have : B64 ^ J * 2 ≤ B64 ^ J * B64 := Nat.mul_le_mul_left _ (by rw [B64_eq]; omega)
    omega
  · omega
set_option maxRecDepth 20000 in
set_option maxHeartbeats 16000000 in
theorem numnests_walk {p q : Option Addr} {n m c d : Nat} {xs ys : List Nat} {w : World} (sa sb : Bool) (h : At w p n c xs) (k : At w q m d ys) (hn : n ≤ 17592186044416) (hm : m ≤ 17592186044416) (hT : Tab w) :
    Calls Tryd.prog 6 #[ZV sa p n c, ZV sb q m d] w fun e w' => e = .returned (.bool true) ∧ Below w.heap.size w w' := by
  have HT : Hid (Tab w) := hT
  have A0 : Hid (At w p n c xs) := h
  have B0 : Hid (At w q m d ys) := k
  have HNM : Hid (n ≤ 17592186044416 ∧ m ≤ 17592186044416) := ⟨hn, hm⟩
  clear hT h k hn hm
  go_enter Tryd.func6, Tryd.ntmps6
  go_wp2_with fail
  obtain ⟨W0, hW0⟩ : ∃ W0, W0 = ((w.alloc (.cells #[.bool sa, .slice p n c] 35)).alloc (.cells #[.bool sb, .slice q m d] 35)) := ⟨_, rfl⟩
  have Xa : Hid (Box W0 (w.heap.size) (.bool sa) (.slice p n c)) := by rw [hW0]; exact ⟨by go_simp, by go_simp, by go_simp, by go_simp⟩
  have Xb : Hid (Box W0 (w.heap.size + 1) (.bool sb) (.slice q m d)) := by rw [hW0]; exact ⟨by go_simp, by go_simp, by go_simp, by go_simp⟩
  have hb0 : Below w.heap.size w W0 := by rw [hW0]; exact below2 w _ _
  rw [← hW0]
  clear hW0
  have hbw : Below w.heap.size w w := Below.refl _ _
  obtain ⟨gb, hgb⟩ : ∃ g, g = w.heap.size + 1 := ⟨_, rfl⟩
  have HGb : Hid (w.heap.size ≤ gb) := by rw [hgb]; show _ ≤ _; omega
  rw [← hgb] at Xb
  try rw [← hgb]
  obtain ⟨ga, hga⟩ : ∃ g, g = w.heap.size := ⟨_, rfl⟩
  have HGa : Hid (w.heap.size ≤ ga) := by rw [hga]; show _ ≤ _; omega
  rw [← hga] at Xa
  try rw [← hga]
  have HGD : Hid (ga ≠ gb ∧ gb ≠ ga) := by rw [hga, hgb]; exact ⟨by omega, by omega⟩
  clear hga hgb
  have HT' : Hid (Tab W0) := HT.out.below hb0
  clear HT
  have HT := HT'
  clear HT'
  have A0' : Hid (At W0 p n c xs) := A0.out.below hb0
  clear A0
  have A0 := A0'
  clear A0'
  have B0' : Hid (At W0 q m d ys) := B0.out.below hb0
  clear B0
  have B0 := B0'
  clear B0'
  have hbw' := Below.on hbw hb0
  clear hbw
  have hbw := hbw'
  clear hbw'
  clear hb0
  refine (formed_any sa A0.out HNM.out.1).mono ?_
  rintro e v1 ⟨s1, p1, m1, c1, u1, o1, rfl, ho1, hA1, hn1, ht1, hb1⟩
  have Ya : Hid (Box v1 ga (.bool sa) (.slice p n c)) := Xa.out.below hb1
  clear Xa
  have Xa := Ya
  clear Ya
  have Yb : Hid (Box v1 gb (.bool sb) (.slice q m d)) := Xb.out.below hb1
  clear Xb
  have Xb := Yb
  clear Yb
  have HT' : Hid (Tab v1) := HT.out.below hb1
  clear HT
  have HT := HT'
  clear HT'
  have A0' : Hid (At v1 p n c xs) := A0.out.below hb1
  clear A0
  have A0 := A0'
  clear A0'
  have B0' : Hid (At v1 q m d ys) := B0.out.below hb1
  clear B0
  have B0 := B0'
  clear B0'
  have hbw' := Below.on hbw hb1
  clear hbw
  have hbw := hbw'
  clear hbw'
  clear hb1
  obtain ⟨ax, hax⟩ : ∃ a : Nat, a = valB B64 xs := ⟨_, rfl⟩
  rw [← hax] at hn1 ht1
  have Fx : Hid (Nf B64 u1 ax ∧ (s1 = true → 0 < ax) ∧ o1 = decide (m1 ≤ 8192)) := ⟨hn1, ht1, ho1⟩
  have Qx : Hid (At v1 p1 m1 c1 u1) := hA1
  clear hn1 ht1 ho1 hA1 hax
  clear A0
  obtain ⟨cb0, cb1, fb0, fb1⟩ := Xb.out
  have hneb : gb < v1.heap.size := World.block_lt_of_cell? v1 _ cb0
  go_wp2_with fail
  clear cb0 cb1 fb0 fb1 hneb
  have Xx0 : Hid (Box (v1.alloc (.cells #[.bool s1, .slice p1 m1 c1] 35)) v1.heap.size (.bool s1) (.slice p1 m1 c1)) := Box.new v1 _ _ _
  have hbn : Below v1.heap.size v1 (v1.alloc (.cells #[.bool s1, .slice p1 m1 c1] 35)) := below1 v1 _
  generalize v1.alloc (.cells #[.bool s1, .slice p1 m1 c1] 35) = W1 at *
  have HGx : Hid (w.heap.size ≤ v1.heap.size) := hbw.size
  have Ya : Hid (Box W1 ga (.bool sa) (.slice p n c)) := Xa.out.below hbn
  clear Xa
  have Xa := Ya
  clear Ya
  have Yb : Hid (Box W1 gb (.bool sb) (.slice q m d)) := Xb.out.below hbn
  clear Xb
  have Xb := Yb
  clear Yb
  have HT' : Hid (Tab W1) := HT.out.below hbn
  clear HT
  have HT := HT'
  clear HT'
  have B0' : Hid (At W1 q m d ys) := B0.out.below hbn
  clear B0
  have B0 := B0'
  clear B0'
  have Qx' : Hid (At W1 p1 m1 c1 u1) := Qx.out.below hbn
  clear Qx
  have Qx := Qx'
  clear Qx'
  have hbw' := Below.on hbw hbn
  clear hbw
  have hbw := hbw'
  clear hbw'
  clear hbn
  generalize v1.heap.size = gx at *
  have Xx := Xx0
  clear Xx0
  clear Xa
  refine (formed_any sb B0.out HNM.out.2).mono ?_
  rintro e v2 ⟨s2, p2, m2, c2, u2, o2, rfl, ho2, hA2, hn2, ht2, hb2⟩
  have Yb : Hid (Box v2 gb (.bool sb) (.slice q m d)) := Xb.out.below hb2
  clear Xb
  have Xb := Yb
  clear Yb
  have Yx : Hid (Box v2 gx (.bool s1) (.slice p1 m1 c1)) := Xx.out.below hb2
  clear Xx
  have Xx := Yx
  clear Yx
  have HT' : Hid (Tab v2) := HT.out.below hb2
  clear HT
  have HT := HT'
  clear HT'
  have B0' : Hid (At v2 q m d ys) := B0.out.below hb2
  clear B0
  have B0 := B0'
  clear B0'
  have Qx' : Hid (At v2 p1 m1 c1 u1) := Qx.out.below hb2
  clear Qx
  have Qx := Qx'
  clear Qx'
  have hbw' := Below.on hbw hb2
  clear hbw
  have hbw := hbw'
  clear hbw'
  clear hb2
  obtain ⟨ay, hay⟩ : ∃ a : Nat, a = valB B64 ys := ⟨_, rfl⟩
  rw [← hay] at hn2 ht2
  have Fy : Hid (Nf B64 u2 ay ∧ (s2 = true → 0 < ay) ∧ o2 = decide (m2 ≤ 8192)) := ⟨hn2, ht2, ho2⟩
  have Qy : Hid (At v2 p2 m2 c2 u2) := hA2
  clear hn2 ht2 ho2 hA2 hay
  clear B0
  go_wp2_with fail
  have Xy0 : Hid (Box (v2.alloc (.cells #[.bool s2, .slice p2 m2 c2] 35)) v2.heap.size (.bool s2) (.slice p2 m2 c2)) := Box.new v2 _ _ _
  have hbn : Below v2.heap.size v2 (v2.alloc (.cells #[.bool s2, .slice p2 m2 c2] 35)) := below1 v2 _
  generalize v2.alloc (.cells #[.bool s2, .slice p2 m2 c2] 35) = W2 at *
  have HGy : Hid (w.heap.size ≤ v2.heap.size) := hbw.size
  have Yb : Hid (Box W2 gb (.bool sb) (.slice q m d)) := Xb.out.below hbn
  clear Xb
  have Xb := Yb
  clear Yb
  have Yx : Hid (Box W2 gx (.bool s1) (.slice p1 m1 c1)) := Xx.out.below hbn
  clear Xx
  have Xx := Yx
  clear Yx
  have HT' : Hid (Tab W2) := HT.out.below hbn
  clear HT
  have HT := HT'
  clear HT'
  have Qx' : Hid (At W2 p1 m1 c1 u1) := Qx.out.below hbn
  clear Qx
  have Qx := Qx'
  clear Qx'
  have Qy' : Hid (At W2 p2 m2 c2 u2) := Qy.out.below hbn
  clear Qy
  have Qy := Qy'
  clear Qy'
  have hbw' := Below.on hbw hbn
  clear hbw
  have hbw := hbw'
  clear hbw'
  clear hbn
  generalize v2.heap.size = gy at *
  have Xy := Xy0
  clear Xy0
  clear Xb
  refine (awake4_any _).mono ?_
  rintro e v3 ⟨rfl, hb3⟩
  have Yx : Hid (Box v3 gx (.bool s1) (.slice p1 m1 c1)) := Xx.out.below hb3
  clear Xx
  have Xx := Yx
  clear Yx
  have Yy : Hid (Box v3 gy (.bool s2) (.slice p2 m2 c2)) := Xy.out.below hb3
  clear Xy
  have Xy := Yy
  clear Yy
  have HT' : Hid (Tab v3) := HT.out.below hb3
  clear HT
  have HT := HT'
  clear HT'
  have Qx' : Hid (At v3 p1 m1 c1 u1) := Qx.out.below hb3
  clear Qx
  have Qx := Qx'
  clear Qx'
  have Qy' : Hid (At v3 p2 m2 c2 u2) := Qy.out.below hb3
  clear Qy
  have Qy := Qy'
  clear Qy'
  have hbw' := Below.on hbw hb3
  clear hbw
  have hbw := hbw'
  clear hbw'
  clear hb3
  go_wp2_with fail
  refine (halves_any _ HT.out).mono ?_
  rintro e v4 ⟨rfl, hb4⟩
  have Yx : Hid (Box v4 gx (.bool s1) (.slice p1 m1 c1)) := Xx.out.below hb4
  clear Xx
  have Xx := Yx
  clear Yx
  have Yy : Hid (Box v4 gy (.bool s2) (.slice p2 m2 c2)) := Xy.out.below hb4
  clear Xy
  have Xy := Yy
  clear Yy
  have HT' : Hid (Tab v4) := HT.out.below hb4
  clear HT
  have HT := HT'
  clear HT'
  have Qx' : Hid (At v4 p1 m1 c1 u1) := Qx.out.below hb4
  clear Qx
  have Qx := Qx'
  clear Qx'
  have Qy' : Hid (At v4 p2 m2 c2 u2) := Qy.out.below hb4
  clear Qy
  have Qy := Qy'
  clear Qy'
  have hbw' := Below.on hbw hb4
  clear hbw
  have hbw := hbw'
  clear hbw'
  clear hb4
  cases o1
  · go_wp2_with fail
    go_ret
    exact ⟨rfl, hbw⟩
  cases o2
  · go_wp2_with fail
    go_ret
    exact ⟨rfl, hbw⟩
  obtain ⟨x, hx⟩ : ∃ z, z = iv s1 ax := ⟨_, rfl⟩
  have Zx : Hid (ZN v4 s1 p1 m1 c1 x) := (ZN.of ⟨Qx.out, Fx.out.1, of_decide_eq_true Fx.out.2.2.symm⟩ Fx.out.2.1).cast hx.symm
  clear hx
  clear Qx
  obtain ⟨y, hy⟩ : ∃ z, z = iv s2 ay := ⟨_, rfl⟩
  have Zy : Hid (ZN v4 s2 p2 m2 c2 y) := (ZN.of ⟨Qy.out, Fy.out.1, of_decide_eq_true Fy.out.2.2.symm⟩ Fy.out.2.1).cast hy.symm
  clear hy
  clear Qy
  obtain ⟨cy0, cy1, fy0, fy1⟩ := Xy.out
  have hney : gy < v4.heap.size := World.block_lt_of_cell? v4 _ cy0
  go_wp2_with fail
  clear cy0 cy1 fy0 fy1 hney
  by_cases hy : y = 0
  · have HY : Hid (y = 0) := hy
    clear hy
    refine (zsign Zy.out).mono ?_
    rintro e v5 ⟨rfl, hb5⟩
    rw [show sgnI y = 0 from by rw [HY.out]; rfl]
    have Yx : Hid (Box v5 gx (.bool s1) (.slice p1 m1 c1)) := Xx.out.below hb5
    clear Xx
    have Xx := Yx
    clear Yx
    have Yy : Hid (Box v5 gy (.bool s2) (.slice p2 m2 c2)) := Xy.out.below hb5
    clear Xy
    have Xy := Yy
    clear Yy
    have HT' : Hid (Tab v5) := HT.out.below hb5
    clear HT
    have HT := HT'
    clear HT'
    have Zx' : Hid (ZN v5 s1 p1 m1 c1 x) := Zx.out.below hb5
    clear Zx
    have Zx := Zx'
    clear Zx'
    have Zy' : Hid (ZN v5 s2 p2 m2 c2 y) := Zy.out.below hb5
    clear Zy
    have Zy := Zy'
    clear Zy'
    have hbw' := Below.on hbw hb5
    clear hbw
    have hbw := hbw'
    clear hbw'
    clear hb5
    go_wp2_with fail
    go_ret
    exact ⟨rfl, hbw⟩
  have HY : Hid (y ≠ 0) := hy
  clear hy
  obtain ⟨sy, hsy⟩ : ∃ s, s = sgnI y := ⟨_, rfl⟩
  have sy0 : (sy == 0) = false := by rw [hsy]; unfold sgnI; have := HY.out; split; rfl; (first | rfl | (rw [if_neg this]; rfl))
  have HSY : Hid (sy = sgnI y) := hsy
  clear hsy
  refine (zsign Zy.out).mono ?_
  rintro e v5 ⟨rfl, hb5⟩
  rw [← HSY.out]
  have Yx : Hid (Box v5 gx (.bool s1) (.slice p1 m1 c1)) := Xx.out.below hb5
  clear Xx
  have Xx := Yx
  clear Yx
  have Yy : Hid (Box v5 gy (.bool s2) (.slice p2 m2 c2)) := Xy.out.below hb5
  clear Xy
  have Xy := Yy
  clear Yy
  have HT' : Hid (Tab v5) := HT.out.below hb5
  clear HT
  have HT := HT'
  clear HT'
  have Zx' : Hid (ZN v5 s1 p1 m1 c1 x) := Zx.out.below hb5
  clear Zx
  have Zx := Zx'
  clear Zx'
  have Zy' : Hid (ZN v5 s2 p2 m2 c2 y) := Zy.out.below hb5
  clear Zy
  have Zy := Zy'
  clear Zy'
  have hbw' := Below.on hbw hb5
  clear hbw
  have hbw := hbw'
  clear hbw'
  clear hb5
  obtain ⟨cx0, cx1, fx0, fx1⟩ := Xx.out
  have hnex : gx < v5.heap.size := World.block_lt_of_cell? v5 _ cx0
  obtain ⟨cy0, cy1, fy0, fy1⟩ := Xy.out
  have hney : gy < v5.heap.size := World.block_lt_of_cell? v5 _ cy0
  go_wp2_with fail
  clear cx0 cx1 fx0 fx1 hnex
  clear cy0 cy1 fy0 fy1 hney
  clear sy0
  obtain ⟨F, hF⟩ : ∃ v, v = fl (decide (x < 0) != decide (y < 0)) x.natAbs y.natAbs := ⟨_, rfl⟩
  have HF : Hid (F = fl (decide (x < 0) != decide (y < 0)) x.natAbs y.natAbs) := hF
  clear hF
  obtain ⟨C, hC⟩ : ∃ v, v = ce (decide (x < 0) != decide (y < 0)) x.natAbs y.natAbs := ⟨_, rfl⟩
  have HC : Hid (C = ce (decide (x < 0) != decide (y < 0)) x.natAbs y.natAbs) := hC
  clear hC
  obtain ⟨G, hG⟩ : ∃ v, v = ne (decide (x < 0) != decide (y < 0)) x.natAbs y.natAbs := ⟨_, rfl⟩
  have HG : Hid (G = ne (decide (x < 0) != decide (y < 0)) x.natAbs y.natAbs) := hG
  clear hG
  obtain ⟨M, hM⟩ : ∃ v, v = mo (decide (x < 0)) (decide (y < 0)) x.natAbs y.natAbs := ⟨_, rfl⟩
  have HM : Hid (M = mo (decide (x < 0)) (decide (y < 0)) x.natAbs y.natAbs) := hM
  clear hM
  have HN : Hid (Nests x y F C G M) := nests_of x y HY.out HF.out HC.out HG.out HM.out
  refine (zfdiv Zx.out Zy.out HY.out).mono ?_
  rintro e v6 ⟨⟨s6, p6, m6, rfl, hz⟩, hb6⟩
  have Yx : Hid (Box v6 gx (.bool s1) (.slice p1 m1 c1)) := Xx.out.below hb6
  clear Xx
  have Xx := Yx
  clear Yx
  have Yy : Hid (Box v6 gy (.bool s2) (.slice p2 m2 c2)) := Xy.out.below hb6
  clear Xy
  have Xy := Yy
  clear Yy
  have HT' : Hid (Tab v6) := HT.out.below hb6
  clear HT
  have HT := HT'
  clear HT'
  have Zx' : Hid (ZN v6 s1 p1 m1 c1 x) := Zx.out.below hb6
  clear Zx
  have Zx := Zx'
  clear Zx'
  have Zy' : Hid (ZN v6 s2 p2 m2 c2 y) := Zy.out.below hb6
  clear Zy
  have Zy := Zy'
  clear Zy'
  have hbw' := Below.on hbw hb6
  clear hbw
  have hbw := hbw'
  clear hbw'
  clear hb6
  have hz := hz.cast (z' := F) (HF.out.symm)
  have Zf : Hid (ZN v6 s6 p6 m6 m6 (F)) := hz
  clear hz
  obtain ⟨cx0, cx1, fx0, fx1⟩ := Xx.out
  have hnex : gx < v6.heap.size := World.block_lt_of_cell? v6 _ cx0
  obtain ⟨cy0, cy1, fy0, fy1⟩ := Xy.out
  have hney : gy < v6.heap.size := World.block_lt_of_cell? v6 _ cy0
  go_wp2_with fail
  clear cx0 cx1 fx0 fx1 hnex
  clear cy0 cy1 fy0 fy1 hney
  have Xf0 : Hid (Box (v6.alloc (.cells #[.bool s6, .slice p6 m6 m6] 35)) v6.heap.size (.bool s6) (.slice p6 m6 m6)) := Box.new v6 _ _ _
  have hbn : Below v6.heap.size v6 (v6.alloc (.cells #[.bool s6, .slice p6 m6 m6] 35)) := below1 v6 _
  generalize v6.alloc (.cells #[.bool s6, .slice p6 m6 m6] 35) = W6 at *
  have HGf : Hid (w.heap.size ≤ v6.heap.size) := hbw.size
  have Yx : Hid (Box W6 gx (.bool s1) (.slice p1 m1 c1)) := Xx.out.below hbn
  clear Xx
  have Xx := Yx
  clear Yx
  have Yy : Hid (Box W6 gy (.bool s2) (.slice p2 m2 c2)) := Xy.out.below hbn
  clear Xy
  have Xy := Yy
  clear Yy
  have HT' : Hid (Tab W6) := HT.out.below hbn
  clear HT
  have HT := HT'
  clear HT'
  have Zx' : Hid (ZN W6 s1 p1 m1 c1 x) := Zx.out.below hbn
  clear Zx
  have Zx := Zx'
  clear Zx'
  have Zy' : Hid (ZN W6 s2 p2 m2 c2 y) := Zy.out.below hbn
  clear Zy
  have Zy := Zy'
  clear Zy'
  have Zf' : Hid (ZN W6 s6 p6 m6 m6 (F)) := Zf.out.below hbn
  clear Zf
  have Zf := Zf'
  clear Zf'
  have hbw' := Below.on hbw hbn
  clear hbw
  have hbw := hbw'
  clear hbw'
  clear hbn
  generalize v6.heap.size = gf at *
  have Xf := Xf0
  clear Xf0
  refine (zcdiv Zx.out Zy.out HY.out).mono ?_
  rintro e v7 ⟨⟨s7, p7, m7, rfl, hz⟩, hb7⟩
  have Yx : Hid (Box v7 gx (.bool s1) (.slice p1 m1 c1)) := Xx.out.below hb7
  clear Xx
  have Xx := Yx
  clear Yx
  have Yy : Hid (Box v7 gy (.bool s2) (.slice p2 m2 c2)) := Xy.out.below hb7
  clear Xy
  have Xy := Yy
  clear Yy
  have Yf : Hid (Box v7 gf (.bool s6) (.slice p6 m6 m6)) := Xf.out.below hb7
  clear Xf
  have Xf := Yf
  clear Yf
  have HT' : Hid (Tab v7) := HT.out.below hb7
  clear HT
  have HT := HT'
  clear HT'
  have Zx' : Hid (ZN v7 s1 p1 m1 c1 x) := Zx.out.below hb7
  clear Zx
  have Zx := Zx'
  clear Zx'
  have Zy' : Hid (ZN v7 s2 p2 m2 c2 y) := Zy.out.below hb7
  clear Zy
  have Zy := Zy'
  clear Zy'
  have Zf' : Hid (ZN v7 s6 p6 m6 m6 (F)) := Zf.out.below hb7
  clear Zf
  have Zf := Zf'
  clear Zf'
  have hbw' := Below.on hbw hb7
  clear hbw
  have hbw := hbw'
  clear hbw'
  clear hb7
  have hz := hz.cast (z' := C) (HC.out.symm)
  have Zc : Hid (ZN v7 s7 p7 m7 m7 (C)) := hz
  clear hz
  obtain ⟨cx0, cx1, fx0, fx1⟩ := Xx.out
  have hnex : gx < v7.heap.size := World.block_lt_of_cell? v7 _ cx0
  obtain ⟨cy0, cy1, fy0, fy1⟩ := Xy.out
  have hney : gy < v7.heap.size := World.block_lt_of_cell? v7 _ cy0
  go_wp2_with fail
  clear cx0 cx1 fx0 fx1 hnex
  clear cy0 cy1 fy0 fy1 hney
  have Xc0 : Hid (Box (v7.alloc (.cells #[.bool s7, .slice p7 m7 m7] 35)) v7.heap.size (.bool s7) (.slice p7 m7 m7)) := Box.new v7 _ _ _
  have hbn : Below v7.heap.size v7 (v7.alloc (.cells #[.bool s7, .slice p7 m7 m7] 35)) := below1 v7 _
  generalize v7.alloc (.cells #[.bool s7, .slice p7 m7 m7] 35) = W7 at *
  have HGc : Hid (w.heap.size ≤ v7.heap.size) := hbw.size
  have Yx : Hid (Box W7 gx (.bool s1) (.slice p1 m1 c1)) := Xx.out.below hbn
  clear Xx
  have Xx := Yx
  clear Yx
  have Yy : Hid (Box W7 gy (.bool s2) (.slice p2 m2 c2)) := Xy.out.below hbn
  clear Xy
  have Xy := Yy
  clear Yy
  have Yf : Hid (Box W7 gf (.bool s6) (.slice p6 m6 m6)) := Xf.out.below hbn
  clear Xf
  have Xf := Yf
  clear Yf
  have HT' : Hid (Tab W7) := HT.out.below hbn
  clear HT
  have HT := HT'
  clear HT'
  have Zx' : Hid (ZN W7 s1 p1 m1 c1 x) := Zx.out.below hbn
  clear Zx
  have Zx := Zx'
  clear Zx'
  have Zy' : Hid (ZN W7 s2 p2 m2 c2 y) := Zy.out.below hbn
  clear Zy
  have Zy := Zy'
  clear Zy'
  have Zf' : Hid (ZN W7 s6 p6 m6 m6 (F)) := Zf.out.below hbn
  clear Zf
  have Zf := Zf'
  clear Zf'
  have Zc' : Hid (ZN W7 s7 p7 m7 m7 (C)) := Zc.out.below hbn
  clear Zc
  have Zc := Zc'
  clear Zc'
  have hbw' := Below.on hbw hbn
  clear hbw
  have hbw := hbw'
  clear hbw'
  clear hbn
  generalize v7.heap.size = gc at *
  have Xc := Xc0
  clear Xc0
  refine (zrdiv Zx.out Zy.out HY.out).mono ?_
  rintro e v8 ⟨⟨s8, p8, m8, rfl, hz⟩, hb8⟩
  have Yx : Hid (Box v8 gx (.bool s1) (.slice p1 m1 c1)) := Xx.out.below hb8
  clear Xx
  have Xx := Yx
  clear Yx
  have Yy : Hid (Box v8 gy (.bool s2) (.slice p2 m2 c2)) := Xy.out.below hb8
  clear Xy
  have Xy := Yy
  clear Yy
  have Yf : Hid (Box v8 gf (.bool s6) (.slice p6 m6 m6)) := Xf.out.below hb8
  clear Xf
  have Xf := Yf
  clear Yf
  have Yc : Hid (Box v8 gc (.bool s7) (.slice p7 m7 m7)) := Xc.out.below hb8
  clear Xc
  have Xc := Yc
  clear Yc
  have HT' : Hid (Tab v8) := HT.out.below hb8
  clear HT
  have HT := HT'
  clear HT'
  have Zx' : Hid (ZN v8 s1 p1 m1 c1 x) := Zx.out.below hb8
  clear Zx
  have Zx := Zx'
  clear Zx'
  have Zy' : Hid (ZN v8 s2 p2 m2 c2 y) := Zy.out.below hb8
  clear Zy
  have Zy := Zy'
  clear Zy'
  have Zf' : Hid (ZN v8 s6 p6 m6 m6 (F)) := Zf.out.below hb8
  clear Zf
  have Zf := Zf'
  clear Zf'
  have Zc' : Hid (ZN v8 s7 p7 m7 m7 (C)) := Zc.out.below hb8
  clear Zc
  have Zc := Zc'
  clear Zc'
  have hbw' := Below.on hbw hb8
  clear hbw
  have hbw := hbw'
  clear hbw'
  clear hb8
  have hz := hz.cast (z' := G) (HG.out.symm)
  have Zg : Hid (ZN v8 s8 p8 m8 m8 (G)) := hz
  clear hz
  obtain ⟨cx0, cx1, fx0, fx1⟩ := Xx.out
  have hnex : gx < v8.heap.size := World.block_lt_of_cell? v8 _ cx0
  obtain ⟨cy0, cy1, fy0, fy1⟩ := Xy.out
  have hney : gy < v8.heap.size := World.block_lt_of_cell? v8 _ cy0
  go_wp2_with fail
  clear cx0 cx1 fx0 fx1 hnex
  clear cy0 cy1 fy0 fy1 hney
  have Xg0 : Hid (Box (v8.alloc (.cells #[.bool s8, .slice p8 m8 m8] 35)) v8.heap.size (.bool s8) (.slice p8 m8 m8)) := Box.new v8 _ _ _
  have hbn : Below v8.heap.size v8 (v8.alloc (.cells #[.bool s8, .slice p8 m8 m8] 35)) := below1 v8 _
  generalize v8.alloc (.cells #[.bool s8, .slice p8 m8 m8] 35) = W8 at *
  have HGg : Hid (w.heap.size ≤ v8.heap.size) := hbw.size
  have Yx : Hid (Box W8 gx (.bool s1) (.slice p1 m1 c1)) := Xx.out.below hbn
  clear Xx
  have Xx := Yx
  clear Yx
  have Yy : Hid (Box W8 gy (.bool s2) (.slice p2 m2 c2)) := Xy.out.below hbn
  clear Xy
  have Xy := Yy
  clear Yy
  have Yf : Hid (Box W8 gf (.bool s6) (.slice p6 m6 m6)) := Xf.out.below hbn
  clear Xf
  have Xf := Yf
  clear Yf
  have Yc : Hid (Box W8 gc (.bool s7) (.slice p7 m7 m7)) := Xc.out.below hbn
  clear Xc
  have Xc := Yc
  clear Yc
  have HT' : Hid (Tab W8) := HT.out.below hbn
  clear HT
  have HT := HT'
  clear HT'
  have Zx' : Hid (ZN W8 s1 p1 m1 c1 x) := Zx.out.below hbn
  clear Zx
  have Zx := Zx'
  clear Zx'
  have Zy' : Hid (ZN W8 s2 p2 m2 c2 y) := Zy.out.below hbn
  clear Zy
  have Zy := Zy'
  clear Zy'
  have Zf' : Hid (ZN W8 s6 p6 m6 m6 (F)) := Zf.out.below hbn
  clear Zf
  have Zf := Zf'
  clear Zf'
  have Zc' : Hid (ZN W8 s7 p7 m7 m7 (C)) := Zc.out.below hbn
  clear Zc
  have Zc := Zc'
  clear Zc'
  have Zg' : Hid (ZN W8 s8 p8 m8 m8 (G)) := Zg.out.below hbn
  clear Zg
  have Zg := Zg'
  clear Zg'
  have hbw' := Below.on hbw hbn
  clear hbw
  have hbw := hbw'
  clear hbw'
  clear hbn
  generalize v8.heap.size = gg at *
  have Xg := Xg0
  clear Xg0
  refine (zmod Zx.out Zy.out HY.out).mono ?_
  rintro e v9 ⟨⟨s9, p9, m9, rfl, hz⟩, hb9⟩
  have Yx : Hid (Box v9 gx (.bool s1) (.slice p1 m1 c1)) := Xx.out.below hb9
  clear Xx
  have Xx := Yx
  clear Yx
  have Yy : Hid (Box v9 gy (.bool s2) (.slice p2 m2 c2)) := Xy.out.below hb9
  clear Xy
  have Xy := Yy
  clear Yy
  have Yf : Hid (Box v9 gf (.bool s6) (.slice p6 m6 m6)) := Xf.out.below hb9
  clear Xf
  have Xf := Yf
  clear Yf
  have Yc : Hid (Box v9 gc (.bool s7) (.slice p7 m7 m7)) := Xc.out.below hb9
  clear Xc
  have Xc := Yc
  clear Yc
  have Yg : Hid (Box v9 gg (.bool s8) (.slice p8 m8 m8)) := Xg.out.below hb9
  clear Xg
  have Xg := Yg
  clear Yg
  have HT' : Hid (Tab v9) := HT.out.below hb9
  clear HT
  have HT := HT'
  clear HT'
  have Zx' : Hid (ZN v9 s1 p1 m1 c1 x) := Zx.out.below hb9
  clear Zx
  have Zx := Zx'
  clear Zx'
  have Zy' : Hid (ZN v9 s2 p2 m2 c2 y) := Zy.out.below hb9
  clear Zy
  have Zy := Zy'
  clear Zy'
  have Zf' : Hid (ZN v9 s6 p6 m6 m6 (F)) := Zf.out.below hb9
  clear Zf
  have Zf := Zf'
  clear Zf'
  have Zc' : Hid (ZN v9 s7 p7 m7 m7 (C)) := Zc.out.below hb9
  clear Zc
  have Zc := Zc'
  clear Zc'
  have Zg' : Hid (ZN v9 s8 p8 m8 m8 (G)) := Zg.out.below hb9
  clear Zg
  have Zg := Zg'
  clear Zg'
  have hbw' := Below.on hbw hb9
  clear hbw
  have hbw := hbw'
  clear hbw'
  clear hb9
  have hz := hz.cast (z' := M) (HM.out.symm)
  have Zm : Hid (ZN v9 s9 p9 m9 m9 (M)) := hz
  clear hz
  obtain ⟨cf0, cf1, ff0, ff1⟩ := Xf.out
  have hnef : gf < v9.heap.size := World.block_lt_of_cell? v9 _ cf0
  obtain ⟨cy0, cy1, fy0, fy1⟩ := Xy.out
  have hney : gy < v9.heap.size := World.block_lt_of_cell? v9 _ cy0
  go_wp2_with fail
  clear cf0 cf1 ff0 ff1 hnef
  clear cy0 cy1 fy0 fy1 hney
  have Xm0 : Hid (Box (v9.alloc (.cells #[.bool s9, .slice p9 m9 m9] 35)) v9.heap.size (.bool s9) (.slice p9 m9 m9)) := Box.new v9 _ _ _
  have hbn : Below v9.heap.size v9 (v9.alloc (.cells #[.bool s9, .slice p9 m9 m9] 35)) := below1 v9 _
  generalize v9.alloc (.cells #[.bool s9, .slice p9 m9 m9] 35) = W9 at *
  have HGm : Hid (w.heap.size ≤ v9.heap.size) := hbw.size
  have Yx : Hid (Box W9 gx (.bool s1) (.slice p1 m1 c1)) := Xx.out.below hbn
  clear Xx
  have Xx := Yx
  clear Yx
  have Yy : Hid (Box W9 gy (.bool s2) (.slice p2 m2 c2)) := Xy.out.below hbn
  clear Xy
  have Xy := Yy
  clear Yy
  have Yf : Hid (Box W9 gf (.bool s6) (.slice p6 m6 m6)) := Xf.out.below hbn
  clear Xf
  have Xf := Yf
  clear Yf
  have Yc : Hid (Box W9 gc (.bool s7) (.slice p7 m7 m7)) := Xc.out.below hbn
  clear Xc
  have Xc := Yc
  clear Yc
  have Yg : Hid (Box W9 gg (.bool s8) (.slice p8 m8 m8)) := Xg.out.below hbn
  clear Xg
  have Xg := Yg
  clear Yg
  have HT' : Hid (Tab W9) := HT.out.below hbn
  clear HT
  have HT := HT'
  clear HT'
  have Zx' : Hid (ZN W9 s1 p1 m1 c1 x) := Zx.out.below hbn
  clear Zx
  have Zx := Zx'
  clear Zx'
  have Zy' : Hid (ZN W9 s2 p2 m2 c2 y) := Zy.out.below hbn
  clear Zy
  have Zy := Zy'
  clear Zy'
  have Zf' : Hid (ZN W9 s6 p6 m6 m6 (F)) := Zf.out.below hbn
  clear Zf
  have Zf := Zf'
  clear Zf'
  have Zc' : Hid (ZN W9 s7 p7 m7 m7 (C)) := Zc.out.below hbn
  clear Zc
  have Zc := Zc'
  clear Zc'
  have Zg' : Hid (ZN W9 s8 p8 m8 m8 (G)) := Zg.out.below hbn
  clear Zg
  have Zg := Zg'
  clear Zg'
  have Zm' : Hid (ZN W9 s9 p9 m9 m9 (M)) := Zm.out.below hbn
  clear Zm
  have Zm := Zm'
  clear Zm'
  have hbw' := Below.on hbw hbn
  clear hbw
  have hbw := hbw'
  clear hbw'
  clear hbn
  generalize v9.heap.size = gm at *
  have Xm := Xm0
  clear Xm0
  refine (zmul Zf.out Zy.out).mono ?_
  rintro e v10 ⟨ha, hb10⟩
  have Yx : Hid (Box v10 gx (.bool s1) (.slice p1 m1 c1)) := Xx.out.below hb10
  clear Xx
  have Xx := Yx
  clear Yx
  have Yy : Hid (Box v10 gy (.bool s2) (.slice p2 m2 c2)) := Xy.out.below hb10
  clear Xy
  have Xy := Yy
  clear Yy
  have Yf : Hid (Box v10 gf (.bool s6) (.slice p6 m6 m6)) := Xf.out.below hb10
  clear Xf
  have Xf := Yf
  clear Yf
  have Yc : Hid (Box v10 gc (.bool s7) (.slice p7 m7 m7)) := Xc.out.below hb10
  clear Xc
  have Xc := Yc
  clear Yc
  have Yg : Hid (Box v10 gg (.bool s8) (.slice p8 m8 m8)) := Xg.out.below hb10
  clear Xg
  have Xg := Yg
  clear Yg
  have Ym : Hid (Box v10 gm (.bool s9) (.slice p9 m9 m9)) := Xm.out.below hb10
  clear Xm
  have Xm := Ym
  clear Ym
  have HT' : Hid (Tab v10) := HT.out.below hb10
  clear HT
  have HT := HT'
  clear HT'
  have Zx' : Hid (ZN v10 s1 p1 m1 c1 x) := Zx.out.below hb10
  clear Zx
  have Zx := Zx'
  clear Zx'
  have Zy' : Hid (ZN v10 s2 p2 m2 c2 y) := Zy.out.below hb10
  clear Zy
  have Zy := Zy'
  clear Zy'
  have Zf' : Hid (ZN v10 s6 p6 m6 m6 (F)) := Zf.out.below hb10
  clear Zf
  have Zf := Zf'
  clear Zf'
  have Zc' : Hid (ZN v10 s7 p7 m7 m7 (C)) := Zc.out.below hb10
  clear Zc
  have Zc := Zc'
  clear Zc'
  have Zg' : Hid (ZN v10 s8 p8 m8 m8 (G)) := Zg.out.below hb10
  clear Zg
  have Zg := Zg'
  clear Zg'
  have Zm' : Hid (ZN v10 s9 p9 m9 m9 (M)) := Zm.out.below hb10
  clear Zm
  have Zm := Zm'
  clear Zm'
  have hbw' := Below.on hbw hb10
  clear hbw
  have hbw := hbw'
  clear hbw'
  clear hb10
  rcases ha.zn with ⟨hl, s10, p10, m10, rfl, hz⟩ | ⟨hl, rfl⟩
  rotate_left
  · have hml := zmax Zx.out Zy.out (Nat.le_trans hl (HN.out.bf))
    clear hl ha
    have hmx : ((max (m1 : Int) (m2 : Int)) == 8192) = true := by simp; omega
    have hmy : (max m1 m2 == 8192) = true := by simp; omega
    clear hml
    obtain ⟨cx0, cx1, fx0, fx1⟩ := Xx.out
    have hnex : gx < v10.heap.size := World.block_lt_of_cell? v10 _ cx0
    obtain ⟨cy0, cy1, fy0, fy1⟩ := Xy.out
    have hney : gy < v10.heap.size := World.block_lt_of_cell? v10 _ cy0
    go_wp2_with fail
    clear cx0 cx1 fx0 fx1 hnex
    clear cy0 cy1 fy0 fy1 hney
    go_ret
    exact ⟨rfl, Below.on hbw (below1 _ _)⟩
  clear ha hl
  have Zp : Hid (ZN v10 s10 p10 m10 m10 (F * y)) := hz
  clear hz
  obtain ⟨cm0, cm1, fm0, fm1⟩ := Xm.out
  have hnem : gm < v10.heap.size := World.block_lt_of_cell? v10 _ cm0
  go_wp2_with fail
  clear cm0 cm1 fm0 fm1 hnem
  have Xp0 : Hid (Box (v10.alloc (.cells #[.bool s10, .slice p10 m10 m10] 35)) v10.heap.size (.bool s10) (.slice p10 m10 m10)) := Box.new v10 _ _ _
  have hbn : Below v10.heap.size v10 (v10.alloc (.cells #[.bool s10, .slice p10 m10 m10] 35)) := below1 v10 _
  generalize v10.alloc (.cells #[.bool s10, .slice p10 m10 m10] 35) = W10 at *
  have HGp : Hid (w.heap.size ≤ v10.heap.size) := hbw.size
  have Yx : Hid (Box W10 gx (.bool s1) (.slice p1 m1 c1)) := Xx.out.below hbn
  clear Xx
  have Xx := Yx
  clear Yx
  have Yy : Hid (Box W10 gy (.bool s2) (.slice p2 m2 c2)) := Xy.out.below hbn
  clear Xy
  have Xy := Yy
  clear Yy
  have Yf : Hid (Box W10 gf (.bool s6) (.slice p6 m6 m6)) := Xf.out.below hbn
  clear Xf
  have Xf := Yf
  clear Yf
  have Yc : Hid (Box W10 gc (.bool s7) (.slice p7 m7 m7)) := Xc.out.below hbn
  clear Xc
  have Xc := Yc
  clear Yc
  have Yg : Hid (Box W10 gg (.bool s8) (.slice p8 m8 m8)) := Xg.out.below hbn
  clear Xg
  have Xg := Yg
  clear Yg
  have Ym : Hid (Box W10 gm (.bool s9) (.slice p9 m9 m9)) := Xm.out.below hbn
  clear Xm
  have Xm := Ym
  clear Ym
  have HT' : Hid (Tab W10) := HT.out.below hbn
  clear HT
  have HT := HT'
  clear HT'
  have Zx' : Hid (ZN W10 s1 p1 m1 c1 x) := Zx.out.below hbn
  clear Zx
  have Zx := Zx'
  clear Zx'
  have Zy' : Hid (ZN W10 s2 p2 m2 c2 y) := Zy.out.below hbn
  clear Zy
  have Zy := Zy'
  clear Zy'
  have Zf' : Hid (ZN W10 s6 p6 m6 m6 (F)) := Zf.out.below hbn
  clear Zf
  have Zf := Zf'
  clear Zf'
  have Zc' : Hid (ZN W10 s7 p7 m7 m7 (C)) := Zc.out.below hbn
  clear Zc
  have Zc := Zc'
  clear Zc'
  have Zg' : Hid (ZN W10 s8 p8 m8 m8 (G)) := Zg.out.below hbn
  clear Zg
  have Zg := Zg'
  clear Zg'
  have Zm' : Hid (ZN W10 s9 p9 m9 m9 (M)) := Zm.out.below hbn
  clear Zm
  have Zm := Zm'
  clear Zm'
  have Zp' : Hid (ZN W10 s10 p10 m10 m10 (F * y)) := Zp.out.below hbn
  clear Zp
  have Zp := Zp'
  clear Zp'
  have hbw' := Below.on hbw hbn
  clear hbw
  have hbw := hbw'
  clear hbw'
  clear hbn
  generalize v10.heap.size = gp at *
  have Xp := Xp0
  clear Xp0
  refine (zadd Zp.out Zm.out).mono ?_
  rintro e v11 ⟨ha, hb11⟩
  obtain ⟨s11, p11, m11, rfl, hz⟩ := ha.got (by rw [HN.out.sum]; exact Zx.out.lim)
  clear ha
  have Yx : Hid (Box v11 gx (.bool s1) (.slice p1 m1 c1)) := Xx.out.below hb11
  clear Xx
  have Xx := Yx
  clear Yx
  have Yy : Hid (Box v11 gy (.bool s2) (.slice p2 m2 c2)) := Xy.out.below hb11
  clear Xy
  have Xy := Yy
  clear Yy
  have Yf : Hid (Box v11 gf (.bool s6) (.slice p6 m6 m6)) := Xf.out.below hb11
  clear Xf
  have Xf := Yf
  clear Yf
  have Yc : Hid (Box v11 gc (.bool s7) (.slice p7 m7 m7)) := Xc.out.below hb11
  clear Xc
  have Xc := Yc
  clear Yc
  have Yg : Hid (Box v11 gg (.bool s8) (.slice p8 m8 m8)) := Xg.out.below hb11
  clear Xg
  have Xg := Yg
  clear Yg
  have Ym : Hid (Box v11 gm (.bool s9) (.slice p9 m9 m9)) := Xm.out.below hb11
  clear Xm
  have Xm := Ym
  clear Ym
  have Yp : Hid (Box v11 gp (.bool s10) (.slice p10 m10 m10)) := Xp.out.below hb11
  clear Xp
  have Xp := Yp
  clear Yp
  have HT' : Hid (Tab v11) := HT.out.below hb11
  clear HT
  have HT := HT'
  clear HT'
  have Zx' : Hid (ZN v11 s1 p1 m1 c1 x) := Zx.out.below hb11
  clear Zx
  have Zx := Zx'
  clear Zx'
  have Zy' : Hid (ZN v11 s2 p2 m2 c2 y) := Zy.out.below hb11
  clear Zy
  have Zy := Zy'
  clear Zy'
  have Zf' : Hid (ZN v11 s6 p6 m6 m6 (F)) := Zf.out.below hb11
  clear Zf
  have Zf := Zf'
  clear Zf'
  have Zc' : Hid (ZN v11 s7 p7 m7 m7 (C)) := Zc.out.below hb11
  clear Zc
  have Zc := Zc'
  clear Zc'
  have Zg' : Hid (ZN v11 s8 p8 m8 m8 (G)) := Zg.out.below hb11
  clear Zg
  have Zg := Zg'
  clear Zg'
  have Zm' : Hid (ZN v11 s9 p9 m9 m9 (M)) := Zm.out.below hb11
  clear Zm
  have Zm := Zm'
  clear Zm'
  have Zp' : Hid (ZN v11 s10 p10 m10 m10 (F * y)) := Zp.out.below hb11
  clear Zp
  have Zp := Zp'
  clear Zp'
  have hbw' := Below.on hbw hb11
  clear hbw
  have hbw := hbw'
  clear hbw'
  clear hb11
  have hz := hz.cast (z' := x) (HN.out.sum)
  have Zs : Hid (ZN v11 s11 p11 m11 m11 (x)) := hz
  clear hz
  obtain ⟨cx0, cx1, fx0, fx1⟩ := Xx.out
  have hnex : gx < v11.heap.size := World.block_lt_of_cell? v11 _ cx0
  go_wp2_with fail
  clear cx0 cx1 fx0 fx1 hnex
  have Xs0 : Hid (Box (v11.alloc (.cells #[.bool s11, .slice p11 m11 m11] 35)) v11.heap.size (.bool s11) (.slice p11 m11 m11)) := Box.new v11 _ _ _
  have hbn : Below v11.heap.size v11 (v11.alloc (.cells #[.bool s11, .slice p11 m11 m11] 35)) := below1 v11 _
  generalize v11.alloc (.cells #[.bool s11, .slice p11 m11 m11] 35) = W11 at *
  have HGs : Hid (w.heap.size ≤ v11.heap.size) := hbw.size
  have Yx : Hid (Box W11 gx (.bool s1) (.slice p1 m1 c1)) := Xx.out.below hbn
  clear Xx
  have Xx := Yx
  clear Yx
  have Yy : Hid (Box W11 gy (.bool s2) (.slice p2 m2 c2)) := Xy.out.below hbn
  clear Xy
  have Xy := Yy
  clear Yy
  have Yf : Hid (Box W11 gf (.bool s6) (.slice p6 m6 m6)) := Xf.out.below hbn
  clear Xf
  have Xf := Yf
  clear Yf
  have Yc : Hid (Box W11 gc (.bool s7) (.slice p7 m7 m7)) := Xc.out.below hbn
  clear Xc
  have Xc := Yc
  clear Yc
  have Yg : Hid (Box W11 gg (.bool s8) (.slice p8 m8 m8)) := Xg.out.below hbn
  clear Xg
  have Xg := Yg
  clear Yg
  have Ym : Hid (Box W11 gm (.bool s9) (.slice p9 m9 m9)) := Xm.out.below hbn
  clear Xm
  have Xm := Ym
  clear Ym
  have Yp : Hid (Box W11 gp (.bool s10) (.slice p10 m10 m10)) := Xp.out.below hbn
  clear Xp
  have Xp := Yp
  clear Yp
  have HT' : Hid (Tab W11) := HT.out.below hbn
  clear HT
  have HT := HT'
  clear HT'
  have Zx' : Hid (ZN W11 s1 p1 m1 c1 x) := Zx.out.below hbn
  clear Zx
  have Zx := Zx'
  clear Zx'
  have Zy' : Hid (ZN W11 s2 p2 m2 c2 y) := Zy.out.below hbn
  clear Zy
  have Zy := Zy'
  clear Zy'
  have Zf' : Hid (ZN W11 s6 p6 m6 m6 (F)) := Zf.out.below hbn
  clear Zf
  have Zf := Zf'
  clear Zf'
  have Zc' : Hid (ZN W11 s7 p7 m7 m7 (C)) := Zc.out.below hbn
  clear Zc
  have Zc := Zc'
  clear Zc'
  have Zg' : Hid (ZN W11 s8 p8 m8 m8 (G)) := Zg.out.below hbn
  clear Zg
  have Zg := Zg'
  clear Zg'
  have Zm' : Hid (ZN W11 s9 p9 m9 m9 (M)) := Zm.out.below hbn
  clear Zm
  have Zm := Zm'
  clear Zm'
  have Zp' : Hid (ZN W11 s10 p10 m10 m10 (F * y)) := Zp.out.below hbn
  clear Zp
  have Zp := Zp'
  clear Zp'
  have Zs' : Hid (ZN W11 s11 p11 m11 m11 (x)) := Zs.out.below hbn
  clear Zs
  have Zs := Zs'
  clear Zs'
  have hbw' := Below.on hbw hbn
  clear hbw
  have hbw := hbw'
  clear hbw'
  clear hbn
  generalize v11.heap.size = gs at *
  have Xs := Xs0
  clear Xs0
  obtain ⟨sm, hsm⟩ : ∃ s, s = sgnI M := ⟨_, rfl⟩
  have HSM : Hid (sm = sgnI M) := hsm
  have hq1 : IntKind.i64.wrap (-sy) = -sy := by rw [HSY.out]; unfold sgnI; split; (decide +kernel); split <;> decide +kernel
  have hq2 : (sm == -sy) = false := by rw [hsm, HSY.out]; exact sgn_apart HN.out.sg HY.out
  clear hsm
  obtain ⟨W12, hW12⟩ : ∃ W1, W1 = W11.drew := ⟨_, rfl⟩
  have hbd : Below W11.heap.size W11 W12 := by rw [hW12]; exact bDrew1 (Below.refl _ _)
  have Yx : Hid (Box W12 gx (.bool s1) (.slice p1 m1 c1)) := Xx.out.below hbd
  clear Xx
  have Xx := Yx
  clear Yx
  have Yy : Hid (Box W12 gy (.bool s2) (.slice p2 m2 c2)) := Xy.out.below hbd
  clear Xy
  have Xy := Yy
  clear Yy
  have Yf : Hid (Box W12 gf (.bool s6) (.slice p6 m6 m6)) := Xf.out.below hbd
  clear Xf
  have Xf := Yf
  clear Yf
  have Yc : Hid (Box W12 gc (.bool s7) (.slice p7 m7 m7)) := Xc.out.below hbd
  clear Xc
  have Xc := Yc
  clear Yc
  have Yg : Hid (Box W12 gg (.bool s8) (.slice p8 m8 m8)) := Xg.out.below hbd
  clear Xg
  have Xg := Yg
  clear Yg
  have Ym : Hid (Box W12 gm (.bool s9) (.slice p9 m9 m9)) := Xm.out.below hbd
  clear Xm
  have Xm := Ym
  clear Ym
  have Yp : Hid (Box W12 gp (.bool s10) (.slice p10 m10 m10)) := Xp.out.below hbd
  clear Xp
  have Xp := Yp
  clear Yp
  have Ys : Hid (Box W12 gs (.bool s11) (.slice p11 m11 m11)) := Xs.out.below hbd
  clear Xs
  have Xs := Ys
  clear Ys
  have HT' : Hid (Tab W12) := HT.out.below hbd
  clear HT
  have HT := HT'
  clear HT'
  have Zx' : Hid (ZN W12 s1 p1 m1 c1 x) := Zx.out.below hbd
  clear Zx
  have Zx := Zx'
  clear Zx'
  have Zy' : Hid (ZN W12 s2 p2 m2 c2 y) := Zy.out.below hbd
  clear Zy
  have Zy := Zy'
  clear Zy'
  have Zf' : Hid (ZN W12 s6 p6 m6 m6 (F)) := Zf.out.below hbd
  clear Zf
  have Zf := Zf'
  clear Zf'
  have Zc' : Hid (ZN W12 s7 p7 m7 m7 (C)) := Zc.out.below hbd
  clear Zc
  have Zc := Zc'
  clear Zc'
  have Zg' : Hid (ZN W12 s8 p8 m8 m8 (G)) := Zg.out.below hbd
  clear Zg
  have Zg := Zg'
  clear Zg'
  have Zm' : Hid (ZN W12 s9 p9 m9 m9 (M)) := Zm.out.below hbd
  clear Zm
  have Zm := Zm'
  clear Zm'
  have Zp' : Hid (ZN W12 s10 p10 m10 m10 (F * y)) := Zp.out.below hbd
  clear Zp
  have Zp := Zp'
  clear Zp'
  have Zs' : Hid (ZN W12 s11 p11 m11 m11 (x)) := Zs.out.below hbd
  clear Zs
  have Zs := Zs'
  clear Zs'
  have hbw' := Below.on hbw hbd
  clear hbw
  have hbw := hbw'
  clear hbw'
  clear hbd
  have HJ : Hid ((fun W' : World => W'.cell? ⟨gs, 0, none⟩ = some (.bool s11) ∧ W'.cell? ⟨gs, 1, none⟩ = some (.slice p11 m11 m11) ∧ W'.cell? ⟨gx, 0, none⟩ = some (.bool s1) ∧ W'.cell? ⟨gx, 1, none⟩ = some (.slice p1 m1 c1) ∧ W'.cell? ⟨gm, 0, none⟩ = some (.bool s9) ∧ W'.cell? ⟨gm, 1, none⟩ = some (.slice p9 m9 m9) ∧ W'.cell? ⟨gy, 0, none⟩ = some (.bool s2) ∧ W'.cell? ⟨gy, 1, none⟩ = some (.slice p2 m2 c2)) W12) := ⟨Xs.out.c0, Xs.out.c1, Xx.out.c0, Xx.out.c1, Xm.out.c0, Xm.out.c1, Xy.out.c0, Xy.out.c1⟩
  refine wp_region_J (fun W' => W'.cell? ⟨gs, 0, none⟩ = some (.bool s11) ∧ W'.cell? ⟨gs, 1, none⟩ = some (.slice p11 m11 m11) ∧ W'.cell? ⟨gx, 0, none⟩ = some (.bool s1) ∧ W'.cell? ⟨gx, 1, none⟩ = some (.slice p1 m1 c1) ∧ W'.cell? ⟨gm, 0, none⟩ = some (.bool s9) ∧ W'.cell? ⟨gm, 1, none⟩ = some (.slice p9 m9 m9) ∧ W'.cell? ⟨gy, 0, none⟩ = some (.bool s2) ∧ W'.cell? ⟨gy, 1, none⟩ = some (.slice p2 m2 c2)) (by kernel_rfl) ?_
  rw [← hW12]
  clear hW12
  refine wpJ_take (i := 0) (v := ?v1x0) rfl (by kernel_rfl) (by kernel_rfl) (by kernel_rfl) (fun _ _ _ h => h) (by kernel_rfl) ?hy1x0 HJ.out ?rest1x0
  case hy1x0 => (intro W' hJ; obtain ⟨j0, j1, j2, j3, j4, j5, j6, j7⟩ := hJ; go_simp; first | done | with_reducible rfl)
  refine wpJ_take (i := 1) (v := ?v2x1) rfl (by kernel_rfl) (by kernel_rfl) (by kernel_rfl) (fun _ _ _ h => h) (by kernel_rfl) ?hy2x1 HJ.out ?rest2x1
  case hy2x1 => (intro W' hJ; obtain ⟨j0, j1, j2, j3, j4, j5, j6, j7⟩ := hJ; go_simp; first | done | with_reducible rfl)
  refine wpJ_take (i := 2) (v := ?v3x2) rfl (by kernel_rfl) (by kernel_rfl) (by kernel_rfl) (fun _ _ _ h => h) (by kernel_rfl) ?hy3x2 HJ.out ?rest3x2
  case hy3x2 => (intro W' hJ; obtain ⟨j0, j1, j2, j3, j4, j5, j6, j7⟩ := hJ; go_simp; first | done | with_reducible rfl)
  refine wpJ_take (i := 3) (v := ?v4x3) rfl (by kernel_rfl) (by kernel_rfl) (by kernel_rfl) (fun _ _ _ h => h) (by kernel_rfl) ?hy4x3 HJ.out ?rest4x3
  case hy4x3 => (intro W' hJ; obtain ⟨j0, j1, j2, j3, j4, j5, j6, j7⟩ := hJ; go_simp; first | done | with_reducible rfl)
  refine wpJ_take (i := 4) (v := ?v5x4) rfl (by kernel_rfl) (by kernel_rfl) (by kernel_rfl) (fun _ _ _ h => h) (by kernel_rfl) ?hy5x4 HJ.out ?rest5x4
  case hy5x4 => (intro W' hJ; obtain ⟨j0, j1, j2, j3, j4, j5, j6, j7⟩ := hJ; go_simp; first | done | with_reducible rfl)
  refine wpJ_one (i := 5) (by kernel_rfl) rfl (by kernel_rfl) (fun KJ hK => ?_)
  go_simp
  refine (zsame Zs.out Zx.out).mono ?_
  rintro e v12 ⟨rfl, hb12⟩
  rw [decide_eq_true rfl]
  have Yx : Hid (Box v12 gx (.bool s1) (.slice p1 m1 c1)) := Xx.out.below hb12
  clear Xx
  have Xx := Yx
  clear Yx
  have Yy : Hid (Box v12 gy (.bool s2) (.slice p2 m2 c2)) := Xy.out.below hb12
  clear Xy
  have Xy := Yy
  clear Yy
  have Yf : Hid (Box v12 gf (.bool s6) (.slice p6 m6 m6)) := Xf.out.below hb12
  clear Xf
  have Xf := Yf
  clear Yf
  have Yc : Hid (Box v12 gc (.bool s7) (.slice p7 m7 m7)) := Xc.out.below hb12
  clear Xc
  have Xc := Yc
  clear Yc
  have Yg : Hid (Box v12 gg (.bool s8) (.slice p8 m8 m8)) := Xg.out.below hb12
  clear Xg
  have Xg := Yg
  clear Yg
  have Ym : Hid (Box v12 gm (.bool s9) (.slice p9 m9 m9)) := Xm.out.below hb12
  clear Xm
  have Xm := Ym
  clear Ym
  have Yp : Hid (Box v12 gp (.bool s10) (.slice p10 m10 m10)) := Xp.out.below hb12
  clear Xp
  have Xp := Yp
  clear Yp
  have Ys : Hid (Box v12 gs (.bool s11) (.slice p11 m11 m11)) := Xs.out.below hb12
  clear Xs
  have Xs := Ys
  clear Ys
  have HT' : Hid (Tab v12) := HT.out.below hb12
  clear HT
  have HT := HT'
  clear HT'
  have Zx' : Hid (ZN v12 s1 p1 m1 c1 x) := Zx.out.below hb12
  clear Zx
  have Zx := Zx'
  clear Zx'
  have Zy' : Hid (ZN v12 s2 p2 m2 c2 y) := Zy.out.below hb12
  clear Zy
  have Zy := Zy'
  clear Zy'
  have Zf' : Hid (ZN v12 s6 p6 m6 m6 (F)) := Zf.out.below hb12
  clear Zf
  have Zf := Zf'
  clear Zf'
  have Zc' : Hid (ZN v12 s7 p7 m7 m7 (C)) := Zc.out.below hb12
  clear Zc
  have Zc := Zc'
  clear Zc'
  have Zg' : Hid (ZN v12 s8 p8 m8 m8 (G)) := Zg.out.below hb12
  clear Zg
  have Zg := Zg'
  clear Zg'
  have Zm' : Hid (ZN v12 s9 p9 m9 m9 (M)) := Zm.out.below hb12
  clear Zm
  have Zm := Zm'
  clear Zm'
  have Zp' : Hid (ZN v12 s10 p10 m10 m10 (F * y)) := Zp.out.below hb12
  clear Zp
  have Zp := Zp'
  clear Zp'
  have Zs' : Hid (ZN v12 s11 p11 m11 m11 (x)) := Zs.out.below hb12
  clear Zs
  have Zs := Zs'
  clear Zs'
  have hbw' := Below.on hbw hb12
  clear hbw
  have hbw := hbw'
  clear hbw'
  clear hb12
  clear HJ
  have HJ : Hid ((fun W' : World => W'.cell? ⟨gs, 0, none⟩ = some (.bool s11) ∧ W'.cell? ⟨gs, 1, none⟩ = some (.slice p11 m11 m11) ∧ W'.cell? ⟨gx, 0, none⟩ = some (.bool s1) ∧ W'.cell? ⟨gx, 1, none⟩ = some (.slice p1 m1 c1) ∧ W'.cell? ⟨gm, 0, none⟩ = some (.bool s9) ∧ W'.cell? ⟨gm, 1, none⟩ = some (.slice p9 m9 m9) ∧ W'.cell? ⟨gy, 0, none⟩ = some (.bool s2) ∧ W'.cell? ⟨gy, 1, none⟩ = some (.slice p2 m2 c2)) v12) := ⟨Xs.out.c0, Xs.out.c1, Xx.out.c0, Xx.out.c1, Xm.out.c0, Xm.out.c1, Xy.out.c0, Xy.out.c1⟩
  refine hK _ _ HJ.out ?_
  clear hK
  refine wpJ_take (i := 6) (v := ?v6x6) rfl (by kernel_rfl) (by kernel_rfl) (by kernel_rfl) (fun _ _ _ h => h) (by kernel_rfl) ?hy6x6 HJ.out ?rest6x6
  case hy6x6 => (intro W' hJ; obtain ⟨j0, j1, j2, j3, j4, j5, j6, j7⟩ := hJ; go_simp; first | done | with_reducible rfl)
  refine wpJ_take (i := 7) (v := ?v7x7) rfl (by kernel_rfl) (by kernel_rfl) (by kernel_rfl) (fun _ _ _ h => h) (by kernel_rfl) ?hy7x7 HJ.out ?rest7x7
  case hy7x7 => (intro W' hJ; obtain ⟨j0, j1, j2, j3, j4, j5, j6, j7⟩ := hJ; go_simp; first | done | with_reducible rfl)
  refine wpJ_take (i := 8) (v := ?v8x8) rfl (by kernel_rfl) (by kernel_rfl) (by kernel_rfl) (fun _ _ _ h => h) (by kernel_rfl) ?hy8x8 HJ.out ?rest8x8
  case hy8x8 => (intro W' hJ; obtain ⟨j0, j1, j2, j3, j4, j5, j6, j7⟩ := hJ; go_simp; first | done | with_reducible rfl)
  refine wpJ_take (i := 9) (v := ?v9x9) rfl (by kernel_rfl) (by kernel_rfl) (by kernel_rfl) (fun _ _ _ h => h) (by kernel_rfl) ?hy9x9 HJ.out ?rest9x9
  case hy9x9 => (intro W' hJ; obtain ⟨j0, j1, j2, j3, j4, j5, j6, j7⟩ := hJ; go_simp; first | done | with_reducible rfl)
  refine wpJ_take (i := 11) (v := ?v10x11) rfl (by kernel_rfl) (by kernel_rfl) (by kernel_rfl) (fun _ _ _ h => h) (by kernel_rfl) ?hy10x11 HJ.out ?rest10x11
  case hy10x11 => (intro W' hJ; obtain ⟨j0, j1, j2, j3, j4, j5, j6, j7⟩ := hJ; go_simp; first | done | with_reducible rfl)
  refine wpJ_one (i := 10) (by kernel_rfl) rfl (by kernel_rfl) (fun KJ hK => ?_)
  go_simp
  refine (zsign Zm.out).mono ?_
  rintro e v13 ⟨rfl, hb13⟩
  rw [← HSM.out]
  have Yx : Hid (Box v13 gx (.bool s1) (.slice p1 m1 c1)) := Xx.out.below hb13
  clear Xx
  have Xx := Yx
  clear Yx
  have Yy : Hid (Box v13 gy (.bool s2) (.slice p2 m2 c2)) := Xy.out.below hb13
  clear Xy
  have Xy := Yy
  clear Yy
  have Yf : Hid (Box v13 gf (.bool s6) (.slice p6 m6 m6)) := Xf.out.below hb13
  clear Xf
  have Xf := Yf
  clear Yf
  have Yc : Hid (Box v13 gc (.bool s7) (.slice p7 m7 m7)) := Xc.out.below hb13
  clear Xc
  have Xc := Yc
  clear Yc
  have Yg : Hid (Box v13 gg (.bool s8) (.slice p8 m8 m8)) := Xg.out.below hb13
  clear Xg
  have Xg := Yg
  clear Yg
  have Ym : Hid (Box v13 gm (.bool s9) (.slice p9 m9 m9)) := Xm.out.below hb13
  clear Xm
  have Xm := Ym
  clear Ym
  have Yp : Hid (Box v13 gp (.bool s10) (.slice p10 m10 m10)) := Xp.out.below hb13
  clear Xp
  have Xp := Yp
  clear Yp
  have Ys : Hid (Box v13 gs (.bool s11) (.slice p11 m11 m11)) := Xs.out.below hb13
  clear Xs
  have Xs := Ys
  clear Ys
  have HT' : Hid (Tab v13) := HT.out.below hb13
  clear HT
  have HT := HT'
  clear HT'
  have Zx' : Hid (ZN v13 s1 p1 m1 c1 x) := Zx.out.below hb13
  clear Zx
  have Zx := Zx'
  clear Zx'
  have Zy' : Hid (ZN v13 s2 p2 m2 c2 y) := Zy.out.below hb13
  clear Zy
  have Zy := Zy'
  clear Zy'
  have Zf' : Hid (ZN v13 s6 p6 m6 m6 (F)) := Zf.out.below hb13
  clear Zf
  have Zf := Zf'
  clear Zf'
  have Zc' : Hid (ZN v13 s7 p7 m7 m7 (C)) := Zc.out.below hb13
  clear Zc
  have Zc := Zc'
  clear Zc'
  have Zg' : Hid (ZN v13 s8 p8 m8 m8 (G)) := Zg.out.below hb13
  clear Zg
  have Zg := Zg'
  clear Zg'
  have Zm' : Hid (ZN v13 s9 p9 m9 m9 (M)) := Zm.out.below hb13
  clear Zm
  have Zm := Zm'
  clear Zm'
  have Zp' : Hid (ZN v13 s10 p10 m10 m10 (F * y)) := Zp.out.below hb13
  clear Zp
  have Zp := Zp'
  clear Zp'
  have Zs' : Hid (ZN v13 s11 p11 m11 m11 (x)) := Zs.out.below hb13
  clear Zs
  have Zs := Zs'
  clear Zs'
  have hbw' := Below.on hbw hb13
  clear hbw
  have hbw := hbw'
  clear hbw'
  clear hb13
  clear HJ
  have HJ : Hid ((fun W' : World => W'.cell? ⟨gs, 0, none⟩ = some (.bool s11) ∧ W'.cell? ⟨gs, 1, none⟩ = some (.slice p11 m11 m11) ∧ W'.cell? ⟨gx, 0, none⟩ = some (.bool s1) ∧ W'.cell? ⟨gx, 1, none⟩ = some (.slice p1 m1 c1) ∧ W'.cell? ⟨gm, 0, none⟩ = some (.bool s9) ∧ W'.cell? ⟨gm, 1, none⟩ = some (.slice p9 m9 m9) ∧ W'.cell? ⟨gy, 0, none⟩ = some (.bool s2) ∧ W'.cell? ⟨gy, 1, none⟩ = some (.slice p2 m2 c2)) v13) := ⟨Xs.out.c0, Xs.out.c1, Xx.out.c0, Xx.out.c1, Xm.out.c0, Xm.out.c1, Xy.out.c0, Xy.out.c1⟩
  refine hK _ _ HJ.out ?_
  clear hK
  refine wpJ_one (i := 12) (by kernel_rfl) rfl (by kernel_rfl) (fun KJ hK => ?_)
  go_simp
  refine (zsign Zy.out).mono ?_
  rintro e v14 ⟨rfl, hb14⟩
  rw [← HSY.out]
  have Yx : Hid (Box v14 gx (.bool s1) (.slice p1 m1 c1)) := Xx.out.below hb14
  clear Xx
  have Xx := Yx
  clear Yx
  have Yy : Hid (Box v14 gy (.bool s2) (.slice p2 m2 c2)) := Xy.out.below hb14
  clear Xy
  have Xy := Yy
  clear Yy
  have Yf : Hid (Box v14 gf (.bool s6) (.slice p6 m6 m6)) := Xf.out.below hb14
  clear Xf
  have Xf := Yf
  clear Yf
  have Yc : Hid (Box v14 gc (.bool s7) (.slice p7 m7 m7)) := Xc.out.below hb14
  clear Xc
  have Xc := Yc
  clear Yc
  have Yg : Hid (Box v14 gg (.bool s8) (.slice p8 m8 m8)) := Xg.out.below hb14
  clear Xg
  have Xg := Yg
  clear Yg
  have Ym : Hid (Box v14 gm (.bool s9) (.slice p9 m9 m9)) := Xm.out.below hb14
  clear Xm
  have Xm := Ym
  clear Ym
  have Yp : Hid (Box v14 gp (.bool s10) (.slice p10 m10 m10)) := Xp.out.below hb14
  clear Xp
  have Xp := Yp
  clear Yp
  have Ys : Hid (Box v14 gs (.bool s11) (.slice p11 m11 m11)) := Xs.out.below hb14
  clear Xs
  have Xs := Ys
  clear Ys
  have HT' : Hid (Tab v14) := HT.out.below hb14
  clear HT
  have HT := HT'
  clear HT'
  have Zx' : Hid (ZN v14 s1 p1 m1 c1 x) := Zx.out.below hb14
  clear Zx
  have Zx := Zx'
  clear Zx'
  have Zy' : Hid (ZN v14 s2 p2 m2 c2 y) := Zy.out.below hb14
  clear Zy
  have Zy := Zy'
  clear Zy'
  have Zf' : Hid (ZN v14 s6 p6 m6 m6 (F)) := Zf.out.below hb14
  clear Zf
  have Zf := Zf'
  clear Zf'
  have Zc' : Hid (ZN v14 s7 p7 m7 m7 (C)) := Zc.out.below hb14
  clear Zc
  have Zc := Zc'
  clear Zc'
  have Zg' : Hid (ZN v14 s8 p8 m8 m8 (G)) := Zg.out.below hb14
  clear Zg
  have Zg := Zg'
  clear Zg'
  have Zm' : Hid (ZN v14 s9 p9 m9 m9 (M)) := Zm.out.below hb14
  clear Zm
  have Zm := Zm'
  clear Zm'
  have Zp' : Hid (ZN v14 s10 p10 m10 m10 (F * y)) := Zp.out.below hb14
  clear Zp
  have Zp := Zp'
  clear Zp'
  have Zs' : Hid (ZN v14 s11 p11 m11 m11 (x)) := Zs.out.below hb14
  clear Zs
  have Zs := Zs'
  clear Zs'
  have hbw' := Below.on hbw hb14
  clear hbw
  have hbw := hbw'
  clear hbw'
  clear hb14
  clear HJ
  have HJ : Hid ((fun W' : World => W'.cell? ⟨gs, 0, none⟩ = some (.bool s11) ∧ W'.cell? ⟨gs, 1, none⟩ = some (.slice p11 m11 m11) ∧ W'.cell? ⟨gx, 0, none⟩ = some (.bool s1) ∧ W'.cell? ⟨gx, 1, none⟩ = some (.slice p1 m1 c1) ∧ W'.cell? ⟨gm, 0, none⟩ = some (.bool s9) ∧ W'.cell? ⟨gm, 1, none⟩ = some (.slice p9 m9 m9) ∧ W'.cell? ⟨gy, 0, none⟩ = some (.bool s2) ∧ W'.cell? ⟨gy, 1, none⟩ = some (.slice p2 m2 c2)) v14) := ⟨Xs.out.c0, Xs.out.c1, Xx.out.c0, Xx.out.c1, Xm.out.c0, Xm.out.c1, Xy.out.c0, Xy.out.c1⟩
  refine hK _ _ HJ.out ?_
  clear hK
  refine wpJ_take (i := 13) (v := ?v11x13) rfl (by kernel_rfl) (by kernel_rfl) (by kernel_rfl) (fun _ _ _ h => h) (by kernel_rfl) ?hy11x13 HJ.out ?rest11x13
  case hy11x13 => (intro W' hJ; obtain ⟨j0, j1, j2, j3, j4, j5, j6, j7⟩ := hJ; go_simp; first | done | with_reducible rfl)
  refine wpJ_take (i := 14) (v := ?v12x14) rfl (by kernel_rfl) (by kernel_rfl) (by kernel_rfl) (fun _ _ _ h => h) (by kernel_rfl) ?hy12x14 HJ.out ?rest12x14
  case hy12x14 => (intro W' hJ; obtain ⟨j0, j1, j2, j3, j4, j5, j6, j7⟩ := hJ; go_simp; first | done | with_reducible rfl)
  refine wpJ_take (i := 15) (v := ?v13x15) rfl (by kernel_rfl) (by kernel_rfl) (by kernel_rfl) (fun _ _ _ h => h) (by kernel_rfl) ?hy13x15 HJ.out ?rest13x15
  case hy13x15 => (intro W' hJ; obtain ⟨j0, j1, j2, j3, j4, j5, j6, j7⟩ := hJ; go_simp; first | done | with_reducible rfl)
  refine wpJ_done (by kernel_rfl) ?_ _
  clear HJ
  clear Xs
  clear Zs
  clear Xp
  clear Zp
  obtain ⟨cc0, cc1, fc0, fc1⟩ := Xc.out
  have hnec : gc < v14.heap.size := World.block_lt_of_cell? v14 _ cc0
  obtain ⟨cf0, cf1, ff0, ff1⟩ := Xf.out
  have hnef : gf < v14.heap.size := World.block_lt_of_cell? v14 _ cf0
  go_wp2_with fail
  clear cc0 cc1 fc0 fc1 hnec
  clear cf0 cf1 ff0 ff1 hnef
  clear hq1 hq2
  obtain ⟨st, hst⟩ : ∃ s, s = C - F := ⟨_, rfl⟩
  obtain ⟨b0, hb0⟩ : ∃ b, b = decide (M = 0) := ⟨_, rfl⟩
  have HST : Hid (st = C - F ∧ b0 = decide (M = 0)) := ⟨hst, hb0⟩
  have hstv : st = if M = 0 then 0 else 1 := by rw [hst]; exact HN.out.step
  have hs0 : decide (st = 0) = b0 := by rw [hstv, hb0]; by_cases h : M = 0 <;> simp [h]
  have hs1 : decide (st = 1) = !b0 := by rw [hstv, hb0]; by_cases h : M = 0 <;> simp [h]
  have hs2 : (sm == 0) = b0 := by rw [HSM.out, hb0]; exact sgn_zero M
  have hs3 : (sm != 0) = !b0 := by rw [bne, hs2]
  have HS4 : Hid (st.natAbs < LIM ∧ decide (st = 0) = b0 ∧ decide (st = 1) = !b0) := ⟨small_lim (by rw [hstv]; split <;> decide), hs0, hs1⟩
  have hs5 : (b0 != b0) = false := by simp
  have hs6 : ((!b0) != (!b0)) = false := by simp
  clear hst hb0 hstv hs0 hs1
  refine (zsub Zc.out Zf.out).mono ?_
  rintro e v15 ⟨ha, hb15⟩
  obtain ⟨s15, p15, m15, rfl, hz⟩ := ha.got (by rw [← HST.out.1]; exact HS4.out.1)
  clear ha
  have Yx : Hid (Box v15 gx (.bool s1) (.slice p1 m1 c1)) := Xx.out.below hb15
  clear Xx
  have Xx := Yx
  clear Yx
  have Yy : Hid (Box v15 gy (.bool s2) (.slice p2 m2 c2)) := Xy.out.below hb15
  clear Xy
  have Xy := Yy
  clear Yy
  have Yf : Hid (Box v15 gf (.bool s6) (.slice p6 m6 m6)) := Xf.out.below hb15
  clear Xf
  have Xf := Yf
  clear Yf
  have Yc : Hid (Box v15 gc (.bool s7) (.slice p7 m7 m7)) := Xc.out.below hb15
  clear Xc
  have Xc := Yc
  clear Yc
  have Yg : Hid (Box v15 gg (.bool s8) (.slice p8 m8 m8)) := Xg.out.below hb15
  clear Xg
  have Xg := Yg
  clear Yg
  have Ym : Hid (Box v15 gm (.bool s9) (.slice p9 m9 m9)) := Xm.out.below hb15
  clear Xm
  have Xm := Ym
  clear Ym
  have HT' : Hid (Tab v15) := HT.out.below hb15
  clear HT
  have HT := HT'
  clear HT'
  have Zx' : Hid (ZN v15 s1 p1 m1 c1 x) := Zx.out.below hb15
  clear Zx
  have Zx := Zx'
  clear Zx'
  have Zy' : Hid (ZN v15 s2 p2 m2 c2 y) := Zy.out.below hb15
  clear Zy
  have Zy := Zy'
  clear Zy'
  have Zf' : Hid (ZN v15 s6 p6 m6 m6 (F)) := Zf.out.below hb15
  clear Zf
  have Zf := Zf'
  clear Zf'
  have Zc' : Hid (ZN v15 s7 p7 m7 m7 (C)) := Zc.out.below hb15
  clear Zc
  have Zc := Zc'
  clear Zc'
  have Zg' : Hid (ZN v15 s8 p8 m8 m8 (G)) := Zg.out.below hb15
  clear Zg
  have Zg := Zg'
  clear Zg'
  have Zm' : Hid (ZN v15 s9 p9 m9 m9 (M)) := Zm.out.below hb15
  clear Zm
  have Zm := Zm'
  clear Zm'
  have hbw' := Below.on hbw hb15
  clear hbw
  have hbw := hbw'
  clear hbw'
  clear hb15
  have hz := hz.cast (z' := st) (HST.out.1.symm)
  have Zstep : Hid (ZN v15 s15 p15 m15 m15 (st)) := hz
  clear hz
  go_wp2_with fail
  have Xstep0 : Hid (Box (v15.alloc (.cells #[.bool s15, .slice p15 m15 m15] 35)) v15.heap.size (.bool s15) (.slice p15 m15 m15)) := Box.new v15 _ _ _
  have hbn : Below v15.heap.size v15 (v15.alloc (.cells #[.bool s15, .slice p15 m15 m15] 35)) := below1 v15 _
  generalize v15.alloc (.cells #[.bool s15, .slice p15 m15 m15] 35) = W15 at *
  have HGstep : Hid (w.heap.size ≤ v15.heap.size) := hbw.size
  have Yx : Hid (Box W15 gx (.bool s1) (.slice p1 m1 c1)) := Xx.out.below hbn
  clear Xx
  have Xx := Yx
  clear Yx
  have Yy : Hid (Box W15 gy (.bool s2) (.slice p2 m2 c2)) := Xy.out.below hbn
  clear Xy
  have Xy := Yy
  clear Yy
  have Yf : Hid (Box W15 gf (.bool s6) (.slice p6 m6 m6)) := Xf.out.below hbn
  clear Xf
  have Xf := Yf
  clear Yf
  have Yc : Hid (Box W15 gc (.bool s7) (.slice p7 m7 m7)) := Xc.out.below hbn
  clear Xc
  have Xc := Yc
  clear Yc
  have Yg : Hid (Box W15 gg (.bool s8) (.slice p8 m8 m8)) := Xg.out.below hbn
  clear Xg
  have Xg := Yg
  clear Yg
  have Ym : Hid (Box W15 gm (.bool s9) (.slice p9 m9 m9)) := Xm.out.below hbn
  clear Xm
  have Xm := Ym
  clear Ym
  have HT' : Hid (Tab W15) := HT.out.below hbn
  clear HT
  have HT := HT'
  clear HT'
  have Zx' : Hid (ZN W15 s1 p1 m1 c1 x) := Zx.out.below hbn
  clear Zx
  have Zx := Zx'
  clear Zx'
  have Zy' : Hid (ZN W15 s2 p2 m2 c2 y) := Zy.out.below hbn
  clear Zy
  have Zy := Zy'
  clear Zy'
  have Zf' : Hid (ZN W15 s6 p6 m6 m6 (F)) := Zf.out.below hbn
  clear Zf
  have Zf := Zf'
  clear Zf'
  have Zc' : Hid (ZN W15 s7 p7 m7 m7 (C)) := Zc.out.below hbn
  clear Zc
  have Zc := Zc'
  clear Zc'
  have Zg' : Hid (ZN W15 s8 p8 m8 m8 (G)) := Zg.out.below hbn
  clear Zg
  have Zg := Zg'
  clear Zg'
  have Zm' : Hid (ZN W15 s9 p9 m9 m9 (M)) := Zm.out.below hbn
  clear Zm
  have Zm := Zm'
  clear Zm'
  have Zstep' : Hid (ZN W15 s15 p15 m15 m15 (st)) := Zstep.out.below hbn
  clear Zstep
  have Zstep := Zstep'
  clear Zstep'
  have hbw' := Below.on hbw hbn
  clear hbw
  have hbw := hbw'
  clear hbw'
  clear hbn
  generalize v15.heap.size = gstep at *
  have Xstep := Xstep0
  clear Xstep0
  obtain ⟨W16, hW16⟩ : ∃ W1, W1 = W15.drew := ⟨_, rfl⟩
  have hbd : Below W15.heap.size W15 W16 := by rw [hW16]; exact bDrew1 (Below.refl _ _)
  have Yx : Hid (Box W16 gx (.bool s1) (.slice p1 m1 c1)) := Xx.out.below hbd
  clear Xx
  have Xx := Yx
  clear Yx
  have Yy : Hid (Box W16 gy (.bool s2) (.slice p2 m2 c2)) := Xy.out.below hbd
  clear Xy
  have Xy := Yy
  clear Yy
  have Yf : Hid (Box W16 gf (.bool s6) (.slice p6 m6 m6)) := Xf.out.below hbd
  clear Xf
  have Xf := Yf
  clear Yf
  have Yc : Hid (Box W16 gc (.bool s7) (.slice p7 m7 m7)) := Xc.out.below hbd
  clear Xc
  have Xc := Yc
  clear Yc
  have Yg : Hid (Box W16 gg (.bool s8) (.slice p8 m8 m8)) := Xg.out.below hbd
  clear Xg
  have Xg := Yg
  clear Yg
  have Ym : Hid (Box W16 gm (.bool s9) (.slice p9 m9 m9)) := Xm.out.below hbd
  clear Xm
  have Xm := Ym
  clear Ym
  have Ystep : Hid (Box W16 gstep (.bool s15) (.slice p15 m15 m15)) := Xstep.out.below hbd
  clear Xstep
  have Xstep := Ystep
  clear Ystep
  have HT' : Hid (Tab W16) := HT.out.below hbd
  clear HT
  have HT := HT'
  clear HT'
  have Zx' : Hid (ZN W16 s1 p1 m1 c1 x) := Zx.out.below hbd
  clear Zx
  have Zx := Zx'
  clear Zx'
  have Zy' : Hid (ZN W16 s2 p2 m2 c2 y) := Zy.out.below hbd
  clear Zy
  have Zy := Zy'
  clear Zy'
  have Zf' : Hid (ZN W16 s6 p6 m6 m6 (F)) := Zf.out.below hbd
  clear Zf
  have Zf := Zf'
  clear Zf'
  have Zc' : Hid (ZN W16 s7 p7 m7 m7 (C)) := Zc.out.below hbd
  clear Zc
  have Zc := Zc'
  clear Zc'
  have Zg' : Hid (ZN W16 s8 p8 m8 m8 (G)) := Zg.out.below hbd
  clear Zg
  have Zg := Zg'
  clear Zg'
  have Zm' : Hid (ZN W16 s9 p9 m9 m9 (M)) := Zm.out.below hbd
  clear Zm
  have Zm := Zm'
  clear Zm'
  have Zstep' : Hid (ZN W16 s15 p15 m15 m15 (st)) := Zstep.out.below hbd
  clear Zstep
  have Zstep := Zstep'
  clear Zstep'
  have hbw' := Below.on hbw hbd
  clear hbw
  have hbw := hbw'
  clear hbw'
  clear hbd
  have HJ : Hid ((fun W' : World => W'.cell? ⟨gstep, 0, none⟩ = some (.bool s15) ∧ W'.cell? ⟨gstep, 1, none⟩ = some (.slice p15 m15 m15) ∧ W'.cell? ⟨gm, 0, none⟩ = some (.bool s9) ∧ W'.cell? ⟨gm, 1, none⟩ = some (.slice p9 m9 m9)) W16) := ⟨Xstep.out.c0, Xstep.out.c1, Xm.out.c0, Xm.out.c1⟩
  refine wp_region_J (fun W' => W'.cell? ⟨gstep, 0, none⟩ = some (.bool s15) ∧ W'.cell? ⟨gstep, 1, none⟩ = some (.slice p15 m15 m15) ∧ W'.cell? ⟨gm, 0, none⟩ = some (.bool s9) ∧ W'.cell? ⟨gm, 1, none⟩ = some (.slice p9 m9 m9)) (by kernel_rfl) ?_
  rw [← hW16]
  clear hW16
  refine wpJ_take (i := 0) (v := ?v14x0) rfl (by kernel_rfl) (by kernel_rfl) (by kernel_rfl) (fun _ _ _ h => h) (by kernel_rfl) ?hy14x0 HJ.out ?rest14x0
  case hy14x0 => (intro W' hJ; obtain ⟨j0, j1, j2, j3⟩ := hJ; go_simp; first | done | with_reducible rfl)
  refine wpJ_take (i := 1) (v := ?v15x1) rfl (by kernel_rfl) (by kernel_rfl) (by kernel_rfl) (fun _ _ _ h => h) (by kernel_rfl) ?hy15x1 HJ.out ?rest15x1
  case hy15x1 => (intro W' hJ; obtain ⟨j0, j1, j2, j3⟩ := hJ; go_simp; first | done | with_reducible rfl)
  refine wpJ_take (i := 2) (v := ?v16x2) rfl (by kernel_rfl) (by kernel_rfl) (by kernel_rfl) (fun _ _ _ h => h) (by kernel_rfl) ?hy16x2 HJ.out ?rest16x2
  case hy16x2 => (intro W' hJ; obtain ⟨j0, j1, j2, j3⟩ := hJ; go_simp; first | done | with_reducible rfl)
  refine wpJ_take (i := 3) (v := ?v17x3) rfl (by kernel_rfl) (by kernel_rfl) (by kernel_rfl) (fun _ _ _ h => h) (by kernel_rfl) ?hy17x3 HJ.out ?rest17x3
  case hy17x3 => (intro W' hJ; obtain ⟨j0, j1, j2, j3⟩ := hJ; go_simp; first | done | with_reducible rfl)
  refine wpJ_take (i := 6) (v := ?v18x6) rfl (by kernel_rfl) (by kernel_rfl) (by kernel_rfl) (fun _ _ _ h => h) (by kernel_rfl) ?hy18x6 HJ.out ?rest18x6
  case hy18x6 => (intro W' hJ; obtain ⟨j0, j1, j2, j3⟩ := hJ; go_simp; first | done | with_reducible rfl)
  refine wpJ_one (i := 4) (by kernel_rfl) rfl (by kernel_rfl) (fun KJ hK => ?_)
  go_simp
  refine (zdocof (0) W16 (by omega) (by omega)).mono ?_
  rintro e v16 ⟨s16, p16, m16, c16, rfl, hz, hb16⟩
  have Yx : Hid (Box v16 gx (.bool s1) (.slice p1 m1 c1)) := Xx.out.below hb16
  clear Xx
  have Xx := Yx
  clear Yx
  have Yy : Hid (Box v16 gy (.bool s2) (.slice p2 m2 c2)) := Xy.out.below hb16
  clear Xy
  have Xy := Yy
  clear Yy
  have Yf : Hid (Box v16 gf (.bool s6) (.slice p6 m6 m6)) := Xf.out.below hb16
  clear Xf
  have Xf := Yf
  clear Yf
  have Yc : Hid (Box v16 gc (.bool s7) (.slice p7 m7 m7)) := Xc.out.below hb16
  clear Xc
  have Xc := Yc
  clear Yc
  have Yg : Hid (Box v16 gg (.bool s8) (.slice p8 m8 m8)) := Xg.out.below hb16
  clear Xg
  have Xg := Yg
  clear Yg
  have Ym : Hid (Box v16 gm (.bool s9) (.slice p9 m9 m9)) := Xm.out.below hb16
  clear Xm
  have Xm := Ym
  clear Ym
  have Ystep : Hid (Box v16 gstep (.bool s15) (.slice p15 m15 m15)) := Xstep.out.below hb16
  clear Xstep
  have Xstep := Ystep
  clear Ystep
  have HT' : Hid (Tab v16) := HT.out.below hb16
  clear HT
  have HT := HT'
  clear HT'
  have Zx' : Hid (ZN v16 s1 p1 m1 c1 x) := Zx.out.below hb16
  clear Zx
  have Zx := Zx'
  clear Zx'
  have Zy' : Hid (ZN v16 s2 p2 m2 c2 y) := Zy.out.below hb16
  clear Zy
  have Zy := Zy'
  clear Zy'
  have Zf' : Hid (ZN v16 s6 p6 m6 m6 (F)) := Zf.out.below hb16
  clear Zf
  have Zf := Zf'
  clear Zf'
  have Zc' : Hid (ZN v16 s7 p7 m7 m7 (C)) := Zc.out.below hb16
  clear Zc
  have Zc := Zc'
  clear Zc'
  have Zg' : Hid (ZN v16 s8 p8 m8 m8 (G)) := Zg.out.below hb16
  clear Zg
  have Zg := Zg'
  clear Zg'
  have Zm' : Hid (ZN v16 s9 p9 m9 m9 (M)) := Zm.out.below hb16
  clear Zm
  have Zm := Zm'
  clear Zm'
  have Zstep' : Hid (ZN v16 s15 p15 m15 m15 (st)) := Zstep.out.below hb16
  clear Zstep
  have Zstep := Zstep'
  clear Zstep'
  have hbw' := Below.on hbw hb16
  clear hbw
  have hbw := hbw'
  clear hbw'
  clear hb16
  have Zd0 : Hid (ZN v16 s16 p16 m16 c16 (0)) := hz
  clear hz
  clear HJ
  have HJ : Hid ((fun W' : World => W'.cell? ⟨gstep, 0, none⟩ = some (.bool s15) ∧ W'.cell? ⟨gstep, 1, none⟩ = some (.slice p15 m15 m15) ∧ W'.cell? ⟨gm, 0, none⟩ = some (.bool s9) ∧ W'.cell? ⟨gm, 1, none⟩ = some (.slice p9 m9 m9)) v16) := ⟨Xstep.out.c0, Xstep.out.c1, Xm.out.c0, Xm.out.c1⟩
  refine hK _ _ HJ.out ?_
  clear hK
  refine wpJ_one (i := 5) (by kernel_rfl) rfl (by kernel_rfl) (fun KJ hK => ?_)
  go_simp
  refine (zsame Zstep.out Zd0.out).mono ?_
  rintro e v17 ⟨rfl, hb17⟩
  rw [HS4.out.2.1]
  have Yx : Hid (Box v17 gx (.bool s1) (.slice p1 m1 c1)) := Xx.out.below hb17
  clear Xx
  have Xx := Yx
  clear Yx
  have Yy : Hid (Box v17 gy (.bool s2) (.slice p2 m2 c2)) := Xy.out.below hb17
  clear Xy
  have Xy := Yy
  clear Yy
  have Yf : Hid (Box v17 gf (.bool s6) (.slice p6 m6 m6)) := Xf.out.below hb17
  clear Xf
  have Xf := Yf
  clear Yf
  have Yc : Hid (Box v17 gc (.bool s7) (.slice p7 m7 m7)) := Xc.out.below hb17
  clear Xc
  have Xc := Yc
  clear Yc
  have Yg : Hid (Box v17 gg (.bool s8) (.slice p8 m8 m8)) := Xg.out.below hb17
  clear Xg
  have Xg := Yg
  clear Yg
  have Ym : Hid (Box v17 gm (.bool s9) (.slice p9 m9 m9)) := Xm.out.below hb17
  clear Xm
  have Xm := Ym
  clear Ym
  have Ystep : Hid (Box v17 gstep (.bool s15) (.slice p15 m15 m15)) := Xstep.out.below hb17
  clear Xstep
  have Xstep := Ystep
  clear Ystep
  have HT' : Hid (Tab v17) := HT.out.below hb17
  clear HT
  have HT := HT'
  clear HT'
  have Zx' : Hid (ZN v17 s1 p1 m1 c1 x) := Zx.out.below hb17
  clear Zx
  have Zx := Zx'
  clear Zx'
  have Zy' : Hid (ZN v17 s2 p2 m2 c2 y) := Zy.out.below hb17
  clear Zy
  have Zy := Zy'
  clear Zy'
  have Zf' : Hid (ZN v17 s6 p6 m6 m6 (F)) := Zf.out.below hb17
  clear Zf
  have Zf := Zf'
  clear Zf'
  have Zc' : Hid (ZN v17 s7 p7 m7 m7 (C)) := Zc.out.below hb17
  clear Zc
  have Zc := Zc'
  clear Zc'
  have Zg' : Hid (ZN v17 s8 p8 m8 m8 (G)) := Zg.out.below hb17
  clear Zg
  have Zg := Zg'
  clear Zg'
  have Zm' : Hid (ZN v17 s9 p9 m9 m9 (M)) := Zm.out.below hb17
  clear Zm
  have Zm := Zm'
  clear Zm'
  have Zstep' : Hid (ZN v17 s15 p15 m15 m15 (st)) := Zstep.out.below hb17
  clear Zstep
  have Zstep := Zstep'
  clear Zstep'
  have Zd0' : Hid (ZN v17 s16 p16 m16 c16 (0)) := Zd0.out.below hb17
  clear Zd0
  have Zd0 := Zd0'
  clear Zd0'
  have hbw' := Below.on hbw hb17
  clear hbw
  have hbw := hbw'
  clear hbw'
  clear hb17
  clear HJ
  have HJ : Hid ((fun W' : World => W'.cell? ⟨gstep, 0, none⟩ = some (.bool s15) ∧ W'.cell? ⟨gstep, 1, none⟩ = some (.slice p15 m15 m15) ∧ W'.cell? ⟨gm, 0, none⟩ = some (.bool s9) ∧ W'.cell? ⟨gm, 1, none⟩ = some (.slice p9 m9 m9)) v17) := ⟨Xstep.out.c0, Xstep.out.c1, Xm.out.c0, Xm.out.c1⟩
  refine hK _ _ HJ.out ?_
  clear hK
  refine wpJ_one (i := 7) (by kernel_rfl) rfl (by kernel_rfl) (fun KJ hK => ?_)
  go_simp
  refine (zsign Zm.out).mono ?_
  rintro e v18 ⟨rfl, hb18⟩
  rw [← HSM.out]
  have Yx : Hid (Box v18 gx (.bool s1) (.slice p1 m1 c1)) := Xx.out.below hb18
  clear Xx
  have Xx := Yx
  clear Yx
  have Yy : Hid (Box v18 gy (.bool s2) (.slice p2 m2 c2)) := Xy.out.below hb18
  clear Xy
  have Xy := Yy
  clear Yy
  have Yf : Hid (Box v18 gf (.bool s6) (.slice p6 m6 m6)) := Xf.out.below hb18
  clear Xf
  have Xf := Yf
  clear Yf
  have Yc : Hid (Box v18 gc (.bool s7) (.slice p7 m7 m7)) := Xc.out.below hb18
  clear Xc
  have Xc := Yc
  clear Yc
  have Yg : Hid (Box v18 gg (.bool s8) (.slice p8 m8 m8)) := Xg.out.below hb18
  clear Xg
  have Xg := Yg
  clear Yg
  have Ym : Hid (Box v18 gm (.bool s9) (.slice p9 m9 m9)) := Xm.out.below hb18
  clear Xm
  have Xm := Ym
  clear Ym
  have Ystep : Hid (Box v18 gstep (.bool s15) (.slice p15 m15 m15)) := Xstep.out.below hb18
  clear Xstep
  have Xstep := Ystep
  clear Ystep
  have HT' : Hid (Tab v18) := HT.out.below hb18
  clear HT
  have HT := HT'
  clear HT'
  have Zx' : Hid (ZN v18 s1 p1 m1 c1 x) := Zx.out.below hb18
  clear Zx
  have Zx := Zx'
  clear Zx'
  have Zy' : Hid (ZN v18 s2 p2 m2 c2 y) := Zy.out.below hb18
  clear Zy
  have Zy := Zy'
  clear Zy'
  have Zf' : Hid (ZN v18 s6 p6 m6 m6 (F)) := Zf.out.below hb18
  clear Zf
  have Zf := Zf'
  clear Zf'
  have Zc' : Hid (ZN v18 s7 p7 m7 m7 (C)) := Zc.out.below hb18
  clear Zc
  have Zc := Zc'
  clear Zc'
  have Zg' : Hid (ZN v18 s8 p8 m8 m8 (G)) := Zg.out.below hb18
  clear Zg
  have Zg := Zg'
  clear Zg'
  have Zm' : Hid (ZN v18 s9 p9 m9 m9 (M)) := Zm.out.below hb18
  clear Zm
  have Zm := Zm'
  clear Zm'
  have Zstep' : Hid (ZN v18 s15 p15 m15 m15 (st)) := Zstep.out.below hb18
  clear Zstep
  have Zstep := Zstep'
  clear Zstep'
  have Zd0' : Hid (ZN v18 s16 p16 m16 c16 (0)) := Zd0.out.below hb18
  clear Zd0
  have Zd0 := Zd0'
  clear Zd0'
  have hbw' := Below.on hbw hb18
  clear hbw
  have hbw := hbw'
  clear hbw'
  clear hb18
  clear HJ
  have HJ : Hid ((fun W' : World => W'.cell? ⟨gstep, 0, none⟩ = some (.bool s15) ∧ W'.cell? ⟨gstep, 1, none⟩ = some (.slice p15 m15 m15) ∧ W'.cell? ⟨gm, 0, none⟩ = some (.bool s9) ∧ W'.cell? ⟨gm, 1, none⟩ = some (.slice p9 m9 m9)) v18) := ⟨Xstep.out.c0, Xstep.out.c1, Xm.out.c0, Xm.out.c1⟩
  refine hK _ _ HJ.out ?_
  clear hK
  refine wpJ_take (i := 8) (v := ?v19x8) rfl (by kernel_rfl) (by kernel_rfl) (by kernel_rfl) (fun _ _ _ h => h) (by kernel_rfl) ?hy19x8 HJ.out ?rest19x8
  case hy19x8 => (intro W' hJ; obtain ⟨j0, j1, j2, j3⟩ := hJ; go_simp; first | done | with_reducible rfl)
  refine wpJ_take (i := 9) (v := ?v20x9) rfl (by kernel_rfl) (by kernel_rfl) (by kernel_rfl) (fun _ _ _ h => h) (by kernel_rfl) ?hy20x9 HJ.out ?rest20x9
  case hy20x9 => (intro W' hJ; obtain ⟨j0, j1, j2, j3⟩ := hJ; go_simp; first | done | with_reducible rfl)
  refine wpJ_take (i := 10) (v := ?v21x10) rfl (by kernel_rfl) (by kernel_rfl) (by kernel_rfl) (fun _ _ _ h => h) (by kernel_rfl) ?hy21x10 HJ.out ?rest21x10
  case hy21x10 => (intro W' hJ; obtain ⟨j0, j1, j2, j3⟩ := hJ; go_simp; first | done | with_reducible rfl)
  refine wpJ_take (i := 11) (v := ?v22x11) rfl (by kernel_rfl) (by kernel_rfl) (by kernel_rfl) (fun _ _ _ h => h) (by kernel_rfl) ?hy22x11 HJ.out ?rest22x11
  case hy22x11 => (intro W' hJ; obtain ⟨j0, j1, j2, j3⟩ := hJ; go_simp; first | done | with_reducible rfl)
  refine wpJ_take (i := 12) (v := ?v23x12) rfl (by kernel_rfl) (by kernel_rfl) (by kernel_rfl) (fun _ _ _ h => h) (by kernel_rfl) ?hy23x12 HJ.out ?rest23x12
  case hy23x12 => (intro W' hJ; obtain ⟨j0, j1, j2, j3⟩ := hJ; go_simp; first | done | with_reducible rfl)
  refine wpJ_take (i := 15) (v := ?v24x15) rfl (by kernel_rfl) (by kernel_rfl) (by kernel_rfl) (fun _ _ _ h => h) (by kernel_rfl) ?hy24x15 HJ.out ?rest24x15
  case hy24x15 => (intro W' hJ; obtain ⟨j0, j1, j2, j3⟩ := hJ; go_simp; first | done | with_reducible rfl)
  refine wpJ_one (i := 13) (by kernel_rfl) rfl (by kernel_rfl) (fun KJ hK => ?_)
  go_simp
  refine (zdocof (1) v18 (by omega) (by omega)).mono ?_
  rintro e v19 ⟨s19, p19, m19, c19, rfl, hz, hb19⟩
  have Yx : Hid (Box v19 gx (.bool s1) (.slice p1 m1 c1)) := Xx.out.below hb19
  clear Xx
  have Xx := Yx
  clear Yx
  have Yy : Hid (Box v19 gy (.bool s2) (.slice p2 m2 c2)) := Xy.out.below hb19
  clear Xy
  have Xy := Yy
  clear Yy
  have Yf : Hid (Box v19 gf (.bool s6) (.slice p6 m6 m6)) := Xf.out.below hb19
  clear Xf
  have Xf := Yf
  clear Yf
  have Yc : Hid (Box v19 gc (.bool s7) (.slice p7 m7 m7)) := Xc.out.below hb19
  clear Xc
  have Xc := Yc
  clear Yc
  have Yg : Hid (Box v19 gg (.bool s8) (.slice p8 m8 m8)) := Xg.out.below hb19
  clear Xg
  have Xg := Yg
  clear Yg
  have Ym : Hid (Box v19 gm (.bool s9) (.slice p9 m9 m9)) := Xm.out.below hb19
  clear Xm
  have Xm := Ym
  clear Ym
  have Ystep : Hid (Box v19 gstep (.bool s15) (.slice p15 m15 m15)) := Xstep.out.below hb19
  clear Xstep
  have Xstep := Ystep
  clear Ystep
  have HT' : Hid (Tab v19) := HT.out.below hb19
  clear HT
  have HT := HT'
  clear HT'
  have Zx' : Hid (ZN v19 s1 p1 m1 c1 x) := Zx.out.below hb19
  clear Zx
  have Zx := Zx'
  clear Zx'
  have Zy' : Hid (ZN v19 s2 p2 m2 c2 y) := Zy.out.below hb19
  clear Zy
  have Zy := Zy'
  clear Zy'
  have Zf' : Hid (ZN v19 s6 p6 m6 m6 (F)) := Zf.out.below hb19
  clear Zf
  have Zf := Zf'
  clear Zf'
  have Zc' : Hid (ZN v19 s7 p7 m7 m7 (C)) := Zc.out.below hb19
  clear Zc
  have Zc := Zc'
  clear Zc'
  have Zg' : Hid (ZN v19 s8 p8 m8 m8 (G)) := Zg.out.below hb19
  clear Zg
  have Zg := Zg'
  clear Zg'
  have Zm' : Hid (ZN v19 s9 p9 m9 m9 (M)) := Zm.out.below hb19
  clear Zm
  have Zm := Zm'
  clear Zm'
  have Zstep' : Hid (ZN v19 s15 p15 m15 m15 (st)) := Zstep.out.below hb19
  clear Zstep
  have Zstep := Zstep'
  clear Zstep'
  have Zd0' : Hid (ZN v19 s16 p16 m16 c16 (0)) := Zd0.out.below hb19
  clear Zd0
  have Zd0 := Zd0'
  clear Zd0'
  have hbw' := Below.on hbw hb19
  clear hbw
  have hbw := hbw'
  clear hbw'
  clear hb19
  have Zd1 : Hid (ZN v19 s19 p19 m19 c19 (1)) := hz
  clear hz
  clear HJ
  have HJ : Hid ((fun W' : World => W'.cell? ⟨gstep, 0, none⟩ = some (.bool s15) ∧ W'.cell? ⟨gstep, 1, none⟩ = some (.slice p15 m15 m15) ∧ W'.cell? ⟨gm, 0, none⟩ = some (.bool s9) ∧ W'.cell? ⟨gm, 1, none⟩ = some (.slice p9 m9 m9)) v19) := ⟨Xstep.out.c0, Xstep.out.c1, Xm.out.c0, Xm.out.c1⟩
  refine hK _ _ HJ.out ?_
  clear hK
  refine wpJ_one (i := 14) (by kernel_rfl) rfl (by kernel_rfl) (fun KJ hK => ?_)
  go_simp
  refine (zsame Zstep.out Zd1.out).mono ?_
  rintro e v20 ⟨rfl, hb20⟩
  rw [HS4.out.2.2]
  have Yx : Hid (Box v20 gx (.bool s1) (.slice p1 m1 c1)) := Xx.out.below hb20
  clear Xx
  have Xx := Yx
  clear Yx
  have Yy : Hid (Box v20 gy (.bool s2) (.slice p2 m2 c2)) := Xy.out.below hb20
  clear Xy
  have Xy := Yy
  clear Yy
  have Yf : Hid (Box v20 gf (.bool s6) (.slice p6 m6 m6)) := Xf.out.below hb20
  clear Xf
  have Xf := Yf
  clear Yf
  have Yc : Hid (Box v20 gc (.bool s7) (.slice p7 m7 m7)) := Xc.out.below hb20
  clear Xc
  have Xc := Yc
  clear Yc
  have Yg : Hid (Box v20 gg (.bool s8) (.slice p8 m8 m8)) := Xg.out.below hb20
  clear Xg
  have Xg := Yg
  clear Yg
  have Ym : Hid (Box v20 gm (.bool s9) (.slice p9 m9 m9)) := Xm.out.below hb20
  clear Xm
  have Xm := Ym
  clear Ym
  have Ystep : Hid (Box v20 gstep (.bool s15) (.slice p15 m15 m15)) := Xstep.out.below hb20
  clear Xstep
  have Xstep := Ystep
  clear Ystep
  have HT' : Hid (Tab v20) := HT.out.below hb20
  clear HT
  have HT := HT'
  clear HT'
  have Zx' : Hid (ZN v20 s1 p1 m1 c1 x) := Zx.out.below hb20
  clear Zx
  have Zx := Zx'
  clear Zx'
  have Zy' : Hid (ZN v20 s2 p2 m2 c2 y) := Zy.out.below hb20
  clear Zy
  have Zy := Zy'
  clear Zy'
  have Zf' : Hid (ZN v20 s6 p6 m6 m6 (F)) := Zf.out.below hb20
  clear Zf
  have Zf := Zf'
  clear Zf'
  have Zc' : Hid (ZN v20 s7 p7 m7 m7 (C)) := Zc.out.below hb20
  clear Zc
  have Zc := Zc'
  clear Zc'
  have Zg' : Hid (ZN v20 s8 p8 m8 m8 (G)) := Zg.out.below hb20
  clear Zg
  have Zg := Zg'
  clear Zg'
  have Zm' : Hid (ZN v20 s9 p9 m9 m9 (M)) := Zm.out.below hb20
  clear Zm
  have Zm := Zm'
  clear Zm'
  have Zstep' : Hid (ZN v20 s15 p15 m15 m15 (st)) := Zstep.out.below hb20
  clear Zstep
  have Zstep := Zstep'
  clear Zstep'
  have Zd0' : Hid (ZN v20 s16 p16 m16 c16 (0)) := Zd0.out.below hb20
  clear Zd0
  have Zd0 := Zd0'
  clear Zd0'
  have Zd1' : Hid (ZN v20 s19 p19 m19 c19 (1)) := Zd1.out.below hb20
  clear Zd1
  have Zd1 := Zd1'
  clear Zd1'
  have hbw' := Below.on hbw hb20
  clear hbw
  have hbw := hbw'
  clear hbw'
  clear hb20
  clear HJ
  have HJ : Hid ((fun W' : World => W'.cell? ⟨gstep, 0, none⟩ = some (.bool s15) ∧ W'.cell? ⟨gstep, 1, none⟩ = some (.slice p15 m15 m15) ∧ W'.cell? ⟨gm, 0, none⟩ = some (.bool s9) ∧ W'.cell? ⟨gm, 1, none⟩ = some (.slice p9 m9 m9)) v20) := ⟨Xstep.out.c0, Xstep.out.c1, Xm.out.c0, Xm.out.c1⟩
  refine hK _ _ HJ.out ?_
  clear hK
  refine wpJ_one (i := 16) (by kernel_rfl) rfl (by kernel_rfl) (fun KJ hK => ?_)
  go_simp
  refine (zsign Zm.out).mono ?_
  rintro e v21 ⟨rfl, hb21⟩
  rw [← HSM.out]
  have Yx : Hid (Box v21 gx (.bool s1) (.slice p1 m1 c1)) := Xx.out.below hb21
  clear Xx
  have Xx := Yx
  clear Yx
  have Yy : Hid (Box v21 gy (.bool s2) (.slice p2 m2 c2)) := Xy.out.below hb21
  clear Xy
  have Xy := Yy
  clear Yy
  have Yf : Hid (Box v21 gf (.bool s6) (.slice p6 m6 m6)) := Xf.out.below hb21
  clear Xf
  have Xf := Yf
  clear Yf
  have Yc : Hid (Box v21 gc (.bool s7) (.slice p7 m7 m7)) := Xc.out.below hb21
  clear Xc
  have Xc := Yc
  clear Yc
  have Yg : Hid (Box v21 gg (.bool s8) (.slice p8 m8 m8)) := Xg.out.below hb21
  clear Xg
  have Xg := Yg
  clear Yg
  have Ym : Hid (Box v21 gm (.bool s9) (.slice p9 m9 m9)) := Xm.out.below hb21
  clear Xm
  have Xm := Ym
  clear Ym
  have Ystep : Hid (Box v21 gstep (.bool s15) (.slice p15 m15 m15)) := Xstep.out.below hb21
  clear Xstep
  have Xstep := Ystep
  clear Ystep
  have HT' : Hid (Tab v21) := HT.out.below hb21
  clear HT
  have HT := HT'
  clear HT'
  have Zx' : Hid (ZN v21 s1 p1 m1 c1 x) := Zx.out.below hb21
  clear Zx
  have Zx := Zx'
  clear Zx'
  have Zy' : Hid (ZN v21 s2 p2 m2 c2 y) := Zy.out.below hb21
  clear Zy
  have Zy := Zy'
  clear Zy'
  have Zf' : Hid (ZN v21 s6 p6 m6 m6 (F)) := Zf.out.below hb21
  clear Zf
  have Zf := Zf'
  clear Zf'
  have Zc' : Hid (ZN v21 s7 p7 m7 m7 (C)) := Zc.out.below hb21
  clear Zc
  have Zc := Zc'
  clear Zc'
  have Zg' : Hid (ZN v21 s8 p8 m8 m8 (G)) := Zg.out.below hb21
  clear Zg
  have Zg := Zg'
  clear Zg'
  have Zm' : Hid (ZN v21 s9 p9 m9 m9 (M)) := Zm.out.below hb21
  clear Zm
  have Zm := Zm'
  clear Zm'
  have Zstep' : Hid (ZN v21 s15 p15 m15 m15 (st)) := Zstep.out.below hb21
  clear Zstep
  have Zstep := Zstep'
  clear Zstep'
  have Zd0' : Hid (ZN v21 s16 p16 m16 c16 (0)) := Zd0.out.below hb21
  clear Zd0
  have Zd0 := Zd0'
  clear Zd0'
  have Zd1' : Hid (ZN v21 s19 p19 m19 c19 (1)) := Zd1.out.below hb21
  clear Zd1
  have Zd1 := Zd1'
  clear Zd1'
  have hbw' := Below.on hbw hb21
  clear hbw
  have hbw := hbw'
  clear hbw'
  clear hb21
  clear HJ
  have HJ : Hid ((fun W' : World => W'.cell? ⟨gstep, 0, none⟩ = some (.bool s15) ∧ W'.cell? ⟨gstep, 1, none⟩ = some (.slice p15 m15 m15) ∧ W'.cell? ⟨gm, 0, none⟩ = some (.bool s9) ∧ W'.cell? ⟨gm, 1, none⟩ = some (.slice p9 m9 m9)) v21) := ⟨Xstep.out.c0, Xstep.out.c1, Xm.out.c0, Xm.out.c1⟩
  refine hK _ _ HJ.out ?_
  clear hK
  refine wpJ_take (i := 17) (v := ?v25x17) rfl (by kernel_rfl) (by kernel_rfl) (by kernel_rfl) (fun _ _ _ h => h) (by kernel_rfl) ?hy25x17 HJ.out ?rest25x17
  case hy25x17 => (intro W' hJ; obtain ⟨j0, j1, j2, j3⟩ := hJ; go_simp; first | done | with_reducible rfl)
  refine wpJ_take (i := 18) (v := ?v26x18) rfl (by kernel_rfl) (by kernel_rfl) (by kernel_rfl) (fun _ _ _ h => h) (by kernel_rfl) ?hy26x18 HJ.out ?rest26x18
  case hy26x18 => (intro W' hJ; obtain ⟨j0, j1, j2, j3⟩ := hJ; go_simp; first | done | with_reducible rfl)
  refine wpJ_take (i := 19) (v := ?v27x19) rfl (by kernel_rfl) (by kernel_rfl) (by kernel_rfl) (fun _ _ _ h => h) (by kernel_rfl) ?hy27x19 HJ.out ?rest27x19
  case hy27x19 => (intro W' hJ; obtain ⟨j0, j1, j2, j3⟩ := hJ; go_simp; first | done | with_reducible rfl)
  refine wpJ_done (by kernel_rfl) ?_ _
  clear HJ
  clear Xstep
  clear Zstep
  clear Zd0
  clear Zd1
  obtain ⟨cg0, cg1, fg0, fg1⟩ := Xg.out
  have hneg : gg < v21.heap.size := World.block_lt_of_cell? v21 _ cg0
  obtain ⟨cf0, cf1, ff0, ff1⟩ := Xf.out
  have hnef : gf < v21.heap.size := World.block_lt_of_cell? v21 _ cf0
  go_wp2_with fail
  clear cg0 cg1 fg0 fg1 hneg
  clear cf0 cf1 ff0 ff1 hnef
  clear hs2 hs3 hs5 hs6
  by_cases hgf : G = F
  · refine (zsame Zg.out Zf.out).mono ?_
    rintro e v22 ⟨rfl, hb22⟩
    rw [decide_eq_true hgf]
    have Yx : Hid (Box v22 gx (.bool s1) (.slice p1 m1 c1)) := Xx.out.below hb22
    clear Xx
    have Xx := Yx
    clear Yx
    have Yy : Hid (Box v22 gy (.bool s2) (.slice p2 m2 c2)) := Xy.out.below hb22
    clear Xy
    have Xy := Yy
    clear Yy
    have Yf : Hid (Box v22 gf (.bool s6) (.slice p6 m6 m6)) := Xf.out.below hb22
    clear Xf
    have Xf := Yf
    clear Yf
    have Yc : Hid (Box v22 gc (.bool s7) (.slice p7 m7 m7)) := Xc.out.below hb22
    clear Xc
    have Xc := Yc
    clear Yc
    have Yg : Hid (Box v22 gg (.bool s8) (.slice p8 m8 m8)) := Xg.out.below hb22
    clear Xg
    have Xg := Yg
    clear Yg
    have Ym : Hid (Box v22 gm (.bool s9) (.slice p9 m9 m9)) := Xm.out.below hb22
    clear Xm
    have Xm := Ym
    clear Ym
    have HT' : Hid (Tab v22) := HT.out.below hb22
    clear HT
    have HT := HT'
    clear HT'
    have Zx' : Hid (ZN v22 s1 p1 m1 c1 x) := Zx.out.below hb22
    clear Zx
    have Zx := Zx'
    clear Zx'
    have Zy' : Hid (ZN v22 s2 p2 m2 c2 y) := Zy.out.below hb22
    clear Zy
    have Zy := Zy'
    clear Zy'
    have Zf' : Hid (ZN v22 s6 p6 m6 m6 (F)) := Zf.out.below hb22
    clear Zf
    have Zf := Zf'
    clear Zf'
    have Zc' : Hid (ZN v22 s7 p7 m7 m7 (C)) := Zc.out.below hb22
    clear Zc
    have Zc := Zc'
    clear Zc'
    have Zg' : Hid (ZN v22 s8 p8 m8 m8 (G)) := Zg.out.below hb22
    clear Zg
    have Zg := Zg'
    clear Zg'
    have Zm' : Hid (ZN v22 s9 p9 m9 m9 (M)) := Zm.out.below hb22
    clear Zm
    have Zm := Zm'
    clear Zm'
    have hbw' := Below.on hbw hb22
    clear hbw
    have hbw := hbw'
    clear hbw'
    clear hb22
    clear hgf
    obtain ⟨cg0, cg1, fg0, fg1⟩ := Xg.out
    have hneg : gg < v22.heap.size := World.block_lt_of_cell? v22 _ cg0
    obtain ⟨cy0, cy1, fy0, fy1⟩ := Xy.out
    have hney : gy < v22.heap.size := World.block_lt_of_cell? v22 _ cy0
    go_wp2_with fail
    clear cg0 cg1 fg0 fg1 hneg
    clear cy0 cy1 fy0 fy1 hney
    clear Xf
    clear Zf
    clear Xc
    clear Zc
    refine (zmul Zg.out Zy.out).mono ?_
    rintro e v30 ⟨ha, hb30⟩
    have Yx : Hid (Box v30 gx (.bool s1) (.slice p1 m1 c1)) := Xx.out.below hb30
    clear Xx
    have Xx := Yx
    clear Yx
    have Yy : Hid (Box v30 gy (.bool s2) (.slice p2 m2 c2)) := Xy.out.below hb30
    clear Xy
    have Xy := Yy
    clear Yy
    have Yg : Hid (Box v30 gg (.bool s8) (.slice p8 m8 m8)) := Xg.out.below hb30
    clear Xg
    have Xg := Yg
    clear Yg
    have Ym : Hid (Box v30 gm (.bool s9) (.slice p9 m9 m9)) := Xm.out.below hb30
    clear Xm
    have Xm := Ym
    clear Ym
    have HT' : Hid (Tab v30) := HT.out.below hb30
    clear HT
    have HT := HT'
    clear HT'
    have Zx' : Hid (ZN v30 s1 p1 m1 c1 x) := Zx.out.below hb30
    clear Zx
    have Zx := Zx'
    clear Zx'
    have Zy' : Hid (ZN v30 s2 p2 m2 c2 y) := Zy.out.below hb30
    clear Zy
    have Zy := Zy'
    clear Zy'
    have Zg' : Hid (ZN v30 s8 p8 m8 m8 (G)) := Zg.out.below hb30
    clear Zg
    have Zg := Zg'
    clear Zg'
    have Zm' : Hid (ZN v30 s9 p9 m9 m9 (M)) := Zm.out.below hb30
    clear Zm
    have Zm := Zm'
    clear Zm'
    have hbw' := Below.on hbw hb30
    clear hbw
    have hbw := hbw'
    clear hbw'
    clear hb30
    rcases ha.zn with ⟨hl, s30, p30, m30, rfl, hz⟩ | ⟨hl, rfl⟩
    rotate_left
    · have hml := zmax Zx.out Zy.out (Nat.le_trans hl HN.out.bg)
      clear hl ha
      have hmx : ((max (m1 : Int) (m2 : Int)) == 8192) = true := by simp; omega
      clear hml
      obtain ⟨cx0, cx1, fx0, fx1⟩ := Xx.out
      have hnex : gx < v30.heap.size := World.block_lt_of_cell? v30 _ cx0
      obtain ⟨cy0, cy1, fy0, fy1⟩ := Xy.out
      have hney : gy < v30.heap.size := World.block_lt_of_cell? v30 _ cy0
      go_wp2_with fail
      clear cx0 cx1 fx0 fx1 hnex
      clear cy0 cy1 fy0 fy1 hney
      go_ret
      exact ⟨rfl, Below.on hbw (below1 _ _)⟩
    clear ha hl
    have Zq : Hid (ZN v30 s30 p30 m30 m30 (G * y)) := hz
    clear hz
    obtain ⟨cx0, cx1, fx0, fx1⟩ := Xx.out
    have hnex : gx < v30.heap.size := World.block_lt_of_cell? v30 _ cx0
    go_wp2_with fail
    clear cx0 cx1 fx0 fx1 hnex
    have Xq0 : Hid (Box (v30.alloc (.cells #[.bool s30, .slice p30 m30 m30] 35)) v30.heap.size (.bool s30) (.slice p30 m30 m30)) := Box.new v30 _ _ _
    have hbn : Below v30.heap.size v30 (v30.alloc (.cells #[.bool s30, .slice p30 m30 m30] 35)) := below1 v30 _
    generalize v30.alloc (.cells #[.bool s30, .slice p30 m30 m30] 35) = W30 at *
    have HGq : Hid (w.heap.size ≤ v30.heap.size) := hbw.size
    have Yx : Hid (Box W30 gx (.bool s1) (.slice p1 m1 c1)) := Xx.out.below hbn
    clear Xx
    have Xx := Yx
    clear Yx
    have Yy : Hid (Box W30 gy (.bool s2) (.slice p2 m2 c2)) := Xy.out.below hbn
    clear Xy
    have Xy := Yy
    clear Yy
    have Yg : Hid (Box W30 gg (.bool s8) (.slice p8 m8 m8)) := Xg.out.below hbn
    clear Xg
    have Xg := Yg
    clear Yg
    have Ym : Hid (Box W30 gm (.bool s9) (.slice p9 m9 m9)) := Xm.out.below hbn
    clear Xm
    have Xm := Ym
    clear Ym
    have HT' : Hid (Tab W30) := HT.out.below hbn
    clear HT
    have HT := HT'
    clear HT'
    have Zx' : Hid (ZN W30 s1 p1 m1 c1 x) := Zx.out.below hbn
    clear Zx
    have Zx := Zx'
    clear Zx'
    have Zy' : Hid (ZN W30 s2 p2 m2 c2 y) := Zy.out.below hbn
    clear Zy
    have Zy := Zy'
    clear Zy'
    have Zg' : Hid (ZN W30 s8 p8 m8 m8 (G)) := Zg.out.below hbn
    clear Zg
    have Zg := Zg'
    clear Zg'
    have Zm' : Hid (ZN W30 s9 p9 m9 m9 (M)) := Zm.out.below hbn
    clear Zm
    have Zm := Zm'
    clear Zm'
    have Zq' : Hid (ZN W30 s30 p30 m30 m30 (G * y)) := Zq.out.below hbn
    clear Zq
    have Zq := Zq'
    clear Zq'
    have hbw' := Below.on hbw hbn
    clear hbw
    have hbw := hbw'
    clear hbw'
    clear hbn
    generalize v30.heap.size = gq at *
    have Xq := Xq0
    clear Xq0
    obtain ⟨D, hD⟩ : ∃ v, v = x - G * y := ⟨_, rfl⟩
    have HD : Hid (D = x - G * y ∧ 2 * D.natAbs ≤ y.natAbs ∧ (2 * D.natAbs = y.natAbs → G.natAbs % 2 = 0)) := by rw [hD]; exact ⟨rfl, HN.out.off, HN.out.tie⟩
    clear hD
    refine (zsub Zx.out Zq.out).mono ?_
    rintro e v31 ⟨ha, hb31⟩
    obtain ⟨s31, p31, m31, rfl, hz⟩ := ha.got (by rw [← HD.out.1]; have := HD.out.2.1; have := Zy.out.lim; omega)
    clear ha
    have Yx : Hid (Box v31 gx (.bool s1) (.slice p1 m1 c1)) := Xx.out.below hb31
    clear Xx
    have Xx := Yx
    clear Yx
    have Yy : Hid (Box v31 gy (.bool s2) (.slice p2 m2 c2)) := Xy.out.below hb31
    clear Xy
    have Xy := Yy
    clear Yy
    have Yg : Hid (Box v31 gg (.bool s8) (.slice p8 m8 m8)) := Xg.out.below hb31
    clear Xg
    have Xg := Yg
    clear Yg
    have Ym : Hid (Box v31 gm (.bool s9) (.slice p9 m9 m9)) := Xm.out.below hb31
    clear Xm
    have Xm := Ym
    clear Ym
    have Yq : Hid (Box v31 gq (.bool s30) (.slice p30 m30 m30)) := Xq.out.below hb31
    clear Xq
    have Xq := Yq
    clear Yq
    have HT' : Hid (Tab v31) := HT.out.below hb31
    clear HT
    have HT := HT'
    clear HT'
    have Zx' : Hid (ZN v31 s1 p1 m1 c1 x) := Zx.out.below hb31
    clear Zx
    have Zx := Zx'
    clear Zx'
    have Zy' : Hid (ZN v31 s2 p2 m2 c2 y) := Zy.out.below hb31
    clear Zy
    have Zy := Zy'
    clear Zy'
    have Zg' : Hid (ZN v31 s8 p8 m8 m8 (G)) := Zg.out.below hb31
    clear Zg
    have Zg := Zg'
    clear Zg'
    have Zm' : Hid (ZN v31 s9 p9 m9 m9 (M)) := Zm.out.below hb31
    clear Zm
    have Zm := Zm'
    clear Zm'
    have Zq' : Hid (ZN v31 s30 p30 m30 m30 (G * y)) := Zq.out.below hb31
    clear Zq
    have Zq := Zq'
    clear Zq'
    have hbw' := Below.on hbw hb31
    clear hbw
    have hbw := hbw'
    clear hbw'
    clear hb31
    have hz := hz.cast (z' := D) (HD.out.1.symm)
    have Zd : Hid (ZN v31 s31 p31 m31 m31 (D)) := hz
    clear hz
    go_wp2_with fail
    have Xd0 : Hid (Box (v31.alloc (.cells #[.bool s31, .slice p31 m31 m31] 35)) v31.heap.size (.bool s31) (.slice p31 m31 m31)) := Box.new v31 _ _ _
    have hbn : Below v31.heap.size v31 (v31.alloc (.cells #[.bool s31, .slice p31 m31 m31] 35)) := below1 v31 _
    generalize v31.alloc (.cells #[.bool s31, .slice p31 m31 m31] 35) = W31 at *
    have HGd : Hid (w.heap.size ≤ v31.heap.size) := hbw.size
    have Yx : Hid (Box W31 gx (.bool s1) (.slice p1 m1 c1)) := Xx.out.below hbn
    clear Xx
    have Xx := Yx
    clear Yx
    have Yy : Hid (Box W31 gy (.bool s2) (.slice p2 m2 c2)) := Xy.out.below hbn
    clear Xy
    have Xy := Yy
    clear Yy
    have Yg : Hid (Box W31 gg (.bool s8) (.slice p8 m8 m8)) := Xg.out.below hbn
    clear Xg
    have Xg := Yg
    clear Yg
    have Ym : Hid (Box W31 gm (.bool s9) (.slice p9 m9 m9)) := Xm.out.below hbn
    clear Xm
    have Xm := Ym
    clear Ym
    have Yq : Hid (Box W31 gq (.bool s30) (.slice p30 m30 m30)) := Xq.out.below hbn
    clear Xq
    have Xq := Yq
    clear Yq
    have HT' : Hid (Tab W31) := HT.out.below hbn
    clear HT
    have HT := HT'
    clear HT'
    have Zx' : Hid (ZN W31 s1 p1 m1 c1 x) := Zx.out.below hbn
    clear Zx
    have Zx := Zx'
    clear Zx'
    have Zy' : Hid (ZN W31 s2 p2 m2 c2 y) := Zy.out.below hbn
    clear Zy
    have Zy := Zy'
    clear Zy'
    have Zg' : Hid (ZN W31 s8 p8 m8 m8 (G)) := Zg.out.below hbn
    clear Zg
    have Zg := Zg'
    clear Zg'
    have Zm' : Hid (ZN W31 s9 p9 m9 m9 (M)) := Zm.out.below hbn
    clear Zm
    have Zm := Zm'
    clear Zm'
    have Zq' : Hid (ZN W31 s30 p30 m30 m30 (G * y)) := Zq.out.below hbn
    clear Zq
    have Zq := Zq'
    clear Zq'
    have Zd' : Hid (ZN W31 s31 p31 m31 m31 (D)) := Zd.out.below hbn
    clear Zd
    have Zd := Zd'
    clear Zd'
    have hbw' := Below.on hbw hbn
    clear hbw
    have hbw := hbw'
    clear hbw'
    clear hbn
    generalize v31.heap.size = gd at *
    have Xd := Xd0
    clear Xd0
    clear Xq
    clear Zq
    clear Xx
    clear Zx
    rw [show Value.int IntKind.i64 1 = .int .i64 ((1 : Nat) : Int) from rfl]
    refine (zshl Zd.out 1 (by omega)).mono ?_
    rintro e v32 ⟨ha, hb32⟩
    obtain ⟨s32, p32, m32, rfl, hz⟩ := ha.got (by have := HD.out.2.1; have := Zy.out.lim; omega)
    clear ha
    have Yy : Hid (Box v32 gy (.bool s2) (.slice p2 m2 c2)) := Xy.out.below hb32
    clear Xy
    have Xy := Yy
    clear Yy
    have Yg : Hid (Box v32 gg (.bool s8) (.slice p8 m8 m8)) := Xg.out.below hb32
    clear Xg
    have Xg := Yg
    clear Yg
    have Ym : Hid (Box v32 gm (.bool s9) (.slice p9 m9 m9)) := Xm.out.below hb32
    clear Xm
    have Xm := Ym
    clear Ym
    have Yd : Hid (Box v32 gd (.bool s31) (.slice p31 m31 m31)) := Xd.out.below hb32
    clear Xd
    have Xd := Yd
    clear Yd
    have HT' : Hid (Tab v32) := HT.out.below hb32
    clear HT
    have HT := HT'
    clear HT'
    have Zy' : Hid (ZN v32 s2 p2 m2 c2 y) := Zy.out.below hb32
    clear Zy
    have Zy := Zy'
    clear Zy'
    have Zg' : Hid (ZN v32 s8 p8 m8 m8 (G)) := Zg.out.below hb32
    clear Zg
    have Zg := Zg'
    clear Zg'
    have Zm' : Hid (ZN v32 s9 p9 m9 m9 (M)) := Zm.out.below hb32
    clear Zm
    have Zm := Zm'
    clear Zm'
    have Zd' : Hid (ZN v32 s31 p31 m31 m31 (D)) := Zd.out.below hb32
    clear Zd
    have Zd := Zd'
    clear Zd'
    have hbw' := Below.on hbw hb32
    clear hbw
    have hbw := hbw'
    clear hbw'
    clear hb32
    have hz := hz.cast (z' := 2 * D) (by omega)
    have Ztwice : Hid (ZN v32 s32 p32 m32 m32 (2 * D)) := hz
    clear hz
    obtain ⟨cy0, cy1, fy0, fy1⟩ := Xy.out
    have hney : gy < v32.heap.size := World.block_lt_of_cell? v32 _ cy0
    go_wp2_with fail
    clear cy0 cy1 fy0 fy1 hney
    rw [show v32.heap.size + 1 = (v32.alloc (.cells #[.bool false, .slice p32 m32 m32] 35)).heap.size from by simp]
    have Xtwice0 : Hid (Box (v32.alloc (.cells #[.bool false, .slice p32 m32 m32] 35)) v32.heap.size (.bool false) (.slice p32 m32 m32)) := Box.new v32 _ _ _
    have hbn : Below v32.heap.size v32 (v32.alloc (.cells #[.bool false, .slice p32 m32 m32] 35)) := below1 v32 _
    generalize v32.alloc (.cells #[.bool false, .slice p32 m32 m32] 35) = W33 at *
    have HGtwice : Hid (w.heap.size ≤ v32.heap.size) := hbw.size
    have Yy : Hid (Box W33 gy (.bool s2) (.slice p2 m2 c2)) := Xy.out.below hbn
    clear Xy
    have Xy := Yy
    clear Yy
    have Yg : Hid (Box W33 gg (.bool s8) (.slice p8 m8 m8)) := Xg.out.below hbn
    clear Xg
    have Xg := Yg
    clear Yg
    have Ym : Hid (Box W33 gm (.bool s9) (.slice p9 m9 m9)) := Xm.out.below hbn
    clear Xm
    have Xm := Ym
    clear Ym
    have Yd : Hid (Box W33 gd (.bool s31) (.slice p31 m31 m31)) := Xd.out.below hbn
    clear Xd
    have Xd := Yd
    clear Yd
    have HT' : Hid (Tab W33) := HT.out.below hbn
    clear HT
    have HT := HT'
    clear HT'
    have Zy' : Hid (ZN W33 s2 p2 m2 c2 y) := Zy.out.below hbn
    clear Zy
    have Zy := Zy'
    clear Zy'
    have Zg' : Hid (ZN W33 s8 p8 m8 m8 (G)) := Zg.out.below hbn
    clear Zg
    have Zg := Zg'
    clear Zg'
    have Zm' : Hid (ZN W33 s9 p9 m9 m9 (M)) := Zm.out.below hbn
    clear Zm
    have Zm := Zm'
    clear Zm'
    have Zd' : Hid (ZN W33 s31 p31 m31 m31 (D)) := Zd.out.below hbn
    clear Zd
    have Zd := Zd'
    clear Zd'
    have Ztwice' : Hid (ZN W33 s32 p32 m32 m32 (2 * D)) := Ztwice.out.below hbn
    clear Ztwice
    have Ztwice := Ztwice'
    clear Ztwice'
    have hbw' := Below.on hbw hbn
    clear hbw
    have hbw := hbw'
    clear hbw'
    clear hbn
    generalize v32.heap.size = gtwice at *
    have Xtwice := Xtwice0
    clear Xtwice0
    have Xsize0 : Hid (Box (W33.alloc (.cells #[.bool false, .slice p2 m2 c2] 35)) W33.heap.size (.bool false) (.slice p2 m2 c2)) := Box.new W33 _ _ _
    have hbn : Below W33.heap.size W33 (W33.alloc (.cells #[.bool false, .slice p2 m2 c2] 35)) := below1 W33 _
    generalize W33.alloc (.cells #[.bool false, .slice p2 m2 c2] 35) = W34 at *
    have HGsize : Hid (w.heap.size ≤ W33.heap.size) := hbw.size
    have Yy : Hid (Box W34 gy (.bool s2) (.slice p2 m2 c2)) := Xy.out.below hbn
    clear Xy
    have Xy := Yy
    clear Yy
    have Yg : Hid (Box W34 gg (.bool s8) (.slice p8 m8 m8)) := Xg.out.below hbn
    clear Xg
    have Xg := Yg
    clear Yg
    have Ym : Hid (Box W34 gm (.bool s9) (.slice p9 m9 m9)) := Xm.out.below hbn
    clear Xm
    have Xm := Ym
    clear Ym
    have Yd : Hid (Box W34 gd (.bool s31) (.slice p31 m31 m31)) := Xd.out.below hbn
    clear Xd
    have Xd := Yd
    clear Yd
    have Ytwice : Hid (Box W34 gtwice (.bool false) (.slice p32 m32 m32)) := Xtwice.out.below hbn
    clear Xtwice
    have Xtwice := Ytwice
    clear Ytwice
    have HT' : Hid (Tab W34) := HT.out.below hbn
    clear HT
    have HT := HT'
    clear HT'
    have Zy' : Hid (ZN W34 s2 p2 m2 c2 y) := Zy.out.below hbn
    clear Zy
    have Zy := Zy'
    clear Zy'
    have Zg' : Hid (ZN W34 s8 p8 m8 m8 (G)) := Zg.out.below hbn
    clear Zg
    have Zg := Zg'
    clear Zg'
    have Zm' : Hid (ZN W34 s9 p9 m9 m9 (M)) := Zm.out.below hbn
    clear Zm
    have Zm := Zm'
    clear Zm'
    have Zd' : Hid (ZN W34 s31 p31 m31 m31 (D)) := Zd.out.below hbn
    clear Zd
    have Zd := Zd'
    clear Zd'
    have Ztwice' : Hid (ZN W34 s32 p32 m32 m32 (2 * D)) := Ztwice.out.below hbn
    clear Ztwice
    have Ztwice := Ztwice'
    clear Ztwice'
    have hbw' := Below.on hbw hbn
    clear hbw
    have hbw := hbw'
    clear hbw'
    clear hbn
    generalize W33.heap.size = gsize at *
    have Xsize := Xsize0
    clear Xsize0
    have Zt : Hid (ZN W34 false p32 m32 m32 ((2 * D).natAbs : Int)) := Ztwice.out.abs
    have Zz : Hid (ZN W34 false p2 m2 c2 (y.natAbs : Int)) := Zy.out.abs
    clear Ztwice
    clear Xd
    clear Zd
    obtain ⟨ck, hck⟩ : ∃ v, v = cmpI ((2 * D).natAbs : Int) (y.natAbs : Int) := ⟨_, rfl⟩
    have HCK : Hid (ck = cmpI ((2 * D).natAbs : Int) (y.natAbs : Int)) := hck
    clear hck
    refine (zcmp Zt.out Zz.out).mono ?_
    rintro e v35 ⟨rfl, hb35⟩
    rw [← HCK.out]
    have Yy : Hid (Box v35 gy (.bool s2) (.slice p2 m2 c2)) := Xy.out.below hb35
    clear Xy
    have Xy := Yy
    clear Yy
    have Yg : Hid (Box v35 gg (.bool s8) (.slice p8 m8 m8)) := Xg.out.below hb35
    clear Xg
    have Xg := Yg
    clear Yg
    have Ym : Hid (Box v35 gm (.bool s9) (.slice p9 m9 m9)) := Xm.out.below hb35
    clear Xm
    have Xm := Ym
    clear Ym
    have Ytwice : Hid (Box v35 gtwice (.bool false) (.slice p32 m32 m32)) := Xtwice.out.below hb35
    clear Xtwice
    have Xtwice := Ytwice
    clear Ytwice
    have Ysize : Hid (Box v35 gsize (.bool false) (.slice p2 m2 c2)) := Xsize.out.below hb35
    clear Xsize
    have Xsize := Ysize
    clear Ysize
    have HT' : Hid (Tab v35) := HT.out.below hb35
    clear HT
    have HT := HT'
    clear HT'
    have Zy' : Hid (ZN v35 s2 p2 m2 c2 y) := Zy.out.below hb35
    clear Zy
    have Zy := Zy'
    clear Zy'
    have Zg' : Hid (ZN v35 s8 p8 m8 m8 (G)) := Zg.out.below hb35
    clear Zg
    have Zg := Zg'
    clear Zg'
    have Zm' : Hid (ZN v35 s9 p9 m9 m9 (M)) := Zm.out.below hb35
    clear Zm
    have Zm := Zm'
    clear Zm'
    have Zt' : Hid (ZN v35 false p32 m32 m32 ((2 * D).natAbs : Int)) := Zt.out.below hb35
    clear Zt
    have Zt := Zt'
    clear Zt'
    have Zz' : Hid (ZN v35 false p2 m2 c2 (y.natAbs : Int)) := Zz.out.below hb35
    clear Zz
    have Zz := Zz'
    clear Zz'
    have hbw' := Below.on hbw hb35
    clear hbw
    have hbw := hbw'
    clear hbw'
    clear hb35
    obtain ⟨cm0, cm1, fm0, fm1⟩ := Xm.out
    have hnem : gm < v35.heap.size := World.block_lt_of_cell? v35 _ cm0
    obtain ⟨csize0, csize1, fsize0, fsize1⟩ := Xsize.out
    have hnesize : gsize < v35.heap.size := World.block_lt_of_cell? v35 _ csize0
    go_wp2_with fail
    clear cm0 cm1 fm0 fm1 hnem
    clear csize0 csize1 fsize0 fsize1 hnesize
    refine (zcmp Zm.out.abs Zz.out).mono ?_
    rintro e v36 ⟨rfl, hb36⟩
    rw [show cmpI (M.natAbs : Int) (y.natAbs : Int) = -1 from by unfold cmpI; rw [if_pos (by have := HN.out.ml; omega)]]
    have Yy : Hid (Box v36 gy (.bool s2) (.slice p2 m2 c2)) := Xy.out.below hb36
    clear Xy
    have Xy := Yy
    clear Yy
    have Yg : Hid (Box v36 gg (.bool s8) (.slice p8 m8 m8)) := Xg.out.below hb36
    clear Xg
    have Xg := Yg
    clear Yg
    have Ym : Hid (Box v36 gm (.bool s9) (.slice p9 m9 m9)) := Xm.out.below hb36
    clear Xm
    have Xm := Ym
    clear Ym
    have Ytwice : Hid (Box v36 gtwice (.bool false) (.slice p32 m32 m32)) := Xtwice.out.below hb36
    clear Xtwice
    have Xtwice := Ytwice
    clear Ytwice
    have Ysize : Hid (Box v36 gsize (.bool false) (.slice p2 m2 c2)) := Xsize.out.below hb36
    clear Xsize
    have Xsize := Ysize
    clear Ysize
    have HT' : Hid (Tab v36) := HT.out.below hb36
    clear HT
    have HT := HT'
    clear HT'
    have Zy' : Hid (ZN v36 s2 p2 m2 c2 y) := Zy.out.below hb36
    clear Zy
    have Zy := Zy'
    clear Zy'
    have Zg' : Hid (ZN v36 s8 p8 m8 m8 (G)) := Zg.out.below hb36
    clear Zg
    have Zg := Zg'
    clear Zg'
    have Zm' : Hid (ZN v36 s9 p9 m9 m9 (M)) := Zm.out.below hb36
    clear Zm
    have Zm := Zm'
    clear Zm'
    have Zt' : Hid (ZN v36 false p32 m32 m32 ((2 * D).natAbs : Int)) := Zt.out.below hb36
    clear Zt
    have Zt := Zt'
    clear Zt'
    have Zz' : Hid (ZN v36 false p2 m2 c2 (y.natAbs : Int)) := Zz.out.below hb36
    clear Zz
    have Zz := Zz'
    clear Zz'
    have hbw' := Below.on hbw hb36
    clear hbw
    have hbw := hbw'
    clear hbw'
    clear hb36
    have hcc : ck = -1 ∨ (ck = 0 ∧ G.natAbs % 2 = 0) := by rw [HCK.out]; exact tie_or HD.out.2.1 HD.out.2.2
    obtain ⟨gs, hgs⟩ := Zg.out.ex
    rcases Nat.eq_zero_or_pos m8 with hm8 | hm8
    · clear hgs
      subst hm8
      rcases hcc with hcc | ⟨hcc, hev⟩
      · subst hcc
        obtain ⟨cg0, cg1, fg0, fg1⟩ := Xg.out
        have hneg : gg < v36.heap.size := World.block_lt_of_cell? v36 _ cg0
        go_wp2_with fail
        clear cg0 cg1 fg0 fg1 hneg
        go_ret
        exact ⟨rfl, hbw⟩
      · subst hcc
        obtain ⟨cg0, cg1, fg0, fg1⟩ := Xg.out
        have hneg : gg < v36.heap.size := World.block_lt_of_cell? v36 _ cg0
        go_wp2_with fail
        clear cg0 cg1 fg0 fg1 hneg
        go_ret
        exact ⟨rfl, hbw⟩
    · obtain ⟨gg8, off8, rfl, hc8⟩ := hgs.at_.cells.resolve_left (by omega)
      obtain ⟨x0, hx0⟩ : ∃ x0, x0 = gs.getD 0 0 := ⟨_, rfl⟩
      have hcell : v36.cell? ⟨gg8, off8, none⟩ = some (U x0) := by have := hc8 0 hm8; rw [Nat.add_zero, ← hx0] at this; exact this
      have HPAR : Hid (G.natAbs % 2 = x0 % 2) := by show _ = _; rw [hx0]; exact parity hgs hm8
      have hm8b : decide ((0 : Int) < (m8 : Int)) = true := decide_eq_true (by omega)
      have hm8c : decide (0 < m8) = true := decide_eq_true hm8
      clear hgs hc8 hx0
      rcases hcc with hcc | ⟨hcc, hev⟩
      · subst hcc
        obtain ⟨cg0, cg1, fg0, fg1⟩ := Xg.out
        have hneg : gg < v36.heap.size := World.block_lt_of_cell? v36 _ cg0
        go_wp2_with fail
        clear cg0 cg1 fg0 fg1 hneg
        go_ret
        exact ⟨rfl, hbw⟩
      · subst hcc
        have hpar : (x0 : Int) % 2 = 0 := by have := HPAR.out; omega
        have hpar2 : ((x0 : Int) % 2 == 1) = false := by rw [hpar]; rfl
        have hpar3 : x0 % 2 = 0 := by omega
        obtain ⟨cg0, cg1, fg0, fg1⟩ := Xg.out
        have hneg : gg < v36.heap.size := World.block_lt_of_cell? v36 _ cg0
        go_wp2_with fail
        clear cg0 cg1 fg0 fg1 hneg
        go_ret
        exact ⟨rfl, hbw⟩
  have HGC : Hid (G = C) := HN.out.gor.resolve_left hgf
  refine (zsame Zg.out Zf.out).mono ?_
  rintro e v22 ⟨rfl, hb22⟩
  rw [decide_eq_false hgf]
  have Yx : Hid (Box v22 gx (.bool s1) (.slice p1 m1 c1)) := Xx.out.below hb22
  clear Xx
  have Xx := Yx
  clear Yx
  have Yy : Hid (Box v22 gy (.bool s2) (.slice p2 m2 c2)) := Xy.out.below hb22
  clear Xy
  have Xy := Yy
  clear Yy
  have Yf : Hid (Box v22 gf (.bool s6) (.slice p6 m6 m6)) := Xf.out.below hb22
  clear Xf
  have Xf := Yf
  clear Yf
  have Yc : Hid (Box v22 gc (.bool s7) (.slice p7 m7 m7)) := Xc.out.below hb22
  clear Xc
  have Xc := Yc
  clear Yc
  have Yg : Hid (Box v22 gg (.bool s8) (.slice p8 m8 m8)) := Xg.out.below hb22
  clear Xg
  have Xg := Yg
  clear Yg
  have Ym : Hid (Box v22 gm (.bool s9) (.slice p9 m9 m9)) := Xm.out.below hb22
  clear Xm
  have Xm := Ym
  clear Ym
  have HT' : Hid (Tab v22) := HT.out.below hb22
  clear HT
  have HT := HT'
  clear HT'
  have Zx' : Hid (ZN v22 s1 p1 m1 c1 x) := Zx.out.below hb22
  clear Zx
  have Zx := Zx'
  clear Zx'
  have Zy' : Hid (ZN v22 s2 p2 m2 c2 y) := Zy.out.below hb22
  clear Zy
  have Zy := Zy'
  clear Zy'
  have Zf' : Hid (ZN v22 s6 p6 m6 m6 (F)) := Zf.out.below hb22
  clear Zf
  have Zf := Zf'
  clear Zf'
  have Zc' : Hid (ZN v22 s7 p7 m7 m7 (C)) := Zc.out.below hb22
  clear Zc
  have Zc := Zc'
  clear Zc'
  have Zg' : Hid (ZN v22 s8 p8 m8 m8 (G)) := Zg.out.below hb22
  clear Zg
  have Zg := Zg'
  clear Zg'
  have Zm' : Hid (ZN v22 s9 p9 m9 m9 (M)) := Zm.out.below hb22
  clear Zm
  have Zm := Zm'
  clear Zm'
  have hbw' := Below.on hbw hb22
  clear hbw
  have hbw := hbw'
  clear hbw'
  clear hb22
  clear hgf
  obtain ⟨cg0, cg1, fg0, fg1⟩ := Xg.out
  have hneg : gg < v22.heap.size := World.block_lt_of_cell? v22 _ cg0
  obtain ⟨cc0, cc1, fc0, fc1⟩ := Xc.out
  have hnec : gc < v22.heap.size := World.block_lt_of_cell? v22 _ cc0
  go_wp2_with fail
  clear cg0 cg1 fg0 fg1 hneg
  clear cc0 cc1 fc0 fc1 hnec
  refine (zsame Zg.out Zc.out).mono ?_
  rintro e v23 ⟨rfl, hb23⟩
  rw [decide_eq_true HGC.out]
  have Yx : Hid (Box v23 gx (.bool s1) (.slice p1 m1 c1)) := Xx.out.below hb23
  clear Xx
  have Xx := Yx
  clear Yx
  have Yy : Hid (Box v23 gy (.bool s2) (.slice p2 m2 c2)) := Xy.out.below hb23
  clear Xy
  have Xy := Yy
  clear Yy
  have Yf : Hid (Box v23 gf (.bool s6) (.slice p6 m6 m6)) := Xf.out.below hb23
  clear Xf
  have Xf := Yf
  clear Yf
  have Yc : Hid (Box v23 gc (.bool s7) (.slice p7 m7 m7)) := Xc.out.below hb23
  clear Xc
  have Xc := Yc
  clear Yc
  have Yg : Hid (Box v23 gg (.bool s8) (.slice p8 m8 m8)) := Xg.out.below hb23
  clear Xg
  have Xg := Yg
  clear Yg
  have Ym : Hid (Box v23 gm (.bool s9) (.slice p9 m9 m9)) := Xm.out.below hb23
  clear Xm
  have Xm := Ym
  clear Ym
  have HT' : Hid (Tab v23) := HT.out.below hb23
  clear HT
  have HT := HT'
  clear HT'
  have Zx' : Hid (ZN v23 s1 p1 m1 c1 x) := Zx.out.below hb23
  clear Zx
  have Zx := Zx'
  clear Zx'
  have Zy' : Hid (ZN v23 s2 p2 m2 c2 y) := Zy.out.below hb23
  clear Zy
  have Zy := Zy'
  clear Zy'
  have Zf' : Hid (ZN v23 s6 p6 m6 m6 (F)) := Zf.out.below hb23
  clear Zf
  have Zf := Zf'
  clear Zf'
  have Zc' : Hid (ZN v23 s7 p7 m7 m7 (C)) := Zc.out.below hb23
  clear Zc
  have Zc := Zc'
  clear Zc'
  have Zg' : Hid (ZN v23 s8 p8 m8 m8 (G)) := Zg.out.below hb23
  clear Zg
  have Zg := Zg'
  clear Zg'
  have Zm' : Hid (ZN v23 s9 p9 m9 m9 (M)) := Zm.out.below hb23
  clear Zm
  have Zm := Zm'
  clear Zm'
  have hbw' := Below.on hbw hb23
  clear hbw
  have hbw := hbw'
  clear hbw'
  clear hb23
  obtain ⟨cg0, cg1, fg0, fg1⟩ := Xg.out
  have hneg : gg < v23.heap.size := World.block_lt_of_cell? v23 _ cg0
  obtain ⟨cy0, cy1, fy0, fy1⟩ := Xy.out
  have hney : gy < v23.heap.size := World.block_lt_of_cell? v23 _ cy0
  go_wp2_with fail
  clear cg0 cg1 fg0 fg1 hneg
  clear cy0 cy1 fy0 fy1 hney
  clear Xf
  clear Zf
  clear Xc
  clear Zc
  refine (zmul Zg.out Zy.out).mono ?_
  rintro e v30 ⟨ha, hb30⟩
  have Yx : Hid (Box v30 gx (.bool s1) (.slice p1 m1 c1)) := Xx.out.below hb30
  clear Xx
  have Xx := Yx
  clear Yx
  have Yy : Hid (Box v30 gy (.bool s2) (.slice p2 m2 c2)) := Xy.out.below hb30
  clear Xy
  have Xy := Yy
  clear Yy
  have Yg : Hid (Box v30 gg (.bool s8) (.slice p8 m8 m8)) := Xg.out.below hb30
  clear Xg
  have Xg := Yg
  clear Yg
  have Ym : Hid (Box v30 gm (.bool s9) (.slice p9 m9 m9)) := Xm.out.below hb30
  clear Xm
  have Xm := Ym
  clear Ym
  have HT' : Hid (Tab v30) := HT.out.below hb30
  clear HT
  have HT := HT'
  clear HT'
  have Zx' : Hid (ZN v30 s1 p1 m1 c1 x) := Zx.out.below hb30
  clear Zx
  have Zx := Zx'
  clear Zx'
  have Zy' : Hid (ZN v30 s2 p2 m2 c2 y) := Zy.out.below hb30
  clear Zy
  have Zy := Zy'
  clear Zy'
  have Zg' : Hid (ZN v30 s8 p8 m8 m8 (G)) := Zg.out.below hb30
  clear Zg
  have Zg := Zg'
  clear Zg'
  have Zm' : Hid (ZN v30 s9 p9 m9 m9 (M)) := Zm.out.below hb30
  clear Zm
  have Zm := Zm'
  clear Zm'
  have hbw' := Below.on hbw hb30
  clear hbw
  have hbw := hbw'
  clear hbw'
  clear hb30
  rcases ha.zn with ⟨hl, s30, p30, m30, rfl, hz⟩ | ⟨hl, rfl⟩
  rotate_left
  · have hml := zmax Zx.out Zy.out (Nat.le_trans hl HN.out.bg)
    clear hl ha
    have hmx : ((max (m1 : Int) (m2 : Int)) == 8192) = true := by simp; omega
    clear hml
    obtain ⟨cx0, cx1, fx0, fx1⟩ := Xx.out
    have hnex : gx < v30.heap.size := World.block_lt_of_cell? v30 _ cx0
    obtain ⟨cy0, cy1, fy0, fy1⟩ := Xy.out
    have hney : gy < v30.heap.size := World.block_lt_of_cell? v30 _ cy0
    go_wp2_with fail
    clear cx0 cx1 fx0 fx1 hnex
    clear cy0 cy1 fy0 fy1 hney
    go_ret
    exact ⟨rfl, Below.on hbw (below1 _ _)⟩
  clear ha hl
  have Zq : Hid (ZN v30 s30 p30 m30 m30 (G * y)) := hz
  clear hz
  obtain ⟨cx0, cx1, fx0, fx1⟩ := Xx.out
  have hnex : gx < v30.heap.size := World.block_lt_of_cell? v30 _ cx0
  go_wp2_with fail
  clear cx0 cx1 fx0 fx1 hnex
  have Xq0 : Hid (Box (v30.alloc (.cells #[.bool s30, .slice p30 m30 m30] 35)) v30.heap.size (.bool s30) (.slice p30 m30 m30)) := Box.new v30 _ _ _
  have hbn : Below v30.heap.size v30 (v30.alloc (.cells #[.bool s30, .slice p30 m30 m30] 35)) := below1 v30 _
  generalize v30.alloc (.cells #[.bool s30, .slice p30 m30 m30] 35) = W30 at *
  have HGq : Hid (w.heap.size ≤ v30.heap.size) := hbw.size
  have Yx : Hid (Box W30 gx (.bool s1) (.slice p1 m1 c1)) := Xx.out.below hbn
  clear Xx
  have Xx := Yx
  clear Yx
  have Yy : Hid (Box W30 gy (.bool s2) (.slice p2 m2 c2)) := Xy.out.below hbn
  clear Xy
  have Xy := Yy
  clear Yy
  have Yg : Hid (Box W30 gg (.bool s8) (.slice p8 m8 m8)) := Xg.out.below hbn
  clear Xg
  have Xg := Yg
  clear Yg
  have Ym : Hid (Box W30 gm (.bool s9) (.slice p9 m9 m9)) := Xm.out.below hbn
  clear Xm
  have Xm := Ym
  clear Ym
  have HT' : Hid (Tab W30) := HT.out.below hbn
  clear HT
  have HT := HT'
  clear HT'
  have Zx' : Hid (ZN W30 s1 p1 m1 c1 x) := Zx.out.below hbn
  clear Zx
  have Zx := Zx'
  clear Zx'
  have Zy' : Hid (ZN W30 s2 p2 m2 c2 y) := Zy.out.below hbn
  clear Zy
  have Zy := Zy'
  clear Zy'
  have Zg' : Hid (ZN W30 s8 p8 m8 m8 (G)) := Zg.out.below hbn
  clear Zg
  have Zg := Zg'
  clear Zg'
  have Zm' : Hid (ZN W30 s9 p9 m9 m9 (M)) := Zm.out.below hbn
  clear Zm
  have Zm := Zm'
  clear Zm'
  have Zq' : Hid (ZN W30 s30 p30 m30 m30 (G * y)) := Zq.out.below hbn
  clear Zq
  have Zq := Zq'
  clear Zq'
  have hbw' := Below.on hbw hbn
  clear hbw
  have hbw := hbw'
  clear hbw'
  clear hbn
  generalize v30.heap.size = gq at *
  have Xq := Xq0
  clear Xq0
  obtain ⟨D, hD⟩ : ∃ v, v = x - G * y := ⟨_, rfl⟩
  have HD : Hid (D = x - G * y ∧ 2 * D.natAbs ≤ y.natAbs ∧ (2 * D.natAbs = y.natAbs → G.natAbs % 2 = 0)) := by rw [hD]; exact ⟨rfl, HN.out.off, HN.out.tie⟩
  clear hD
  refine (zsub Zx.out Zq.out).mono ?_
  rintro e v31 ⟨ha, hb31⟩
  obtain ⟨s31, p31, m31, rfl, hz⟩ := ha.got (by rw [← HD.out.1]; have := HD.out.2.1; have := Zy.out.lim; omega)
  clear ha
  have Yx : Hid (Box v31 gx (.bool s1) (.slice p1 m1 c1)) := Xx.out.below hb31
  clear Xx
  have Xx := Yx
  clear Yx
  have Yy : Hid (Box v31 gy (.bool s2) (.slice p2 m2 c2)) := Xy.out.below hb31
  clear Xy
  have Xy := Yy
  clear Yy
  have Yg : Hid (Box v31 gg (.bool s8) (.slice p8 m8 m8)) := Xg.out.below hb31
  clear Xg
  have Xg := Yg
  clear Yg
  have Ym : Hid (Box v31 gm (.bool s9) (.slice p9 m9 m9)) := Xm.out.below hb31
  clear Xm
  have Xm := Ym
  clear Ym
  have Yq : Hid (Box v31 gq (.bool s30) (.slice p30 m30 m30)) := Xq.out.below hb31
  clear Xq
  have Xq := Yq
  clear Yq
  have HT' : Hid (Tab v31) := HT.out.below hb31
  clear HT
  have HT := HT'
  clear HT'
  have Zx' : Hid (ZN v31 s1 p1 m1 c1 x) := Zx.out.below hb31
  clear Zx
  have Zx := Zx'
  clear Zx'
  have Zy' : Hid (ZN v31 s2 p2 m2 c2 y) := Zy.out.below hb31
  clear Zy
  have Zy := Zy'
  clear Zy'
  have Zg' : Hid (ZN v31 s8 p8 m8 m8 (G)) := Zg.out.below hb31
  clear Zg
  have Zg := Zg'
  clear Zg'
  have Zm' : Hid (ZN v31 s9 p9 m9 m9 (M)) := Zm.out.below hb31
  clear Zm
  have Zm := Zm'
  clear Zm'
  have Zq' : Hid (ZN v31 s30 p30 m30 m30 (G * y)) := Zq.out.below hb31
  clear Zq
  have Zq := Zq'
  clear Zq'
  have hbw' := Below.on hbw hb31
  clear hbw
  have hbw := hbw'
  clear hbw'
  clear hb31
  have hz := hz.cast (z' := D) (HD.out.1.symm)
  have Zd : Hid (ZN v31 s31 p31 m31 m31 (D)) := hz
  clear hz
  go_wp2_with fail
  have Xd0 : Hid (Box (v31.alloc (.cells #[.bool s31, .slice p31 m31 m31] 35)) v31.heap.size (.bool s31) (.slice p31 m31 m31)) := Box.new v31 _ _ _
  have hbn : Below v31.heap.size v31 (v31.alloc (.cells #[.bool s31, .slice p31 m31 m31] 35)) := below1 v31 _
  generalize v31.alloc (.cells #[.bool s31, .slice p31 m31 m31] 35) = W31 at *
  have HGd : Hid (w.heap.size ≤ v31.heap.size) := hbw.size
  have Yx : Hid (Box W31 gx (.bool s1) (.slice p1 m1 c1)) := Xx.out.below hbn
  clear Xx
  have Xx := Yx
  clear Yx
  have Yy : Hid (Box W31 gy (.bool s2) (.slice p2 m2 c2)) := Xy.out.below hbn
  clear Xy
  have Xy := Yy
  clear Yy
  have Yg : Hid (Box W31 gg (.bool s8) (.slice p8 m8 m8)) := Xg.out.below hbn
  clear Xg
  have Xg := Yg
  clear Yg
  have Ym : Hid (Box W31 gm (.bool s9) (.slice p9 m9 m9)) := Xm.out.below hbn
  clear Xm
  have Xm := Ym
  clear Ym
  have Yq : Hid (Box W31 gq (.bool s30) (.slice p30 m30 m30)) := Xq.out.below hbn
  clear Xq
  have Xq := Yq
  clear Yq
  have HT' : Hid (Tab W31) := HT.out.below hbn
  clear HT
  have HT := HT'
  clear HT'
  have Zx' : Hid (ZN W31 s1 p1 m1 c1 x) := Zx.out.below hbn
  clear Zx
  have Zx := Zx'
  clear Zx'
  have Zy' : Hid (ZN W31 s2 p2 m2 c2 y) := Zy.out.below hbn
  clear Zy
  have Zy := Zy'
  clear Zy'
  have Zg' : Hid (ZN W31 s8 p8 m8 m8 (G)) := Zg.out.below hbn
  clear Zg
  have Zg := Zg'
  clear Zg'
  have Zm' : Hid (ZN W31 s9 p9 m9 m9 (M)) := Zm.out.below hbn
  clear Zm
  have Zm := Zm'
  clear Zm'
  have Zq' : Hid (ZN W31 s30 p30 m30 m30 (G * y)) := Zq.out.below hbn
  clear Zq
  have Zq := Zq'
  clear Zq'
  have Zd' : Hid (ZN W31 s31 p31 m31 m31 (D)) := Zd.out.below hbn
  clear Zd
  have Zd := Zd'
  clear Zd'
  have hbw' := Below.on hbw hbn
  clear hbw
  have hbw := hbw'
  clear hbw'
  clear hbn
  generalize v31.heap.size = gd at *
  have Xd := Xd0
  clear Xd0
  clear Xq
  clear Zq
  clear Xx
  clear Zx
  rw [show Value.int IntKind.i64 1 = .int .i64 ((1 : Nat) : Int) from rfl]
  refine (zshl Zd.out 1 (by omega)).mono ?_
  rintro e v32 ⟨ha, hb32⟩
  obtain ⟨s32, p32, m32, rfl, hz⟩ := ha.got (by have := HD.out.2.1; have := Zy.out.lim; omega)
  clear ha
  have Yy : Hid (Box v32 gy (.bool s2) (.slice p2 m2 c2)) := Xy.out.below hb32
  clear Xy
  have Xy := Yy
  clear Yy
  have Yg : Hid (Box v32 gg (.bool s8) (.slice p8 m8 m8)) := Xg.out.below hb32
  clear Xg
  have Xg := Yg
  clear Yg
  have Ym : Hid (Box v32 gm (.bool s9) (.slice p9 m9 m9)) := Xm.out.below hb32
  clear Xm
  have Xm := Ym
  clear Ym
  have Yd : Hid (Box v32 gd (.bool s31) (.slice p31 m31 m31)) := Xd.out.below hb32
  clear Xd
  have Xd := Yd
  clear Yd
  have HT' : Hid (Tab v32) := HT.out.below hb32
  clear HT
  have HT := HT'
  clear HT'
  have Zy' : Hid (ZN v32 s2 p2 m2 c2 y) := Zy.out.below hb32
  clear Zy
  have Zy := Zy'
  clear Zy'
  have Zg' : Hid (ZN v32 s8 p8 m8 m8 (G)) := Zg.out.below hb32
  clear Zg
  have Zg := Zg'
  clear Zg'
  have Zm' : Hid (ZN v32 s9 p9 m9 m9 (M)) := Zm.out.below hb32
  clear Zm
  have Zm := Zm'
  clear Zm'
  have Zd' : Hid (ZN v32 s31 p31 m31 m31 (D)) := Zd.out.below hb32
  clear Zd
  have Zd := Zd'
  clear Zd'
  have hbw' := Below.on hbw hb32
  clear hbw
  have hbw := hbw'
  clear hbw'
  clear hb32
  have hz := hz.cast (z' := 2 * D) (by omega)
  have Ztwice : Hid (ZN v32 s32 p32 m32 m32 (2 * D)) := hz
  clear hz
  obtain ⟨cy0, cy1, fy0, fy1⟩ := Xy.out
  have hney : gy < v32.heap.size := World.block_lt_of_cell? v32 _ cy0
  go_wp2_with fail
  clear cy0 cy1 fy0 fy1 hney
  rw [show v32.heap.size + 1 = (v32.alloc (.cells #[.bool false, .slice p32 m32 m32] 35)).heap.size from by simp]
  have Xtwice0 : Hid (Box (v32.alloc (.cells #[.bool false, .slice p32 m32 m32] 35)) v32.heap.size (.bool false) (.slice p32 m32 m32)) := Box.new v32 _ _ _
  have hbn : Below v32.heap.size v32 (v32.alloc (.cells #[.bool false, .slice p32 m32 m32] 35)) := below1 v32 _
  generalize v32.alloc (.cells #[.bool false, .slice p32 m32 m32] 35) = W33 at *
  have HGtwice : Hid (w.heap.size ≤ v32.heap.size) := hbw.size
  have Yy : Hid (Box W33 gy (.bool s2) (.slice p2 m2 c2)) := Xy.out.below hbn
  clear Xy
  have Xy := Yy
  clear Yy
  have Yg : Hid (Box W33 gg (.bool s8) (.slice p8 m8 m8)) := Xg.out.below hbn
  clear Xg
  have Xg := Yg
  clear Yg
  have Ym : Hid (Box W33 gm (.bool s9) (.slice p9 m9 m9)) := Xm.out.below hbn
  clear Xm
  have Xm := Ym
  clear Ym
  have Yd : Hid (Box W33 gd (.bool s31) (.slice p31 m31 m31)) := Xd.out.below hbn
  clear Xd
  have Xd := Yd
  clear Yd
  have HT' : Hid (Tab W33) := HT.out.below hbn
  clear HT
  have HT := HT'
  clear HT'
  have Zy' : Hid (ZN W33 s2 p2 m2 c2 y) := Zy.out.below hbn
  clear Zy
  have Zy := Zy'
  clear Zy'
  have Zg' : Hid (ZN W33 s8 p8 m8 m8 (G)) := Zg.out.below hbn
  clear Zg
  have Zg := Zg'
  clear Zg'
  have Zm' : Hid (ZN W33 s9 p9 m9 m9 (M)) := Zm.out.below hbn
  clear Zm
  have Zm := Zm'
  clear Zm'
  have Zd' : Hid (ZN W33 s31 p31 m31 m31 (D)) := Zd.out.below hbn
  clear Zd
  have Zd := Zd'
  clear Zd'
  have Ztwice' : Hid (ZN W33 s32 p32 m32 m32 (2 * D)) := Ztwice.out.below hbn
  clear Ztwice
  have Ztwice := Ztwice'
  clear Ztwice'
  have hbw' := Below.on hbw hbn
  clear hbw
  have hbw := hbw'
  clear hbw'
  clear hbn
  generalize v32.heap.size = gtwice at *
  have Xtwice := Xtwice0
  clear Xtwice0
  have Xsize0 : Hid (Box (W33.alloc (.cells #[.bool false, .slice p2 m2 c2] 35)) W33.heap.size (.bool false) (.slice p2 m2 c2)) := Box.new W33 _ _ _
  have hbn : Below W33.heap.size W33 (W33.alloc (.cells #[.bool false, .slice p2 m2 c2] 35)) := below1 W33 _
  generalize W33.alloc (.cells #[.bool false, .slice p2 m2 c2] 35) = W34 at *
  have HGsize : Hid (w.heap.size ≤ W33.heap.size) := hbw.size
  have Yy : Hid (Box W34 gy (.bool s2) (.slice p2 m2 c2)) := Xy.out.below hbn
  clear Xy
  have Xy := Yy
  clear Yy
  have Yg : Hid (Box W34 gg (.bool s8) (.slice p8 m8 m8)) := Xg.out.below hbn
  clear Xg
  have Xg := Yg
  clear Yg
  have Ym : Hid (Box W34 gm (.bool s9) (.slice p9 m9 m9)) := Xm.out.below hbn
  clear Xm
  have Xm := Ym
  clear Ym
  have Yd : Hid (Box W34 gd (.bool s31) (.slice p31 m31 m31)) := Xd.out.below hbn
  clear Xd
  have Xd := Yd
  clear Yd
  have Ytwice : Hid (Box W34 gtwice (.bool false) (.slice p32 m32 m32)) := Xtwice.out.below hbn
  clear Xtwice
  have Xtwice := Ytwice
  clear Ytwice
  have HT' : Hid (Tab W34) := HT.out.below hbn
  clear HT
  have HT := HT'
  clear HT'
  have Zy' : Hid (ZN W34 s2 p2 m2 c2 y) := Zy.out.below hbn
  clear Zy
  have Zy := Zy'
  clear Zy'
  have Zg' : Hid (ZN W34 s8 p8 m8 m8 (G)) := Zg.out.below hbn
  clear Zg
  have Zg := Zg'
  clear Zg'
  have Zm' : Hid (ZN W34 s9 p9 m9 m9 (M)) := Zm.out.below hbn
  clear Zm
  have Zm := Zm'
  clear Zm'
  have Zd' : Hid (ZN W34 s31 p31 m31 m31 (D)) := Zd.out.below hbn
  clear Zd
  have Zd := Zd'
  clear Zd'
  have Ztwice' : Hid (ZN W34 s32 p32 m32 m32 (2 * D)) := Ztwice.out.below hbn
  clear Ztwice
  have Ztwice := Ztwice'
  clear Ztwice'
  have hbw' := Below.on hbw hbn
  clear hbw
  have hbw := hbw'
  clear hbw'
  clear hbn
  generalize W33.heap.size = gsize at *
  have Xsize := Xsize0
  clear Xsize0
  have Zt : Hid (ZN W34 false p32 m32 m32 ((2 * D).natAbs : Int)) := Ztwice.out.abs
  have Zz : Hid (ZN W34 false p2 m2 c2 (y.natAbs : Int)) := Zy.out.abs
  clear Ztwice
  clear Xd
  clear Zd
  obtain ⟨ck, hck⟩ : ∃ v, v = cmpI ((2 * D).natAbs : Int) (y.natAbs : Int) := ⟨_, rfl⟩
  have HCK : Hid (ck = cmpI ((2 * D).natAbs : Int) (y.natAbs : Int)) := hck
  clear hck
  refine (zcmp Zt.out Zz.out).mono ?_
  rintro e v35 ⟨rfl, hb35⟩
  rw [← HCK.out]
  have Yy : Hid (Box v35 gy (.bool s2) (.slice p2 m2 c2)) := Xy.out.below hb35
  clear Xy
  have Xy := Yy
  clear Yy
  have Yg : Hid (Box v35 gg (.bool s8) (.slice p8 m8 m8)) := Xg.out.below hb35
  clear Xg
  have Xg := Yg
  clear Yg
  have Ym : Hid (Box v35 gm (.bool s9) (.slice p9 m9 m9)) := Xm.out.below hb35
  clear Xm
  have Xm := Ym
  clear Ym
  have Ytwice : Hid (Box v35 gtwice (.bool false) (.slice p32 m32 m32)) := Xtwice.out.below hb35
  clear Xtwice
  have Xtwice := Ytwice
  clear Ytwice
  have Ysize : Hid (Box v35 gsize (.bool false) (.slice p2 m2 c2)) := Xsize.out.below hb35
  clear Xsize
  have Xsize := Ysize
  clear Ysize
  have HT' : Hid (Tab v35) := HT.out.below hb35
  clear HT
  have HT := HT'
  clear HT'
  have Zy' : Hid (ZN v35 s2 p2 m2 c2 y) := Zy.out.below hb35
  clear Zy
  have Zy := Zy'
  clear Zy'
  have Zg' : Hid (ZN v35 s8 p8 m8 m8 (G)) := Zg.out.below hb35
  clear Zg
  have Zg := Zg'
  clear Zg'
  have Zm' : Hid (ZN v35 s9 p9 m9 m9 (M)) := Zm.out.below hb35
  clear Zm
  have Zm := Zm'
  clear Zm'
  have Zt' : Hid (ZN v35 false p32 m32 m32 ((2 * D).natAbs : Int)) := Zt.out.below hb35
  clear Zt
  have Zt := Zt'
  clear Zt'
  have Zz' : Hid (ZN v35 false p2 m2 c2 (y.natAbs : Int)) := Zz.out.below hb35
  clear Zz
  have Zz := Zz'
  clear Zz'
  have hbw' := Below.on hbw hb35
  clear hbw
  have hbw := hbw'
  clear hbw'
  clear hb35
  obtain ⟨cm0, cm1, fm0, fm1⟩ := Xm.out
  have hnem : gm < v35.heap.size := World.block_lt_of_cell? v35 _ cm0
  obtain ⟨csize0, csize1, fsize0, fsize1⟩ := Xsize.out
  have hnesize : gsize < v35.heap.size := World.block_lt_of_cell? v35 _ csize0
  go_wp2_with fail
  clear cm0 cm1 fm0 fm1 hnem
  clear csize0 csize1 fsize0 fsize1 hnesize
  refine (zcmp Zm.out.abs Zz.out).mono ?_
  rintro e v36 ⟨rfl, hb36⟩
  rw [show cmpI (M.natAbs : Int) (y.natAbs : Int) = -1 from by unfold cmpI; rw [if_pos (by have := HN.out.ml; omega)]]
  have Yy : Hid (Box v36 gy (.bool s2) (.slice p2 m2 c2)) := Xy.out.below hb36
  clear Xy
  have Xy := Yy
  clear Yy
  have Yg : Hid (Box v36 gg (.bool s8) (.slice p8 m8 m8)) := Xg.out.below hb36
  clear Xg
  have Xg := Yg
  clear Yg
  have Ym : Hid (Box v36 gm (.bool s9) (.slice p9 m9 m9)) := Xm.out.below hb36
  clear Xm
  have Xm := Ym
  clear Ym
  have Ytwice : Hid (Box v36 gtwice (.bool false) (.slice p32 m32 m32)) := Xtwice.out.below hb36
  clear Xtwice
  have Xtwice := Ytwice
  clear Ytwice
  have Ysize : Hid (Box v36 gsize (.bool false) (.slice p2 m2 c2)) := Xsize.out.below hb36
  clear Xsize
  have Xsize := Ysize
  clear Ysize
  have HT' : Hid (Tab v36) := HT.out.below hb36
  clear HT
  have HT := HT'
  clear HT'
  have Zy' : Hid (ZN v36 s2 p2 m2 c2 y) := Zy.out.below hb36
  clear Zy
  have Zy := Zy'
  clear Zy'
  have Zg' : Hid (ZN v36 s8 p8 m8 m8 (G)) := Zg.out.below hb36
  clear Zg
  have Zg := Zg'
  clear Zg'
  have Zm' : Hid (ZN v36 s9 p9 m9 m9 (M)) := Zm.out.below hb36
  clear Zm
  have Zm := Zm'
  clear Zm'
  have Zt' : Hid (ZN v36 false p32 m32 m32 ((2 * D).natAbs : Int)) := Zt.out.below hb36
  clear Zt
  have Zt := Zt'
  clear Zt'
  have Zz' : Hid (ZN v36 false p2 m2 c2 (y.natAbs : Int)) := Zz.out.below hb36
  clear Zz
  have Zz := Zz'
  clear Zz'
  have hbw' := Below.on hbw hb36
  clear hbw
  have hbw := hbw'
  clear hbw'
  clear hb36
  have hcc : ck = -1 ∨ (ck = 0 ∧ G.natAbs % 2 = 0) := by rw [HCK.out]; exact tie_or HD.out.2.1 HD.out.2.2
  obtain ⟨gs, hgs⟩ := Zg.out.ex
  rcases Nat.eq_zero_or_pos m8 with hm8 | hm8
  · clear hgs
    subst hm8
    rcases hcc with hcc | ⟨hcc, hev⟩
    · subst hcc
      obtain ⟨cg0, cg1, fg0, fg1⟩ := Xg.out
      have hneg : gg < v36.heap.size := World.block_lt_of_cell? v36 _ cg0
      go_wp2_with fail
      clear cg0 cg1 fg0 fg1 hneg
      go_ret
      exact ⟨rfl, hbw⟩
    · subst hcc
      obtain ⟨cg0, cg1, fg0, fg1⟩ := Xg.out
      have hneg : gg < v36.heap.size := World.block_lt_of_cell? v36 _ cg0
      go_wp2_with fail
      clear cg0 cg1 fg0 fg1 hneg
      go_ret
      exact ⟨rfl, hbw⟩
  · obtain ⟨gg8, off8, rfl, hc8⟩ := hgs.at_.cells.resolve_left (by omega)
    obtain ⟨x0, hx0⟩ : ∃ x0, x0 = gs.getD 0 0 := ⟨_, rfl⟩
    have hcell : v36.cell? ⟨gg8, off8, none⟩ = some (U x0) := by have := hc8 0 hm8; rw [Nat.add_zero, ← hx0] at this; exact this
    have HPAR : Hid (G.natAbs % 2 = x0 % 2) := by show _ = _; rw [hx0]; exact parity hgs hm8
    have hm8b : decide ((0 : Int) < (m8 : Int)) = true := decide_eq_true (by omega)
    have hm8c : decide (0 < m8) = true := decide_eq_true hm8
    clear hgs hc8 hx0
    rcases hcc with hcc | ⟨hcc, hev⟩
    · subst hcc
      obtain ⟨cg0, cg1, fg0, fg1⟩ := Xg.out
      have hneg : gg < v36.heap.size := World.block_lt_of_cell? v36 _ cg0
      go_wp2_with fail
      clear cg0 cg1 fg0 fg1 hneg
      go_ret
      exact ⟨rfl, hbw⟩
    · subst hcc
      have hpar : (x0 : Int) % 2 = 0 := by have := HPAR.out; omega
      have hpar2 : ((x0 : Int) % 2 == 1) = false := by rw [hpar]; rfl
      have hpar3 : x0 % 2 = 0 := by omega
      obtain ⟨cg0, cg1, fg0, fg1⟩ := Xg.out
      have hneg : gg < v36.heap.size := World.block_lt_of_cell? v36 _ cg0
      go_wp2_with fail
      clear cg0 cg1 fg0 fg1 hneg
      go_ret
      exact ⟨rfl, hbw⟩
end Go.Proofs.YteoihhgaipplfaaDoor

