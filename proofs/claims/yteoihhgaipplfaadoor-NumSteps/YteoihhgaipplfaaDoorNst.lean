import Derived.Test.YteoihhgaipplfaaDoorJ15
namespace Go.Proofs.YteoihhgaipplfaaDoor
open Go.RowKit Go.Shelf

theorem ne_up (x : Int) (k : Nat) : ne (decide (x * 2 ^ k < 0)) (x * 2 ^ k).natAbs (2 ^ k) = x := by
  have hp : 0 < 2 ^ k := Nat.pow_pos (by omega)
  have e1 : (x * 2 ^ k).natAbs = 2 ^ k * x.natAbs := by rw [Int.natAbs_mul, Int.natAbs_pow]; exact Nat.mul_comm _ _
  have e2 : decide (x * 2 ^ k < 0) = decide (x < 0) := by
    refine decide_eq_decide.2 ?_
    have hp2 : (0 : Int) < 2 ^ k := by exact_mod_cast hp
    constructor
    · intro h
      rcases Int.lt_or_le x 0 with h1 | h1
      · exact h1
      · exact absurd (Int.mul_nonneg h1 (Int.le_of_lt hp2)) (by omega)
    · intro h
      exact Int.mul_neg_of_neg_of_pos h hp2
  rw [e1, e2]
  unfold ne neUp
  rw [Nat.mul_div_cancel_left _ hp, Nat.mul_mod_right]
  rw [decide_eq_false (p := 2 ^ k < 2 * 0) (by omega), decide_eq_false (p := 2 * 0 = 2 ^ k) (by omega)]
  simp only [Bool.false_and, Bool.or_false, Bool.toNat_false, Nat.add_zero]
  exact iv_abs x
theorem two_pos (k : Nat) : decide ((1 : Int) * 2 ^ k < 0) = false ∧ ((1 : Int) * 2 ^ k).natAbs = 2 ^ k := by
  have hp : (0 : Int) < 2 ^ k := Int.pow_pos (by omega)
  refine ⟨decide_eq_false (by omega), ?_⟩
  rw [Int.one_mul, Int.natAbs_pow]; rfl
theorem big_shift (K : Nat) (h : LIM ≤ ((1 : Int) * 2 ^ K).natAbs) : 524288 ≤ K := by
  rw [(two_pos K).2] at h
  obtain ⟨E, hE⟩ : ∃ E, E = 524288 := ⟨_, rfl⟩
  rw [LIM_two E hE] at h
  rcases Nat.lt_or_ge K E with h1 | h1
  · exact absurd (Nat.pow_lt_pow_right (by omega : 1 < 2) h1) (by omega)
  · omega
set_option maxRecDepth 20000 in
set_option maxHeartbeats 16000000 in
theorem numsteps_walk {p : Option Addr} {n c : Nat} {xs : List Nat} {w : World} (sa : Bool) (h : At w p n c xs) (hn : n ≤ 17592186044416) (jj kk : Int) (hj1 : jj ≤ 9223372036854775807) (hk1 : kk ≤ 9223372036854775807) (hT : Tab w) :
    Calls Tryd.prog 7 #[ZV sa p n c, .int .i64 jj, .int .i64 kk] w fun e w' => e = .returned (.bool true) ∧ Below w.heap.size w w' := by
  have HT : Hid (Tab w) := hT
  have A0 : Hid (At w p n c xs) := h
  have HK : Hid (jj ≤ 9223372036854775807 ∧ kk ≤ 9223372036854775807) := ⟨hj1, hk1⟩
  have HNM : Hid (n ≤ 17592186044416) := hn
  clear hT h hk1 hn hj1
  go_enter Tryd.func7, Tryd.ntmps7
  go_wp2_with fail
  obtain ⟨W0, hW0⟩ : ∃ W0, W0 = (w.alloc (.cells #[.bool sa, .slice p n c] 35)) := ⟨_, rfl⟩
  have Xa : Hid (Box W0 (w.heap.size) (.bool sa) (.slice p n c)) := by rw [hW0]; exact ⟨by go_simp, by go_simp, by go_simp, by go_simp⟩
  have hb0 : Below w.heap.size w W0 := by rw [hW0]; exact below1 w _
  rw [← hW0]
  clear hW0
  have hbw : Below w.heap.size w w := Below.refl _ _
  obtain ⟨ga, hga⟩ : ∃ g, g = w.heap.size := ⟨_, rfl⟩
  have HGa : Hid (w.heap.size ≤ ga) := by rw [hga]; show _ ≤ _; omega
  rw [← hga] at Xa
  try rw [← hga]
  clear hga
  have HT' : Hid (Tab W0) := HT.out.below hb0
  clear HT
  have HT := HT'
  clear HT'
  have A0' : Hid (At W0 p n c xs) := A0.out.below hb0
  clear A0
  have A0 := A0'
  clear A0'
  have hbw' := Below.on hbw hb0
  clear hbw
  have hbw := hbw'
  clear hbw'
  clear hb0
  refine (formed_any sa A0.out HNM.out).mono ?_
  rintro e v1 ⟨s1, p1, m1, c1, u1, o1, rfl, ho1, hA1, hn1, ht1, hb1⟩
  have Ya : Hid (Box v1 ga (.bool sa) (.slice p n c)) := Xa.out.below hb1
  clear Xa
  have Xa := Ya
  clear Ya
  have HT' : Hid (Tab v1) := HT.out.below hb1
  clear HT
  have HT := HT'
  clear HT'
  have A0' : Hid (At v1 p n c xs) := A0.out.below hb1
  clear A0
  have A0 := A0'
  clear A0'
  have hbw' := Below.on hbw hb1
  clear hbw
  have hbw := hbw'
  clear hbw'
  clear hb1
  obtain ⟨ax, hax⟩ : ∃ a : Nat, a = valB B64 xs := ⟨_, rfl⟩
  rw [← hax] at hn1 ht1
  have Fx : Hid (Nf B64 u1 ax ∧ (s1 = true → 0 < ax) ∧ o1 = decide (m1 ≤ 8192)) := ⟨hn1, ht1, ho1⟩
  have Qx : Hid (At v1 p1 m1 c1 u1) := hA1
  clear hn1 ht1 ho1 hA1 hax
  clear A0
  go_wp2_with fail
  have Xx0 : Hid (Box (v1.alloc (.cells #[.bool s1, .slice p1 m1 c1] 35)) v1.heap.size (.bool s1) (.slice p1 m1 c1)) := Box.new v1 _ _ _
  have hbn : Below v1.heap.size v1 (v1.alloc (.cells #[.bool s1, .slice p1 m1 c1] 35)) := below1 v1 _
  generalize v1.alloc (.cells #[.bool s1, .slice p1 m1 c1] 35) = W1 at *
  have HGx : Hid (w.heap.size ≤ v1.heap.size) := hbw.size
  have Ya : Hid (Box W1 ga (.bool sa) (.slice p n c)) := Xa.out.below hbn
  clear Xa
  have Xa := Ya
  clear Ya
  have HT' : Hid (Tab W1) := HT.out.below hbn
  clear HT
  have HT := HT'
  clear HT'
  have Qx' : Hid (At W1 p1 m1 c1 u1) := Qx.out.below hbn
  clear Qx
  have Qx := Qx'
  clear Qx'
  have hbw' := Below.on hbw hbn
  clear hbw
  have hbw := hbw'
  clear hbw'
  clear hbn
  generalize v1.heap.size = gx at *
  have Xx := Xx0
  clear Xx0
  clear Xa
  refine (awake4_any _).mono ?_
  rintro e v3 ⟨rfl, hb3⟩
  have Yx : Hid (Box v3 gx (.bool s1) (.slice p1 m1 c1)) := Xx.out.below hb3
  clear Xx
  have Xx := Yx
  clear Yx
  have HT' : Hid (Tab v3) := HT.out.below hb3
  clear HT
  have HT := HT'
  clear HT'
  have Qx' : Hid (At v3 p1 m1 c1 u1) := Qx.out.below hb3
  clear Qx
  have Qx := Qx'
  clear Qx'
  have hbw' := Below.on hbw hb3
  clear hbw
  have hbw := hbw'
  clear hbw'
  clear hb3
  go_wp2_with fail
  refine (halves_any _ HT.out).mono ?_
  rintro e v4 ⟨rfl, hb4⟩
  have Yx : Hid (Box v4 gx (.bool s1) (.slice p1 m1 c1)) := Xx.out.below hb4
  clear Xx
  have Xx := Yx
  clear Yx
  have HT' : Hid (Tab v4) := HT.out.below hb4
  clear HT
  have HT := HT'
  clear HT'
  have Qx' : Hid (At v4 p1 m1 c1 u1) := Qx.out.below hb4
  clear Qx
  have Qx := Qx'
  clear Qx'
  have hbw' := Below.on hbw hb4
  clear hbw
  have hbw := hbw'
  clear hbw'
  clear hb4
  cases o1
  · go_wp2_with fail
    go_ret
    exact ⟨rfl, hbw⟩
  obtain ⟨x, hx⟩ : ∃ z, z = iv s1 ax := ⟨_, rfl⟩
  have Zx : Hid (ZN v4 s1 p1 m1 c1 x) := (ZN.of ⟨Qx.out, Fx.out.1, of_decide_eq_true Fx.out.2.2.symm⟩ Fx.out.2.1).cast hx.symm
  clear hx
  clear Qx
  by_cases hj : jj < 0
  · have hjb : decide (jj < 0) = true := decide_eq_true hj
    go_wp2_with fail
    go_ret
    exact ⟨rfl, hbw⟩
  by_cases hk : kk < 0
  · have hjb : decide (jj < 0) = false := decide_eq_false hj
    have hkb : decide (kk < 0) = true := decide_eq_true hk
    go_wp2_with fail
    go_ret
    exact ⟨rfl, hbw⟩
  have hjb : decide (jj < 0) = false := decide_eq_false hj
  have hkb : decide (kk < 0) = false := decide_eq_false hk
  obtain ⟨J, rfl⟩ := Int.eq_ofNat_of_zero_le (by omega : 0 ≤ jj)
  obtain ⟨K, rfl⟩ := Int.eq_ofNat_of_zero_le (by omega : 0 ≤ kk)
  have HJK : Hid (J ≤ 9223372036854775807 ∧ K ≤ 9223372036854775807) := ⟨by have := HK.out.1; omega, by have := HK.out.2; omega⟩
  clear hj hk HK
  go_wp2_with fail
  clear hjb hkb
  refine (zof (1) v4 (by omega) (by omega)).mono ?_
  rintro e v5 ⟨s5, p5, m5, rfl, hz, hb5⟩
  have Yx : Hid (Box v5 gx (.bool s1) (.slice p1 m1 c1)) := Xx.out.below hb5
  clear Xx
  have Xx := Yx
  clear Yx
  have HT' : Hid (Tab v5) := HT.out.below hb5
  clear HT
  have HT := HT'
  clear HT'
  have Zx' : Hid (ZN v5 s1 p1 m1 c1 x) := Zx.out.below hb5
  clear Zx
  have Zx := Zx'
  clear Zx'
  have hbw' := Below.on hbw hb5
  clear hbw
  have hbw := hbw'
  clear hbw'
  clear hb5
  have Zone : Hid (ZN v5 s5 p5 m5 m5 (1)) := hz
  clear hz
  go_wp2_with fail
  refine (zshl Zone.out K HJK.out.2).mono ?_
  rintro e v6 ⟨ha, hb6⟩
  have Yx : Hid (Box v6 gx (.bool s1) (.slice p1 m1 c1)) := Xx.out.below hb6
  clear Xx
  have Xx := Yx
  clear Yx
  have HT' : Hid (Tab v6) := HT.out.below hb6
  clear HT
  have HT := HT'
  clear HT'
  have Zx' : Hid (ZN v6 s1 p1 m1 c1 x) := Zx.out.below hb6
  clear Zx
  have Zx := Zx'
  clear Zx'
  have Zone' : Hid (ZN v6 s5 p5 m5 m5 (1)) := Zone.out.below hb6
  clear Zone
  have Zone := Zone'
  clear Zone'
  have hbw' := Below.on hbw hb6
  clear hbw
  have hbw := hbw'
  clear hbw'
  clear hb6
  clear Zone
  rcases ha.zn with ⟨hl, s6, p6, m6, rfl, hz⟩ | ⟨hl, rfl⟩
  · have HL6 : Hid ((1 : Int) * 2 ^ K ≠ 0) := by show _ ≠ _; have hp : (0 : Int) < 2 ^ K := Int.pow_pos (by omega); omega
    clear ha hl
    have Ztwo : Hid (ZN v6 s6 p6 m6 m6 (1 * 2 ^ K)) := hz
    clear hz
    obtain ⟨cx0, cx1, fx0, fx1⟩ := Xx.out
    have hnex : gx < v6.heap.size := World.block_lt_of_cell? v6 _ cx0
    go_wp2_with fail
    clear cx0 cx1 fx0 fx1 hnex
    have Xtwo0 : Hid (Box (v6.alloc (.cells #[.bool s6, .slice p6 m6 m6] 35)) v6.heap.size (.bool s6) (.slice p6 m6 m6)) := Box.new v6 _ _ _
    have hbn : Below v6.heap.size v6 (v6.alloc (.cells #[.bool s6, .slice p6 m6 m6] 35)) := below1 v6 _
    generalize v6.alloc (.cells #[.bool s6, .slice p6 m6 m6] 35) = W6 at *
    have HGtwo : Hid (w.heap.size ≤ v6.heap.size) := hbw.size
    have Yx : Hid (Box W6 gx (.bool s1) (.slice p1 m1 c1)) := Xx.out.below hbn
    clear Xx
    have Xx := Yx
    clear Yx
    have HT' : Hid (Tab W6) := HT.out.below hbn
    clear HT
    have HT := HT'
    clear HT'
    have Zx' : Hid (ZN W6 s1 p1 m1 c1 x) := Zx.out.below hbn
    clear Zx
    have Zx := Zx'
    clear Zx'
    have Ztwo' : Hid (ZN W6 s6 p6 m6 m6 (1 * 2 ^ K)) := Ztwo.out.below hbn
    clear Ztwo
    have Ztwo := Ztwo'
    clear Ztwo'
    have hbw' := Below.on hbw hbn
    clear hbw
    have hbw := hbw'
    clear hbw'
    clear hbn
    generalize v6.heap.size = gtwo at *
    have Xtwo := Xtwo0
    clear Xtwo0
    obtain ⟨F, hF⟩ : ∃ v, v = fl (decide (x < 0)) x.natAbs (2 ^ K) := ⟨_, rfl⟩
    have HF : Hid (F = fl (decide (x < 0)) x.natAbs (2 ^ K)) := hF
    clear hF
    obtain ⟨N, hN⟩ : ∃ v, v = ne (decide (x < 0)) x.natAbs (2 ^ K) := ⟨_, rfl⟩
    have HN : Hid (N = ne (decide (x < 0)) x.natAbs (2 ^ K)) := hN
    clear hN
    obtain ⟨C, hC⟩ : ∃ v, v = ce (decide (x < 0)) x.natAbs (2 ^ K) := ⟨_, rfl⟩
    have HC : Hid (C = ce (decide (x < 0)) x.natAbs (2 ^ K)) := hC
    clear hC
    refine (zfshr Zx.out K HJK.out.2 HT.out).mono ?_
    rintro e v7 ⟨⟨s7, p7, m7, rfl, hz⟩, hb7⟩
    have Yx : Hid (Box v7 gx (.bool s1) (.slice p1 m1 c1)) := Xx.out.below hb7
    clear Xx
    have Xx := Yx
    clear Yx
    have Ytwo : Hid (Box v7 gtwo (.bool s6) (.slice p6 m6 m6)) := Xtwo.out.below hb7
    clear Xtwo
    have Xtwo := Ytwo
    clear Ytwo
    have HT' : Hid (Tab v7) := HT.out.below hb7
    clear HT
    have HT := HT'
    clear HT'
    have Zx' : Hid (ZN v7 s1 p1 m1 c1 x) := Zx.out.below hb7
    clear Zx
    have Zx := Zx'
    clear Zx'
    have Ztwo' : Hid (ZN v7 s6 p6 m6 m6 (1 * 2 ^ K)) := Ztwo.out.below hb7
    clear Ztwo
    have Ztwo := Ztwo'
    clear Ztwo'
    have hbw' := Below.on hbw hb7
    clear hbw
    have hbw := hbw'
    clear hbw'
    clear hb7
    have hz := hz.cast (z' := F) (HF.out.symm)
    have Zfa : Hid (ZN v7 s7 p7 m7 m7 (F)) := hz
    clear hz
    obtain ⟨cx0, cx1, fx0, fx1⟩ := Xx.out
    have hnex : gx < v7.heap.size := World.block_lt_of_cell? v7 _ cx0
    obtain ⟨ctwo0, ctwo1, ftwo0, ftwo1⟩ := Xtwo.out
    have hnetwo : gtwo < v7.heap.size := World.block_lt_of_cell? v7 _ ctwo0
    go_wp2_with fail
    clear cx0 cx1 fx0 fx1 hnex
    clear ctwo0 ctwo1 ftwo0 ftwo1 hnetwo
    have Xfa0 : Hid (Box (v7.alloc (.cells #[.bool s7, .slice p7 m7 m7] 35)) v7.heap.size (.bool s7) (.slice p7 m7 m7)) := Box.new v7 _ _ _
    have hbn : Below v7.heap.size v7 (v7.alloc (.cells #[.bool s7, .slice p7 m7 m7] 35)) := below1 v7 _
    generalize v7.alloc (.cells #[.bool s7, .slice p7 m7 m7] 35) = W7 at *
    have HGfa : Hid (w.heap.size ≤ v7.heap.size) := hbw.size
    have Yx : Hid (Box W7 gx (.bool s1) (.slice p1 m1 c1)) := Xx.out.below hbn
    clear Xx
    have Xx := Yx
    clear Yx
    have Ytwo : Hid (Box W7 gtwo (.bool s6) (.slice p6 m6 m6)) := Xtwo.out.below hbn
    clear Xtwo
    have Xtwo := Ytwo
    clear Ytwo
    have HT' : Hid (Tab W7) := HT.out.below hbn
    clear HT
    have HT := HT'
    clear HT'
    have Zx' : Hid (ZN W7 s1 p1 m1 c1 x) := Zx.out.below hbn
    clear Zx
    have Zx := Zx'
    clear Zx'
    have Ztwo' : Hid (ZN W7 s6 p6 m6 m6 (1 * 2 ^ K)) := Ztwo.out.below hbn
    clear Ztwo
    have Ztwo := Ztwo'
    clear Ztwo'
    have Zfa' : Hid (ZN W7 s7 p7 m7 m7 (F)) := Zfa.out.below hbn
    clear Zfa
    have Zfa := Zfa'
    clear Zfa'
    have hbw' := Below.on hbw hbn
    clear hbw
    have hbw := hbw'
    clear hbw'
    clear hbn
    generalize v7.heap.size = gfa at *
    have Xfa := Xfa0
    clear Xfa0
    refine (zfdiv Zx.out Ztwo.out HL6.out).mono ?_
    rintro e v8 ⟨⟨s8, p8, m8, rfl, hz⟩, hb8⟩
    have Yx : Hid (Box v8 gx (.bool s1) (.slice p1 m1 c1)) := Xx.out.below hb8
    clear Xx
    have Xx := Yx
    clear Yx
    have Ytwo : Hid (Box v8 gtwo (.bool s6) (.slice p6 m6 m6)) := Xtwo.out.below hb8
    clear Xtwo
    have Xtwo := Ytwo
    clear Ytwo
    have Yfa : Hid (Box v8 gfa (.bool s7) (.slice p7 m7 m7)) := Xfa.out.below hb8
    clear Xfa
    have Xfa := Yfa
    clear Yfa
    have HT' : Hid (Tab v8) := HT.out.below hb8
    clear HT
    have HT := HT'
    clear HT'
    have Zx' : Hid (ZN v8 s1 p1 m1 c1 x) := Zx.out.below hb8
    clear Zx
    have Zx := Zx'
    clear Zx'
    have Ztwo' : Hid (ZN v8 s6 p6 m6 m6 (1 * 2 ^ K)) := Ztwo.out.below hb8
    clear Ztwo
    have Ztwo := Ztwo'
    clear Ztwo'
    have Zfa' : Hid (ZN v8 s7 p7 m7 m7 (F)) := Zfa.out.below hb8
    clear Zfa
    have Zfa := Zfa'
    clear Zfa'
    have hbw' := Below.on hbw hb8
    clear hbw
    have hbw := hbw'
    clear hbw'
    clear hb8
    have hz := hz.cast (z' := F) (by rw [HF.out, (two_pos K).1, (two_pos K).2]; simp)
    have Zfb : Hid (ZN v8 s8 p8 m8 m8 (F)) := hz
    clear hz
    obtain ⟨cx0, cx1, fx0, fx1⟩ := Xx.out
    have hnex : gx < v8.heap.size := World.block_lt_of_cell? v8 _ cx0
    go_wp2_with fail
    clear cx0 cx1 fx0 fx1 hnex
    have Xfb0 : Hid (Box (v8.alloc (.cells #[.bool s8, .slice p8 m8 m8] 35)) v8.heap.size (.bool s8) (.slice p8 m8 m8)) := Box.new v8 _ _ _
    have hbn : Below v8.heap.size v8 (v8.alloc (.cells #[.bool s8, .slice p8 m8 m8] 35)) := below1 v8 _
    generalize v8.alloc (.cells #[.bool s8, .slice p8 m8 m8] 35) = W8 at *
    have HGfb : Hid (w.heap.size ≤ v8.heap.size) := hbw.size
    have Yx : Hid (Box W8 gx (.bool s1) (.slice p1 m1 c1)) := Xx.out.below hbn
    clear Xx
    have Xx := Yx
    clear Yx
    have Ytwo : Hid (Box W8 gtwo (.bool s6) (.slice p6 m6 m6)) := Xtwo.out.below hbn
    clear Xtwo
    have Xtwo := Ytwo
    clear Ytwo
    have Yfa : Hid (Box W8 gfa (.bool s7) (.slice p7 m7 m7)) := Xfa.out.below hbn
    clear Xfa
    have Xfa := Yfa
    clear Yfa
    have HT' : Hid (Tab W8) := HT.out.below hbn
    clear HT
    have HT := HT'
    clear HT'
    have Zx' : Hid (ZN W8 s1 p1 m1 c1 x) := Zx.out.below hbn
    clear Zx
    have Zx := Zx'
    clear Zx'
    have Ztwo' : Hid (ZN W8 s6 p6 m6 m6 (1 * 2 ^ K)) := Ztwo.out.below hbn
    clear Ztwo
    have Ztwo := Ztwo'
    clear Ztwo'
    have Zfa' : Hid (ZN W8 s7 p7 m7 m7 (F)) := Zfa.out.below hbn
    clear Zfa
    have Zfa := Zfa'
    clear Zfa'
    have Zfb' : Hid (ZN W8 s8 p8 m8 m8 (F)) := Zfb.out.below hbn
    clear Zfb
    have Zfb := Zfb'
    clear Zfb'
    have hbw' := Below.on hbw hbn
    clear hbw
    have hbw := hbw'
    clear hbw'
    clear hbn
    generalize v8.heap.size = gfb at *
    have Xfb := Xfb0
    clear Xfb0
    refine (zrshr Zx.out K HJK.out.2 HT.out).mono ?_
    rintro e v9 ⟨⟨s9, p9, m9, rfl, hz⟩, hb9⟩
    have Yx : Hid (Box v9 gx (.bool s1) (.slice p1 m1 c1)) := Xx.out.below hb9
    clear Xx
    have Xx := Yx
    clear Yx
    have Ytwo : Hid (Box v9 gtwo (.bool s6) (.slice p6 m6 m6)) := Xtwo.out.below hb9
    clear Xtwo
    have Xtwo := Ytwo
    clear Ytwo
    have Yfa : Hid (Box v9 gfa (.bool s7) (.slice p7 m7 m7)) := Xfa.out.below hb9
    clear Xfa
    have Xfa := Yfa
    clear Yfa
    have Yfb : Hid (Box v9 gfb (.bool s8) (.slice p8 m8 m8)) := Xfb.out.below hb9
    clear Xfb
    have Xfb := Yfb
    clear Yfb
    have HT' : Hid (Tab v9) := HT.out.below hb9
    clear HT
    have HT := HT'
    clear HT'
    have Zx' : Hid (ZN v9 s1 p1 m1 c1 x) := Zx.out.below hb9
    clear Zx
    have Zx := Zx'
    clear Zx'
    have Ztwo' : Hid (ZN v9 s6 p6 m6 m6 (1 * 2 ^ K)) := Ztwo.out.below hb9
    clear Ztwo
    have Ztwo := Ztwo'
    clear Ztwo'
    have Zfa' : Hid (ZN v9 s7 p7 m7 m7 (F)) := Zfa.out.below hb9
    clear Zfa
    have Zfa := Zfa'
    clear Zfa'
    have Zfb' : Hid (ZN v9 s8 p8 m8 m8 (F)) := Zfb.out.below hb9
    clear Zfb
    have Zfb := Zfb'
    clear Zfb'
    have hbw' := Below.on hbw hb9
    clear hbw
    have hbw := hbw'
    clear hbw'
    clear hb9
    have hz := hz.cast (z' := N) (HN.out.symm)
    have Zna : Hid (ZN v9 s9 p9 m9 m9 (N)) := hz
    clear hz
    obtain ⟨cx0, cx1, fx0, fx1⟩ := Xx.out
    have hnex : gx < v9.heap.size := World.block_lt_of_cell? v9 _ cx0
    obtain ⟨ctwo0, ctwo1, ftwo0, ftwo1⟩ := Xtwo.out
    have hnetwo : gtwo < v9.heap.size := World.block_lt_of_cell? v9 _ ctwo0
    go_wp2_with fail
    clear cx0 cx1 fx0 fx1 hnex
    clear ctwo0 ctwo1 ftwo0 ftwo1 hnetwo
    have Xna0 : Hid (Box (v9.alloc (.cells #[.bool s9, .slice p9 m9 m9] 35)) v9.heap.size (.bool s9) (.slice p9 m9 m9)) := Box.new v9 _ _ _
    have hbn : Below v9.heap.size v9 (v9.alloc (.cells #[.bool s9, .slice p9 m9 m9] 35)) := below1 v9 _
    generalize v9.alloc (.cells #[.bool s9, .slice p9 m9 m9] 35) = W9 at *
    have HGna : Hid (w.heap.size ≤ v9.heap.size) := hbw.size
    have Yx : Hid (Box W9 gx (.bool s1) (.slice p1 m1 c1)) := Xx.out.below hbn
    clear Xx
    have Xx := Yx
    clear Yx
    have Ytwo : Hid (Box W9 gtwo (.bool s6) (.slice p6 m6 m6)) := Xtwo.out.below hbn
    clear Xtwo
    have Xtwo := Ytwo
    clear Ytwo
    have Yfa : Hid (Box W9 gfa (.bool s7) (.slice p7 m7 m7)) := Xfa.out.below hbn
    clear Xfa
    have Xfa := Yfa
    clear Yfa
    have Yfb : Hid (Box W9 gfb (.bool s8) (.slice p8 m8 m8)) := Xfb.out.below hbn
    clear Xfb
    have Xfb := Yfb
    clear Yfb
    have HT' : Hid (Tab W9) := HT.out.below hbn
    clear HT
    have HT := HT'
    clear HT'
    have Zx' : Hid (ZN W9 s1 p1 m1 c1 x) := Zx.out.below hbn
    clear Zx
    have Zx := Zx'
    clear Zx'
    have Ztwo' : Hid (ZN W9 s6 p6 m6 m6 (1 * 2 ^ K)) := Ztwo.out.below hbn
    clear Ztwo
    have Ztwo := Ztwo'
    clear Ztwo'
    have Zfa' : Hid (ZN W9 s7 p7 m7 m7 (F)) := Zfa.out.below hbn
    clear Zfa
    have Zfa := Zfa'
    clear Zfa'
    have Zfb' : Hid (ZN W9 s8 p8 m8 m8 (F)) := Zfb.out.below hbn
    clear Zfb
    have Zfb := Zfb'
    clear Zfb'
    have Zna' : Hid (ZN W9 s9 p9 m9 m9 (N)) := Zna.out.below hbn
    clear Zna
    have Zna := Zna'
    clear Zna'
    have hbw' := Below.on hbw hbn
    clear hbw
    have hbw := hbw'
    clear hbw'
    clear hbn
    generalize v9.heap.size = gna at *
    have Xna := Xna0
    clear Xna0
    refine (zrdiv Zx.out Ztwo.out HL6.out).mono ?_
    rintro e v10 ⟨⟨s10, p10, m10, rfl, hz⟩, hb10⟩
    have Yx : Hid (Box v10 gx (.bool s1) (.slice p1 m1 c1)) := Xx.out.below hb10
    clear Xx
    have Xx := Yx
    clear Yx
    have Ytwo : Hid (Box v10 gtwo (.bool s6) (.slice p6 m6 m6)) := Xtwo.out.below hb10
    clear Xtwo
    have Xtwo := Ytwo
    clear Ytwo
    have Yfa : Hid (Box v10 gfa (.bool s7) (.slice p7 m7 m7)) := Xfa.out.below hb10
    clear Xfa
    have Xfa := Yfa
    clear Yfa
    have Yfb : Hid (Box v10 gfb (.bool s8) (.slice p8 m8 m8)) := Xfb.out.below hb10
    clear Xfb
    have Xfb := Yfb
    clear Yfb
    have Yna : Hid (Box v10 gna (.bool s9) (.slice p9 m9 m9)) := Xna.out.below hb10
    clear Xna
    have Xna := Yna
    clear Yna
    have HT' : Hid (Tab v10) := HT.out.below hb10
    clear HT
    have HT := HT'
    clear HT'
    have Zx' : Hid (ZN v10 s1 p1 m1 c1 x) := Zx.out.below hb10
    clear Zx
    have Zx := Zx'
    clear Zx'
    have Ztwo' : Hid (ZN v10 s6 p6 m6 m6 (1 * 2 ^ K)) := Ztwo.out.below hb10
    clear Ztwo
    have Ztwo := Ztwo'
    clear Ztwo'
    have Zfa' : Hid (ZN v10 s7 p7 m7 m7 (F)) := Zfa.out.below hb10
    clear Zfa
    have Zfa := Zfa'
    clear Zfa'
    have Zfb' : Hid (ZN v10 s8 p8 m8 m8 (F)) := Zfb.out.below hb10
    clear Zfb
    have Zfb := Zfb'
    clear Zfb'
    have Zna' : Hid (ZN v10 s9 p9 m9 m9 (N)) := Zna.out.below hb10
    clear Zna
    have Zna := Zna'
    clear Zna'
    have hbw' := Below.on hbw hb10
    clear hbw
    have hbw := hbw'
    clear hbw'
    clear hb10
    have hz := hz.cast (z' := N) (by rw [HN.out, (two_pos K).1, (two_pos K).2]; simp)
    have Znb : Hid (ZN v10 s10 p10 m10 m10 (N)) := hz
    clear hz
    obtain ⟨cx0, cx1, fx0, fx1⟩ := Xx.out
    have hnex : gx < v10.heap.size := World.block_lt_of_cell? v10 _ cx0
    go_wp2_with fail
    clear cx0 cx1 fx0 fx1 hnex
    have Xnb0 : Hid (Box (v10.alloc (.cells #[.bool s10, .slice p10 m10 m10] 35)) v10.heap.size (.bool s10) (.slice p10 m10 m10)) := Box.new v10 _ _ _
    have hbn : Below v10.heap.size v10 (v10.alloc (.cells #[.bool s10, .slice p10 m10 m10] 35)) := below1 v10 _
    generalize v10.alloc (.cells #[.bool s10, .slice p10 m10 m10] 35) = W10 at *
    have HGnb : Hid (w.heap.size ≤ v10.heap.size) := hbw.size
    have Yx : Hid (Box W10 gx (.bool s1) (.slice p1 m1 c1)) := Xx.out.below hbn
    clear Xx
    have Xx := Yx
    clear Yx
    have Ytwo : Hid (Box W10 gtwo (.bool s6) (.slice p6 m6 m6)) := Xtwo.out.below hbn
    clear Xtwo
    have Xtwo := Ytwo
    clear Ytwo
    have Yfa : Hid (Box W10 gfa (.bool s7) (.slice p7 m7 m7)) := Xfa.out.below hbn
    clear Xfa
    have Xfa := Yfa
    clear Yfa
    have Yfb : Hid (Box W10 gfb (.bool s8) (.slice p8 m8 m8)) := Xfb.out.below hbn
    clear Xfb
    have Xfb := Yfb
    clear Yfb
    have Yna : Hid (Box W10 gna (.bool s9) (.slice p9 m9 m9)) := Xna.out.below hbn
    clear Xna
    have Xna := Yna
    clear Yna
    have HT' : Hid (Tab W10) := HT.out.below hbn
    clear HT
    have HT := HT'
    clear HT'
    have Zx' : Hid (ZN W10 s1 p1 m1 c1 x) := Zx.out.below hbn
    clear Zx
    have Zx := Zx'
    clear Zx'
    have Ztwo' : Hid (ZN W10 s6 p6 m6 m6 (1 * 2 ^ K)) := Ztwo.out.below hbn
    clear Ztwo
    have Ztwo := Ztwo'
    clear Ztwo'
    have Zfa' : Hid (ZN W10 s7 p7 m7 m7 (F)) := Zfa.out.below hbn
    clear Zfa
    have Zfa := Zfa'
    clear Zfa'
    have Zfb' : Hid (ZN W10 s8 p8 m8 m8 (F)) := Zfb.out.below hbn
    clear Zfb
    have Zfb := Zfb'
    clear Zfb'
    have Zna' : Hid (ZN W10 s9 p9 m9 m9 (N)) := Zna.out.below hbn
    clear Zna
    have Zna := Zna'
    clear Zna'
    have Znb' : Hid (ZN W10 s10 p10 m10 m10 (N)) := Znb.out.below hbn
    clear Znb
    have Znb := Znb'
    clear Znb'
    have hbw' := Below.on hbw hbn
    clear hbw
    have hbw := hbw'
    clear hbw'
    clear hbn
    generalize v10.heap.size = gnb at *
    have Xnb := Xnb0
    clear Xnb0
    refine (zcshr Zx.out K HJK.out.2 HT.out).mono ?_
    rintro e v11 ⟨⟨s11, p11, m11, rfl, hz⟩, hb11⟩
    have Yx : Hid (Box v11 gx (.bool s1) (.slice p1 m1 c1)) := Xx.out.below hb11
    clear Xx
    have Xx := Yx
    clear Yx
    have Ytwo : Hid (Box v11 gtwo (.bool s6) (.slice p6 m6 m6)) := Xtwo.out.below hb11
    clear Xtwo
    have Xtwo := Ytwo
    clear Ytwo
    have Yfa : Hid (Box v11 gfa (.bool s7) (.slice p7 m7 m7)) := Xfa.out.below hb11
    clear Xfa
    have Xfa := Yfa
    clear Yfa
    have Yfb : Hid (Box v11 gfb (.bool s8) (.slice p8 m8 m8)) := Xfb.out.below hb11
    clear Xfb
    have Xfb := Yfb
    clear Yfb
    have Yna : Hid (Box v11 gna (.bool s9) (.slice p9 m9 m9)) := Xna.out.below hb11
    clear Xna
    have Xna := Yna
    clear Yna
    have Ynb : Hid (Box v11 gnb (.bool s10) (.slice p10 m10 m10)) := Xnb.out.below hb11
    clear Xnb
    have Xnb := Ynb
    clear Ynb
    have HT' : Hid (Tab v11) := HT.out.below hb11
    clear HT
    have HT := HT'
    clear HT'
    have Zx' : Hid (ZN v11 s1 p1 m1 c1 x) := Zx.out.below hb11
    clear Zx
    have Zx := Zx'
    clear Zx'
    have Ztwo' : Hid (ZN v11 s6 p6 m6 m6 (1 * 2 ^ K)) := Ztwo.out.below hb11
    clear Ztwo
    have Ztwo := Ztwo'
    clear Ztwo'
    have Zfa' : Hid (ZN v11 s7 p7 m7 m7 (F)) := Zfa.out.below hb11
    clear Zfa
    have Zfa := Zfa'
    clear Zfa'
    have Zfb' : Hid (ZN v11 s8 p8 m8 m8 (F)) := Zfb.out.below hb11
    clear Zfb
    have Zfb := Zfb'
    clear Zfb'
    have Zna' : Hid (ZN v11 s9 p9 m9 m9 (N)) := Zna.out.below hb11
    clear Zna
    have Zna := Zna'
    clear Zna'
    have Znb' : Hid (ZN v11 s10 p10 m10 m10 (N)) := Znb.out.below hb11
    clear Znb
    have Znb := Znb'
    clear Znb'
    have hbw' := Below.on hbw hb11
    clear hbw
    have hbw := hbw'
    clear hbw'
    clear hb11
    have hz := hz.cast (z' := C) (HC.out.symm)
    have Zca : Hid (ZN v11 s11 p11 m11 m11 (C)) := hz
    clear hz
    obtain ⟨cx0, cx1, fx0, fx1⟩ := Xx.out
    have hnex : gx < v11.heap.size := World.block_lt_of_cell? v11 _ cx0
    obtain ⟨ctwo0, ctwo1, ftwo0, ftwo1⟩ := Xtwo.out
    have hnetwo : gtwo < v11.heap.size := World.block_lt_of_cell? v11 _ ctwo0
    go_wp2_with fail
    clear cx0 cx1 fx0 fx1 hnex
    clear ctwo0 ctwo1 ftwo0 ftwo1 hnetwo
    have Xca0 : Hid (Box (v11.alloc (.cells #[.bool s11, .slice p11 m11 m11] 35)) v11.heap.size (.bool s11) (.slice p11 m11 m11)) := Box.new v11 _ _ _
    have hbn : Below v11.heap.size v11 (v11.alloc (.cells #[.bool s11, .slice p11 m11 m11] 35)) := below1 v11 _
    generalize v11.alloc (.cells #[.bool s11, .slice p11 m11 m11] 35) = W11 at *
    have HGca : Hid (w.heap.size ≤ v11.heap.size) := hbw.size
    have Yx : Hid (Box W11 gx (.bool s1) (.slice p1 m1 c1)) := Xx.out.below hbn
    clear Xx
    have Xx := Yx
    clear Yx
    have Ytwo : Hid (Box W11 gtwo (.bool s6) (.slice p6 m6 m6)) := Xtwo.out.below hbn
    clear Xtwo
    have Xtwo := Ytwo
    clear Ytwo
    have Yfa : Hid (Box W11 gfa (.bool s7) (.slice p7 m7 m7)) := Xfa.out.below hbn
    clear Xfa
    have Xfa := Yfa
    clear Yfa
    have Yfb : Hid (Box W11 gfb (.bool s8) (.slice p8 m8 m8)) := Xfb.out.below hbn
    clear Xfb
    have Xfb := Yfb
    clear Yfb
    have Yna : Hid (Box W11 gna (.bool s9) (.slice p9 m9 m9)) := Xna.out.below hbn
    clear Xna
    have Xna := Yna
    clear Yna
    have Ynb : Hid (Box W11 gnb (.bool s10) (.slice p10 m10 m10)) := Xnb.out.below hbn
    clear Xnb
    have Xnb := Ynb
    clear Ynb
    have HT' : Hid (Tab W11) := HT.out.below hbn
    clear HT
    have HT := HT'
    clear HT'
    have Zx' : Hid (ZN W11 s1 p1 m1 c1 x) := Zx.out.below hbn
    clear Zx
    have Zx := Zx'
    clear Zx'
    have Ztwo' : Hid (ZN W11 s6 p6 m6 m6 (1 * 2 ^ K)) := Ztwo.out.below hbn
    clear Ztwo
    have Ztwo := Ztwo'
    clear Ztwo'
    have Zfa' : Hid (ZN W11 s7 p7 m7 m7 (F)) := Zfa.out.below hbn
    clear Zfa
    have Zfa := Zfa'
    clear Zfa'
    have Zfb' : Hid (ZN W11 s8 p8 m8 m8 (F)) := Zfb.out.below hbn
    clear Zfb
    have Zfb := Zfb'
    clear Zfb'
    have Zna' : Hid (ZN W11 s9 p9 m9 m9 (N)) := Zna.out.below hbn
    clear Zna
    have Zna := Zna'
    clear Zna'
    have Znb' : Hid (ZN W11 s10 p10 m10 m10 (N)) := Znb.out.below hbn
    clear Znb
    have Znb := Znb'
    clear Znb'
    have Zca' : Hid (ZN W11 s11 p11 m11 m11 (C)) := Zca.out.below hbn
    clear Zca
    have Zca := Zca'
    clear Zca'
    have hbw' := Below.on hbw hbn
    clear hbw
    have hbw := hbw'
    clear hbw'
    clear hbn
    generalize v11.heap.size = gca at *
    have Xca := Xca0
    clear Xca0
    refine (zcdiv Zx.out Ztwo.out HL6.out).mono ?_
    rintro e v12 ⟨⟨s12, p12, m12, rfl, hz⟩, hb12⟩
    have Yx : Hid (Box v12 gx (.bool s1) (.slice p1 m1 c1)) := Xx.out.below hb12
    clear Xx
    have Xx := Yx
    clear Yx
    have Ytwo : Hid (Box v12 gtwo (.bool s6) (.slice p6 m6 m6)) := Xtwo.out.below hb12
    clear Xtwo
    have Xtwo := Ytwo
    clear Ytwo
    have Yfa : Hid (Box v12 gfa (.bool s7) (.slice p7 m7 m7)) := Xfa.out.below hb12
    clear Xfa
    have Xfa := Yfa
    clear Yfa
    have Yfb : Hid (Box v12 gfb (.bool s8) (.slice p8 m8 m8)) := Xfb.out.below hb12
    clear Xfb
    have Xfb := Yfb
    clear Yfb
    have Yna : Hid (Box v12 gna (.bool s9) (.slice p9 m9 m9)) := Xna.out.below hb12
    clear Xna
    have Xna := Yna
    clear Yna
    have Ynb : Hid (Box v12 gnb (.bool s10) (.slice p10 m10 m10)) := Xnb.out.below hb12
    clear Xnb
    have Xnb := Ynb
    clear Ynb
    have Yca : Hid (Box v12 gca (.bool s11) (.slice p11 m11 m11)) := Xca.out.below hb12
    clear Xca
    have Xca := Yca
    clear Yca
    have HT' : Hid (Tab v12) := HT.out.below hb12
    clear HT
    have HT := HT'
    clear HT'
    have Zx' : Hid (ZN v12 s1 p1 m1 c1 x) := Zx.out.below hb12
    clear Zx
    have Zx := Zx'
    clear Zx'
    have Ztwo' : Hid (ZN v12 s6 p6 m6 m6 (1 * 2 ^ K)) := Ztwo.out.below hb12
    clear Ztwo
    have Ztwo := Ztwo'
    clear Ztwo'
    have Zfa' : Hid (ZN v12 s7 p7 m7 m7 (F)) := Zfa.out.below hb12
    clear Zfa
    have Zfa := Zfa'
    clear Zfa'
    have Zfb' : Hid (ZN v12 s8 p8 m8 m8 (F)) := Zfb.out.below hb12
    clear Zfb
    have Zfb := Zfb'
    clear Zfb'
    have Zna' : Hid (ZN v12 s9 p9 m9 m9 (N)) := Zna.out.below hb12
    clear Zna
    have Zna := Zna'
    clear Zna'
    have Znb' : Hid (ZN v12 s10 p10 m10 m10 (N)) := Znb.out.below hb12
    clear Znb
    have Znb := Znb'
    clear Znb'
    have Zca' : Hid (ZN v12 s11 p11 m11 m11 (C)) := Zca.out.below hb12
    clear Zca
    have Zca := Zca'
    clear Zca'
    have hbw' := Below.on hbw hb12
    clear hbw
    have hbw := hbw'
    clear hbw'
    clear hb12
    have hz := hz.cast (z' := C) (by rw [HC.out, (two_pos K).1, (two_pos K).2]; simp)
    have Zcb : Hid (ZN v12 s12 p12 m12 m12 (C)) := hz
    clear hz
    obtain ⟨cfa0, cfa1, ffa0, ffa1⟩ := Xfa.out
    have hnefa : gfa < v12.heap.size := World.block_lt_of_cell? v12 _ cfa0
    obtain ⟨cfb0, cfb1, ffb0, ffb1⟩ := Xfb.out
    have hnefb : gfb < v12.heap.size := World.block_lt_of_cell? v12 _ cfb0
    go_wp2_with fail
    clear cfa0 cfa1 ffa0 ffa1 hnefa
    clear cfb0 cfb1 ffb0 ffb1 hnefb
    have Xcb0 : Hid (Box (v12.alloc (.cells #[.bool s12, .slice p12 m12 m12] 35)) v12.heap.size (.bool s12) (.slice p12 m12 m12)) := Box.new v12 _ _ _
    have hbn : Below v12.heap.size v12 (v12.alloc (.cells #[.bool s12, .slice p12 m12 m12] 35)) := below1 v12 _
    generalize v12.alloc (.cells #[.bool s12, .slice p12 m12 m12] 35) = W12 at *
    have HGcb : Hid (w.heap.size ≤ v12.heap.size) := hbw.size
    have Yx : Hid (Box W12 gx (.bool s1) (.slice p1 m1 c1)) := Xx.out.below hbn
    clear Xx
    have Xx := Yx
    clear Yx
    have Ytwo : Hid (Box W12 gtwo (.bool s6) (.slice p6 m6 m6)) := Xtwo.out.below hbn
    clear Xtwo
    have Xtwo := Ytwo
    clear Ytwo
    have Yfa : Hid (Box W12 gfa (.bool s7) (.slice p7 m7 m7)) := Xfa.out.below hbn
    clear Xfa
    have Xfa := Yfa
    clear Yfa
    have Yfb : Hid (Box W12 gfb (.bool s8) (.slice p8 m8 m8)) := Xfb.out.below hbn
    clear Xfb
    have Xfb := Yfb
    clear Yfb
    have Yna : Hid (Box W12 gna (.bool s9) (.slice p9 m9 m9)) := Xna.out.below hbn
    clear Xna
    have Xna := Yna
    clear Yna
    have Ynb : Hid (Box W12 gnb (.bool s10) (.slice p10 m10 m10)) := Xnb.out.below hbn
    clear Xnb
    have Xnb := Ynb
    clear Ynb
    have Yca : Hid (Box W12 gca (.bool s11) (.slice p11 m11 m11)) := Xca.out.below hbn
    clear Xca
    have Xca := Yca
    clear Yca
    have HT' : Hid (Tab W12) := HT.out.below hbn
    clear HT
    have HT := HT'
    clear HT'
    have Zx' : Hid (ZN W12 s1 p1 m1 c1 x) := Zx.out.below hbn
    clear Zx
    have Zx := Zx'
    clear Zx'
    have Ztwo' : Hid (ZN W12 s6 p6 m6 m6 (1 * 2 ^ K)) := Ztwo.out.below hbn
    clear Ztwo
    have Ztwo := Ztwo'
    clear Ztwo'
    have Zfa' : Hid (ZN W12 s7 p7 m7 m7 (F)) := Zfa.out.below hbn
    clear Zfa
    have Zfa := Zfa'
    clear Zfa'
    have Zfb' : Hid (ZN W12 s8 p8 m8 m8 (F)) := Zfb.out.below hbn
    clear Zfb
    have Zfb := Zfb'
    clear Zfb'
    have Zna' : Hid (ZN W12 s9 p9 m9 m9 (N)) := Zna.out.below hbn
    clear Zna
    have Zna := Zna'
    clear Zna'
    have Znb' : Hid (ZN W12 s10 p10 m10 m10 (N)) := Znb.out.below hbn
    clear Znb
    have Znb := Znb'
    clear Znb'
    have Zca' : Hid (ZN W12 s11 p11 m11 m11 (C)) := Zca.out.below hbn
    clear Zca
    have Zca := Zca'
    clear Zca'
    have Zcb' : Hid (ZN W12 s12 p12 m12 m12 (C)) := Zcb.out.below hbn
    clear Zcb
    have Zcb := Zcb'
    clear Zcb'
    have hbw' := Below.on hbw hbn
    clear hbw
    have hbw := hbw'
    clear hbw'
    clear hbn
    generalize v12.heap.size = gcb at *
    have Xcb := Xcb0
    clear Xcb0
    clear Xtwo
    clear Ztwo
    refine (zsame Zfa.out Zfb.out).mono ?_
    rintro e v13 ⟨rfl, hb13⟩
    rw [decide_eq_true rfl]
    have Yx : Hid (Box v13 gx (.bool s1) (.slice p1 m1 c1)) := Xx.out.below hb13
    clear Xx
    have Xx := Yx
    clear Yx
    have Yfa : Hid (Box v13 gfa (.bool s7) (.slice p7 m7 m7)) := Xfa.out.below hb13
    clear Xfa
    have Xfa := Yfa
    clear Yfa
    have Yfb : Hid (Box v13 gfb (.bool s8) (.slice p8 m8 m8)) := Xfb.out.below hb13
    clear Xfb
    have Xfb := Yfb
    clear Yfb
    have Yna : Hid (Box v13 gna (.bool s9) (.slice p9 m9 m9)) := Xna.out.below hb13
    clear Xna
    have Xna := Yna
    clear Yna
    have Ynb : Hid (Box v13 gnb (.bool s10) (.slice p10 m10 m10)) := Xnb.out.below hb13
    clear Xnb
    have Xnb := Ynb
    clear Ynb
    have Yca : Hid (Box v13 gca (.bool s11) (.slice p11 m11 m11)) := Xca.out.below hb13
    clear Xca
    have Xca := Yca
    clear Yca
    have Ycb : Hid (Box v13 gcb (.bool s12) (.slice p12 m12 m12)) := Xcb.out.below hb13
    clear Xcb
    have Xcb := Ycb
    clear Ycb
    have HT' : Hid (Tab v13) := HT.out.below hb13
    clear HT
    have HT := HT'
    clear HT'
    have Zx' : Hid (ZN v13 s1 p1 m1 c1 x) := Zx.out.below hb13
    clear Zx
    have Zx := Zx'
    clear Zx'
    have Zfa' : Hid (ZN v13 s7 p7 m7 m7 (F)) := Zfa.out.below hb13
    clear Zfa
    have Zfa := Zfa'
    clear Zfa'
    have Zfb' : Hid (ZN v13 s8 p8 m8 m8 (F)) := Zfb.out.below hb13
    clear Zfb
    have Zfb := Zfb'
    clear Zfb'
    have Zna' : Hid (ZN v13 s9 p9 m9 m9 (N)) := Zna.out.below hb13
    clear Zna
    have Zna := Zna'
    clear Zna'
    have Znb' : Hid (ZN v13 s10 p10 m10 m10 (N)) := Znb.out.below hb13
    clear Znb
    have Znb := Znb'
    clear Znb'
    have Zca' : Hid (ZN v13 s11 p11 m11 m11 (C)) := Zca.out.below hb13
    clear Zca
    have Zca := Zca'
    clear Zca'
    have Zcb' : Hid (ZN v13 s12 p12 m12 m12 (C)) := Zcb.out.below hb13
    clear Zcb
    have Zcb := Zcb'
    clear Zcb'
    have hbw' := Below.on hbw hb13
    clear hbw
    have hbw := hbw'
    clear hbw'
    clear hb13
    clear Xfa
    clear Xfb
    clear Zfa
    clear Zfb
    obtain ⟨cna0, cna1, fna0, fna1⟩ := Xna.out
    have hnena : gna < v13.heap.size := World.block_lt_of_cell? v13 _ cna0
    obtain ⟨cnb0, cnb1, fnb0, fnb1⟩ := Xnb.out
    have hnenb : gnb < v13.heap.size := World.block_lt_of_cell? v13 _ cnb0
    go_wp2_with fail
    clear cna0 cna1 fna0 fna1 hnena
    clear cnb0 cnb1 fnb0 fnb1 hnenb
    refine (zsame Zna.out Znb.out).mono ?_
    rintro e v14 ⟨rfl, hb14⟩
    rw [decide_eq_true rfl]
    have Yx : Hid (Box v14 gx (.bool s1) (.slice p1 m1 c1)) := Xx.out.below hb14
    clear Xx
    have Xx := Yx
    clear Yx
    have Yna : Hid (Box v14 gna (.bool s9) (.slice p9 m9 m9)) := Xna.out.below hb14
    clear Xna
    have Xna := Yna
    clear Yna
    have Ynb : Hid (Box v14 gnb (.bool s10) (.slice p10 m10 m10)) := Xnb.out.below hb14
    clear Xnb
    have Xnb := Ynb
    clear Ynb
    have Yca : Hid (Box v14 gca (.bool s11) (.slice p11 m11 m11)) := Xca.out.below hb14
    clear Xca
    have Xca := Yca
    clear Yca
    have Ycb : Hid (Box v14 gcb (.bool s12) (.slice p12 m12 m12)) := Xcb.out.below hb14
    clear Xcb
    have Xcb := Ycb
    clear Ycb
    have HT' : Hid (Tab v14) := HT.out.below hb14
    clear HT
    have HT := HT'
    clear HT'
    have Zx' : Hid (ZN v14 s1 p1 m1 c1 x) := Zx.out.below hb14
    clear Zx
    have Zx := Zx'
    clear Zx'
    have Zna' : Hid (ZN v14 s9 p9 m9 m9 (N)) := Zna.out.below hb14
    clear Zna
    have Zna := Zna'
    clear Zna'
    have Znb' : Hid (ZN v14 s10 p10 m10 m10 (N)) := Znb.out.below hb14
    clear Znb
    have Znb := Znb'
    clear Znb'
    have Zca' : Hid (ZN v14 s11 p11 m11 m11 (C)) := Zca.out.below hb14
    clear Zca
    have Zca := Zca'
    clear Zca'
    have Zcb' : Hid (ZN v14 s12 p12 m12 m12 (C)) := Zcb.out.below hb14
    clear Zcb
    have Zcb := Zcb'
    clear Zcb'
    have hbw' := Below.on hbw hb14
    clear hbw
    have hbw := hbw'
    clear hbw'
    clear hb14
    clear Xna
    clear Xnb
    clear Zna
    clear Znb
    obtain ⟨cca0, cca1, fca0, fca1⟩ := Xca.out
    have hneca : gca < v14.heap.size := World.block_lt_of_cell? v14 _ cca0
    obtain ⟨ccb0, ccb1, fcb0, fcb1⟩ := Xcb.out
    have hnecb : gcb < v14.heap.size := World.block_lt_of_cell? v14 _ ccb0
    go_wp2_with fail
    clear cca0 cca1 fca0 fca1 hneca
    clear ccb0 ccb1 fcb0 fcb1 hnecb
    refine (zsame Zca.out Zcb.out).mono ?_
    rintro e v15 ⟨rfl, hb15⟩
    rw [decide_eq_true rfl]
    have Yx : Hid (Box v15 gx (.bool s1) (.slice p1 m1 c1)) := Xx.out.below hb15
    clear Xx
    have Xx := Yx
    clear Yx
    have Yca : Hid (Box v15 gca (.bool s11) (.slice p11 m11 m11)) := Xca.out.below hb15
    clear Xca
    have Xca := Yca
    clear Yca
    have Ycb : Hid (Box v15 gcb (.bool s12) (.slice p12 m12 m12)) := Xcb.out.below hb15
    clear Xcb
    have Xcb := Ycb
    clear Ycb
    have HT' : Hid (Tab v15) := HT.out.below hb15
    clear HT
    have HT := HT'
    clear HT'
    have Zx' : Hid (ZN v15 s1 p1 m1 c1 x) := Zx.out.below hb15
    clear Zx
    have Zx := Zx'
    clear Zx'
    have Zca' : Hid (ZN v15 s11 p11 m11 m11 (C)) := Zca.out.below hb15
    clear Zca
    have Zca := Zca'
    clear Zca'
    have Zcb' : Hid (ZN v15 s12 p12 m12 m12 (C)) := Zcb.out.below hb15
    clear Zcb
    have Zcb := Zcb'
    clear Zcb'
    have hbw' := Below.on hbw hb15
    clear hbw
    have hbw := hbw'
    clear hbw'
    clear hb15
    clear Xca
    clear Xcb
    clear Zca
    clear Zcb
    obtain ⟨cx0, cx1, fx0, fx1⟩ := Xx.out
    have hnex : gx < v15.heap.size := World.block_lt_of_cell? v15 _ cx0
    go_wp2_with fail
    clear cx0 cx1 fx0 fx1 hnex
    refine (zshl Zx.out K HJK.out.2).mono ?_
    rintro e v20 ⟨ha, hb20⟩
    have Yx : Hid (Box v20 gx (.bool s1) (.slice p1 m1 c1)) := Xx.out.below hb20
    clear Xx
    have Xx := Yx
    clear Yx
    have HT' : Hid (Tab v20) := HT.out.below hb20
    clear HT
    have HT := HT'
    clear HT'
    have Zx' : Hid (ZN v20 s1 p1 m1 c1 x) := Zx.out.below hb20
    clear Zx
    have Zx := Zx'
    clear Zx'
    have hbw' := Below.on hbw hb20
    clear hbw
    have hbw := hbw'
    clear hbw'
    clear hb20
    rcases ha.zn with ⟨hl, s20, p20, m20, rfl, hz⟩ | ⟨hl, rfl⟩
    · clear ha hl
      have Zup : Hid (ZN v20 s20 p20 m20 m20 (x * 2 ^ K)) := hz
      clear hz
      go_wp2_with fail
      have Xup0 : Hid (Box (v20.alloc (.cells #[.bool s20, .slice p20 m20 m20] 35)) v20.heap.size (.bool s20) (.slice p20 m20 m20)) := Box.new v20 _ _ _
      have hbn : Below v20.heap.size v20 (v20.alloc (.cells #[.bool s20, .slice p20 m20 m20] 35)) := below1 v20 _
      generalize v20.alloc (.cells #[.bool s20, .slice p20 m20 m20] 35) = W20 at *
      have HGup : Hid (w.heap.size ≤ v20.heap.size) := hbw.size
      have Yx : Hid (Box W20 gx (.bool s1) (.slice p1 m1 c1)) := Xx.out.below hbn
      clear Xx
      have Xx := Yx
      clear Yx
      have HT' : Hid (Tab W20) := HT.out.below hbn
      clear HT
      have HT := HT'
      clear HT'
      have Zx' : Hid (ZN W20 s1 p1 m1 c1 x) := Zx.out.below hbn
      clear Zx
      have Zx := Zx'
      clear Zx'
      have Zup' : Hid (ZN W20 s20 p20 m20 m20 (x * 2 ^ K)) := Zup.out.below hbn
      clear Zup
      have Zup := Zup'
      clear Zup'
      have hbw' := Below.on hbw hbn
      clear hbw
      have hbw := hbw'
      clear hbw'
      clear hbn
      generalize v20.heap.size = gup at *
      have Xup := Xup0
      clear Xup0
      refine (zrshr Zup.out K HJK.out.2 HT.out).mono ?_
      rintro e v21 ⟨⟨s21, p21, m21, rfl, hz⟩, hb21⟩
      have Yx : Hid (Box v21 gx (.bool s1) (.slice p1 m1 c1)) := Xx.out.below hb21
      clear Xx
      have Xx := Yx
      clear Yx
      have Yup : Hid (Box v21 gup (.bool s20) (.slice p20 m20 m20)) := Xup.out.below hb21
      clear Xup
      have Xup := Yup
      clear Yup
      have HT' : Hid (Tab v21) := HT.out.below hb21
      clear HT
      have HT := HT'
      clear HT'
      have Zx' : Hid (ZN v21 s1 p1 m1 c1 x) := Zx.out.below hb21
      clear Zx
      have Zx := Zx'
      clear Zx'
      have Zup' : Hid (ZN v21 s20 p20 m20 m20 (x * 2 ^ K)) := Zup.out.below hb21
      clear Zup
      have Zup := Zup'
      clear Zup'
      have hbw' := Below.on hbw hb21
      clear hbw
      have hbw := hbw'
      clear hbw'
      clear hb21
      have hz := hz.cast (z' := x) (ne_up x K)
      have Zdown : Hid (ZN v21 s21 p21 m21 m21 (x)) := hz
      clear hz
      obtain ⟨cx0, cx1, fx0, fx1⟩ := Xx.out
      have hnex : gx < v21.heap.size := World.block_lt_of_cell? v21 _ cx0
      go_wp2_with fail
      clear cx0 cx1 fx0 fx1 hnex
      have Xdown0 : Hid (Box (v21.alloc (.cells #[.bool s21, .slice p21 m21 m21] 35)) v21.heap.size (.bool s21) (.slice p21 m21 m21)) := Box.new v21 _ _ _
      have hbn : Below v21.heap.size v21 (v21.alloc (.cells #[.bool s21, .slice p21 m21 m21] 35)) := below1 v21 _
      generalize v21.alloc (.cells #[.bool s21, .slice p21 m21 m21] 35) = W21 at *
      have HGdown : Hid (w.heap.size ≤ v21.heap.size) := hbw.size
      have Yx : Hid (Box W21 gx (.bool s1) (.slice p1 m1 c1)) := Xx.out.below hbn
      clear Xx
      have Xx := Yx
      clear Yx
      have Yup : Hid (Box W21 gup (.bool s20) (.slice p20 m20 m20)) := Xup.out.below hbn
      clear Xup
      have Xup := Yup
      clear Yup
      have HT' : Hid (Tab W21) := HT.out.below hbn
      clear HT
      have HT := HT'
      clear HT'
      have Zx' : Hid (ZN W21 s1 p1 m1 c1 x) := Zx.out.below hbn
      clear Zx
      have Zx := Zx'
      clear Zx'
      have Zup' : Hid (ZN W21 s20 p20 m20 m20 (x * 2 ^ K)) := Zup.out.below hbn
      clear Zup
      have Zup := Zup'
      clear Zup'
      have Zdown' : Hid (ZN W21 s21 p21 m21 m21 (x)) := Zdown.out.below hbn
      clear Zdown
      have Zdown := Zdown'
      clear Zdown'
      have hbw' := Below.on hbw hbn
      clear hbw
      have hbw := hbw'
      clear hbw'
      clear hbn
      generalize v21.heap.size = gdown at *
      have Xdown := Xdown0
      clear Xdown0
      refine (zsame Zdown.out Zx.out).mono ?_
      rintro e v22 ⟨rfl, hb22⟩
      rw [decide_eq_true rfl]
      have Yx : Hid (Box v22 gx (.bool s1) (.slice p1 m1 c1)) := Xx.out.below hb22
      clear Xx
      have Xx := Yx
      clear Yx
      have Yup : Hid (Box v22 gup (.bool s20) (.slice p20 m20 m20)) := Xup.out.below hb22
      clear Xup
      have Xup := Yup
      clear Yup
      have Ydown : Hid (Box v22 gdown (.bool s21) (.slice p21 m21 m21)) := Xdown.out.below hb22
      clear Xdown
      have Xdown := Ydown
      clear Ydown
      have HT' : Hid (Tab v22) := HT.out.below hb22
      clear HT
      have HT := HT'
      clear HT'
      have Zx' : Hid (ZN v22 s1 p1 m1 c1 x) := Zx.out.below hb22
      clear Zx
      have Zx := Zx'
      clear Zx'
      have Zup' : Hid (ZN v22 s20 p20 m20 m20 (x * 2 ^ K)) := Zup.out.below hb22
      clear Zup
      have Zup := Zup'
      clear Zup'
      have Zdown' : Hid (ZN v22 s21 p21 m21 m21 (x)) := Zdown.out.below hb22
      clear Zdown
      have Zdown := Zdown'
      clear Zdown'
      have hbw' := Below.on hbw hb22
      clear hbw
      have hbw := hbw'
      clear hbw'
      clear hb22
      clear Xup
      clear Xdown
      clear Zup
      clear Zdown
      by_cases hJ : (4611686018427387904 : Int) ≤ (J : Int)
      · have b1 : decide ((4611686018427387904 : Int) ≤ (J : Int)) = true := decide_eq_true hJ
        have b2 : decide (4611686018427387904 ≤ J) = true := decide_eq_true (by omega)
        go_wp2_with fail
        go_ret
        exact ⟨rfl, hbw⟩
      by_cases hK : (4611686018427387904 : Int) ≤ (K : Int)
      · have b1 : decide ((4611686018427387904 : Int) ≤ (J : Int)) = false := decide_eq_false hJ
        have b2 : decide (4611686018427387904 ≤ J) = false := decide_eq_false (by omega)
        have b3 : decide ((4611686018427387904 : Int) ≤ (K : Int)) = true := decide_eq_true hK
        have b4 : decide (4611686018427387904 ≤ K) = true := decide_eq_true (by omega)
        go_wp2_with fail
        go_ret
        exact ⟨rfl, hbw⟩
      have b1 : decide ((4611686018427387904 : Int) ≤ (J : Int)) = false := decide_eq_false hJ
      have b2 : decide (4611686018427387904 ≤ J) = false := decide_eq_false (by omega)
      have b3 : decide ((4611686018427387904 : Int) ≤ (K : Int)) = false := decide_eq_false hK
      have b4 : decide (4611686018427387904 ≤ K) = false := decide_eq_false (by omega)
      have HJK2 : Hid (J < 4611686018427387904 ∧ K < 4611686018427387904) := ⟨by omega, by omega⟩
      obtain ⟨cx0, cx1, fx0, fx1⟩ := Xx.out
      have hnex : gx < v22.heap.size := World.block_lt_of_cell? v22 _ cx0
      go_wp2_with fail
      clear cx0 cx1 fx0 fx1 hnex
      clear b1 b2 b3 b4 hJ hK
      obtain ⟨O, hO⟩ : ∃ v, v = fl (decide (x < 0)) x.natAbs (2 ^ J) := ⟨_, rfl⟩
      have HO : Hid (O = fl (decide (x < 0)) x.natAbs (2 ^ J)) := hO
      clear hO
      obtain ⟨R, hR⟩ : ∃ v, v = fl (decide (x < 0)) x.natAbs (2 ^ (J + K)) := ⟨_, rfl⟩
      have HR : Hid (R = fl (decide (x < 0)) x.natAbs (2 ^ (J + K))) := hR
      clear hR
      refine (zfshr Zx.out J HJK.out.1 HT.out).mono ?_
      rintro e v23 ⟨⟨s23, p23, m23, rfl, hz⟩, hb23⟩
      have Yx : Hid (Box v23 gx (.bool s1) (.slice p1 m1 c1)) := Xx.out.below hb23
      clear Xx
      have Xx := Yx
      clear Yx
      have HT' : Hid (Tab v23) := HT.out.below hb23
      clear HT
      have HT := HT'
      clear HT'
      have Zx' : Hid (ZN v23 s1 p1 m1 c1 x) := Zx.out.below hb23
      clear Zx
      have Zx := Zx'
      clear Zx'
      have hbw' := Below.on hbw hb23
      clear hbw
      have hbw := hbw'
      clear hbw'
      clear hb23
      have hz := hz.cast (z' := O) (HO.out.symm)
      have Zone : Hid (ZN v23 s23 p23 m23 m23 (O)) := hz
      clear hz
      go_wp2_with fail
      have Xone0 : Hid (Box (v23.alloc (.cells #[.bool s23, .slice p23 m23 m23] 35)) v23.heap.size (.bool s23) (.slice p23 m23 m23)) := Box.new v23 _ _ _
      have hbn : Below v23.heap.size v23 (v23.alloc (.cells #[.bool s23, .slice p23 m23 m23] 35)) := below1 v23 _
      generalize v23.alloc (.cells #[.bool s23, .slice p23 m23 m23] 35) = W23 at *
      have HGone : Hid (w.heap.size ≤ v23.heap.size) := hbw.size
      have Yx : Hid (Box W23 gx (.bool s1) (.slice p1 m1 c1)) := Xx.out.below hbn
      clear Xx
      have Xx := Yx
      clear Yx
      have HT' : Hid (Tab W23) := HT.out.below hbn
      clear HT
      have HT := HT'
      clear HT'
      have Zx' : Hid (ZN W23 s1 p1 m1 c1 x) := Zx.out.below hbn
      clear Zx
      have Zx := Zx'
      clear Zx'
      have Zone' : Hid (ZN W23 s23 p23 m23 m23 (O)) := Zone.out.below hbn
      clear Zone
      have Zone := Zone'
      clear Zone'
      have hbw' := Below.on hbw hbn
      clear hbw
      have hbw := hbw'
      clear hbw'
      clear hbn
      generalize v23.heap.size = gone at *
      have Xone := Xone0
      clear Xone0
      refine (zfshr Zone.out K HJK.out.2 HT.out).mono ?_
      rintro e v24 ⟨⟨s24, p24, m24, rfl, hz⟩, hb24⟩
      have Yx : Hid (Box v24 gx (.bool s1) (.slice p1 m1 c1)) := Xx.out.below hb24
      clear Xx
      have Xx := Yx
      clear Yx
      have Yone : Hid (Box v24 gone (.bool s23) (.slice p23 m23 m23)) := Xone.out.below hb24
      clear Xone
      have Xone := Yone
      clear Yone
      have HT' : Hid (Tab v24) := HT.out.below hb24
      clear HT
      have HT := HT'
      clear HT'
      have Zx' : Hid (ZN v24 s1 p1 m1 c1 x) := Zx.out.below hb24
      clear Zx
      have Zx := Zx'
      clear Zx'
      have Zone' : Hid (ZN v24 s23 p23 m23 m23 (O)) := Zone.out.below hb24
      clear Zone
      have Zone := Zone'
      clear Zone'
      have hbw' := Below.on hbw hb24
      clear hbw
      have hbw := hbw'
      clear hbw'
      clear hb24
      have hz := hz.cast (z' := R) (by rw [HO.out, HR.out, fl_fl _ _ _ _ (Nat.pow_pos (by omega)) (Nat.pow_pos (by omega)), ← Nat.pow_add])
      have Zboth : Hid (ZN v24 s24 p24 m24 m24 (R)) := hz
      clear hz
      obtain ⟨L, hL⟩ : ∃ L : Nat, L = J + K := ⟨_, rfl⟩
      have hjk : wrap64 ((J : Int) + (K : Int)) = (L : Int) := by have := HJK2.out; simp only [wrap64]; omega
      have HL : Hid (L = J + K) := hL
      clear hL
      obtain ⟨cx0, cx1, fx0, fx1⟩ := Xx.out
      have hnex : gx < v24.heap.size := World.block_lt_of_cell? v24 _ cx0
      go_wp2_with fail
      clear cx0 cx1 fx0 fx1 hnex
      have Xboth0 : Hid (Box (v24.alloc (.cells #[.bool s24, .slice p24 m24 m24] 35)) v24.heap.size (.bool s24) (.slice p24 m24 m24)) := Box.new v24 _ _ _
      have hbn : Below v24.heap.size v24 (v24.alloc (.cells #[.bool s24, .slice p24 m24 m24] 35)) := below1 v24 _
      generalize v24.alloc (.cells #[.bool s24, .slice p24 m24 m24] 35) = W24 at *
      have HGboth : Hid (w.heap.size ≤ v24.heap.size) := hbw.size
      have Yx : Hid (Box W24 gx (.bool s1) (.slice p1 m1 c1)) := Xx.out.below hbn
      clear Xx
      have Xx := Yx
      clear Yx
      have Yone : Hid (Box W24 gone (.bool s23) (.slice p23 m23 m23)) := Xone.out.below hbn
      clear Xone
      have Xone := Yone
      clear Yone
      have HT' : Hid (Tab W24) := HT.out.below hbn
      clear HT
      have HT := HT'
      clear HT'
      have Zx' : Hid (ZN W24 s1 p1 m1 c1 x) := Zx.out.below hbn
      clear Zx
      have Zx := Zx'
      clear Zx'
      have Zone' : Hid (ZN W24 s23 p23 m23 m23 (O)) := Zone.out.below hbn
      clear Zone
      have Zone := Zone'
      clear Zone'
      have Zboth' : Hid (ZN W24 s24 p24 m24 m24 (R)) := Zboth.out.below hbn
      clear Zboth
      have Zboth := Zboth'
      clear Zboth'
      have hbw' := Below.on hbw hbn
      clear hbw
      have hbw := hbw'
      clear hbw'
      clear hbn
      generalize v24.heap.size = gboth at *
      have Xboth := Xboth0
      clear Xboth0
      clear hjk
      refine (zfshr Zx.out L (by have := HJK2.out; have := HL.out; omega) HT.out).mono ?_
      rintro e v25 ⟨⟨s25, p25, m25, rfl, hz⟩, hb25⟩
      have Yx : Hid (Box v25 gx (.bool s1) (.slice p1 m1 c1)) := Xx.out.below hb25
      clear Xx
      have Xx := Yx
      clear Yx
      have Yone : Hid (Box v25 gone (.bool s23) (.slice p23 m23 m23)) := Xone.out.below hb25
      clear Xone
      have Xone := Yone
      clear Yone
      have Yboth : Hid (Box v25 gboth (.bool s24) (.slice p24 m24 m24)) := Xboth.out.below hb25
      clear Xboth
      have Xboth := Yboth
      clear Yboth
      have HT' : Hid (Tab v25) := HT.out.below hb25
      clear HT
      have HT := HT'
      clear HT'
      have Zx' : Hid (ZN v25 s1 p1 m1 c1 x) := Zx.out.below hb25
      clear Zx
      have Zx := Zx'
      clear Zx'
      have Zone' : Hid (ZN v25 s23 p23 m23 m23 (O)) := Zone.out.below hb25
      clear Zone
      have Zone := Zone'
      clear Zone'
      have Zboth' : Hid (ZN v25 s24 p24 m24 m24 (R)) := Zboth.out.below hb25
      clear Zboth
      have Zboth := Zboth'
      clear Zboth'
      have hbw' := Below.on hbw hb25
      clear hbw
      have hbw := hbw'
      clear hbw'
      clear hb25
      have hz := hz.cast (z' := R) (by rw [HR.out, HL.out])
      have Zonce : Hid (ZN v25 s25 p25 m25 m25 (R)) := hz
      clear hz
      obtain ⟨cboth0, cboth1, fboth0, fboth1⟩ := Xboth.out
      have hneboth : gboth < v25.heap.size := World.block_lt_of_cell? v25 _ cboth0
      go_wp2_with fail
      clear cboth0 cboth1 fboth0 fboth1 hneboth
      have Xonce0 : Hid (Box (v25.alloc (.cells #[.bool s25, .slice p25 m25 m25] 35)) v25.heap.size (.bool s25) (.slice p25 m25 m25)) := Box.new v25 _ _ _
      have hbn : Below v25.heap.size v25 (v25.alloc (.cells #[.bool s25, .slice p25 m25 m25] 35)) := below1 v25 _
      generalize v25.alloc (.cells #[.bool s25, .slice p25 m25 m25] 35) = W25 at *
      have HGonce : Hid (w.heap.size ≤ v25.heap.size) := hbw.size
      have Yx : Hid (Box W25 gx (.bool s1) (.slice p1 m1 c1)) := Xx.out.below hbn
      clear Xx
      have Xx := Yx
      clear Yx
      have Yone : Hid (Box W25 gone (.bool s23) (.slice p23 m23 m23)) := Xone.out.below hbn
      clear Xone
      have Xone := Yone
      clear Yone
      have Yboth : Hid (Box W25 gboth (.bool s24) (.slice p24 m24 m24)) := Xboth.out.below hbn
      clear Xboth
      have Xboth := Yboth
      clear Yboth
      have HT' : Hid (Tab W25) := HT.out.below hbn
      clear HT
      have HT := HT'
      clear HT'
      have Zx' : Hid (ZN W25 s1 p1 m1 c1 x) := Zx.out.below hbn
      clear Zx
      have Zx := Zx'
      clear Zx'
      have Zone' : Hid (ZN W25 s23 p23 m23 m23 (O)) := Zone.out.below hbn
      clear Zone
      have Zone := Zone'
      clear Zone'
      have Zboth' : Hid (ZN W25 s24 p24 m24 m24 (R)) := Zboth.out.below hbn
      clear Zboth
      have Zboth := Zboth'
      clear Zboth'
      have Zonce' : Hid (ZN W25 s25 p25 m25 m25 (R)) := Zonce.out.below hbn
      clear Zonce
      have Zonce := Zonce'
      clear Zonce'
      have hbw' := Below.on hbw hbn
      clear hbw
      have hbw := hbw'
      clear hbw'
      clear hbn
      generalize v25.heap.size = gonce at *
      have Xonce := Xonce0
      clear Xonce0
      skip
      refine (zsame Zboth.out Zonce.out).mono ?_
      rintro e v26 ⟨rfl, hb26⟩
      rw [decide_eq_true rfl]
      have Yx : Hid (Box v26 gx (.bool s1) (.slice p1 m1 c1)) := Xx.out.below hb26
      clear Xx
      have Xx := Yx
      clear Yx
      have Yone : Hid (Box v26 gone (.bool s23) (.slice p23 m23 m23)) := Xone.out.below hb26
      clear Xone
      have Xone := Yone
      clear Yone
      have Yboth : Hid (Box v26 gboth (.bool s24) (.slice p24 m24 m24)) := Xboth.out.below hb26
      clear Xboth
      have Xboth := Yboth
      clear Yboth
      have Yonce : Hid (Box v26 gonce (.bool s25) (.slice p25 m25 m25)) := Xonce.out.below hb26
      clear Xonce
      have Xonce := Yonce
      clear Yonce
      have HT' : Hid (Tab v26) := HT.out.below hb26
      clear HT
      have HT := HT'
      clear HT'
      have Zx' : Hid (ZN v26 s1 p1 m1 c1 x) := Zx.out.below hb26
      clear Zx
      have Zx := Zx'
      clear Zx'
      have Zone' : Hid (ZN v26 s23 p23 m23 m23 (O)) := Zone.out.below hb26
      clear Zone
      have Zone := Zone'
      clear Zone'
      have Zboth' : Hid (ZN v26 s24 p24 m24 m24 (R)) := Zboth.out.below hb26
      clear Zboth
      have Zboth := Zboth'
      clear Zboth'
      have Zonce' : Hid (ZN v26 s25 p25 m25 m25 (R)) := Zonce.out.below hb26
      clear Zonce
      have Zonce := Zonce'
      clear Zonce'
      have hbw' := Below.on hbw hb26
      clear hbw
      have hbw := hbw'
      clear hbw'
      clear hb26
      go_wp2_with fail
      go_ret
      exact ⟨rfl, hbw⟩
    · clear ha hl
      by_cases hJ : (4611686018427387904 : Int) ≤ (J : Int)
      · have b1 : decide ((4611686018427387904 : Int) ≤ (J : Int)) = true := decide_eq_true hJ
        have b2 : decide (4611686018427387904 ≤ J) = true := decide_eq_true (by omega)
        go_wp2_with fail
        go_ret
        exact ⟨rfl, Below.on hbw (below1 _ _)⟩
      by_cases hK : (4611686018427387904 : Int) ≤ (K : Int)
      · have b1 : decide ((4611686018427387904 : Int) ≤ (J : Int)) = false := decide_eq_false hJ
        have b2 : decide (4611686018427387904 ≤ J) = false := decide_eq_false (by omega)
        have b3 : decide ((4611686018427387904 : Int) ≤ (K : Int)) = true := decide_eq_true hK
        have b4 : decide (4611686018427387904 ≤ K) = true := decide_eq_true (by omega)
        go_wp2_with fail
        go_ret
        exact ⟨rfl, Below.on hbw (below1 _ _)⟩
      have b1 : decide ((4611686018427387904 : Int) ≤ (J : Int)) = false := decide_eq_false hJ
      have b2 : decide (4611686018427387904 ≤ J) = false := decide_eq_false (by omega)
      have b3 : decide ((4611686018427387904 : Int) ≤ (K : Int)) = false := decide_eq_false hK
      have b4 : decide (4611686018427387904 ≤ K) = false := decide_eq_false (by omega)
      have HJK2 : Hid (J < 4611686018427387904 ∧ K < 4611686018427387904) := ⟨by omega, by omega⟩
      obtain ⟨cx0, cx1, fx0, fx1⟩ := Xx.out
      have hnex : gx < v20.heap.size := World.block_lt_of_cell? v20 _ cx0
      go_wp2_with fail
      clear cx0 cx1 fx0 fx1 hnex
      clear b1 b2 b3 b4 hJ hK
      have Xup0 : Hid (Box (v20.alloc (.cells #[.bool false, .slice none 0 0] 35)) v20.heap.size (.bool false) (.slice none 0 0)) := Box.new v20 _ _ _
      have hbn : Below v20.heap.size v20 (v20.alloc (.cells #[.bool false, .slice none 0 0] 35)) := below1 v20 _
      generalize v20.alloc (.cells #[.bool false, .slice none 0 0] 35) = W20 at *
      have HGup : Hid (w.heap.size ≤ v20.heap.size) := hbw.size
      have Yx : Hid (Box W20 gx (.bool s1) (.slice p1 m1 c1)) := Xx.out.below hbn
      clear Xx
      have Xx := Yx
      clear Yx
      have HT' : Hid (Tab W20) := HT.out.below hbn
      clear HT
      have HT := HT'
      clear HT'
      have Zx' : Hid (ZN W20 s1 p1 m1 c1 x) := Zx.out.below hbn
      clear Zx
      have Zx := Zx'
      clear Zx'
      have hbw' := Below.on hbw hbn
      clear hbw
      have hbw := hbw'
      clear hbw'
      clear hbn
      generalize v20.heap.size = gup at *
      have Xup := Xup0
      clear Xup0
      clear Xup
      obtain ⟨O, hO⟩ : ∃ v, v = fl (decide (x < 0)) x.natAbs (2 ^ J) := ⟨_, rfl⟩
      have HO : Hid (O = fl (decide (x < 0)) x.natAbs (2 ^ J)) := hO
      clear hO
      obtain ⟨R, hR⟩ : ∃ v, v = fl (decide (x < 0)) x.natAbs (2 ^ (J + K)) := ⟨_, rfl⟩
      have HR : Hid (R = fl (decide (x < 0)) x.natAbs (2 ^ (J + K))) := hR
      clear hR
      refine (zfshr Zx.out J HJK.out.1 HT.out).mono ?_
      rintro e v23 ⟨⟨s23, p23, m23, rfl, hz⟩, hb23⟩
      have Yx : Hid (Box v23 gx (.bool s1) (.slice p1 m1 c1)) := Xx.out.below hb23
      clear Xx
      have Xx := Yx
      clear Yx
      have HT' : Hid (Tab v23) := HT.out.below hb23
      clear HT
      have HT := HT'
      clear HT'
      have Zx' : Hid (ZN v23 s1 p1 m1 c1 x) := Zx.out.below hb23
      clear Zx
      have Zx := Zx'
      clear Zx'
      have hbw' := Below.on hbw hb23
      clear hbw
      have hbw := hbw'
      clear hbw'
      clear hb23
      have hz := hz.cast (z' := O) (HO.out.symm)
      have Zone : Hid (ZN v23 s23 p23 m23 m23 (O)) := hz
      clear hz
      go_wp2_with fail
      have Xone0 : Hid (Box (v23.alloc (.cells #[.bool s23, .slice p23 m23 m23] 35)) v23.heap.size (.bool s23) (.slice p23 m23 m23)) := Box.new v23 _ _ _
      have hbn : Below v23.heap.size v23 (v23.alloc (.cells #[.bool s23, .slice p23 m23 m23] 35)) := below1 v23 _
      generalize v23.alloc (.cells #[.bool s23, .slice p23 m23 m23] 35) = W23 at *
      have HGone : Hid (w.heap.size ≤ v23.heap.size) := hbw.size
      have Yx : Hid (Box W23 gx (.bool s1) (.slice p1 m1 c1)) := Xx.out.below hbn
      clear Xx
      have Xx := Yx
      clear Yx
      have HT' : Hid (Tab W23) := HT.out.below hbn
      clear HT
      have HT := HT'
      clear HT'
      have Zx' : Hid (ZN W23 s1 p1 m1 c1 x) := Zx.out.below hbn
      clear Zx
      have Zx := Zx'
      clear Zx'
      have Zone' : Hid (ZN W23 s23 p23 m23 m23 (O)) := Zone.out.below hbn
      clear Zone
      have Zone := Zone'
      clear Zone'
      have hbw' := Below.on hbw hbn
      clear hbw
      have hbw := hbw'
      clear hbw'
      clear hbn
      generalize v23.heap.size = gone at *
      have Xone := Xone0
      clear Xone0
      refine (zfshr Zone.out K HJK.out.2 HT.out).mono ?_
      rintro e v24 ⟨⟨s24, p24, m24, rfl, hz⟩, hb24⟩
      have Yx : Hid (Box v24 gx (.bool s1) (.slice p1 m1 c1)) := Xx.out.below hb24
      clear Xx
      have Xx := Yx
      clear Yx
      have Yone : Hid (Box v24 gone (.bool s23) (.slice p23 m23 m23)) := Xone.out.below hb24
      clear Xone
      have Xone := Yone
      clear Yone
      have HT' : Hid (Tab v24) := HT.out.below hb24
      clear HT
      have HT := HT'
      clear HT'
      have Zx' : Hid (ZN v24 s1 p1 m1 c1 x) := Zx.out.below hb24
      clear Zx
      have Zx := Zx'
      clear Zx'
      have Zone' : Hid (ZN v24 s23 p23 m23 m23 (O)) := Zone.out.below hb24
      clear Zone
      have Zone := Zone'
      clear Zone'
      have hbw' := Below.on hbw hb24
      clear hbw
      have hbw := hbw'
      clear hbw'
      clear hb24
      have hz := hz.cast (z' := R) (by rw [HO.out, HR.out, fl_fl _ _ _ _ (Nat.pow_pos (by omega)) (Nat.pow_pos (by omega)), ← Nat.pow_add])
      have Zboth : Hid (ZN v24 s24 p24 m24 m24 (R)) := hz
      clear hz
      obtain ⟨L, hL⟩ : ∃ L : Nat, L = J + K := ⟨_, rfl⟩
      have hjk : wrap64 ((J : Int) + (K : Int)) = (L : Int) := by have := HJK2.out; simp only [wrap64]; omega
      have HL : Hid (L = J + K) := hL
      clear hL
      obtain ⟨cx0, cx1, fx0, fx1⟩ := Xx.out
      have hnex : gx < v24.heap.size := World.block_lt_of_cell? v24 _ cx0
      go_wp2_with fail
      clear cx0 cx1 fx0 fx1 hnex
      have Xboth0 : Hid (Box (v24.alloc (.cells #[.bool s24, .slice p24 m24 m24] 35)) v24.heap.size (.bool s24) (.slice p24 m24 m24)) := Box.new v24 _ _ _
      have hbn : Below v24.heap.size v24 (v24.alloc (.cells #[.bool s24, .slice p24 m24 m24] 35)) := below1 v24 _
      generalize v24.alloc (.cells #[.bool s24, .slice p24 m24 m24] 35) = W24 at *
      have HGboth : Hid (w.heap.size ≤ v24.heap.size) := hbw.size
      have Yx : Hid (Box W24 gx (.bool s1) (.slice p1 m1 c1)) := Xx.out.below hbn
      clear Xx
      have Xx := Yx
      clear Yx
      have Yone : Hid (Box W24 gone (.bool s23) (.slice p23 m23 m23)) := Xone.out.below hbn
      clear Xone
      have Xone := Yone
      clear Yone
      have HT' : Hid (Tab W24) := HT.out.below hbn
      clear HT
      have HT := HT'
      clear HT'
      have Zx' : Hid (ZN W24 s1 p1 m1 c1 x) := Zx.out.below hbn
      clear Zx
      have Zx := Zx'
      clear Zx'
      have Zone' : Hid (ZN W24 s23 p23 m23 m23 (O)) := Zone.out.below hbn
      clear Zone
      have Zone := Zone'
      clear Zone'
      have Zboth' : Hid (ZN W24 s24 p24 m24 m24 (R)) := Zboth.out.below hbn
      clear Zboth
      have Zboth := Zboth'
      clear Zboth'
      have hbw' := Below.on hbw hbn
      clear hbw
      have hbw := hbw'
      clear hbw'
      clear hbn
      generalize v24.heap.size = gboth at *
      have Xboth := Xboth0
      clear Xboth0
      clear hjk
      refine (zfshr Zx.out L (by have := HJK2.out; have := HL.out; omega) HT.out).mono ?_
      rintro e v25 ⟨⟨s25, p25, m25, rfl, hz⟩, hb25⟩
      have Yx : Hid (Box v25 gx (.bool s1) (.slice p1 m1 c1)) := Xx.out.below hb25
      clear Xx
      have Xx := Yx
      clear Yx
      have Yone : Hid (Box v25 gone (.bool s23) (.slice p23 m23 m23)) := Xone.out.below hb25
      clear Xone
      have Xone := Yone
      clear Yone
      have Yboth : Hid (Box v25 gboth (.bool s24) (.slice p24 m24 m24)) := Xboth.out.below hb25
      clear Xboth
      have Xboth := Yboth
      clear Yboth
      have HT' : Hid (Tab v25) := HT.out.below hb25
      clear HT
      have HT := HT'
      clear HT'
      have Zx' : Hid (ZN v25 s1 p1 m1 c1 x) := Zx.out.below hb25
      clear Zx
      have Zx := Zx'
      clear Zx'
      have Zone' : Hid (ZN v25 s23 p23 m23 m23 (O)) := Zone.out.below hb25
      clear Zone
      have Zone := Zone'
      clear Zone'
      have Zboth' : Hid (ZN v25 s24 p24 m24 m24 (R)) := Zboth.out.below hb25
      clear Zboth
      have Zboth := Zboth'
      clear Zboth'
      have hbw' := Below.on hbw hb25
      clear hbw
      have hbw := hbw'
      clear hbw'
      clear hb25
      have hz := hz.cast (z' := R) (by rw [HR.out, HL.out])
      have Zonce : Hid (ZN v25 s25 p25 m25 m25 (R)) := hz
      clear hz
      obtain ⟨cboth0, cboth1, fboth0, fboth1⟩ := Xboth.out
      have hneboth : gboth < v25.heap.size := World.block_lt_of_cell? v25 _ cboth0
      go_wp2_with fail
      clear cboth0 cboth1 fboth0 fboth1 hneboth
      have Xonce0 : Hid (Box (v25.alloc (.cells #[.bool s25, .slice p25 m25 m25] 35)) v25.heap.size (.bool s25) (.slice p25 m25 m25)) := Box.new v25 _ _ _
      have hbn : Below v25.heap.size v25 (v25.alloc (.cells #[.bool s25, .slice p25 m25 m25] 35)) := below1 v25 _
      generalize v25.alloc (.cells #[.bool s25, .slice p25 m25 m25] 35) = W25 at *
      have HGonce : Hid (w.heap.size ≤ v25.heap.size) := hbw.size
      have Yx : Hid (Box W25 gx (.bool s1) (.slice p1 m1 c1)) := Xx.out.below hbn
      clear Xx
      have Xx := Yx
      clear Yx
      have Yone : Hid (Box W25 gone (.bool s23) (.slice p23 m23 m23)) := Xone.out.below hbn
      clear Xone
      have Xone := Yone
      clear Yone
      have Yboth : Hid (Box W25 gboth (.bool s24) (.slice p24 m24 m24)) := Xboth.out.below hbn
      clear Xboth
      have Xboth := Yboth
      clear Yboth
      have HT' : Hid (Tab W25) := HT.out.below hbn
      clear HT
      have HT := HT'
      clear HT'
      have Zx' : Hid (ZN W25 s1 p1 m1 c1 x) := Zx.out.below hbn
      clear Zx
      have Zx := Zx'
      clear Zx'
      have Zone' : Hid (ZN W25 s23 p23 m23 m23 (O)) := Zone.out.below hbn
      clear Zone
      have Zone := Zone'
      clear Zone'
      have Zboth' : Hid (ZN W25 s24 p24 m24 m24 (R)) := Zboth.out.below hbn
      clear Zboth
      have Zboth := Zboth'
      clear Zboth'
      have Zonce' : Hid (ZN W25 s25 p25 m25 m25 (R)) := Zonce.out.below hbn
      clear Zonce
      have Zonce := Zonce'
      clear Zonce'
      have hbw' := Below.on hbw hbn
      clear hbw
      have hbw := hbw'
      clear hbw'
      clear hbn
      generalize v25.heap.size = gonce at *
      have Xonce := Xonce0
      clear Xonce0
      skip
      refine (zsame Zboth.out Zonce.out).mono ?_
      rintro e v26 ⟨rfl, hb26⟩
      rw [decide_eq_true rfl]
      have Yx : Hid (Box v26 gx (.bool s1) (.slice p1 m1 c1)) := Xx.out.below hb26
      clear Xx
      have Xx := Yx
      clear Yx
      have Yone : Hid (Box v26 gone (.bool s23) (.slice p23 m23 m23)) := Xone.out.below hb26
      clear Xone
      have Xone := Yone
      clear Yone
      have Yboth : Hid (Box v26 gboth (.bool s24) (.slice p24 m24 m24)) := Xboth.out.below hb26
      clear Xboth
      have Xboth := Yboth
      clear Yboth
      have Yonce : Hid (Box v26 gonce (.bool s25) (.slice p25 m25 m25)) := Xonce.out.below hb26
      clear Xonce
      have Xonce := Yonce
      clear Yonce
      have HT' : Hid (Tab v26) := HT.out.below hb26
      clear HT
      have HT := HT'
      clear HT'
      have Zx' : Hid (ZN v26 s1 p1 m1 c1 x) := Zx.out.below hb26
      clear Zx
      have Zx := Zx'
      clear Zx'
      have Zone' : Hid (ZN v26 s23 p23 m23 m23 (O)) := Zone.out.below hb26
      clear Zone
      have Zone := Zone'
      clear Zone'
      have Zboth' : Hid (ZN v26 s24 p24 m24 m24 (R)) := Zboth.out.below hb26
      clear Zboth
      have Zboth := Zboth'
      clear Zboth'
      have Zonce' : Hid (ZN v26 s25 p25 m25 m25 (R)) := Zonce.out.below hb26
      clear Zonce
      have Zonce := Zonce'
      clear Zonce'
      have hbw' := Below.on hbw hb26
      clear hbw
      have hbw := hbw'
      clear hbw'
      clear hb26
      go_wp2_with fail
      go_ret
      exact ⟨rfl, hbw⟩
  · have hk64 : (524288 : Nat) ≤ K := big_shift K hl
    clear ha hl
    have b1 : decide ((K : Int) < 524288) = false := decide_eq_false (by omega)
    have b2 : decide (K < 524288) = false := decide_eq_false (by omega)
    clear hk64
    obtain ⟨cx0, cx1, fx0, fx1⟩ := Xx.out
    have hnex : gx < v6.heap.size := World.block_lt_of_cell? v6 _ cx0
    go_wp2_with fail
    clear cx0 cx1 fx0 fx1 hnex
    have Xtwo0 : Hid (Box (v6.alloc (.cells #[.bool false, .slice none 0 0] 35)) v6.heap.size (.bool false) (.slice none 0 0)) := Box.new v6 _ _ _
    have hbn : Below v6.heap.size v6 (v6.alloc (.cells #[.bool false, .slice none 0 0] 35)) := below1 v6 _
    generalize v6.alloc (.cells #[.bool false, .slice none 0 0] 35) = W6 at *
    have HGtwo : Hid (w.heap.size ≤ v6.heap.size) := hbw.size
    have Yx : Hid (Box W6 gx (.bool s1) (.slice p1 m1 c1)) := Xx.out.below hbn
    clear Xx
    have Xx := Yx
    clear Yx
    have HT' : Hid (Tab W6) := HT.out.below hbn
    clear HT
    have HT := HT'
    clear HT'
    have Zx' : Hid (ZN W6 s1 p1 m1 c1 x) := Zx.out.below hbn
    clear Zx
    have Zx := Zx'
    clear Zx'
    have hbw' := Below.on hbw hbn
    clear hbw
    have hbw := hbw'
    clear hbw'
    clear hbn
    generalize v6.heap.size = gtwo at *
    have Xtwo := Xtwo0
    clear Xtwo0
    clear Xtwo
    clear b1 b2
    refine (zshl Zx.out K HJK.out.2).mono ?_
    rintro e v20 ⟨ha, hb20⟩
    have Yx : Hid (Box v20 gx (.bool s1) (.slice p1 m1 c1)) := Xx.out.below hb20
    clear Xx
    have Xx := Yx
    clear Yx
    have HT' : Hid (Tab v20) := HT.out.below hb20
    clear HT
    have HT := HT'
    clear HT'
    have Zx' : Hid (ZN v20 s1 p1 m1 c1 x) := Zx.out.below hb20
    clear Zx
    have Zx := Zx'
    clear Zx'
    have hbw' := Below.on hbw hb20
    clear hbw
    have hbw := hbw'
    clear hbw'
    clear hb20
    rcases ha.zn with ⟨hl, s20, p20, m20, rfl, hz⟩ | ⟨hl, rfl⟩
    · clear ha hl
      have Zup : Hid (ZN v20 s20 p20 m20 m20 (x * 2 ^ K)) := hz
      clear hz
      go_wp2_with fail
      have Xup0 : Hid (Box (v20.alloc (.cells #[.bool s20, .slice p20 m20 m20] 35)) v20.heap.size (.bool s20) (.slice p20 m20 m20)) := Box.new v20 _ _ _
      have hbn : Below v20.heap.size v20 (v20.alloc (.cells #[.bool s20, .slice p20 m20 m20] 35)) := below1 v20 _
      generalize v20.alloc (.cells #[.bool s20, .slice p20 m20 m20] 35) = W20 at *
      have HGup : Hid (w.heap.size ≤ v20.heap.size) := hbw.size
      have Yx : Hid (Box W20 gx (.bool s1) (.slice p1 m1 c1)) := Xx.out.below hbn
      clear Xx
      have Xx := Yx
      clear Yx
      have HT' : Hid (Tab W20) := HT.out.below hbn
      clear HT
      have HT := HT'
      clear HT'
      have Zx' : Hid (ZN W20 s1 p1 m1 c1 x) := Zx.out.below hbn
      clear Zx
      have Zx := Zx'
      clear Zx'
      have Zup' : Hid (ZN W20 s20 p20 m20 m20 (x * 2 ^ K)) := Zup.out.below hbn
      clear Zup
      have Zup := Zup'
      clear Zup'
      have hbw' := Below.on hbw hbn
      clear hbw
      have hbw := hbw'
      clear hbw'
      clear hbn
      generalize v20.heap.size = gup at *
      have Xup := Xup0
      clear Xup0
      refine (zrshr Zup.out K HJK.out.2 HT.out).mono ?_
      rintro e v21 ⟨⟨s21, p21, m21, rfl, hz⟩, hb21⟩
      have Yx : Hid (Box v21 gx (.bool s1) (.slice p1 m1 c1)) := Xx.out.below hb21
      clear Xx
      have Xx := Yx
      clear Yx
      have Yup : Hid (Box v21 gup (.bool s20) (.slice p20 m20 m20)) := Xup.out.below hb21
      clear Xup
      have Xup := Yup
      clear Yup
      have HT' : Hid (Tab v21) := HT.out.below hb21
      clear HT
      have HT := HT'
      clear HT'
      have Zx' : Hid (ZN v21 s1 p1 m1 c1 x) := Zx.out.below hb21
      clear Zx
      have Zx := Zx'
      clear Zx'
      have Zup' : Hid (ZN v21 s20 p20 m20 m20 (x * 2 ^ K)) := Zup.out.below hb21
      clear Zup
      have Zup := Zup'
      clear Zup'
      have hbw' := Below.on hbw hb21
      clear hbw
      have hbw := hbw'
      clear hbw'
      clear hb21
      have hz := hz.cast (z' := x) (ne_up x K)
      have Zdown : Hid (ZN v21 s21 p21 m21 m21 (x)) := hz
      clear hz
      obtain ⟨cx0, cx1, fx0, fx1⟩ := Xx.out
      have hnex : gx < v21.heap.size := World.block_lt_of_cell? v21 _ cx0
      go_wp2_with fail
      clear cx0 cx1 fx0 fx1 hnex
      have Xdown0 : Hid (Box (v21.alloc (.cells #[.bool s21, .slice p21 m21 m21] 35)) v21.heap.size (.bool s21) (.slice p21 m21 m21)) := Box.new v21 _ _ _
      have hbn : Below v21.heap.size v21 (v21.alloc (.cells #[.bool s21, .slice p21 m21 m21] 35)) := below1 v21 _
      generalize v21.alloc (.cells #[.bool s21, .slice p21 m21 m21] 35) = W21 at *
      have HGdown : Hid (w.heap.size ≤ v21.heap.size) := hbw.size
      have Yx : Hid (Box W21 gx (.bool s1) (.slice p1 m1 c1)) := Xx.out.below hbn
      clear Xx
      have Xx := Yx
      clear Yx
      have Yup : Hid (Box W21 gup (.bool s20) (.slice p20 m20 m20)) := Xup.out.below hbn
      clear Xup
      have Xup := Yup
      clear Yup
      have HT' : Hid (Tab W21) := HT.out.below hbn
      clear HT
      have HT := HT'
      clear HT'
      have Zx' : Hid (ZN W21 s1 p1 m1 c1 x) := Zx.out.below hbn
      clear Zx
      have Zx := Zx'
      clear Zx'
      have Zup' : Hid (ZN W21 s20 p20 m20 m20 (x * 2 ^ K)) := Zup.out.below hbn
      clear Zup
      have Zup := Zup'
      clear Zup'
      have Zdown' : Hid (ZN W21 s21 p21 m21 m21 (x)) := Zdown.out.below hbn
      clear Zdown
      have Zdown := Zdown'
      clear Zdown'
      have hbw' := Below.on hbw hbn
      clear hbw
      have hbw := hbw'
      clear hbw'
      clear hbn
      generalize v21.heap.size = gdown at *
      have Xdown := Xdown0
      clear Xdown0
      refine (zsame Zdown.out Zx.out).mono ?_
      rintro e v22 ⟨rfl, hb22⟩
      rw [decide_eq_true rfl]
      have Yx : Hid (Box v22 gx (.bool s1) (.slice p1 m1 c1)) := Xx.out.below hb22
      clear Xx
      have Xx := Yx
      clear Yx
      have Yup : Hid (Box v22 gup (.bool s20) (.slice p20 m20 m20)) := Xup.out.below hb22
      clear Xup
      have Xup := Yup
      clear Yup
      have Ydown : Hid (Box v22 gdown (.bool s21) (.slice p21 m21 m21)) := Xdown.out.below hb22
      clear Xdown
      have Xdown := Ydown
      clear Ydown
      have HT' : Hid (Tab v22) := HT.out.below hb22
      clear HT
      have HT := HT'
      clear HT'
      have Zx' : Hid (ZN v22 s1 p1 m1 c1 x) := Zx.out.below hb22
      clear Zx
      have Zx := Zx'
      clear Zx'
      have Zup' : Hid (ZN v22 s20 p20 m20 m20 (x * 2 ^ K)) := Zup.out.below hb22
      clear Zup
      have Zup := Zup'
      clear Zup'
      have Zdown' : Hid (ZN v22 s21 p21 m21 m21 (x)) := Zdown.out.below hb22
      clear Zdown
      have Zdown := Zdown'
      clear Zdown'
      have hbw' := Below.on hbw hb22
      clear hbw
      have hbw := hbw'
      clear hbw'
      clear hb22
      clear Xup
      clear Xdown
      clear Zup
      clear Zdown
      by_cases hJ : (4611686018427387904 : Int) ≤ (J : Int)
      · have b1 : decide ((4611686018427387904 : Int) ≤ (J : Int)) = true := decide_eq_true hJ
        have b2 : decide (4611686018427387904 ≤ J) = true := decide_eq_true (by omega)
        go_wp2_with fail
        go_ret
        exact ⟨rfl, hbw⟩
      by_cases hK : (4611686018427387904 : Int) ≤ (K : Int)
      · have b1 : decide ((4611686018427387904 : Int) ≤ (J : Int)) = false := decide_eq_false hJ
        have b2 : decide (4611686018427387904 ≤ J) = false := decide_eq_false (by omega)
        have b3 : decide ((4611686018427387904 : Int) ≤ (K : Int)) = true := decide_eq_true hK
        have b4 : decide (4611686018427387904 ≤ K) = true := decide_eq_true (by omega)
        go_wp2_with fail
        go_ret
        exact ⟨rfl, hbw⟩
      have b1 : decide ((4611686018427387904 : Int) ≤ (J : Int)) = false := decide_eq_false hJ
      have b2 : decide (4611686018427387904 ≤ J) = false := decide_eq_false (by omega)
      have b3 : decide ((4611686018427387904 : Int) ≤ (K : Int)) = false := decide_eq_false hK
      have b4 : decide (4611686018427387904 ≤ K) = false := decide_eq_false (by omega)
      have HJK2 : Hid (J < 4611686018427387904 ∧ K < 4611686018427387904) := ⟨by omega, by omega⟩
      obtain ⟨cx0, cx1, fx0, fx1⟩ := Xx.out
      have hnex : gx < v22.heap.size := World.block_lt_of_cell? v22 _ cx0
      go_wp2_with fail
      clear cx0 cx1 fx0 fx1 hnex
      clear b1 b2 b3 b4 hJ hK
      obtain ⟨O, hO⟩ : ∃ v, v = fl (decide (x < 0)) x.natAbs (2 ^ J) := ⟨_, rfl⟩
      have HO : Hid (O = fl (decide (x < 0)) x.natAbs (2 ^ J)) := hO
      clear hO
      obtain ⟨R, hR⟩ : ∃ v, v = fl (decide (x < 0)) x.natAbs (2 ^ (J + K)) := ⟨_, rfl⟩
      have HR : Hid (R = fl (decide (x < 0)) x.natAbs (2 ^ (J + K))) := hR
      clear hR
      refine (zfshr Zx.out J HJK.out.1 HT.out).mono ?_
      rintro e v23 ⟨⟨s23, p23, m23, rfl, hz⟩, hb23⟩
      have Yx : Hid (Box v23 gx (.bool s1) (.slice p1 m1 c1)) := Xx.out.below hb23
      clear Xx
      have Xx := Yx
      clear Yx
      have HT' : Hid (Tab v23) := HT.out.below hb23
      clear HT
      have HT := HT'
      clear HT'
      have Zx' : Hid (ZN v23 s1 p1 m1 c1 x) := Zx.out.below hb23
      clear Zx
      have Zx := Zx'
      clear Zx'
      have hbw' := Below.on hbw hb23
      clear hbw
      have hbw := hbw'
      clear hbw'
      clear hb23
      have hz := hz.cast (z' := O) (HO.out.symm)
      have Zone : Hid (ZN v23 s23 p23 m23 m23 (O)) := hz
      clear hz
      go_wp2_with fail
      have Xone0 : Hid (Box (v23.alloc (.cells #[.bool s23, .slice p23 m23 m23] 35)) v23.heap.size (.bool s23) (.slice p23 m23 m23)) := Box.new v23 _ _ _
      have hbn : Below v23.heap.size v23 (v23.alloc (.cells #[.bool s23, .slice p23 m23 m23] 35)) := below1 v23 _
      generalize v23.alloc (.cells #[.bool s23, .slice p23 m23 m23] 35) = W23 at *
      have HGone : Hid (w.heap.size ≤ v23.heap.size) := hbw.size
      have Yx : Hid (Box W23 gx (.bool s1) (.slice p1 m1 c1)) := Xx.out.below hbn
      clear Xx
      have Xx := Yx
      clear Yx
      have HT' : Hid (Tab W23) := HT.out.below hbn
      clear HT
      have HT := HT'
      clear HT'
      have Zx' : Hid (ZN W23 s1 p1 m1 c1 x) := Zx.out.below hbn
      clear Zx
      have Zx := Zx'
      clear Zx'
      have Zone' : Hid (ZN W23 s23 p23 m23 m23 (O)) := Zone.out.below hbn
      clear Zone
      have Zone := Zone'
      clear Zone'
      have hbw' := Below.on hbw hbn
      clear hbw
      have hbw := hbw'
      clear hbw'
      clear hbn
      generalize v23.heap.size = gone at *
      have Xone := Xone0
      clear Xone0
      refine (zfshr Zone.out K HJK.out.2 HT.out).mono ?_
      rintro e v24 ⟨⟨s24, p24, m24, rfl, hz⟩, hb24⟩
      have Yx : Hid (Box v24 gx (.bool s1) (.slice p1 m1 c1)) := Xx.out.below hb24
      clear Xx
      have Xx := Yx
      clear Yx
      have Yone : Hid (Box v24 gone (.bool s23) (.slice p23 m23 m23)) := Xone.out.below hb24
      clear Xone
      have Xone := Yone
      clear Yone
      have HT' : Hid (Tab v24) := HT.out.below hb24
      clear HT
      have HT := HT'
      clear HT'
      have Zx' : Hid (ZN v24 s1 p1 m1 c1 x) := Zx.out.below hb24
      clear Zx
      have Zx := Zx'
      clear Zx'
      have Zone' : Hid (ZN v24 s23 p23 m23 m23 (O)) := Zone.out.below hb24
      clear Zone
      have Zone := Zone'
      clear Zone'
      have hbw' := Below.on hbw hb24
      clear hbw
      have hbw := hbw'
      clear hbw'
      clear hb24
      have hz := hz.cast (z' := R) (by rw [HO.out, HR.out, fl_fl _ _ _ _ (Nat.pow_pos (by omega)) (Nat.pow_pos (by omega)), ← Nat.pow_add])
      have Zboth : Hid (ZN v24 s24 p24 m24 m24 (R)) := hz
      clear hz
      obtain ⟨L, hL⟩ : ∃ L : Nat, L = J + K := ⟨_, rfl⟩
      have hjk : wrap64 ((J : Int) + (K : Int)) = (L : Int) := by have := HJK2.out; simp only [wrap64]; omega
      have HL : Hid (L = J + K) := hL
      clear hL
      obtain ⟨cx0, cx1, fx0, fx1⟩ := Xx.out
      have hnex : gx < v24.heap.size := World.block_lt_of_cell? v24 _ cx0
      go_wp2_with fail
      clear cx0 cx1 fx0 fx1 hnex
      have Xboth0 : Hid (Box (v24.alloc (.cells #[.bool s24, .slice p24 m24 m24] 35)) v24.heap.size (.bool s24) (.slice p24 m24 m24)) := Box.new v24 _ _ _
      have hbn : Below v24.heap.size v24 (v24.alloc (.cells #[.bool s24, .slice p24 m24 m24] 35)) := below1 v24 _
      generalize v24.alloc (.cells #[.bool s24, .slice p24 m24 m24] 35) = W24 at *
      have HGboth : Hid (w.heap.size ≤ v24.heap.size) := hbw.size
      have Yx : Hid (Box W24 gx (.bool s1) (.slice p1 m1 c1)) := Xx.out.below hbn
      clear Xx
      have Xx := Yx
      clear Yx
      have Yone : Hid (Box W24 gone (.bool s23) (.slice p23 m23 m23)) := Xone.out.below hbn
      clear Xone
      have Xone := Yone
      clear Yone
      have HT' : Hid (Tab W24) := HT.out.below hbn
      clear HT
      have HT := HT'
      clear HT'
      have Zx' : Hid (ZN W24 s1 p1 m1 c1 x) := Zx.out.below hbn
      clear Zx
      have Zx := Zx'
      clear Zx'
      have Zone' : Hid (ZN W24 s23 p23 m23 m23 (O)) := Zone.out.below hbn
      clear Zone
      have Zone := Zone'
      clear Zone'
      have Zboth' : Hid (ZN W24 s24 p24 m24 m24 (R)) := Zboth.out.below hbn
      clear Zboth
      have Zboth := Zboth'
      clear Zboth'
      have hbw' := Below.on hbw hbn
      clear hbw
      have hbw := hbw'
      clear hbw'
      clear hbn
      generalize v24.heap.size = gboth at *
      have Xboth := Xboth0
      clear Xboth0
      clear hjk
      refine (zfshr Zx.out L (by have := HJK2.out; have := HL.out; omega) HT.out).mono ?_
      rintro e v25 ⟨⟨s25, p25, m25, rfl, hz⟩, hb25⟩
      have Yx : Hid (Box v25 gx (.bool s1) (.slice p1 m1 c1)) := Xx.out.below hb25
      clear Xx
      have Xx := Yx
      clear Yx
      have Yone : Hid (Box v25 gone (.bool s23) (.slice p23 m23 m23)) := Xone.out.below hb25
      clear Xone
      have Xone := Yone
      clear Yone
      have Yboth : Hid (Box v25 gboth (.bool s24) (.slice p24 m24 m24)) := Xboth.out.below hb25
      clear Xboth
      have Xboth := Yboth
      clear Yboth
      have HT' : Hid (Tab v25) := HT.out.below hb25
      clear HT
      have HT := HT'
      clear HT'
      have Zx' : Hid (ZN v25 s1 p1 m1 c1 x) := Zx.out.below hb25
      clear Zx
      have Zx := Zx'
      clear Zx'
      have Zone' : Hid (ZN v25 s23 p23 m23 m23 (O)) := Zone.out.below hb25
      clear Zone
      have Zone := Zone'
      clear Zone'
      have Zboth' : Hid (ZN v25 s24 p24 m24 m24 (R)) := Zboth.out.below hb25
      clear Zboth
      have Zboth := Zboth'
      clear Zboth'
      have hbw' := Below.on hbw hb25
      clear hbw
      have hbw := hbw'
      clear hbw'
      clear hb25
      have hz := hz.cast (z' := R) (by rw [HR.out, HL.out])
      have Zonce : Hid (ZN v25 s25 p25 m25 m25 (R)) := hz
      clear hz
      obtain ⟨cboth0, cboth1, fboth0, fboth1⟩ := Xboth.out
      have hneboth : gboth < v25.heap.size := World.block_lt_of_cell? v25 _ cboth0
      go_wp2_with fail
      clear cboth0 cboth1 fboth0 fboth1 hneboth
      have Xonce0 : Hid (Box (v25.alloc (.cells #[.bool s25, .slice p25 m25 m25] 35)) v25.heap.size (.bool s25) (.slice p25 m25 m25)) := Box.new v25 _ _ _
      have hbn : Below v25.heap.size v25 (v25.alloc (.cells #[.bool s25, .slice p25 m25 m25] 35)) := below1 v25 _
      generalize v25.alloc (.cells #[.bool s25, .slice p25 m25 m25] 35) = W25 at *
      have HGonce : Hid (w.heap.size ≤ v25.heap.size) := hbw.size
      have Yx : Hid (Box W25 gx (.bool s1) (.slice p1 m1 c1)) := Xx.out.below hbn
      clear Xx
      have Xx := Yx
      clear Yx
      have Yone : Hid (Box W25 gone (.bool s23) (.slice p23 m23 m23)) := Xone.out.below hbn
      clear Xone
      have Xone := Yone
      clear Yone
      have Yboth : Hid (Box W25 gboth (.bool s24) (.slice p24 m24 m24)) := Xboth.out.below hbn
      clear Xboth
      have Xboth := Yboth
      clear Yboth
      have HT' : Hid (Tab W25) := HT.out.below hbn
      clear HT
      have HT := HT'
      clear HT'
      have Zx' : Hid (ZN W25 s1 p1 m1 c1 x) := Zx.out.below hbn
      clear Zx
      have Zx := Zx'
      clear Zx'
      have Zone' : Hid (ZN W25 s23 p23 m23 m23 (O)) := Zone.out.below hbn
      clear Zone
      have Zone := Zone'
      clear Zone'
      have Zboth' : Hid (ZN W25 s24 p24 m24 m24 (R)) := Zboth.out.below hbn
      clear Zboth
      have Zboth := Zboth'
      clear Zboth'
      have Zonce' : Hid (ZN W25 s25 p25 m25 m25 (R)) := Zonce.out.below hbn
      clear Zonce
      have Zonce := Zonce'
      clear Zonce'
      have hbw' := Below.on hbw hbn
      clear hbw
      have hbw := hbw'
      clear hbw'
      clear hbn
      generalize v25.heap.size = gonce at *
      have Xonce := Xonce0
      clear Xonce0
      skip
      refine (zsame Zboth.out Zonce.out).mono ?_
      rintro e v26 ⟨rfl, hb26⟩
      rw [decide_eq_true rfl]
      have Yx : Hid (Box v26 gx (.bool s1) (.slice p1 m1 c1)) := Xx.out.below hb26
      clear Xx
      have Xx := Yx
      clear Yx
      have Yone : Hid (Box v26 gone (.bool s23) (.slice p23 m23 m23)) := Xone.out.below hb26
      clear Xone
      have Xone := Yone
      clear Yone
      have Yboth : Hid (Box v26 gboth (.bool s24) (.slice p24 m24 m24)) := Xboth.out.below hb26
      clear Xboth
      have Xboth := Yboth
      clear Yboth
      have Yonce : Hid (Box v26 gonce (.bool s25) (.slice p25 m25 m25)) := Xonce.out.below hb26
      clear Xonce
      have Xonce := Yonce
      clear Yonce
      have HT' : Hid (Tab v26) := HT.out.below hb26
      clear HT
      have HT := HT'
      clear HT'
      have Zx' : Hid (ZN v26 s1 p1 m1 c1 x) := Zx.out.below hb26
      clear Zx
      have Zx := Zx'
      clear Zx'
      have Zone' : Hid (ZN v26 s23 p23 m23 m23 (O)) := Zone.out.below hb26
      clear Zone
      have Zone := Zone'
      clear Zone'
      have Zboth' : Hid (ZN v26 s24 p24 m24 m24 (R)) := Zboth.out.below hb26
      clear Zboth
      have Zboth := Zboth'
      clear Zboth'
      have Zonce' : Hid (ZN v26 s25 p25 m25 m25 (R)) := Zonce.out.below hb26
      clear Zonce
      have Zonce := Zonce'
      clear Zonce'
      have hbw' := Below.on hbw hb26
      clear hbw
      have hbw := hbw'
      clear hbw'
      clear hb26
      go_wp2_with fail
      go_ret
      exact ⟨rfl, hbw⟩
    · clear ha hl
      by_cases hJ : (4611686018427387904 : Int) ≤ (J : Int)
      · have b1 : decide ((4611686018427387904 : Int) ≤ (J : Int)) = true := decide_eq_true hJ
        have b2 : decide (4611686018427387904 ≤ J) = true := decide_eq_true (by omega)
        go_wp2_with fail
        go_ret
        exact ⟨rfl, Below.on hbw (below1 _ _)⟩
      by_cases hK : (4611686018427387904 : Int) ≤ (K : Int)
      · have b1 : decide ((4611686018427387904 : Int) ≤ (J : Int)) = false := decide_eq_false hJ
        have b2 : decide (4611686018427387904 ≤ J) = false := decide_eq_false (by omega)
        have b3 : decide ((4611686018427387904 : Int) ≤ (K : Int)) = true := decide_eq_true hK
        have b4 : decide (4611686018427387904 ≤ K) = true := decide_eq_true (by omega)
        go_wp2_with fail
        go_ret
        exact ⟨rfl, Below.on hbw (below1 _ _)⟩
      have b1 : decide ((4611686018427387904 : Int) ≤ (J : Int)) = false := decide_eq_false hJ
      have b2 : decide (4611686018427387904 ≤ J) = false := decide_eq_false (by omega)
      have b3 : decide ((4611686018427387904 : Int) ≤ (K : Int)) = false := decide_eq_false hK
      have b4 : decide (4611686018427387904 ≤ K) = false := decide_eq_false (by omega)
      have HJK2 : Hid (J < 4611686018427387904 ∧ K < 4611686018427387904) := ⟨by omega, by omega⟩
      obtain ⟨cx0, cx1, fx0, fx1⟩ := Xx.out
      have hnex : gx < v20.heap.size := World.block_lt_of_cell? v20 _ cx0
      go_wp2_with fail
      clear cx0 cx1 fx0 fx1 hnex
      clear b1 b2 b3 b4 hJ hK
      have Xup0 : Hid (Box (v20.alloc (.cells #[.bool false, .slice none 0 0] 35)) v20.heap.size (.bool false) (.slice none 0 0)) := Box.new v20 _ _ _
      have hbn : Below v20.heap.size v20 (v20.alloc (.cells #[.bool false, .slice none 0 0] 35)) := below1 v20 _
      generalize v20.alloc (.cells #[.bool false, .slice none 0 0] 35) = W20 at *
      have HGup : Hid (w.heap.size ≤ v20.heap.size) := hbw.size
      have Yx : Hid (Box W20 gx (.bool s1) (.slice p1 m1 c1)) := Xx.out.below hbn
      clear Xx
      have Xx := Yx
      clear Yx
      have HT' : Hid (Tab W20) := HT.out.below hbn
      clear HT
      have HT := HT'
      clear HT'
      have Zx' : Hid (ZN W20 s1 p1 m1 c1 x) := Zx.out.below hbn
      clear Zx
      have Zx := Zx'
      clear Zx'
      have hbw' := Below.on hbw hbn
      clear hbw
      have hbw := hbw'
      clear hbw'
      clear hbn
      generalize v20.heap.size = gup at *
      have Xup := Xup0
      clear Xup0
      clear Xup
      obtain ⟨O, hO⟩ : ∃ v, v = fl (decide (x < 0)) x.natAbs (2 ^ J) := ⟨_, rfl⟩
      have HO : Hid (O = fl (decide (x < 0)) x.natAbs (2 ^ J)) := hO
      clear hO
      obtain ⟨R, hR⟩ : ∃ v, v = fl (decide (x < 0)) x.natAbs (2 ^ (J + K)) := ⟨_, rfl⟩
      have HR : Hid (R = fl (decide (x < 0)) x.natAbs (2 ^ (J + K))) := hR
      clear hR
      refine (zfshr Zx.out J HJK.out.1 HT.out).mono ?_
      rintro e v23 ⟨⟨s23, p23, m23, rfl, hz⟩, hb23⟩
      have Yx : Hid (Box v23 gx (.bool s1) (.slice p1 m1 c1)) := Xx.out.below hb23
      clear Xx
      have Xx := Yx
      clear Yx
      have HT' : Hid (Tab v23) := HT.out.below hb23
      clear HT
      have HT := HT'
      clear HT'
      have Zx' : Hid (ZN v23 s1 p1 m1 c1 x) := Zx.out.below hb23
      clear Zx
      have Zx := Zx'
      clear Zx'
      have hbw' := Below.on hbw hb23
      clear hbw
      have hbw := hbw'
      clear hbw'
      clear hb23
      have hz := hz.cast (z' := O) (HO.out.symm)
      have Zone : Hid (ZN v23 s23 p23 m23 m23 (O)) := hz
      clear hz
      go_wp2_with fail
      have Xone0 : Hid (Box (v23.alloc (.cells #[.bool s23, .slice p23 m23 m23] 35)) v23.heap.size (.bool s23) (.slice p23 m23 m23)) := Box.new v23 _ _ _
      have hbn : Below v23.heap.size v23 (v23.alloc (.cells #[.bool s23, .slice p23 m23 m23] 35)) := below1 v23 _
      generalize v23.alloc (.cells #[.bool s23, .slice p23 m23 m23] 35) = W23 at *
      have HGone : Hid (w.heap.size ≤ v23.heap.size) := hbw.size
      have Yx : Hid (Box W23 gx (.bool s1) (.slice p1 m1 c1)) := Xx.out.below hbn
      clear Xx
      have Xx := Yx
      clear Yx
      have HT' : Hid (Tab W23) := HT.out.below hbn
      clear HT
      have HT := HT'
      clear HT'
      have Zx' : Hid (ZN W23 s1 p1 m1 c1 x) := Zx.out.below hbn
      clear Zx
      have Zx := Zx'
      clear Zx'
      have Zone' : Hid (ZN W23 s23 p23 m23 m23 (O)) := Zone.out.below hbn
      clear Zone
      have Zone := Zone'
      clear Zone'
      have hbw' := Below.on hbw hbn
      clear hbw
      have hbw := hbw'
      clear hbw'
      clear hbn
      generalize v23.heap.size = gone at *
      have Xone := Xone0
      clear Xone0
      refine (zfshr Zone.out K HJK.out.2 HT.out).mono ?_
      rintro e v24 ⟨⟨s24, p24, m24, rfl, hz⟩, hb24⟩
      have Yx : Hid (Box v24 gx (.bool s1) (.slice p1 m1 c1)) := Xx.out.below hb24
      clear Xx
      have Xx := Yx
      clear Yx
      have Yone : Hid (Box v24 gone (.bool s23) (.slice p23 m23 m23)) := Xone.out.below hb24
      clear Xone
      have Xone := Yone
      clear Yone
      have HT' : Hid (Tab v24) := HT.out.below hb24
      clear HT
      have HT := HT'
      clear HT'
      have Zx' : Hid (ZN v24 s1 p1 m1 c1 x) := Zx.out.below hb24
      clear Zx
      have Zx := Zx'
      clear Zx'
      have Zone' : Hid (ZN v24 s23 p23 m23 m23 (O)) := Zone.out.below hb24
      clear Zone
      have Zone := Zone'
      clear Zone'
      have hbw' := Below.on hbw hb24
      clear hbw
      have hbw := hbw'
      clear hbw'
      clear hb24
      have hz := hz.cast (z' := R) (by rw [HO.out, HR.out, fl_fl _ _ _ _ (Nat.pow_pos (by omega)) (Nat.pow_pos (by omega)), ← Nat.pow_add])
      have Zboth : Hid (ZN v24 s24 p24 m24 m24 (R)) := hz
      clear hz
      obtain ⟨L, hL⟩ : ∃ L : Nat, L = J + K := ⟨_, rfl⟩
      have hjk : wrap64 ((J : Int) + (K : Int)) = (L : Int) := by have := HJK2.out; simp only [wrap64]; omega
      have HL : Hid (L = J + K) := hL
      clear hL
      obtain ⟨cx0, cx1, fx0, fx1⟩ := Xx.out
      have hnex : gx < v24.heap.size := World.block_lt_of_cell? v24 _ cx0
      go_wp2_with fail
      clear cx0 cx1 fx0 fx1 hnex
      have Xboth0 : Hid (Box (v24.alloc (.cells #[.bool s24, .slice p24 m24 m24] 35)) v24.heap.size (.bool s24) (.slice p24 m24 m24)) := Box.new v24 _ _ _
      have hbn : Below v24.heap.size v24 (v24.alloc (.cells #[.bool s24, .slice p24 m24 m24] 35)) := below1 v24 _
      generalize v24.alloc (.cells #[.bool s24, .slice p24 m24 m24] 35) = W24 at *
      have HGboth : Hid (w.heap.size ≤ v24.heap.size) := hbw.size
      have Yx : Hid (Box W24 gx (.bool s1) (.slice p1 m1 c1)) := Xx.out.below hbn
      clear Xx
      have Xx := Yx
      clear Yx
      have Yone : Hid (Box W24 gone (.bool s23) (.slice p23 m23 m23)) := Xone.out.below hbn
      clear Xone
      have Xone := Yone
      clear Yone
      have HT' : Hid (Tab W24) := HT.out.below hbn
      clear HT
      have HT := HT'
      clear HT'
      have Zx' : Hid (ZN W24 s1 p1 m1 c1 x) := Zx.out.below hbn
      clear Zx
      have Zx := Zx'
      clear Zx'
      have Zone' : Hid (ZN W24 s23 p23 m23 m23 (O)) := Zone.out.below hbn
      clear Zone
      have Zone := Zone'
      clear Zone'
      have Zboth' : Hid (ZN W24 s24 p24 m24 m24 (R)) := Zboth.out.below hbn
      clear Zboth
      have Zboth := Zboth'
      clear Zboth'
      have hbw' := Below.on hbw hbn
      clear hbw
      have hbw := hbw'
      clear hbw'
      clear hbn
      generalize v24.heap.size = gboth at *
      have Xboth := Xboth0
      clear Xboth0
      clear hjk
      refine (zfshr Zx.out L (by have := HJK2.out; have := HL.out; omega) HT.out).mono ?_
      rintro e v25 ⟨⟨s25, p25, m25, rfl, hz⟩, hb25⟩
      have Yx : Hid (Box v25 gx (.bool s1) (.slice p1 m1 c1)) := Xx.out.below hb25
      clear Xx
      have Xx := Yx
      clear Yx
      have Yone : Hid (Box v25 gone (.bool s23) (.slice p23 m23 m23)) := Xone.out.below hb25
      clear Xone
      have Xone := Yone
      clear Yone
      have Yboth : Hid (Box v25 gboth (.bool s24) (.slice p24 m24 m24)) := Xboth.out.below hb25
      clear Xboth
      have Xboth := Yboth
      clear Yboth
      have HT' : Hid (Tab v25) := HT.out.below hb25
      clear HT
      have HT := HT'
      clear HT'
      have Zx' : Hid (ZN v25 s1 p1 m1 c1 x) := Zx.out.below hb25
      clear Zx
      have Zx := Zx'
      clear Zx'
      have Zone' : Hid (ZN v25 s23 p23 m23 m23 (O)) := Zone.out.below hb25
      clear Zone
      have Zone := Zone'
      clear Zone'
      have Zboth' : Hid (ZN v25 s24 p24 m24 m24 (R)) := Zboth.out.below hb25
      clear Zboth
      have Zboth := Zboth'
      clear Zboth'
      have hbw' := Below.on hbw hb25
      clear hbw
      have hbw := hbw'
      clear hbw'
      clear hb25
      have hz := hz.cast (z' := R) (by rw [HR.out, HL.out])
      have Zonce : Hid (ZN v25 s25 p25 m25 m25 (R)) := hz
      clear hz
      obtain ⟨cboth0, cboth1, fboth0, fboth1⟩ := Xboth.out
      have hneboth : gboth < v25.heap.size := World.block_lt_of_cell? v25 _ cboth0
      go_wp2_with fail
      clear cboth0 cboth1 fboth0 fboth1 hneboth
      have Xonce0 : Hid (Box (v25.alloc (.cells #[.bool s25, .slice p25 m25 m25] 35)) v25.heap.size (.bool s25) (.slice p25 m25 m25)) := Box.new v25 _ _ _
      have hbn : Below v25.heap.size v25 (v25.alloc (.cells #[.bool s25, .slice p25 m25 m25] 35)) := below1 v25 _
      generalize v25.alloc (.cells #[.bool s25, .slice p25 m25 m25] 35) = W25 at *
      have HGonce : Hid (w.heap.size ≤ v25.heap.size) := hbw.size
      have Yx : Hid (Box W25 gx (.bool s1) (.slice p1 m1 c1)) := Xx.out.below hbn
      clear Xx
      have Xx := Yx
      clear Yx
      have Yone : Hid (Box W25 gone (.bool s23) (.slice p23 m23 m23)) := Xone.out.below hbn
      clear Xone
      have Xone := Yone
      clear Yone
      have Yboth : Hid (Box W25 gboth (.bool s24) (.slice p24 m24 m24)) := Xboth.out.below hbn
      clear Xboth
      have Xboth := Yboth
      clear Yboth
      have HT' : Hid (Tab W25) := HT.out.below hbn
      clear HT
      have HT := HT'
      clear HT'
      have Zx' : Hid (ZN W25 s1 p1 m1 c1 x) := Zx.out.below hbn
      clear Zx
      have Zx := Zx'
      clear Zx'
      have Zone' : Hid (ZN W25 s23 p23 m23 m23 (O)) := Zone.out.below hbn
      clear Zone
      have Zone := Zone'
      clear Zone'
      have Zboth' : Hid (ZN W25 s24 p24 m24 m24 (R)) := Zboth.out.below hbn
      clear Zboth
      have Zboth := Zboth'
      clear Zboth'
      have Zonce' : Hid (ZN W25 s25 p25 m25 m25 (R)) := Zonce.out.below hbn
      clear Zonce
      have Zonce := Zonce'
      clear Zonce'
      have hbw' := Below.on hbw hbn
      clear hbw
      have hbw := hbw'
      clear hbw'
      clear hbn
      generalize v25.heap.size = gonce at *
      have Xonce := Xonce0
      clear Xonce0
      skip
      refine (zsame Zboth.out Zonce.out).mono ?_
      rintro e v26 ⟨rfl, hb26⟩
      rw [decide_eq_true rfl]
      have Yx : Hid (Box v26 gx (.bool s1) (.slice p1 m1 c1)) := Xx.out.below hb26
      clear Xx
      have Xx := Yx
      clear Yx
      have Yone : Hid (Box v26 gone (.bool s23) (.slice p23 m23 m23)) := Xone.out.below hb26
      clear Xone
      have Xone := Yone
      clear Yone
      have Yboth : Hid (Box v26 gboth (.bool s24) (.slice p24 m24 m24)) := Xboth.out.below hb26
      clear Xboth
      have Xboth := Yboth
      clear Yboth
      have Yonce : Hid (Box v26 gonce (.bool s25) (.slice p25 m25 m25)) := Xonce.out.below hb26
      clear Xonce
      have Xonce := Yonce
      clear Yonce
      have HT' : Hid (Tab v26) := HT.out.below hb26
      clear HT
      have HT := HT'
      clear HT'
      have Zx' : Hid (ZN v26 s1 p1 m1 c1 x) := Zx.out.below hb26
      clear Zx
      have Zx := Zx'
      clear Zx'
      have Zone' : Hid (ZN v26 s23 p23 m23 m23 (O)) := Zone.out.below hb26
      clear Zone
      have Zone := Zone'
      clear Zone'
      have Zboth' : Hid (ZN v26 s24 p24 m24 m24 (R)) := Zboth.out.below hb26
      clear Zboth
      have Zboth := Zboth'
      clear Zboth'
      have Zonce' : Hid (ZN v26 s25 p25 m25 m25 (R)) := Zonce.out.below hb26
      clear Zonce
      have Zonce := Zonce'
      clear Zonce'
      have hbw' := Below.on hbw hb26
      clear hbw
      have hbw := hbw'
      clear hbw'
      clear hb26
      go_wp2_with fail
      go_ret
      exact ⟨rfl, hbw⟩
end Go.Proofs.YteoihhgaipplfaaDoor

