import Derived.Test.YtmekccpbcjpddaaGreatDoorJ14
import Derived.Test.YtmekccpbcjpddaaGreatDoorJ15
namespace Go.Proofs.YtmekccpbcjpddaaGreatDoor
open Go.RowKit Go.Shelf
set_option maxRecDepth 20000
set_option maxHeartbeats 0
structure ZO (B : Nat) (w : World) (s : Bool) (p : Option Addr) (m : Nat) (z : Int) : Prop where
  own : ∃ zs, Own B w p m zs ∧ Nf B64 zs z.natAbs ∧ m ≤ 8192
  sg : s = decide (z < 0)
theorem ZO.zn {B : Nat} {w : World} {s : Bool} {p : Option Addr} {m : Nat} {z : Int} (h : ZO B w s p m z) : ZN w s p m m z := by
  obtain ⟨zs, h1, h2, h3⟩ := h.own
  exact ⟨⟨zs, Num.of h1 h2 h3⟩, h.sg⟩
theorem ZO.below {B : Nat} {w w' : World} {s : Bool} {p : Option Addr} {m : Nat} {z : Int} (h : ZO B w s p m z) (hb : Below w.heap.size w w') : ZO B w' s p m z := by
  obtain ⟨zs, h1, h2, h3⟩ := h.own
  exact ⟨⟨zs, h1.below hb, h2, h3⟩, h.sg⟩
theorem ZO.set {B : Nat} {w : World} {s : Bool} {p : Option Addr} {m : Nat} {z : Int} (h : ZO B w s p m z) (g o : Nat) (v : Value) (hg : g < B) : ZO B (w.setCell ⟨g, o, none⟩ v) s p m z := by
  obtain ⟨zs, h1, h2, h3⟩ := h.own
  exact ⟨⟨zs, h1.setOld _ _ _ hg, h2, h3⟩, h.sg⟩
theorem AnsI.zo {B : Nat} {w' : World} {e : Ending} {z : Int} (h : AnsI B w' e z) (hz : z.natAbs < LIM) : ∃ s p m, e = .returned (.tuple #[ZV s p m m, .int .i64 0]) ∧ ZO B w' s p m z := by
  obtain ⟨p, m, zs, rfl, h1, h2, h3⟩ := h.ok hz
  exact ⟨_, p, m, rfl, ⟨⟨zs, h1, h2, h3⟩, rfl⟩⟩
def BelS (V W : World) : Prop := Below V.heap.size V W
def GeS (V : World) (g : Nat) : Prop := V.heap.size ≤ g
theorem BelS.below {V W W' : World} (h : BelS V W) (hb : Below W.heap.size W W') : BelS V W' := Below.on h hb
theorem BelS.size {V W : World} (h : BelS V W) : V.heap.size ≤ W.heap.size := RowKit.Below.size h
theorem zrdiv0 {w : World} {s t : Bool} {p q : Option Addr} {m c n d : Nat} {x y : Int} (h : ZN w s p m c x) (k : ZN w t q n d y) (hy0 : y = 0) : Calls Tryz.prog 31 #[ZV s p m c, ZV t q n d] w fun e w' => ∃ s' p' m', e = .returned (.tuple #[ZV s' p' m' m', .int .i64 4]) ∧ ZN w' s' p' m' m' 0 ∧ Below w.heap.size w w' := by
  obtain ⟨xs, hx⟩ := h.ex
  obtain ⟨ys, hy⟩ := k.ex
  refine (rdiv_err 4 (fun W hb => divided_zero s t (hx.below hb) h.pos (hy.below hb) k.pos (by omega))).mono fun e w' ⟨v, he, hv, hb⟩ => ?_
  obtain ⟨s', p', m', rfl, hz⟩ := hv.zn
  exact ⟨s', p', m', he, hz, hb⟩
theorem zmod0 {w : World} {s t : Bool} {p q : Option Addr} {m c n d : Nat} {x y : Int} (h : ZN w s p m c x) (k : ZN w t q n d y) (hy0 : y = 0) : Calls Tryz.prog 32 #[ZV s p m c, ZV t q n d] w fun e w' => ∃ s' p' m', e = .returned (.tuple #[ZV s' p' m' m', .int .i64 4]) ∧ ZN w' s' p' m' m' 0 ∧ Below w.heap.size w w' := by
  obtain ⟨xs, hx⟩ := h.ex
  obtain ⟨ys, hy⟩ := k.ex
  obtain rfl : t = false := by rw [k.sg, hy0]; rfl
  refine (nmod_zero s hx h.pos hy (by omega)).mono fun e w' ⟨he, hb⟩ => ?_
  obtain ⟨s', p', m', hv, hz⟩ := (ansz_none w.heap.size w').zn
  rw [hv] at he
  exact ⟨s', p', m', he, hz, hb⟩
theorem f_le (F : Int) {y : Int} (hy : y ≠ 0) : F.natAbs ≤ (F * y).natAbs := by
  rw [Int.natAbs_mul]
  exact Nat.le_mul_of_pos_right _ (by omega)
theorem near_lt {x y F C G M : Int} (N : Nests x y F C G M) (h0 : M ≠ 0) (h : 2 * M.natAbs < y.natAbs) : G = F := by
  rcases N.gor with h1 | h1
  · exact h1
  · exfalso
    have h2 := N.step; rw [if_neg h0] at h2
    have h3 := N.off; have h4 := N.sum; have h5 := N.sg; have h6 := N.ml
    have h7 : x - G * y = M - y := by rw [h1, show C = F + 1 by omega, Int.add_mul]; omega
    rw [h7] at h3
    omega
theorem near_gt {x y F C G M : Int} (N : Nests x y F C G M) (h0 : M ≠ 0) (h : y.natAbs < 2 * M.natAbs) : G = F + 1 := by
  have h2 := N.step; rw [if_neg h0] at h2
  rcases N.gor with h1 | h1
  · exfalso
    have h3 := N.off; have h4 := N.sum
    have h7 : x - G * y = M := by rw [h1]; omega
    rw [h7] at h3
    omega
  · omega
theorem near_eq {x y F C G M : Int} (N : Nests x y F C G M) (h0 : M ≠ 0) (h : 2 * M.natAbs = y.natAbs) : (F.natAbs % 2 = 1 → G = F + 1) ∧ (F.natAbs % 2 = 0 → G = F) := by
  have h2 := N.step; rw [if_neg h0] at h2
  have h4 := N.sum; have h5 := N.sg; have h6 := N.ml
  have ht : G.natAbs % 2 = 0 := by
    refine N.tie ?_
    rcases N.gor with h1 | h1
    · rw [show x - G * y = M by rw [h1]; omega]; exact h
    · rw [show x - G * y = M - y by rw [h1, show C = F + 1 by omega, Int.add_mul]; omega]; omega
  rcases N.gor with h1 | h1
  · exact ⟨fun h => by rw [h1] at ht; omega, fun _ => h1⟩
  · exact ⟨fun _ => by omega, fun h => by rw [h1] at ht; omega⟩
theorem near_n0 {x y F C G M : Int} (N : Nests x y F C G M) (h0 : M = 0) : C = F ∧ G = F := by
  have h2 := N.step; rw [if_pos h0] at h2
  have h1 := N.gor
  omega
theorem up_one {x y F C G M : Int} (N : Nests x y F C G M) (h0 : M ≠ 0) : C = F + 1 := by
  have h2 := N.step; rw [if_neg h0] at h2
  omega
theorem quotients_z {s t : Bool} {p q : Option Addr} {m c n d : Nat} {x y : Int} {w : World} (h : ZN w s p m c x) (k : ZN w t q n d y) (hy : y = 0) :
    Calls Tryz.prog 10 #[ZV s p m c, ZV t q n d] w fun en w' => en = .returned (.bool true) ∧ Below w.heap.size w w' := by
  have Zx : Hid (ZN w s p m c x) := h
  have Zy : Hid (ZN w t q n d y) := k
  have HY : Hid (y = 0) := hy
  obtain rfl : n = 0 := by
    obtain ⟨ys, hY⟩ := k.ex
    rw [hy] at hY
    have h1 := (hY.nf.zero_iff B64_one).2 rfl
    rw [← hY.at_.len, h1]; rfl
  clear h k hy
  go_enter Tryz.func10, Tryz.ntmps10
  go_wp2_with fail
  obtain ⟨W0, hW0⟩ : ∃ W0, W0 = ((w.alloc (.cells #[.bool s, .slice p m c] 33)).alloc (.cells #[.bool t, .slice q 0 d] 33)) := ⟨_, rfl⟩
  have Xx : Hid (Box W0 (w.heap.size) (.bool s) (.slice p m c)) := by rw [hW0]; exact ⟨by go_simp, by go_simp, by go_simp, by go_simp⟩
  have Xy : Hid (Box W0 (w.heap.size + 1) (.bool t) (.slice q 0 d)) := by rw [hW0]; exact ⟨by go_simp, by go_simp, by go_simp, by go_simp⟩
  have hb0 : Below w.heap.size w W0 := by rw [hW0]; exact below2 w _ _
  rw [← hW0]
  clear hW0
  have hbw : Below w.heap.size w w := Below.refl _ _
  obtain ⟨gy, hgy⟩ : ∃ g, g = w.heap.size + 1 := ⟨_, rfl⟩
  have HGy : Hid (w.heap.size ≤ gy) := by rw [hgy]; show _ ≤ _; omega
  rw [← hgy] at Xy
  try rw [← hgy]
  obtain ⟨gx, hgx⟩ : ∃ g, g = w.heap.size := ⟨_, rfl⟩
  have HGx : Hid (w.heap.size ≤ gx) := by rw [hgx]; show _ ≤ _; omega
  rw [← hgx] at Xx
  try rw [← hgx]
  have HGD : Hid (gx ≠ gy ∧ gy ≠ gx) := by rw [hgx, hgy]; exact ⟨by omega, by omega⟩
  clear hgx hgy
  replace Zx : Hid _ := Zx.out.below hb0
  replace Zy : Hid _ := Zy.out.below hb0
  replace hbw := Below.on hbw hb0
  clear hb0
  refine (zfdiv0 Zx.out Zy.out HY.out).mono ?_
  rintro e v1 ⟨s1, p1, m1, rfl, hz, hb1⟩
  replace Xx : Hid _ := Xx.out.below hb1
  replace Xy : Hid _ := Xy.out.below hb1
  replace Zx : Hid _ := Zx.out.below hb1
  replace Zy : Hid _ := Zy.out.below hb1
  replace hbw := Below.on hbw hb1
  clear hb1
  have Zf : Hid (ZN v1 s1 p1 m1 m1 (0)) := hz
  clear hz
  obtain ⟨cx0, cx1, fx0, fx1⟩ := Xx.out
  have hnex := Xx.out.lt
  obtain ⟨cy0, cy1, fy0, fy1⟩ := Xy.out
  have hney := Xy.out.lt
  go_wp2_with fail
  clear cx0 cx1 fx0 fx1 hnex
  clear cy0 cy1 fy0 fy1 hney
  have Xf0 : Hid (Box (v1.alloc (.cells #[.bool s1, .slice p1 m1 m1] 33)) v1.heap.size (.bool s1) (.slice p1 m1 m1)) := Box.new v1 _ _ _
  have hbn : Below v1.heap.size v1 (v1.alloc (.cells #[.bool s1, .slice p1 m1 m1] 33)) := below1 v1 _
  generalize v1.alloc (.cells #[.bool s1, .slice p1 m1 m1] 33) = W1 at *
  have HGf : Hid (w.heap.size ≤ v1.heap.size) := hbw.size
  replace Xx : Hid _ := Xx.out.below hbn
  replace Xy : Hid _ := Xy.out.below hbn
  replace Zx : Hid _ := Zx.out.below hbn
  replace Zy : Hid _ := Zy.out.below hbn
  replace Zf : Hid _ := Zf.out.below hbn
  replace hbw := Below.on hbw hbn
  clear hbn
  generalize v1.heap.size = gf at *
  have Xf := Xf0
  clear Xf0
  refine (zcdiv0 Zx.out Zy.out HY.out).mono ?_
  rintro e v2 ⟨s2, p2, m2, rfl, hz, hb2⟩
  replace Xx : Hid _ := Xx.out.below hb2
  replace Xy : Hid _ := Xy.out.below hb2
  replace Xf : Hid _ := Xf.out.below hb2
  replace Zx : Hid _ := Zx.out.below hb2
  replace Zy : Hid _ := Zy.out.below hb2
  replace Zf : Hid _ := Zf.out.below hb2
  replace hbw := Below.on hbw hb2
  clear hb2
  have Zu : Hid (ZN v2 s2 p2 m2 m2 (0)) := hz
  clear hz
  obtain ⟨cx0, cx1, fx0, fx1⟩ := Xx.out
  have hnex := Xx.out.lt
  obtain ⟨cy0, cy1, fy0, fy1⟩ := Xy.out
  have hney := Xy.out.lt
  go_wp2_with fail
  clear cx0 cx1 fx0 fx1 hnex
  clear cy0 cy1 fy0 fy1 hney
  have Xu0 : Hid (Box (v2.alloc (.cells #[.bool s2, .slice p2 m2 m2] 33)) v2.heap.size (.bool s2) (.slice p2 m2 m2)) := Box.new v2 _ _ _
  have hbn : Below v2.heap.size v2 (v2.alloc (.cells #[.bool s2, .slice p2 m2 m2] 33)) := below1 v2 _
  generalize v2.alloc (.cells #[.bool s2, .slice p2 m2 m2] 33) = W2 at *
  have HGu : Hid (w.heap.size ≤ v2.heap.size) := hbw.size
  replace Xx : Hid _ := Xx.out.below hbn
  replace Xy : Hid _ := Xy.out.below hbn
  replace Xf : Hid _ := Xf.out.below hbn
  replace Zx : Hid _ := Zx.out.below hbn
  replace Zy : Hid _ := Zy.out.below hbn
  replace Zf : Hid _ := Zf.out.below hbn
  replace Zu : Hid _ := Zu.out.below hbn
  replace hbw := Below.on hbw hbn
  clear hbn
  generalize v2.heap.size = gu at *
  have Xu := Xu0
  clear Xu0
  refine (zrdiv0 Zx.out Zy.out HY.out).mono ?_
  rintro e v3 ⟨s3, p3, m3, rfl, hz, hb3⟩
  replace Xx : Hid _ := Xx.out.below hb3
  replace Xy : Hid _ := Xy.out.below hb3
  replace Xf : Hid _ := Xf.out.below hb3
  replace Xu : Hid _ := Xu.out.below hb3
  replace Zx : Hid _ := Zx.out.below hb3
  replace Zy : Hid _ := Zy.out.below hb3
  replace Zf : Hid _ := Zf.out.below hb3
  replace Zu : Hid _ := Zu.out.below hb3
  replace hbw := Below.on hbw hb3
  clear hb3
  have Zg : Hid (ZN v3 s3 p3 m3 m3 (0)) := hz
  clear hz
  obtain ⟨cx0, cx1, fx0, fx1⟩ := Xx.out
  have hnex := Xx.out.lt
  obtain ⟨cy0, cy1, fy0, fy1⟩ := Xy.out
  have hney := Xy.out.lt
  go_wp2_with fail
  clear cx0 cx1 fx0 fx1 hnex
  clear cy0 cy1 fy0 fy1 hney
  have Xg0 : Hid (Box (v3.alloc (.cells #[.bool s3, .slice p3 m3 m3] 33)) v3.heap.size (.bool s3) (.slice p3 m3 m3)) := Box.new v3 _ _ _
  have hbn : Below v3.heap.size v3 (v3.alloc (.cells #[.bool s3, .slice p3 m3 m3] 33)) := below1 v3 _
  generalize v3.alloc (.cells #[.bool s3, .slice p3 m3 m3] 33) = W3 at *
  have HGg : Hid (w.heap.size ≤ v3.heap.size) := hbw.size
  replace Xx : Hid _ := Xx.out.below hbn
  replace Xy : Hid _ := Xy.out.below hbn
  replace Xf : Hid _ := Xf.out.below hbn
  replace Xu : Hid _ := Xu.out.below hbn
  replace Zx : Hid _ := Zx.out.below hbn
  replace Zy : Hid _ := Zy.out.below hbn
  replace Zf : Hid _ := Zf.out.below hbn
  replace Zu : Hid _ := Zu.out.below hbn
  replace Zg : Hid _ := Zg.out.below hbn
  replace hbw := Below.on hbw hbn
  clear hbn
  generalize v3.heap.size = gg at *
  have Xg := Xg0
  clear Xg0
  refine (zmod0 Zx.out Zy.out HY.out).mono ?_
  rintro e v4 ⟨s4, p4, m4, rfl, hz, hb4⟩
  replace Xx : Hid _ := Xx.out.below hb4
  replace Xy : Hid _ := Xy.out.below hb4
  replace Xf : Hid _ := Xf.out.below hb4
  replace Xu : Hid _ := Xu.out.below hb4
  replace Xg : Hid _ := Xg.out.below hb4
  replace Zx : Hid _ := Zx.out.below hb4
  replace Zy : Hid _ := Zy.out.below hb4
  replace Zf : Hid _ := Zf.out.below hb4
  replace Zu : Hid _ := Zu.out.below hb4
  replace Zg : Hid _ := Zg.out.below hb4
  replace hbw := Below.on hbw hb4
  clear hb4
  have Zr : Hid (ZN v4 s4 p4 m4 m4 (0)) := hz
  clear hz
  obtain ⟨cx0, cx1, fx0, fx1⟩ := Xx.out
  have hnex := Xx.out.lt
  obtain ⟨cy0, cy1, fy0, fy1⟩ := Xy.out
  have hney := Xy.out.lt
  go_wp2_with fail
  clear cx0 cx1 fx0 fx1 hnex
  clear cy0 cy1 fy0 fy1 hney
  have Xr0 : Hid (Box (v4.alloc (.cells #[.bool s4, .slice p4 m4 m4] 33)) v4.heap.size (.bool s4) (.slice p4 m4 m4)) := Box.new v4 _ _ _
  have hbn : Below v4.heap.size v4 (v4.alloc (.cells #[.bool s4, .slice p4 m4 m4] 33)) := below1 v4 _
  generalize v4.alloc (.cells #[.bool s4, .slice p4 m4 m4] 33) = W4 at *
  have HGr : Hid (w.heap.size ≤ v4.heap.size) := hbw.size
  replace Xx : Hid _ := Xx.out.below hbn
  replace Xy : Hid _ := Xy.out.below hbn
  replace Xf : Hid _ := Xf.out.below hbn
  replace Xu : Hid _ := Xu.out.below hbn
  replace Xg : Hid _ := Xg.out.below hbn
  replace Zx : Hid _ := Zx.out.below hbn
  replace Zy : Hid _ := Zy.out.below hbn
  replace Zf : Hid _ := Zf.out.below hbn
  replace Zu : Hid _ := Zu.out.below hbn
  replace Zg : Hid _ := Zg.out.below hbn
  replace Zr : Hid _ := Zr.out.below hbn
  replace hbw := Below.on hbw hbn
  clear hbn
  generalize v4.heap.size = gr at *
  have Xr := Xr0
  clear Xr0
  obtain ⟨cy0, cy1, fy0, fy1⟩ := Xy.out
  have hney := Xy.out.lt
  go_wp2_with fail
  clear cy0 cy1 fy0 fy1 hney
  go_ret
  exact ⟨rfl, hbw⟩
theorem quotients_n {s t : Bool} {p q : Option Addr} {m c n d i : Nat} {x y : Int} {w : World} (h : ZN w s p m c x) (k : ZN w t q n d y) (hy : y ≠ 0) (hi : i = 250) (hx9 : x.natAbs < B64 ^ i) (hy9 : y.natAbs < B64 ^ i) :
    Calls Tryz.prog 10 #[ZV s p m c, ZV t q n d] w fun en w' => en = .returned (.bool true) ∧ Below w.heap.size w w' := by
  have Zx : Hid (ZN w s p m c x) := h
  have Zy : Hid (ZN w t q n d y) := k
  have HY : Hid (y ≠ 0) := hy
  have HI : Hid (i = 250 ∧ x.natAbs < B64 ^ i ∧ y.natAbs < B64 ^ i) := ⟨hi, hx9, hy9⟩
  have hn0 : ((n : Int) == 0) = false := by
    obtain ⟨ys, hY⟩ := k.ex
    have h1 := hY.nf.zero_iff B64_one
    have h2 := hY.at_.len
    simp
    intro e
    have h3 := h1.1 (List.eq_nil_of_length_eq_zero (by omega))
    omega
  clear h k hy hi hx9 hy9
  go_enter Tryz.func10, Tryz.ntmps10
  go_wp2_with fail
  obtain ⟨W0, hW0⟩ : ∃ W0, W0 = ((w.alloc (.cells #[.bool s, .slice p m c] 33)).alloc (.cells #[.bool t, .slice q n d] 33)) := ⟨_, rfl⟩
  have Xx : Hid (Box W0 (w.heap.size) (.bool s) (.slice p m c)) := by rw [hW0]; exact ⟨by go_simp, by go_simp, by go_simp, by go_simp⟩
  have Xy : Hid (Box W0 (w.heap.size + 1) (.bool t) (.slice q n d)) := by rw [hW0]; exact ⟨by go_simp, by go_simp, by go_simp, by go_simp⟩
  have hb0 : Below w.heap.size w W0 := by rw [hW0]; exact below2 w _ _
  rw [← hW0]
  clear hW0
  have hbw : Below w.heap.size w w := Below.refl _ _
  obtain ⟨gy, hgy⟩ : ∃ g, g = w.heap.size + 1 := ⟨_, rfl⟩
  have HGy : Hid (w.heap.size ≤ gy) := by rw [hgy]; show _ ≤ _; omega
  rw [← hgy] at Xy
  try rw [← hgy]
  obtain ⟨gx, hgx⟩ : ∃ g, g = w.heap.size := ⟨_, rfl⟩
  have HGx : Hid (w.heap.size ≤ gx) := by rw [hgx]; show _ ≤ _; omega
  rw [← hgx] at Xx
  try rw [← hgx]
  have HGD : Hid (gx ≠ gy ∧ gy ≠ gx) := by rw [hgx, hgy]; exact ⟨by omega, by omega⟩
  clear hgx hgy
  replace Zx : Hid _ := Zx.out.below hb0
  replace Zy : Hid _ := Zy.out.below hb0
  replace hbw := Below.on hbw hb0
  clear hb0
  obtain ⟨F, hF⟩ : ∃ v, v = fl (decide (x < 0) != decide (y < 0)) x.natAbs y.natAbs := ⟨_, rfl⟩
  have HF : Hid (F = fl (decide (x < 0) != decide (y < 0)) x.natAbs y.natAbs) := hF
  clear hF
  obtain ⟨C, hC⟩ : ∃ v, v = ce (decide (x < 0) != decide (y < 0)) x.natAbs y.natAbs := ⟨_, rfl⟩
  have HC : Hid (C = ce (decide (x < 0) != decide (y < 0)) x.natAbs y.natAbs) := hC
  clear hC
  obtain ⟨G, hG⟩ : ∃ v, v = ne (decide (x < 0) != decide (y < 0)) x.natAbs y.natAbs := ⟨_, rfl⟩
  have HG : Hid (G = ne (decide (x < 0) != decide (y < 0)) x.natAbs y.natAbs) := hG
  clear hG
  obtain ⟨M, hM⟩ : ∃ v, v = mo (decide (x < 0)) (decide (y < 0)) x.natAbs y.natAbs := ⟨_, rfl⟩
  have HM : Hid (M = mo (decide (x < 0)) (decide (y < 0)) x.natAbs y.natAbs) := hM
  clear hM
  have HN : Hid (Nests x y F C G M) := nests_of x y HY.out HF.out HC.out HG.out HM.out
  have HLM : Hid (x.natAbs + y.natAbs + 1 < LIM) := by have h1 := HI.out; exact lim_2b h1.1 (by omega)
  have H1L : Hid ((F + 1).natAbs < LIM) := by have h1 := f_le F HY.out; have h2 := HN.out.bf; have h3 := HLM.out; show _ < _; omega
  refine (zfdiv Zx.out Zy.out HY.out).mono ?_
  rintro e v1 ⟨⟨s1, p1, m1, rfl, hz⟩, hb1⟩
  replace Xx : Hid _ := Xx.out.below hb1
  replace Xy : Hid _ := Xy.out.below hb1
  replace Zx : Hid _ := Zx.out.below hb1
  replace Zy : Hid _ := Zy.out.below hb1
  replace hbw := Below.on hbw hb1
  clear hb1
  have hz := hz.cast (z' := F) (HF.out.symm)
  have Zf : Hid (ZN v1 s1 p1 m1 m1 (F)) := hz
  clear hz
  obtain ⟨cx0, cx1, fx0, fx1⟩ := Xx.out
  have hnex := Xx.out.lt
  obtain ⟨cy0, cy1, fy0, fy1⟩ := Xy.out
  have hney := Xy.out.lt
  go_wp2_with fail
  clear cx0 cx1 fx0 fx1 hnex
  clear cy0 cy1 fy0 fy1 hney
  have Xf0 : Hid (Box (v1.alloc (.cells #[.bool s1, .slice p1 m1 m1] 33)) v1.heap.size (.bool s1) (.slice p1 m1 m1)) := Box.new v1 _ _ _
  have hbn : Below v1.heap.size v1 (v1.alloc (.cells #[.bool s1, .slice p1 m1 m1] 33)) := below1 v1 _
  generalize v1.alloc (.cells #[.bool s1, .slice p1 m1 m1] 33) = W1 at *
  have HGf : Hid (w.heap.size ≤ v1.heap.size) := hbw.size
  replace Xx : Hid _ := Xx.out.below hbn
  replace Xy : Hid _ := Xy.out.below hbn
  replace Zx : Hid _ := Zx.out.below hbn
  replace Zy : Hid _ := Zy.out.below hbn
  replace Zf : Hid _ := Zf.out.below hbn
  replace hbw := Below.on hbw hbn
  clear hbn
  generalize v1.heap.size = gf at *
  have Xf := Xf0
  clear Xf0
  refine (zcdiv Zx.out Zy.out HY.out).mono ?_
  rintro e v2 ⟨⟨s2, p2, m2, rfl, hz⟩, hb2⟩
  replace Xx : Hid _ := Xx.out.below hb2
  replace Xy : Hid _ := Xy.out.below hb2
  replace Xf : Hid _ := Xf.out.below hb2
  replace Zx : Hid _ := Zx.out.below hb2
  replace Zy : Hid _ := Zy.out.below hb2
  replace Zf : Hid _ := Zf.out.below hb2
  replace hbw := Below.on hbw hb2
  clear hb2
  have hz := hz.cast (z' := C) (HC.out.symm)
  have Zu : Hid (ZN v2 s2 p2 m2 m2 (C)) := hz
  clear hz
  obtain ⟨cx0, cx1, fx0, fx1⟩ := Xx.out
  have hnex := Xx.out.lt
  obtain ⟨cy0, cy1, fy0, fy1⟩ := Xy.out
  have hney := Xy.out.lt
  go_wp2_with fail
  clear cx0 cx1 fx0 fx1 hnex
  clear cy0 cy1 fy0 fy1 hney
  have Xu0 : Hid (Box (v2.alloc (.cells #[.bool s2, .slice p2 m2 m2] 33)) v2.heap.size (.bool s2) (.slice p2 m2 m2)) := Box.new v2 _ _ _
  have hbn : Below v2.heap.size v2 (v2.alloc (.cells #[.bool s2, .slice p2 m2 m2] 33)) := below1 v2 _
  generalize v2.alloc (.cells #[.bool s2, .slice p2 m2 m2] 33) = W2 at *
  have HGu : Hid (w.heap.size ≤ v2.heap.size) := hbw.size
  replace Xx : Hid _ := Xx.out.below hbn
  replace Xy : Hid _ := Xy.out.below hbn
  replace Xf : Hid _ := Xf.out.below hbn
  replace Zx : Hid _ := Zx.out.below hbn
  replace Zy : Hid _ := Zy.out.below hbn
  replace Zf : Hid _ := Zf.out.below hbn
  replace Zu : Hid _ := Zu.out.below hbn
  replace hbw := Below.on hbw hbn
  clear hbn
  generalize v2.heap.size = gu at *
  have Xu := Xu0
  clear Xu0
  refine (zrdiv Zx.out Zy.out HY.out).mono ?_
  rintro e v3 ⟨⟨s3, p3, m3, rfl, hz⟩, hb3⟩
  replace Xx : Hid _ := Xx.out.below hb3
  replace Xy : Hid _ := Xy.out.below hb3
  replace Xf : Hid _ := Xf.out.below hb3
  replace Xu : Hid _ := Xu.out.below hb3
  replace Zx : Hid _ := Zx.out.below hb3
  replace Zy : Hid _ := Zy.out.below hb3
  replace Zf : Hid _ := Zf.out.below hb3
  replace Zu : Hid _ := Zu.out.below hb3
  replace hbw := Below.on hbw hb3
  clear hb3
  have hz := hz.cast (z' := G) (HG.out.symm)
  have Zg : Hid (ZN v3 s3 p3 m3 m3 (G)) := hz
  clear hz
  obtain ⟨cx0, cx1, fx0, fx1⟩ := Xx.out
  have hnex := Xx.out.lt
  obtain ⟨cy0, cy1, fy0, fy1⟩ := Xy.out
  have hney := Xy.out.lt
  go_wp2_with fail
  clear cx0 cx1 fx0 fx1 hnex
  clear cy0 cy1 fy0 fy1 hney
  have Xg0 : Hid (Box (v3.alloc (.cells #[.bool s3, .slice p3 m3 m3] 33)) v3.heap.size (.bool s3) (.slice p3 m3 m3)) := Box.new v3 _ _ _
  have hbn : Below v3.heap.size v3 (v3.alloc (.cells #[.bool s3, .slice p3 m3 m3] 33)) := below1 v3 _
  generalize v3.alloc (.cells #[.bool s3, .slice p3 m3 m3] 33) = W3 at *
  have HGg : Hid (w.heap.size ≤ v3.heap.size) := hbw.size
  replace Xx : Hid _ := Xx.out.below hbn
  replace Xy : Hid _ := Xy.out.below hbn
  replace Xf : Hid _ := Xf.out.below hbn
  replace Xu : Hid _ := Xu.out.below hbn
  replace Zx : Hid _ := Zx.out.below hbn
  replace Zy : Hid _ := Zy.out.below hbn
  replace Zf : Hid _ := Zf.out.below hbn
  replace Zu : Hid _ := Zu.out.below hbn
  replace Zg : Hid _ := Zg.out.below hbn
  replace hbw := Below.on hbw hbn
  clear hbn
  generalize v3.heap.size = gg at *
  have Xg := Xg0
  clear Xg0
  refine (zmod Zx.out Zy.out HY.out).mono ?_
  rintro e v4 ⟨⟨s4, p4, m4, rfl, hz⟩, hb4⟩
  replace Xx : Hid _ := Xx.out.below hb4
  replace Xy : Hid _ := Xy.out.below hb4
  replace Xf : Hid _ := Xf.out.below hb4
  replace Xu : Hid _ := Xu.out.below hb4
  replace Xg : Hid _ := Xg.out.below hb4
  replace Zx : Hid _ := Zx.out.below hb4
  replace Zy : Hid _ := Zy.out.below hb4
  replace Zf : Hid _ := Zf.out.below hb4
  replace Zu : Hid _ := Zu.out.below hb4
  replace Zg : Hid _ := Zg.out.below hb4
  replace hbw := Below.on hbw hb4
  clear hb4
  have hz := hz.cast (z' := M) (HM.out.symm)
  have Zr : Hid (ZN v4 s4 p4 m4 m4 (M)) := hz
  clear hz
  obtain ⟨cy0, cy1, fy0, fy1⟩ := Xy.out
  have hney := Xy.out.lt
  obtain ⟨cf0, cf1, ff0, ff1⟩ := Xf.out
  have hnef := Xf.out.lt
  go_wp2_with fail
  clear cy0 cy1 fy0 fy1 hney
  clear cf0 cf1 ff0 ff1 hnef
  have Xr0 : Hid (Box (v4.alloc (.cells #[.bool s4, .slice p4 m4 m4] 33)) v4.heap.size (.bool s4) (.slice p4 m4 m4)) := Box.new v4 _ _ _
  have hbn : Below v4.heap.size v4 (v4.alloc (.cells #[.bool s4, .slice p4 m4 m4] 33)) := below1 v4 _
  generalize v4.alloc (.cells #[.bool s4, .slice p4 m4 m4] 33) = W4 at *
  have HGr : Hid (w.heap.size ≤ v4.heap.size) := hbw.size
  replace Xx : Hid _ := Xx.out.below hbn
  replace Xy : Hid _ := Xy.out.below hbn
  replace Xf : Hid _ := Xf.out.below hbn
  replace Xu : Hid _ := Xu.out.below hbn
  replace Xg : Hid _ := Xg.out.below hbn
  replace Zx : Hid _ := Zx.out.below hbn
  replace Zy : Hid _ := Zy.out.below hbn
  replace Zf : Hid _ := Zf.out.below hbn
  replace Zu : Hid _ := Zu.out.below hbn
  replace Zg : Hid _ := Zg.out.below hbn
  replace Zr : Hid _ := Zr.out.below hbn
  replace hbw := Below.on hbw hbn
  clear hbn
  generalize v4.heap.size = gr at *
  have Xr := Xr0
  clear Xr0
  clear hn0
  refine (zmul Zf.out Zy.out).mono ?_
  rintro e v5 ⟨ha, hb5⟩
  obtain ⟨s5, p5, m5, rfl, hz⟩ := ha.got (by have h1 := HN.out.bf; have h2 := HLM.out; omega)
  clear ha
  replace Xx : Hid _ := Xx.out.below hb5
  replace Xy : Hid _ := Xy.out.below hb5
  replace Xf : Hid _ := Xf.out.below hb5
  replace Xu : Hid _ := Xu.out.below hb5
  replace Xg : Hid _ := Xg.out.below hb5
  replace Xr : Hid _ := Xr.out.below hb5
  replace Zx : Hid _ := Zx.out.below hb5
  replace Zy : Hid _ := Zy.out.below hb5
  replace Zf : Hid _ := Zf.out.below hb5
  replace Zu : Hid _ := Zu.out.below hb5
  replace Zg : Hid _ := Zg.out.below hb5
  replace Zr : Hid _ := Zr.out.below hb5
  replace hbw := Below.on hbw hb5
  clear hb5
  have Zm : Hid (ZN v5 s5 p5 m5 m5 (F * y)) := hz
  clear hz
  obtain ⟨cr0, cr1, fr0, fr1⟩ := Xr.out
  have hner := Xr.out.lt
  go_wp2_with fail
  clear cr0 cr1 fr0 fr1 hner
  have Xm0 : Hid (Box (v5.alloc (.cells #[.bool s5, .slice p5 m5 m5] 33)) v5.heap.size (.bool s5) (.slice p5 m5 m5)) := Box.new v5 _ _ _
  have hbn : Below v5.heap.size v5 (v5.alloc (.cells #[.bool s5, .slice p5 m5 m5] 33)) := below1 v5 _
  generalize v5.alloc (.cells #[.bool s5, .slice p5 m5 m5] 33) = W5 at *
  have HGm : Hid (w.heap.size ≤ v5.heap.size) := hbw.size
  replace Xx : Hid _ := Xx.out.below hbn
  replace Xy : Hid _ := Xy.out.below hbn
  replace Xf : Hid _ := Xf.out.below hbn
  replace Xu : Hid _ := Xu.out.below hbn
  replace Xg : Hid _ := Xg.out.below hbn
  replace Xr : Hid _ := Xr.out.below hbn
  replace Zx : Hid _ := Zx.out.below hbn
  replace Zy : Hid _ := Zy.out.below hbn
  replace Zf : Hid _ := Zf.out.below hbn
  replace Zu : Hid _ := Zu.out.below hbn
  replace Zg : Hid _ := Zg.out.below hbn
  replace Zr : Hid _ := Zr.out.below hbn
  replace Zm : Hid _ := Zm.out.below hbn
  replace hbw := Below.on hbw hbn
  clear hbn
  generalize v5.heap.size = gm at *
  have Xm := Xm0
  clear Xm0
  refine (zadd Zm.out Zr.out).mono ?_
  rintro e v6 ⟨ha, hb6⟩
  obtain ⟨s6, p6, m6, rfl, hz⟩ := ha.got (by rw [HN.out.sum]; exact Zx.out.lim)
  clear ha
  replace Xx : Hid _ := Xx.out.below hb6
  replace Xy : Hid _ := Xy.out.below hb6
  replace Xf : Hid _ := Xf.out.below hb6
  replace Xu : Hid _ := Xu.out.below hb6
  replace Xg : Hid _ := Xg.out.below hb6
  replace Xr : Hid _ := Xr.out.below hb6
  replace Xm : Hid _ := Xm.out.below hb6
  replace Zx : Hid _ := Zx.out.below hb6
  replace Zy : Hid _ := Zy.out.below hb6
  replace Zf : Hid _ := Zf.out.below hb6
  replace Zu : Hid _ := Zu.out.below hb6
  replace Zg : Hid _ := Zg.out.below hb6
  replace Zr : Hid _ := Zr.out.below hb6
  replace Zm : Hid _ := Zm.out.below hb6
  replace hbw := Below.on hbw hb6
  clear hb6
  have hz := hz.cast (z' := x) (HN.out.sum)
  have Zs : Hid (ZN v6 s6 p6 m6 m6 (x)) := hz
  clear hz
  obtain ⟨cx0, cx1, fx0, fx1⟩ := Xx.out
  have hnex := Xx.out.lt
  go_wp2_with fail
  clear cx0 cx1 fx0 fx1 hnex
  have Xs0 : Hid (Box (v6.alloc (.cells #[.bool s6, .slice p6 m6 m6] 33)) v6.heap.size (.bool s6) (.slice p6 m6 m6)) := Box.new v6 _ _ _
  have hbn : Below v6.heap.size v6 (v6.alloc (.cells #[.bool s6, .slice p6 m6 m6] 33)) := below1 v6 _
  generalize v6.alloc (.cells #[.bool s6, .slice p6 m6 m6] 33) = W6 at *
  have HGs : Hid (w.heap.size ≤ v6.heap.size) := hbw.size
  replace Xx : Hid _ := Xx.out.below hbn
  replace Xy : Hid _ := Xy.out.below hbn
  replace Xf : Hid _ := Xf.out.below hbn
  replace Xu : Hid _ := Xu.out.below hbn
  replace Xg : Hid _ := Xg.out.below hbn
  replace Xr : Hid _ := Xr.out.below hbn
  replace Xm : Hid _ := Xm.out.below hbn
  replace Zx : Hid _ := Zx.out.below hbn
  replace Zy : Hid _ := Zy.out.below hbn
  replace Zf : Hid _ := Zf.out.below hbn
  replace Zu : Hid _ := Zu.out.below hbn
  replace Zg : Hid _ := Zg.out.below hbn
  replace Zr : Hid _ := Zr.out.below hbn
  replace Zm : Hid _ := Zm.out.below hbn
  replace Zs : Hid _ := Zs.out.below hbn
  replace hbw := Below.on hbw hbn
  clear hbn
  generalize v6.heap.size = gs at *
  have Xs := Xs0
  clear Xs0
  refine (tint Zs.out Zx.out).mono ?_
  rintro e v7 ⟨rfl, hb7⟩
  rw [decide_eq_true rfl]
  replace Xx : Hid _ := Xx.out.below hb7
  replace Xy : Hid _ := Xy.out.below hb7
  replace Xf : Hid _ := Xf.out.below hb7
  replace Xu : Hid _ := Xu.out.below hb7
  replace Xg : Hid _ := Xg.out.below hb7
  replace Xr : Hid _ := Xr.out.below hb7
  replace Xm : Hid _ := Xm.out.below hb7
  replace Xs : Hid _ := Xs.out.below hb7
  replace Zx : Hid _ := Zx.out.below hb7
  replace Zy : Hid _ := Zy.out.below hb7
  replace Zf : Hid _ := Zf.out.below hb7
  replace Zu : Hid _ := Zu.out.below hb7
  replace Zg : Hid _ := Zg.out.below hb7
  replace Zr : Hid _ := Zr.out.below hb7
  replace Zm : Hid _ := Zm.out.below hb7
  replace Zs : Hid _ := Zs.out.below hb7
  replace hbw := Below.on hbw hb7
  clear hb7
  obtain ⟨cr0, cr1, fr0, fr1⟩ := Xr.out
  have hner := Xr.out.lt
  obtain ⟨cy0, cy1, fy0, fy1⟩ := Xy.out
  have hney := Xy.out.lt
  go_wp2_with fail
  clear cr0 cr1 fr0 fr1 hner
  clear cy0 cy1 fy0 fy1 hney
  obtain ⟨cv, hcv⟩ : ∃ c, c = cmpN M.natAbs y.natAbs := ⟨_, rfl⟩
  have hc0 : decide (0 ≤ cv) = false := by rw [hcv]; refine decide_eq_false ?_; have := HN.out.ml; unfold cmpN; rw [if_pos this]; decide
  refine (nc_cmp Zr.out.ex Zy.out.ex).mono ?_
  rintro e v8 ⟨rfl, hb8⟩
  rw [← hcv]
  clear hcv
  replace Xx : Hid _ := Xx.out.below hb8
  replace Xy : Hid _ := Xy.out.below hb8
  replace Xf : Hid _ := Xf.out.below hb8
  replace Xu : Hid _ := Xu.out.below hb8
  replace Xg : Hid _ := Xg.out.below hb8
  replace Xr : Hid _ := Xr.out.below hb8
  replace Xm : Hid _ := Xm.out.below hb8
  replace Xs : Hid _ := Xs.out.below hb8
  replace Zx : Hid _ := Zx.out.below hb8
  replace Zy : Hid _ := Zy.out.below hb8
  replace Zf : Hid _ := Zf.out.below hb8
  replace Zu : Hid _ := Zu.out.below hb8
  replace Zg : Hid _ := Zg.out.below hb8
  replace Zr : Hid _ := Zr.out.below hb8
  replace Zm : Hid _ := Zm.out.below hb8
  replace Zs : Hid _ := Zs.out.below hb8
  replace hbw := Below.on hbw hb8
  clear hb8
  clear Xs
  clear Zs
  clear Xm
  clear Zm
  have HSR : Hid (s4 = decide (M < 0) ∧ t = decide (y < 0)) := ⟨Zr.out.sg, Zy.out.sg⟩
  have hmz : m4 = 0 ↔ M = 0 := by
    obtain ⟨rs, hR⟩ := Zr.out.ex
    have h1 := hR.nf.zero_iff B64_one
    have h2 := hR.at_.len
    constructor
    · intro e; have := h1.1 (List.eq_nil_of_length_eq_zero (by omega)); omega
    · intro e; have h3 := h1.2 (by omega); rw [h3] at h2; simpa using h2.symm
  by_cases hM0 : M = 0
  · obtain rfl : m4 = 0 := hmz.2 hM0
    have HEQ : Hid (C = F ∧ G = F) := near_n0 HN.out hM0
    clear hmz hM0
    obtain ⟨cr0, cr1, fr0, fr1⟩ := Xr.out
    have hner := Xr.out.lt
    obtain ⟨cf0, cf1, ff0, ff1⟩ := Xf.out
    have hnef := Xf.out.lt
    go_wp2_with fail
    clear cr0 cr1 fr0 fr1 hner
    clear cf0 cf1 ff0 ff1 hnef
    clear hc0
    obtain ⟨Wr0, hWr0⟩ : ∃ W1, W1 = v8.drew := ⟨_, rfl⟩
    have hbd : Below v8.heap.size v8 Wr0 := by rw [hWr0]; exact bDrew1 (Below.refl _ _)
    replace Xx : Hid _ := Xx.out.below hbd
    replace Xy : Hid _ := Xy.out.below hbd
    replace Xf : Hid _ := Xf.out.below hbd
    replace Xu : Hid _ := Xu.out.below hbd
    replace Xg : Hid _ := Xg.out.below hbd
    replace Xr : Hid _ := Xr.out.below hbd
    replace Zx : Hid _ := Zx.out.below hbd
    replace Zy : Hid _ := Zy.out.below hbd
    replace Zf : Hid _ := Zf.out.below hbd
    replace Zu : Hid _ := Zu.out.below hbd
    replace Zg : Hid _ := Zg.out.below hbd
    replace Zr : Hid _ := Zr.out.below hbd
    replace hbw := Below.on hbw hbd
    clear hbd
    have HJ : Hid ((fun W' : World => W'.cell? ⟨gf, 0, none⟩ = some (.bool s1) ∧ W'.cell? ⟨gf, 1, none⟩ = some (.slice p1 m1 m1)) Wr0) := ⟨Xf.out.c0, Xf.out.c1⟩
    refine wp_region_J (fun W' => W'.cell? ⟨gf, 0, none⟩ = some (.bool s1) ∧ W'.cell? ⟨gf, 1, none⟩ = some (.slice p1 m1 m1)) (by kernel_rfl) ?_
    rw [← hWr0]
    clear hWr0
    refine wpJ_tq 0 rfl HJ.out ?_
    have YZx : Hid (ZN Wr0 s p m c x) := Zx.out
    have YZy : Hid (ZN Wr0 t q n d y) := Zy.out
    have YZf : Hid (ZN Wr0 s1 p1 m1 m1 (F)) := Zf.out
    have YZu : Hid (ZN Wr0 s2 p2 m2 m2 (C)) := Zu.out
    have YZg : Hid (ZN Wr0 s3 p3 m3 m3 (G)) := Zg.out
    have YZr : Hid (ZN Wr0 s4 p4 0 0 (M)) := Zr.out
    have HBS : Hid (BelS Wr0 Wr0) := Below.refl _ _
    obtain ⟨RQ, HRQ, HRP⟩ : ∃ RQ : Act → Act → World → Prop, Hid (∀ a1 a2 a3, (fun a0 a' W' => ∃ go sF pF mF sR pR mR, a' = (((((((a0.put (some 124) (ZV sF pF mF mF)).put (some 125) (.tuple #[ZV sR pR mR mR, .int .i64 0])).put (some 122) (.tuple #[ZV sR pR mR mR, .int .i64 0])).put (some 126) (ZV sR pR mR mR)).put (some 127) (.int .i64 0)).put (some 18) (.int .i64 0)).put (some 17) (.pointer (some ⟨go, 0, none⟩))) ∧ Box W' go (.bool sR) (.slice pR mR mR) ∧ Box W' gx (.bool s) (.slice p m c) ∧ Box W' gy (.bool t) (.slice q n d) ∧ Box W' gf (.bool s1) (.slice p1 m1 m1) ∧ Box W' gu (.bool s2) (.slice p2 m2 m2) ∧ Box W' gg (.bool s3) (.slice p3 m3 m3) ∧ Box W' gr (.bool s4) (.slice p4 0 0) ∧ ZN W' sR pR mR mR (F + 1) ∧ BelS Wr0 W' ∧ w.heap.size ≤ go ∧ gx ≠ go ∧ gy ≠ go ∧ gf ≠ go ∧ gu ≠ go ∧ gg ≠ go ∧ gr ≠ go ∧ Below w.heap.size w W') a1 a2 a3 → RQ a1 a2 a3) ∧ Hid (∀ a1 a2 a3, RQ a1 a2 a3 → (fun a0 a' W' => ∃ go sF pF mF sR pR mR, a' = (((((((a0.put (some 124) (ZV sF pF mF mF)).put (some 125) (.tuple #[ZV sR pR mR mR, .int .i64 0])).put (some 122) (.tuple #[ZV sR pR mR mR, .int .i64 0])).put (some 126) (ZV sR pR mR mR)).put (some 127) (.int .i64 0)).put (some 18) (.int .i64 0)).put (some 17) (.pointer (some ⟨go, 0, none⟩))) ∧ Box W' go (.bool sR) (.slice pR mR mR) ∧ Box W' gx (.bool s) (.slice p m c) ∧ Box W' gy (.bool t) (.slice q n d) ∧ Box W' gf (.bool s1) (.slice p1 m1 m1) ∧ Box W' gu (.bool s2) (.slice p2 m2 m2) ∧ Box W' gg (.bool s3) (.slice p3 m3 m3) ∧ Box W' gr (.bool s4) (.slice p4 0 0) ∧ ZN W' sR pR mR mR (F + 1) ∧ BelS Wr0 W' ∧ w.heap.size ≤ go ∧ gx ≠ go ∧ gy ≠ go ∧ gf ≠ go ∧ gu ≠ go ∧ gg ≠ go ∧ gr ≠ go ∧ Below w.heap.size w W') a1 a2 a3) := ⟨_, fun _ _ _ h => h, fun _ _ _ h => h⟩
    refine wpJ_cutA RQ ?_ ?_
    · intro a' Wc hrq
      obtain ⟨go, sF, pF, mF, sR, pR, mR, rfl, xb, xx, xy, xf, xu, xg, xr, rr, hbs, hg, hdx, hdy, hdf, hdu, hdg, hdr, hbc⟩ := HRP.out _ _ _ hrq
      clear hrq HRP HRQ
      clear hbw HJ Xx Xy Xf Xu Xg Xr Zx Zy Zf Zu Zg Zr HBS
      have hbw := hbc
      have Xo : Hid (Box Wc go (.bool sR) (.slice pR mR mR)) := xb
      have Xx : Hid (Box Wc gx (.bool s) (.slice p m c)) := xx
      have Xy : Hid (Box Wc gy (.bool t) (.slice q n d)) := xy
      have Xf : Hid (Box Wc gf (.bool s1) (.slice p1 m1 m1)) := xf
      have Xu : Hid (Box Wc gu (.bool s2) (.slice p2 m2 m2)) := xu
      have Xg : Hid (Box Wc gg (.bool s3) (.slice p3 m3 m3)) := xg
      have Xr : Hid (Box Wc gr (.bool s4) (.slice p4 0 0)) := xr
      have RR : Hid (ZN Wc sR pR mR mR (F + 1)) := rr
      have HGo : Hid (w.heap.size ≤ go) := hg
      have HDxo : Hid (gx ≠ go) := hdx
      have HDyo : Hid (gy ≠ go) := hdy
      have HDfo : Hid (gf ≠ go) := hdf
      have HDuo : Hid (gu ≠ go) := hdu
      have HDgo : Hid (gg ≠ go) := hdg
      have HDro : Hid (gr ≠ go) := hdr
      have hbs9 := hbs
      clear xb xx xy xf xu xg xr rr hbs hg hdx hdy hdf hdu hdg hdr hbc
      have Zx : Hid (ZN Wc s p m c x) := YZx.out.below hbs9
      have Zy : Hid (ZN Wc t q n d y) := YZy.out.below hbs9
      have Zf : Hid (ZN Wc s1 p1 m1 m1 (F)) := YZf.out.below hbs9
      have Zu : Hid (ZN Wc s2 p2 m2 m2 (C)) := YZu.out.below hbs9
      have Zg : Hid (ZN Wc s3 p3 m3 m3 (G)) := YZg.out.below hbs9
      have Zr : Hid (ZN Wc s4 p4 0 0 (M)) := YZr.out.below hbs9
      clear hbs9 YZx YZy YZf YZu YZg YZr
      obtain ⟨cr0, cr1, fr0, fr1⟩ := Xr.out
      have hner := Xr.out.lt
      obtain ⟨cu0, cu1, fu0, fu1⟩ := Xu.out
      have hneu := Xu.out.lt
      obtain ⟨cf0, cf1, ff0, ff1⟩ := Xf.out
      have hnef := Xf.out.lt
      go_wp2_with fail
      clear cr0 cr1 fr0 fr1 hner
      clear cu0 cu1 fu0 fu1 hneu
      clear cf0 cf1 ff0 ff1 hnef
      refine (tint Zu.out Zf.out).mono ?_
      rintro e v12 ⟨rfl, hb12⟩
      rw [decide_eq_true HEQ.out.1]
      replace Xo : Hid _ := Xo.out.below hb12
      replace Xx : Hid _ := Xx.out.below hb12
      replace Xy : Hid _ := Xy.out.below hb12
      replace Xf : Hid _ := Xf.out.below hb12
      replace Xu : Hid _ := Xu.out.below hb12
      replace Xg : Hid _ := Xg.out.below hb12
      replace Xr : Hid _ := Xr.out.below hb12
      replace RR : Hid _ := RR.out.below hb12
      replace Zx : Hid _ := Zx.out.below hb12
      replace Zy : Hid _ := Zy.out.below hb12
      replace Zf : Hid _ := Zf.out.below hb12
      replace Zu : Hid _ := Zu.out.below hb12
      replace Zg : Hid _ := Zg.out.below hb12
      replace Zr : Hid _ := Zr.out.below hb12
      replace hbw := Below.on hbw hb12
      clear hb12
      obtain ⟨cg0, cg1, fg0, fg1⟩ := Xg.out
      have hneg := Xg.out.lt
      obtain ⟨cf0, cf1, ff0, ff1⟩ := Xf.out
      have hnef := Xf.out.lt
      go_wp2_with fail
      clear cg0 cg1 fg0 fg1 hneg
      clear cf0 cf1 ff0 ff1 hnef
      refine (tint Zg.out Zf.out).mono ?_
      rintro e v13 ⟨rfl, hb13⟩
      rw [decide_eq_true HEQ.out.2]
      replace Xo : Hid _ := Xo.out.below hb13
      replace Xx : Hid _ := Xx.out.below hb13
      replace Xy : Hid _ := Xy.out.below hb13
      replace Xf : Hid _ := Xf.out.below hb13
      replace Xu : Hid _ := Xu.out.below hb13
      replace Xg : Hid _ := Xg.out.below hb13
      replace Xr : Hid _ := Xr.out.below hb13
      replace RR : Hid _ := RR.out.below hb13
      replace Zx : Hid _ := Zx.out.below hb13
      replace Zy : Hid _ := Zy.out.below hb13
      replace Zf : Hid _ := Zf.out.below hb13
      replace Zu : Hid _ := Zu.out.below hb13
      replace Zg : Hid _ := Zg.out.below hb13
      replace Zr : Hid _ := Zr.out.below hb13
      replace hbw := Below.on hbw hb13
      clear hb13
      go_wp2_with fail
      go_ret
      exact ⟨rfl, hbw⟩
    · skip
      refine wpJ_two (i := 1) (k := 6) (by kernel_rfl) rfl rfl (by kernel_rfl) (by kernel_rfl) (fun KJ hK => ?_) (fun KJ hK => ?_)
      · go_simp
        refine (zof 1 _ (by decide) (by decide)).mono ?_
        rintro e9 u1 ⟨sF, pF, mF, rfl, hzF, hbF⟩
        replace Xx : Hid _ := Xx.out.below hbF
        replace Xy : Hid _ := Xy.out.below hbF
        replace Xf : Hid _ := Xf.out.below hbF
        replace Xu : Hid _ := Xu.out.below hbF
        replace Xg : Hid _ := Xg.out.below hbF
        replace Xr : Hid _ := Xr.out.below hbF
        replace Zx : Hid _ := Zx.out.below hbF
        replace Zy : Hid _ := Zy.out.below hbF
        replace Zf : Hid _ := Zf.out.below hbF
        replace Zu : Hid _ := Zu.out.below hbF
        replace Zg : Hid _ := Zg.out.below hbF
        replace Zr : Hid _ := Zr.out.below hbF
        replace HBS : Hid (BelS Wr0 u1) := HBS.out.below hbF
        replace hbw := Below.on hbw hbF
        clear hbF
        have ZF : Hid (ZN u1 sF pF mF mF 1) := hzF
        clear hzF
        clear HJ
        have HJ : Hid ((fun W' : World => W'.cell? ⟨gf, 0, none⟩ = some (.bool s1) ∧ W'.cell? ⟨gf, 1, none⟩ = some (.slice p1 m1 m1)) u1) := ⟨Xf.out.c0, Xf.out.c1⟩
        refine hK _ _ HJ.out ?_
        clear hK
        refine wpJ_two (i := 2) (k := 6) (by kernel_rfl) rfl rfl (by kernel_rfl) (by kernel_rfl) (fun KJ hK => ?_) (fun KJ hK => ?_)
        · go_simp
          refine (zadd Zf.out ZF.out).mono ?_
          rintro e9 u2 ⟨haR, hbR⟩
          obtain ⟨sR, pR, mR, rfl, hoR⟩ := haR.zo H1L.out
          clear haR
          replace Xx : Hid _ := Xx.out.below hbR
          replace Xy : Hid _ := Xy.out.below hbR
          replace Xf : Hid _ := Xf.out.below hbR
          replace Xu : Hid _ := Xu.out.below hbR
          replace Xg : Hid _ := Xg.out.below hbR
          replace Xr : Hid _ := Xr.out.below hbR
          replace Zx : Hid _ := Zx.out.below hbR
          replace Zy : Hid _ := Zy.out.below hbR
          replace Zf : Hid _ := Zf.out.below hbR
          replace Zu : Hid _ := Zu.out.below hbR
          replace Zg : Hid _ := Zg.out.below hbR
          replace Zr : Hid _ := Zr.out.below hbR
          replace HBS : Hid (BelS Wr0 u2) := HBS.out.below hbR
          replace ZF : Hid _ := ZF.out.below hbR
          replace hbw := Below.on hbw hbR
          clear hbR
          have RR : Hid (ZO u1.heap.size u2 sR pR mR (F + 1)) := hoR
          clear hoR
          clear ZF
          clear HJ
          have HJ : Hid ((fun W' : World => W'.cell? ⟨gf, 0, none⟩ = some (.bool s1) ∧ W'.cell? ⟨gf, 1, none⟩ = some (.slice p1 m1 m1)) u2) := ⟨Xf.out.c0, Xf.out.c1⟩
          refine hK _ _ HJ.out ?_
          clear hK
          refine wpJ_take (i := 3) (v := ?v2x3) rfl (by kernel_rfl) (by kernel_rfl) (by kernel_rfl) (fun _ _ _ h => by cases h.1) (by kernel_rfl) ?hy2x3 HJ.out ?rest2x3
          case hy2x3 => (intro W' hJ; obtain ⟨j0, j1⟩ := hJ; go_simp; first | done | with_reducible rfl)
          refine wpJ_take (i := 4) (v := ?v3x4) rfl (by kernel_rfl) (by kernel_rfl) (by kernel_rfl) (fun _ _ _ h => by cases h.1) (by kernel_rfl) ?hy3x4 HJ.out ?rest3x4
          case hy3x4 => (intro W' hJ; obtain ⟨j0, j1⟩ := hJ; go_simp; first | done | with_reducible rfl)
          refine wpJ_take (i := 5) (v := ?v4x5) rfl (by kernel_rfl) (by kernel_rfl) (by kernel_rfl) (fun _ _ _ h => by cases h.1) (by kernel_rfl) ?hy4x5 HJ.out ?rest4x5
          case hy4x5 => (intro W' hJ; obtain ⟨j0, j1⟩ := hJ; go_simp; first | done | with_reducible rfl)
          refine wpJ_on 6 rfl fun KJ hK => ?_
          go_simp
          have HDxo : Hid (gx ≠ u2.heap.size) := Nat.ne_of_lt Xx.out.lt
          have HDyo : Hid (gy ≠ u2.heap.size) := Nat.ne_of_lt Xy.out.lt
          have HDfo : Hid (gf ≠ u2.heap.size) := Nat.ne_of_lt Xf.out.lt
          have HDuo : Hid (gu ≠ u2.heap.size) := Nat.ne_of_lt Xu.out.lt
          have HDgo : Hid (gg ≠ u2.heap.size) := Nat.ne_of_lt Xg.out.lt
          have HDro : Hid (gr ≠ u2.heap.size) := Nat.ne_of_lt Xr.out.lt
          have HLS : Hid (∀ v0 v1, ZN (((u2.alloc (.cells #[.bool false, .slice none 0 0] 33)).setCell ⟨u2.heap.size, 0, none⟩ v0).setCell ⟨u2.heap.size, 1, none⟩ v1) sR pR mR mR (F + 1)) := fun v0 v1 => RR.out.zn.below (bSet (bSet (below1 _ _) _ _ _ (Nat.le_refl _)) _ _ _ (Nat.le_refl _))
          have HGS : Hid (GeS Wr0 u2.heap.size) := HBS.out.size
          have Xo0 : Hid (Box (u2.alloc (.cells #[.bool false, .slice none 0 0] 33)) u2.heap.size (.bool false) (.slice none 0 0)) := Box.new u2 _ _ _
          have hbn : Below u2.heap.size u2 (u2.alloc (.cells #[.bool false, .slice none 0 0] 33)) := below1 u2 _
          generalize u2.alloc (.cells #[.bool false, .slice none 0 0] 33) = Wn at *
          have HGo : Hid (w.heap.size ≤ u2.heap.size) := hbw.size
          replace Xx : Hid _ := Xx.out.below hbn
          replace Xy : Hid _ := Xy.out.below hbn
          replace Xf : Hid _ := Xf.out.below hbn
          replace Xu : Hid _ := Xu.out.below hbn
          replace Xg : Hid _ := Xg.out.below hbn
          replace Xr : Hid _ := Xr.out.below hbn
          replace Zx : Hid _ := Zx.out.below hbn
          replace Zy : Hid _ := Zy.out.below hbn
          replace Zf : Hid _ := Zf.out.below hbn
          replace Zu : Hid _ := Zu.out.below hbn
          replace Zg : Hid _ := Zg.out.below hbn
          replace Zr : Hid _ := Zr.out.below hbn
          replace HBS : Hid (BelS Wr0 Wn) := HBS.out.below hbn
          replace RR : Hid (ZO u1.heap.size Wn sR pR mR (F + 1)) := RR.out.below hbn
          replace hbw := Below.on hbw hbn
          clear hbn
          generalize u2.heap.size = go at *
          have Xo := Xo0
          clear Xo0
          refine hK _ _ ⟨Xf.out.c0, Xf.out.c1⟩ ?_
          clear hK
          obtain ⟨co0, co1, fo0, fo1⟩ := Xo.out
          have hneo := Xo.out.lt
          obtain ⟨cx0, cx1, fx0, fx1⟩ := Xx.out
          have hnex := Xx.out.lt
          obtain ⟨cy0, cy1, fy0, fy1⟩ := Xy.out
          have hney := Xy.out.lt
          obtain ⟨cf0, cf1, ff0, ff1⟩ := Xf.out
          have hnef := Xf.out.lt
          obtain ⟨cu0, cu1, fu0, fu1⟩ := Xu.out
          have hneu := Xu.out.lt
          obtain ⟨cg0, cg1, fg0, fg1⟩ := Xg.out
          have hneg := Xg.out.lt
          obtain ⟨cr0, cr1, fr0, fr1⟩ := Xr.out
          have hner := Xr.out.lt
          have qax : gx ≠ go := HDxo.out
          have qbx : go ≠ gx := fun h => qax h.symm
          have qay : gy ≠ go := HDyo.out
          have qby : go ≠ gy := fun h => qay h.symm
          have qaf : gf ≠ go := HDfo.out
          have qbf : go ≠ gf := fun h => qaf h.symm
          have qau : gu ≠ go := HDuo.out
          have qbu : go ≠ gu := fun h => qau h.symm
          have qag : gg ≠ go := HDgo.out
          have qbg : go ≠ gg := fun h => qag h.symm
          have qar : gr ≠ go := HDro.out
          have qbr : go ≠ gr := fun h => qar h.symm
          refine wpJ_on 7 rfl fun KJ hK => ?_
          go_simp
          have HJ2 : Hid ((fun W' : World => W'.cell? ⟨gf, 0, none⟩ = some (.bool s1) ∧ W'.cell? ⟨gf, 1, none⟩ = some (.slice p1 m1 m1)) ((Wn.setCell ⟨go, 0, none⟩ (.bool sR)).setCell ⟨go, 1, none⟩ (.slice pR mR mR))) := ⟨by go_simp, by go_simp⟩
          have Xo2 : Hid (Box ((Wn.setCell ⟨go, 0, none⟩ (.bool sR)).setCell ⟨go, 1, none⟩ (.slice pR mR mR)) go (.bool sR) (.slice pR mR mR)) := ⟨by go_simp, by go_simp, by go_simp, by go_simp⟩
          have Xx2 : Hid (Box ((Wn.setCell ⟨go, 0, none⟩ (.bool sR)).setCell ⟨go, 1, none⟩ (.slice pR mR mR)) gx (.bool s) (.slice p m c)) := ⟨by go_simp, by go_simp, by go_simp, by go_simp⟩
          have Xy2 : Hid (Box ((Wn.setCell ⟨go, 0, none⟩ (.bool sR)).setCell ⟨go, 1, none⟩ (.slice pR mR mR)) gy (.bool t) (.slice q n d)) := ⟨by go_simp, by go_simp, by go_simp, by go_simp⟩
          have Xf2 : Hid (Box ((Wn.setCell ⟨go, 0, none⟩ (.bool sR)).setCell ⟨go, 1, none⟩ (.slice pR mR mR)) gf (.bool s1) (.slice p1 m1 m1)) := ⟨by go_simp, by go_simp, by go_simp, by go_simp⟩
          have Xu2 : Hid (Box ((Wn.setCell ⟨go, 0, none⟩ (.bool sR)).setCell ⟨go, 1, none⟩ (.slice pR mR mR)) gu (.bool s2) (.slice p2 m2 m2)) := ⟨by go_simp, by go_simp, by go_simp, by go_simp⟩
          have Xg2 : Hid (Box ((Wn.setCell ⟨go, 0, none⟩ (.bool sR)).setCell ⟨go, 1, none⟩ (.slice pR mR mR)) gg (.bool s3) (.slice p3 m3 m3)) := ⟨by go_simp, by go_simp, by go_simp, by go_simp⟩
          have Xr2 : Hid (Box ((Wn.setCell ⟨go, 0, none⟩ (.bool sR)).setCell ⟨go, 1, none⟩ (.slice pR mR mR)) gr (.bool s4) (.slice p4 0 0)) := ⟨by go_simp, by go_simp, by go_simp, by go_simp⟩
          have RR2 : Hid (ZN ((Wn.setCell ⟨go, 0, none⟩ (.bool sR)).setCell ⟨go, 1, none⟩ (.slice pR mR mR)) sR pR mR mR (F + 1)) := HLS.out _ _
          have hbw2 : Below w.heap.size w ((Wn.setCell ⟨go, 0, none⟩ (.bool sR)).setCell ⟨go, 1, none⟩ (.slice pR mR mR)) := bSet (bSet hbw _ _ _ HGo.out) _ _ _ HGo.out
          have HBS2 : Hid (BelS Wr0 ((Wn.setCell ⟨go, 0, none⟩ (.bool sR)).setCell ⟨go, 1, none⟩ (.slice pR mR mR))) := bSet (bSet HBS.out _ _ _ HGS.out) _ _ _ HGS.out
          refine hK _ _ HJ2.out ?_
          clear hK HJ
          have HJ := HJ2
          clear HJ2
          refine wpJ_take (i := 8) (v := ?v5x8) rfl (by kernel_rfl) (by kernel_rfl) (by kernel_rfl) (fun _ _ _ h => by cases h.1) (by kernel_rfl) ?hy5x8 HJ.out ?rest5x8
          case hy5x8 => (intro W' hJ; obtain ⟨j0, j1⟩ := hJ; go_simp; first | done | with_reducible rfl)
          refine wpJ_done (by kernel_rfl) ?_ _
          exact ⟨rfl, HRQ.out _ _ _ ⟨go, sF, pF, mF, sR, pR, mR, by kernel_rfl, Xo2.out, Xx2.out, Xy2.out, Xf2.out, Xu2.out, Xg2.out, Xr2.out, RR2.out, HBS2.out, HGo.out, HDxo.out, HDyo.out, HDfo.out, HDuo.out, HDgo.out, HDro.out, hbw2⟩⟩
        · go_simp
          have HDxo : Hid (gx ≠ u1.heap.size) := Nat.ne_of_lt Xx.out.lt
          have HDyo : Hid (gy ≠ u1.heap.size) := Nat.ne_of_lt Xy.out.lt
          have HDfo : Hid (gf ≠ u1.heap.size) := Nat.ne_of_lt Xf.out.lt
          have HDuo : Hid (gu ≠ u1.heap.size) := Nat.ne_of_lt Xu.out.lt
          have HDgo : Hid (gg ≠ u1.heap.size) := Nat.ne_of_lt Xg.out.lt
          have HDro : Hid (gr ≠ u1.heap.size) := Nat.ne_of_lt Xr.out.lt
          have HGS : Hid (GeS Wr0 u1.heap.size) := HBS.out.size
          have Xo0 : Hid (Box (u1.alloc (.cells #[.bool false, .slice none 0 0] 33)) u1.heap.size (.bool false) (.slice none 0 0)) := Box.new u1 _ _ _
          have hbn : Below u1.heap.size u1 (u1.alloc (.cells #[.bool false, .slice none 0 0] 33)) := below1 u1 _
          generalize u1.alloc (.cells #[.bool false, .slice none 0 0] 33) = Wn at *
          have HGo : Hid (w.heap.size ≤ u1.heap.size) := hbw.size
          replace Xx : Hid _ := Xx.out.below hbn
          replace Xy : Hid _ := Xy.out.below hbn
          replace Xf : Hid _ := Xf.out.below hbn
          replace Xu : Hid _ := Xu.out.below hbn
          replace Xg : Hid _ := Xg.out.below hbn
          replace Xr : Hid _ := Xr.out.below hbn
          replace Zx : Hid _ := Zx.out.below hbn
          replace Zy : Hid _ := Zy.out.below hbn
          replace Zf : Hid _ := Zf.out.below hbn
          replace Zu : Hid _ := Zu.out.below hbn
          replace Zg : Hid _ := Zg.out.below hbn
          replace Zr : Hid _ := Zr.out.below hbn
          replace HBS : Hid (BelS Wr0 Wn) := HBS.out.below hbn
          replace ZF : Hid _ := ZF.out.below hbn
          replace hbw := Below.on hbw hbn
          clear hbn
          generalize u1.heap.size = go at *
          have Xo := Xo0
          clear Xo0
          refine hK _ _ ⟨Xf.out.c0, Xf.out.c1⟩ ?_
          clear hK
          refine wpJ_on 2 rfl fun KJ hK => ?_
          go_simp
          have HLT : Hid (go < Wn.heap.size) := Xo.out.lt
          refine (zadd Zf.out ZF.out).mono ?_
          rintro e9 u2 ⟨haR, hbR⟩
          obtain ⟨sR, pR, mR, rfl, hoR⟩ := haR.zo H1L.out
          clear haR
          replace Xx : Hid _ := Xx.out.below hbR
          replace Xy : Hid _ := Xy.out.below hbR
          replace Xf : Hid _ := Xf.out.below hbR
          replace Xu : Hid _ := Xu.out.below hbR
          replace Xg : Hid _ := Xg.out.below hbR
          replace Xr : Hid _ := Xr.out.below hbR
          replace Xo : Hid _ := Xo.out.below hbR
          replace Zx : Hid _ := Zx.out.below hbR
          replace Zy : Hid _ := Zy.out.below hbR
          replace Zf : Hid _ := Zf.out.below hbR
          replace Zu : Hid _ := Zu.out.below hbR
          replace Zg : Hid _ := Zg.out.below hbR
          replace Zr : Hid _ := Zr.out.below hbR
          replace HBS : Hid (BelS Wr0 u2) := HBS.out.below hbR
          replace ZF : Hid _ := ZF.out.below hbR
          replace hbw := Below.on hbw hbR
          clear hbR
          have RR : Hid (ZO Wn.heap.size u2 sR pR mR (F + 1)) := hoR
          clear hoR
          clear ZF
          clear HJ
          have HJ : Hid ((fun W' : World => W'.cell? ⟨gf, 0, none⟩ = some (.bool s1) ∧ W'.cell? ⟨gf, 1, none⟩ = some (.slice p1 m1 m1)) u2) := ⟨Xf.out.c0, Xf.out.c1⟩
          refine hK _ _ HJ.out ?_
          clear hK
          refine wpJ_take (i := 3) (v := ?v6x3) rfl (by kernel_rfl) (by kernel_rfl) (by kernel_rfl) (fun _ _ _ h => by cases h.1) (by kernel_rfl) ?hy6x3 HJ.out ?rest6x3
          case hy6x3 => (intro W' hJ; obtain ⟨j0, j1⟩ := hJ; go_simp; first | done | with_reducible rfl)
          refine wpJ_take (i := 4) (v := ?v7x4) rfl (by kernel_rfl) (by kernel_rfl) (by kernel_rfl) (fun _ _ _ h => by cases h.1) (by kernel_rfl) ?hy7x4 HJ.out ?rest7x4
          case hy7x4 => (intro W' hJ; obtain ⟨j0, j1⟩ := hJ; go_simp; first | done | with_reducible rfl)
          refine wpJ_take (i := 5) (v := ?v8x5) rfl (by kernel_rfl) (by kernel_rfl) (by kernel_rfl) (fun _ _ _ h => by cases h.1) (by kernel_rfl) ?hy8x5 HJ.out ?rest8x5
          case hy8x5 => (intro W' hJ; obtain ⟨j0, j1⟩ := hJ; go_simp; first | done | with_reducible rfl)
          obtain ⟨co0, co1, fo0, fo1⟩ := Xo.out
          have hneo := Xo.out.lt
          obtain ⟨cx0, cx1, fx0, fx1⟩ := Xx.out
          have hnex := Xx.out.lt
          obtain ⟨cy0, cy1, fy0, fy1⟩ := Xy.out
          have hney := Xy.out.lt
          obtain ⟨cf0, cf1, ff0, ff1⟩ := Xf.out
          have hnef := Xf.out.lt
          obtain ⟨cu0, cu1, fu0, fu1⟩ := Xu.out
          have hneu := Xu.out.lt
          obtain ⟨cg0, cg1, fg0, fg1⟩ := Xg.out
          have hneg := Xg.out.lt
          obtain ⟨cr0, cr1, fr0, fr1⟩ := Xr.out
          have hner := Xr.out.lt
          have qax : gx ≠ go := HDxo.out
          have qbx : go ≠ gx := fun h => qax h.symm
          have qay : gy ≠ go := HDyo.out
          have qby : go ≠ gy := fun h => qay h.symm
          have qaf : gf ≠ go := HDfo.out
          have qbf : go ≠ gf := fun h => qaf h.symm
          have qau : gu ≠ go := HDuo.out
          have qbu : go ≠ gu := fun h => qau h.symm
          have qag : gg ≠ go := HDgo.out
          have qbg : go ≠ gg := fun h => qag h.symm
          have qar : gr ≠ go := HDro.out
          have qbr : go ≠ gr := fun h => qar h.symm
          refine wpJ_on 7 rfl fun KJ hK => ?_
          go_simp
          have HJ2 : Hid ((fun W' : World => W'.cell? ⟨gf, 0, none⟩ = some (.bool s1) ∧ W'.cell? ⟨gf, 1, none⟩ = some (.slice p1 m1 m1)) ((u2.setCell ⟨go, 0, none⟩ (.bool sR)).setCell ⟨go, 1, none⟩ (.slice pR mR mR))) := ⟨by go_simp, by go_simp⟩
          have Xo2 : Hid (Box ((u2.setCell ⟨go, 0, none⟩ (.bool sR)).setCell ⟨go, 1, none⟩ (.slice pR mR mR)) go (.bool sR) (.slice pR mR mR)) := ⟨by go_simp, by go_simp, by go_simp, by go_simp⟩
          have Xx2 : Hid (Box ((u2.setCell ⟨go, 0, none⟩ (.bool sR)).setCell ⟨go, 1, none⟩ (.slice pR mR mR)) gx (.bool s) (.slice p m c)) := ⟨by go_simp, by go_simp, by go_simp, by go_simp⟩
          have Xy2 : Hid (Box ((u2.setCell ⟨go, 0, none⟩ (.bool sR)).setCell ⟨go, 1, none⟩ (.slice pR mR mR)) gy (.bool t) (.slice q n d)) := ⟨by go_simp, by go_simp, by go_simp, by go_simp⟩
          have Xf2 : Hid (Box ((u2.setCell ⟨go, 0, none⟩ (.bool sR)).setCell ⟨go, 1, none⟩ (.slice pR mR mR)) gf (.bool s1) (.slice p1 m1 m1)) := ⟨by go_simp, by go_simp, by go_simp, by go_simp⟩
          have Xu2 : Hid (Box ((u2.setCell ⟨go, 0, none⟩ (.bool sR)).setCell ⟨go, 1, none⟩ (.slice pR mR mR)) gu (.bool s2) (.slice p2 m2 m2)) := ⟨by go_simp, by go_simp, by go_simp, by go_simp⟩
          have Xg2 : Hid (Box ((u2.setCell ⟨go, 0, none⟩ (.bool sR)).setCell ⟨go, 1, none⟩ (.slice pR mR mR)) gg (.bool s3) (.slice p3 m3 m3)) := ⟨by go_simp, by go_simp, by go_simp, by go_simp⟩
          have Xr2 : Hid (Box ((u2.setCell ⟨go, 0, none⟩ (.bool sR)).setCell ⟨go, 1, none⟩ (.slice pR mR mR)) gr (.bool s4) (.slice p4 0 0)) := ⟨by go_simp, by go_simp, by go_simp, by go_simp⟩
          have RR2 : Hid (ZN ((u2.setCell ⟨go, 0, none⟩ (.bool sR)).setCell ⟨go, 1, none⟩ (.slice pR mR mR)) sR pR mR mR (F + 1)) := ((RR.out.set _ _ _ HLT.out).set _ _ _ HLT.out).zn
          have hbw2 : Below w.heap.size w ((u2.setCell ⟨go, 0, none⟩ (.bool sR)).setCell ⟨go, 1, none⟩ (.slice pR mR mR)) := bSet (bSet hbw _ _ _ HGo.out) _ _ _ HGo.out
          have HBS2 : Hid (BelS Wr0 ((u2.setCell ⟨go, 0, none⟩ (.bool sR)).setCell ⟨go, 1, none⟩ (.slice pR mR mR))) := bSet (bSet HBS.out _ _ _ HGS.out) _ _ _ HGS.out
          refine hK _ _ HJ2.out ?_
          clear hK HJ
          have HJ := HJ2
          clear HJ2
          refine wpJ_take (i := 8) (v := ?v9x8) rfl (by kernel_rfl) (by kernel_rfl) (by kernel_rfl) (fun _ _ _ h => by cases h.1) (by kernel_rfl) ?hy9x8 HJ.out ?rest9x8
          case hy9x8 => (intro W' hJ; obtain ⟨j0, j1⟩ := hJ; go_simp; first | done | with_reducible rfl)
          refine wpJ_done (by kernel_rfl) ?_ _
          exact ⟨rfl, HRQ.out _ _ _ ⟨go, sF, pF, mF, sR, pR, mR, by kernel_rfl, Xo2.out, Xx2.out, Xy2.out, Xf2.out, Xu2.out, Xg2.out, Xr2.out, RR2.out, HBS2.out, HGo.out, HDxo.out, HDyo.out, HDfo.out, HDuo.out, HDgo.out, HDro.out, hbw2⟩⟩
      · go_simp
        have HDxo : Hid (gx ≠ Wr0.heap.size) := Nat.ne_of_lt Xx.out.lt
        have HDyo : Hid (gy ≠ Wr0.heap.size) := Nat.ne_of_lt Xy.out.lt
        have HDfo : Hid (gf ≠ Wr0.heap.size) := Nat.ne_of_lt Xf.out.lt
        have HDuo : Hid (gu ≠ Wr0.heap.size) := Nat.ne_of_lt Xu.out.lt
        have HDgo : Hid (gg ≠ Wr0.heap.size) := Nat.ne_of_lt Xg.out.lt
        have HDro : Hid (gr ≠ Wr0.heap.size) := Nat.ne_of_lt Xr.out.lt
        have HGS : Hid (GeS Wr0 Wr0.heap.size) := HBS.out.size
        have Xo0 : Hid (Box (Wr0.alloc (.cells #[.bool false, .slice none 0 0] 33)) Wr0.heap.size (.bool false) (.slice none 0 0)) := Box.new Wr0 _ _ _
        have hbn : Below Wr0.heap.size Wr0 (Wr0.alloc (.cells #[.bool false, .slice none 0 0] 33)) := below1 Wr0 _
        generalize Wr0.alloc (.cells #[.bool false, .slice none 0 0] 33) = Wn at *
        have HGo : Hid (w.heap.size ≤ Wr0.heap.size) := hbw.size
        replace Xx : Hid _ := Xx.out.below hbn
        replace Xy : Hid _ := Xy.out.below hbn
        replace Xf : Hid _ := Xf.out.below hbn
        replace Xu : Hid _ := Xu.out.below hbn
        replace Xg : Hid _ := Xg.out.below hbn
        replace Xr : Hid _ := Xr.out.below hbn
        replace Zx : Hid _ := Zx.out.below hbn
        replace Zy : Hid _ := Zy.out.below hbn
        replace Zf : Hid _ := Zf.out.below hbn
        replace Zu : Hid _ := Zu.out.below hbn
        replace Zg : Hid _ := Zg.out.below hbn
        replace Zr : Hid _ := Zr.out.below hbn
        replace HBS : Hid (BelS Wr0 Wn) := HBS.out.below hbn
        replace hbw := Below.on hbw hbn
        clear hbn
        generalize Wr0.heap.size = go at *
        have Xo := Xo0
        clear Xo0
        refine hK _ _ ⟨Xf.out.c0, Xf.out.c1⟩ ?_
        clear hK
        refine wpJ_on 1 rfl fun KJ hK => ?_
        go_simp
        refine (zof 1 _ (by decide) (by decide)).mono ?_
        rintro e9 u1 ⟨sF, pF, mF, rfl, hzF, hbF⟩
        replace Xx : Hid _ := Xx.out.below hbF
        replace Xy : Hid _ := Xy.out.below hbF
        replace Xf : Hid _ := Xf.out.below hbF
        replace Xu : Hid _ := Xu.out.below hbF
        replace Xg : Hid _ := Xg.out.below hbF
        replace Xr : Hid _ := Xr.out.below hbF
        replace Xo : Hid _ := Xo.out.below hbF
        replace Zx : Hid _ := Zx.out.below hbF
        replace Zy : Hid _ := Zy.out.below hbF
        replace Zf : Hid _ := Zf.out.below hbF
        replace Zu : Hid _ := Zu.out.below hbF
        replace Zg : Hid _ := Zg.out.below hbF
        replace Zr : Hid _ := Zr.out.below hbF
        replace HBS : Hid (BelS Wr0 u1) := HBS.out.below hbF
        replace hbw := Below.on hbw hbF
        clear hbF
        have ZF : Hid (ZN u1 sF pF mF mF 1) := hzF
        clear hzF
        refine hK _ _ ⟨Xf.out.c0, Xf.out.c1⟩ ?_
        clear hK
        refine wpJ_on 2 rfl fun KJ hK => ?_
        go_simp
        have HLT : Hid (go < u1.heap.size) := Xo.out.lt
        refine (zadd Zf.out ZF.out).mono ?_
        rintro e9 u2 ⟨haR, hbR⟩
        obtain ⟨sR, pR, mR, rfl, hoR⟩ := haR.zo H1L.out
        clear haR
        replace Xx : Hid _ := Xx.out.below hbR
        replace Xy : Hid _ := Xy.out.below hbR
        replace Xf : Hid _ := Xf.out.below hbR
        replace Xu : Hid _ := Xu.out.below hbR
        replace Xg : Hid _ := Xg.out.below hbR
        replace Xr : Hid _ := Xr.out.below hbR
        replace Xo : Hid _ := Xo.out.below hbR
        replace Zx : Hid _ := Zx.out.below hbR
        replace Zy : Hid _ := Zy.out.below hbR
        replace Zf : Hid _ := Zf.out.below hbR
        replace Zu : Hid _ := Zu.out.below hbR
        replace Zg : Hid _ := Zg.out.below hbR
        replace Zr : Hid _ := Zr.out.below hbR
        replace HBS : Hid (BelS Wr0 u2) := HBS.out.below hbR
        replace ZF : Hid _ := ZF.out.below hbR
        replace hbw := Below.on hbw hbR
        clear hbR
        have RR : Hid (ZO u1.heap.size u2 sR pR mR (F + 1)) := hoR
        clear hoR
        clear ZF
        clear HJ
        have HJ : Hid ((fun W' : World => W'.cell? ⟨gf, 0, none⟩ = some (.bool s1) ∧ W'.cell? ⟨gf, 1, none⟩ = some (.slice p1 m1 m1)) u2) := ⟨Xf.out.c0, Xf.out.c1⟩
        refine hK _ _ HJ.out ?_
        clear hK
        refine wpJ_take (i := 3) (v := ?v10x3) rfl (by kernel_rfl) (by kernel_rfl) (by kernel_rfl) (fun _ _ _ h => by cases h.1) (by kernel_rfl) ?hy10x3 HJ.out ?rest10x3
        case hy10x3 => (intro W' hJ; obtain ⟨j0, j1⟩ := hJ; go_simp; first | done | with_reducible rfl)
        refine wpJ_take (i := 4) (v := ?v11x4) rfl (by kernel_rfl) (by kernel_rfl) (by kernel_rfl) (fun _ _ _ h => by cases h.1) (by kernel_rfl) ?hy11x4 HJ.out ?rest11x4
        case hy11x4 => (intro W' hJ; obtain ⟨j0, j1⟩ := hJ; go_simp; first | done | with_reducible rfl)
        refine wpJ_take (i := 5) (v := ?v12x5) rfl (by kernel_rfl) (by kernel_rfl) (by kernel_rfl) (fun _ _ _ h => by cases h.1) (by kernel_rfl) ?hy12x5 HJ.out ?rest12x5
        case hy12x5 => (intro W' hJ; obtain ⟨j0, j1⟩ := hJ; go_simp; first | done | with_reducible rfl)
        obtain ⟨co0, co1, fo0, fo1⟩ := Xo.out
        have hneo := Xo.out.lt
        obtain ⟨cx0, cx1, fx0, fx1⟩ := Xx.out
        have hnex := Xx.out.lt
        obtain ⟨cy0, cy1, fy0, fy1⟩ := Xy.out
        have hney := Xy.out.lt
        obtain ⟨cf0, cf1, ff0, ff1⟩ := Xf.out
        have hnef := Xf.out.lt
        obtain ⟨cu0, cu1, fu0, fu1⟩ := Xu.out
        have hneu := Xu.out.lt
        obtain ⟨cg0, cg1, fg0, fg1⟩ := Xg.out
        have hneg := Xg.out.lt
        obtain ⟨cr0, cr1, fr0, fr1⟩ := Xr.out
        have hner := Xr.out.lt
        have qax : gx ≠ go := HDxo.out
        have qbx : go ≠ gx := fun h => qax h.symm
        have qay : gy ≠ go := HDyo.out
        have qby : go ≠ gy := fun h => qay h.symm
        have qaf : gf ≠ go := HDfo.out
        have qbf : go ≠ gf := fun h => qaf h.symm
        have qau : gu ≠ go := HDuo.out
        have qbu : go ≠ gu := fun h => qau h.symm
        have qag : gg ≠ go := HDgo.out
        have qbg : go ≠ gg := fun h => qag h.symm
        have qar : gr ≠ go := HDro.out
        have qbr : go ≠ gr := fun h => qar h.symm
        refine wpJ_on 7 rfl fun KJ hK => ?_
        go_simp
        have HJ2 : Hid ((fun W' : World => W'.cell? ⟨gf, 0, none⟩ = some (.bool s1) ∧ W'.cell? ⟨gf, 1, none⟩ = some (.slice p1 m1 m1)) ((u2.setCell ⟨go, 0, none⟩ (.bool sR)).setCell ⟨go, 1, none⟩ (.slice pR mR mR))) := ⟨by go_simp, by go_simp⟩
        have Xo2 : Hid (Box ((u2.setCell ⟨go, 0, none⟩ (.bool sR)).setCell ⟨go, 1, none⟩ (.slice pR mR mR)) go (.bool sR) (.slice pR mR mR)) := ⟨by go_simp, by go_simp, by go_simp, by go_simp⟩
        have Xx2 : Hid (Box ((u2.setCell ⟨go, 0, none⟩ (.bool sR)).setCell ⟨go, 1, none⟩ (.slice pR mR mR)) gx (.bool s) (.slice p m c)) := ⟨by go_simp, by go_simp, by go_simp, by go_simp⟩
        have Xy2 : Hid (Box ((u2.setCell ⟨go, 0, none⟩ (.bool sR)).setCell ⟨go, 1, none⟩ (.slice pR mR mR)) gy (.bool t) (.slice q n d)) := ⟨by go_simp, by go_simp, by go_simp, by go_simp⟩
        have Xf2 : Hid (Box ((u2.setCell ⟨go, 0, none⟩ (.bool sR)).setCell ⟨go, 1, none⟩ (.slice pR mR mR)) gf (.bool s1) (.slice p1 m1 m1)) := ⟨by go_simp, by go_simp, by go_simp, by go_simp⟩
        have Xu2 : Hid (Box ((u2.setCell ⟨go, 0, none⟩ (.bool sR)).setCell ⟨go, 1, none⟩ (.slice pR mR mR)) gu (.bool s2) (.slice p2 m2 m2)) := ⟨by go_simp, by go_simp, by go_simp, by go_simp⟩
        have Xg2 : Hid (Box ((u2.setCell ⟨go, 0, none⟩ (.bool sR)).setCell ⟨go, 1, none⟩ (.slice pR mR mR)) gg (.bool s3) (.slice p3 m3 m3)) := ⟨by go_simp, by go_simp, by go_simp, by go_simp⟩
        have Xr2 : Hid (Box ((u2.setCell ⟨go, 0, none⟩ (.bool sR)).setCell ⟨go, 1, none⟩ (.slice pR mR mR)) gr (.bool s4) (.slice p4 0 0)) := ⟨by go_simp, by go_simp, by go_simp, by go_simp⟩
        have RR2 : Hid (ZN ((u2.setCell ⟨go, 0, none⟩ (.bool sR)).setCell ⟨go, 1, none⟩ (.slice pR mR mR)) sR pR mR mR (F + 1)) := ((RR.out.set _ _ _ HLT.out).set _ _ _ HLT.out).zn
        have hbw2 : Below w.heap.size w ((u2.setCell ⟨go, 0, none⟩ (.bool sR)).setCell ⟨go, 1, none⟩ (.slice pR mR mR)) := bSet (bSet hbw _ _ _ HGo.out) _ _ _ HGo.out
        have HBS2 : Hid (BelS Wr0 ((u2.setCell ⟨go, 0, none⟩ (.bool sR)).setCell ⟨go, 1, none⟩ (.slice pR mR mR))) := bSet (bSet HBS.out _ _ _ HGS.out) _ _ _ HGS.out
        refine hK _ _ HJ2.out ?_
        clear hK HJ
        have HJ := HJ2
        clear HJ2
        refine wpJ_take (i := 8) (v := ?v13x8) rfl (by kernel_rfl) (by kernel_rfl) (by kernel_rfl) (fun _ _ _ h => by cases h.1) (by kernel_rfl) ?hy13x8 HJ.out ?rest13x8
        case hy13x8 => (intro W' hJ; obtain ⟨j0, j1⟩ := hJ; go_simp; first | done | with_reducible rfl)
        refine wpJ_done (by kernel_rfl) ?_ _
        exact ⟨rfl, HRQ.out _ _ _ ⟨go, sF, pF, mF, sR, pR, mR, by kernel_rfl, Xo2.out, Xx2.out, Xy2.out, Xf2.out, Xu2.out, Xg2.out, Xr2.out, RR2.out, HBS2.out, HGo.out, HDxo.out, HDyo.out, HDfo.out, HDuo.out, HDgo.out, HDro.out, hbw2⟩⟩
  · have hm40 : 0 < m4 := by rcases Nat.eq_zero_or_pos m4 with h | h; exact absurd (hmz.1 h) hM0; exact h
    have hd1 : decide ((0 : Int) < (m4 : Int)) = true := decide_eq_true (by omega)
    have hd2 : decide (0 < m4) = true := decide_eq_true hm40
    have hst : s4 = t := by have h1 := HSR.out; have h2 := HN.out.sg; rw [h1.1, h1.2]; rcases h2 with h | h | h; exact absurd h hM0; rw [decide_eq_false (by omega), decide_eq_false (by omega)]; rw [decide_eq_true h.1, decide_eq_true h.2]
    subst hst
    have HUP : Hid (C = F + 1) := up_one HN.out hM0
    have HM0 : Hid (M ≠ 0) := hM0
    have hm4z : ((m4 : Int) == 0) = false := by simp; omega
    clear hmz hM0
    obtain ⟨cr0, cr1, fr0, fr1⟩ := Xr.out
    have hner := Xr.out.lt
    obtain ⟨cy0, cy1, fy0, fy1⟩ := Xy.out
    have hney := Xy.out.lt
    obtain ⟨cf0, cf1, ff0, ff1⟩ := Xf.out
    have hnef := Xf.out.lt
    go_wp2_with fail
    clear cr0 cr1 fr0 fr1 hner
    clear cy0 cy1 fy0 fy1 hney
    clear cf0 cf1 ff0 ff1 hnef
    clear hc0
    obtain ⟨Wr0, hWr0⟩ : ∃ W1, W1 = v8.drew := ⟨_, rfl⟩
    have hbd : Below v8.heap.size v8 Wr0 := by rw [hWr0]; exact bDrew1 (Below.refl _ _)
    replace Xx : Hid _ := Xx.out.below hbd
    replace Xy : Hid _ := Xy.out.below hbd
    replace Xf : Hid _ := Xf.out.below hbd
    replace Xu : Hid _ := Xu.out.below hbd
    replace Xg : Hid _ := Xg.out.below hbd
    replace Xr : Hid _ := Xr.out.below hbd
    replace Zx : Hid _ := Zx.out.below hbd
    replace Zy : Hid _ := Zy.out.below hbd
    replace Zf : Hid _ := Zf.out.below hbd
    replace Zu : Hid _ := Zu.out.below hbd
    replace Zg : Hid _ := Zg.out.below hbd
    replace Zr : Hid _ := Zr.out.below hbd
    replace hbw := Below.on hbw hbd
    clear hbd
    have HJ : Hid ((fun W' : World => W'.cell? ⟨gf, 0, none⟩ = some (.bool s1) ∧ W'.cell? ⟨gf, 1, none⟩ = some (.slice p1 m1 m1)) Wr0) := ⟨Xf.out.c0, Xf.out.c1⟩
    refine wp_region_J (fun W' => W'.cell? ⟨gf, 0, none⟩ = some (.bool s1) ∧ W'.cell? ⟨gf, 1, none⟩ = some (.slice p1 m1 m1)) (by kernel_rfl) ?_
    rw [← hWr0]
    clear hWr0
    refine wpJ_tq 0 rfl HJ.out ?_
    have YZx : Hid (ZN Wr0 s p m c x) := Zx.out
    have YZy : Hid (ZN Wr0 s4 q n d y) := Zy.out
    have YZf : Hid (ZN Wr0 s1 p1 m1 m1 (F)) := Zf.out
    have YZu : Hid (ZN Wr0 s2 p2 m2 m2 (C)) := Zu.out
    have YZg : Hid (ZN Wr0 s3 p3 m3 m3 (G)) := Zg.out
    have YZr : Hid (ZN Wr0 s4 p4 m4 m4 (M)) := Zr.out
    have HBS : Hid (BelS Wr0 Wr0) := Below.refl _ _
    obtain ⟨RQ, HRQ, HRP⟩ : ∃ RQ : Act → Act → World → Prop, Hid (∀ a1 a2 a3, (fun a0 a' W' => ∃ go sF pF mF sR pR mR, a' = (((((((a0.put (some 124) (ZV sF pF mF mF)).put (some 125) (.tuple #[ZV sR pR mR mR, .int .i64 0])).put (some 122) (.tuple #[ZV sR pR mR mR, .int .i64 0])).put (some 126) (ZV sR pR mR mR)).put (some 127) (.int .i64 0)).put (some 18) (.int .i64 0)).put (some 17) (.pointer (some ⟨go, 0, none⟩))) ∧ Box W' go (.bool sR) (.slice pR mR mR) ∧ Box W' gx (.bool s) (.slice p m c) ∧ Box W' gy (.bool s4) (.slice q n d) ∧ Box W' gf (.bool s1) (.slice p1 m1 m1) ∧ Box W' gu (.bool s2) (.slice p2 m2 m2) ∧ Box W' gg (.bool s3) (.slice p3 m3 m3) ∧ Box W' gr (.bool s4) (.slice p4 m4 m4) ∧ ZN W' sR pR mR mR (F + 1) ∧ BelS Wr0 W' ∧ w.heap.size ≤ go ∧ gx ≠ go ∧ gy ≠ go ∧ gf ≠ go ∧ gu ≠ go ∧ gg ≠ go ∧ gr ≠ go ∧ Below w.heap.size w W') a1 a2 a3 → RQ a1 a2 a3) ∧ Hid (∀ a1 a2 a3, RQ a1 a2 a3 → (fun a0 a' W' => ∃ go sF pF mF sR pR mR, a' = (((((((a0.put (some 124) (ZV sF pF mF mF)).put (some 125) (.tuple #[ZV sR pR mR mR, .int .i64 0])).put (some 122) (.tuple #[ZV sR pR mR mR, .int .i64 0])).put (some 126) (ZV sR pR mR mR)).put (some 127) (.int .i64 0)).put (some 18) (.int .i64 0)).put (some 17) (.pointer (some ⟨go, 0, none⟩))) ∧ Box W' go (.bool sR) (.slice pR mR mR) ∧ Box W' gx (.bool s) (.slice p m c) ∧ Box W' gy (.bool s4) (.slice q n d) ∧ Box W' gf (.bool s1) (.slice p1 m1 m1) ∧ Box W' gu (.bool s2) (.slice p2 m2 m2) ∧ Box W' gg (.bool s3) (.slice p3 m3 m3) ∧ Box W' gr (.bool s4) (.slice p4 m4 m4) ∧ ZN W' sR pR mR mR (F + 1) ∧ BelS Wr0 W' ∧ w.heap.size ≤ go ∧ gx ≠ go ∧ gy ≠ go ∧ gf ≠ go ∧ gu ≠ go ∧ gg ≠ go ∧ gr ≠ go ∧ Below w.heap.size w W') a1 a2 a3) := ⟨_, fun _ _ _ h => h, fun _ _ _ h => h⟩
    refine wpJ_cutA RQ ?_ ?_
    · intro a' Wc hrq
      obtain ⟨go, sF, pF, mF, sR, pR, mR, rfl, xb, xx, xy, xf, xu, xg, xr, rr, hbs, hg, hdx, hdy, hdf, hdu, hdg, hdr, hbc⟩ := HRP.out _ _ _ hrq
      clear hrq HRP HRQ
      clear hbw HJ Xx Xy Xf Xu Xg Xr Zx Zy Zf Zu Zg Zr HBS
      have hbw := hbc
      have Xo : Hid (Box Wc go (.bool sR) (.slice pR mR mR)) := xb
      have Xx : Hid (Box Wc gx (.bool s) (.slice p m c)) := xx
      have Xy : Hid (Box Wc gy (.bool s4) (.slice q n d)) := xy
      have Xf : Hid (Box Wc gf (.bool s1) (.slice p1 m1 m1)) := xf
      have Xu : Hid (Box Wc gu (.bool s2) (.slice p2 m2 m2)) := xu
      have Xg : Hid (Box Wc gg (.bool s3) (.slice p3 m3 m3)) := xg
      have Xr : Hid (Box Wc gr (.bool s4) (.slice p4 m4 m4)) := xr
      have RR : Hid (ZN Wc sR pR mR mR (F + 1)) := rr
      have HGo : Hid (w.heap.size ≤ go) := hg
      have HDxo : Hid (gx ≠ go) := hdx
      have HDyo : Hid (gy ≠ go) := hdy
      have HDfo : Hid (gf ≠ go) := hdf
      have HDuo : Hid (gu ≠ go) := hdu
      have HDgo : Hid (gg ≠ go) := hdg
      have HDro : Hid (gr ≠ go) := hdr
      have hbs9 := hbs
      clear xb xx xy xf xu xg xr rr hbs hg hdx hdy hdf hdu hdg hdr hbc
      have Zx : Hid (ZN Wc s p m c x) := YZx.out.below hbs9
      have Zy : Hid (ZN Wc s4 q n d y) := YZy.out.below hbs9
      have Zf : Hid (ZN Wc s1 p1 m1 m1 (F)) := YZf.out.below hbs9
      have Zu : Hid (ZN Wc s2 p2 m2 m2 (C)) := YZu.out.below hbs9
      have Zg : Hid (ZN Wc s3 p3 m3 m3 (G)) := YZg.out.below hbs9
      have Zr : Hid (ZN Wc s4 p4 m4 m4 (M)) := YZr.out.below hbs9
      clear hbs9 YZx YZy YZf YZu YZg YZr
      obtain ⟨cr0, cr1, fr0, fr1⟩ := Xr.out
      have hner := Xr.out.lt
      go_wp2_with fail
      clear cr0 cr1 fr0 fr1 hner
      rw [show Value.int IntKind.i64 1 = .int .i64 ((1 : Nat) : Int) from rfl]
      refine (zshl Zr.out.abs 1 (by omega)).mono ?_
      rintro e v14 ⟨ha, hb14⟩
      obtain ⟨s14, p14, m14, rfl, hz⟩ := ha.got (by have h1 := HN.out.ml; have h2 := HI.out; have h3 := lim_2a h2.1 h2.2.2; omega)
      clear ha
      replace Xo : Hid _ := Xo.out.below hb14
      replace Xx : Hid _ := Xx.out.below hb14
      replace Xy : Hid _ := Xy.out.below hb14
      replace Xf : Hid _ := Xf.out.below hb14
      replace Xu : Hid _ := Xu.out.below hb14
      replace Xg : Hid _ := Xg.out.below hb14
      replace Xr : Hid _ := Xr.out.below hb14
      replace RR : Hid _ := RR.out.below hb14
      replace Zx : Hid _ := Zx.out.below hb14
      replace Zy : Hid _ := Zy.out.below hb14
      replace Zf : Hid _ := Zf.out.below hb14
      replace Zu : Hid _ := Zu.out.below hb14
      replace Zg : Hid _ := Zg.out.below hb14
      replace Zr : Hid _ := Zr.out.below hb14
      replace hbw := Below.on hbw hb14
      clear hb14
      have hz := hz.cast (z' := 2 * (M.natAbs : Int)) (by omega)
      have Zt : Hid (ZN v14 s14 p14 m14 m14 (2 * (M.natAbs : Int))) := hz
      clear hz
      obtain ⟨cu0, cu1, fu0, fu1⟩ := Xu.out
      have hneu := Xu.out.lt
      obtain ⟨co0, co1, fo0, fo1⟩ := Xo.out
      have hneo := Xo.out.lt
      go_wp2_with fail
      clear cu0 cu1 fu0 fu1 hneu
      clear co0 co1 fo0 fo1 hneo
      have Xt0 : Hid (Box (v14.alloc (.cells #[.bool s14, .slice p14 m14 m14] 33)) v14.heap.size (.bool s14) (.slice p14 m14 m14)) := Box.new v14 _ _ _
      have hbn : Below v14.heap.size v14 (v14.alloc (.cells #[.bool s14, .slice p14 m14 m14] 33)) := below1 v14 _
      generalize v14.alloc (.cells #[.bool s14, .slice p14 m14 m14] 33) = W14 at *
      have HGt : Hid (w.heap.size ≤ v14.heap.size) := hbw.size
      replace Xo : Hid _ := Xo.out.below hbn
      replace Xx : Hid _ := Xx.out.below hbn
      replace Xy : Hid _ := Xy.out.below hbn
      replace Xf : Hid _ := Xf.out.below hbn
      replace Xu : Hid _ := Xu.out.below hbn
      replace Xg : Hid _ := Xg.out.below hbn
      replace Xr : Hid _ := Xr.out.below hbn
      replace RR : Hid _ := RR.out.below hbn
      replace Zx : Hid _ := Zx.out.below hbn
      replace Zy : Hid _ := Zy.out.below hbn
      replace Zf : Hid _ := Zf.out.below hbn
      replace Zu : Hid _ := Zu.out.below hbn
      replace Zg : Hid _ := Zg.out.below hbn
      replace Zr : Hid _ := Zr.out.below hbn
      replace Zt : Hid _ := Zt.out.below hbn
      replace hbw := Below.on hbw hbn
      clear hbn
      generalize v14.heap.size = gt at *
      have Xt := Xt0
      clear Xt0
      refine (tint Zu.out RR.out).mono ?_
      rintro e v15 ⟨rfl, hb15⟩
      rw [decide_eq_true HUP.out]
      replace Xo : Hid _ := Xo.out.below hb15
      replace Xx : Hid _ := Xx.out.below hb15
      replace Xy : Hid _ := Xy.out.below hb15
      replace Xf : Hid _ := Xf.out.below hb15
      replace Xu : Hid _ := Xu.out.below hb15
      replace Xg : Hid _ := Xg.out.below hb15
      replace Xr : Hid _ := Xr.out.below hb15
      replace Xt : Hid _ := Xt.out.below hb15
      replace RR : Hid _ := RR.out.below hb15
      replace Zx : Hid _ := Zx.out.below hb15
      replace Zy : Hid _ := Zy.out.below hb15
      replace Zf : Hid _ := Zf.out.below hb15
      replace Zu : Hid _ := Zu.out.below hb15
      replace Zg : Hid _ := Zg.out.below hb15
      replace Zr : Hid _ := Zr.out.below hb15
      replace Zt : Hid _ := Zt.out.below hb15
      replace hbw := Below.on hbw hb15
      clear hb15
      obtain ⟨ct0, ct1, ft0, ft1⟩ := Xt.out
      have hnet := Xt.out.lt
      obtain ⟨cy0, cy1, fy0, fy1⟩ := Xy.out
      have hney := Xy.out.lt
      go_wp2_with fail
      clear ct0 ct1 ft0 ft1 hnet
      clear cy0 cy1 fy0 fy1 hney
      obtain ⟨cv, hcv⟩ : ∃ c, Hid (c = cmpN (2 * (M.natAbs : Int)).natAbs y.natAbs) := ⟨_, rfl⟩
      refine (nc_cmp Zt.out.ex Zy.out.ex).mono ?_
      rintro e v16 ⟨rfl, hb16⟩
      rw [← hcv.out]
      replace Xo : Hid _ := Xo.out.below hb16
      replace Xx : Hid _ := Xx.out.below hb16
      replace Xy : Hid _ := Xy.out.below hb16
      replace Xf : Hid _ := Xf.out.below hb16
      replace Xu : Hid _ := Xu.out.below hb16
      replace Xg : Hid _ := Xg.out.below hb16
      replace Xr : Hid _ := Xr.out.below hb16
      replace Xt : Hid _ := Xt.out.below hb16
      replace RR : Hid _ := RR.out.below hb16
      replace Zx : Hid _ := Zx.out.below hb16
      replace Zy : Hid _ := Zy.out.below hb16
      replace Zf : Hid _ := Zf.out.below hb16
      replace Zu : Hid _ := Zu.out.below hb16
      replace Zg : Hid _ := Zg.out.below hb16
      replace Zr : Hid _ := Zr.out.below hb16
      replace Zt : Hid _ := Zt.out.below hb16
      replace hbw := Below.on hbw hb16
      clear hb16
      have hcc : (cv = -1 ∧ 2 * M.natAbs < y.natAbs) ∨ (cv = 1 ∧ y.natAbs < 2 * M.natAbs) ∨ (cv = 0 ∧ 2 * M.natAbs = y.natAbs) := by
        rw [hcv.out, show (2 * (M.natAbs : Int)).natAbs = 2 * M.natAbs by omega]
        unfold cmpN
        rcases Nat.lt_trichotomy (2 * M.natAbs) y.natAbs with h | h | h
        · exact .inl ⟨by rw [if_pos h], h⟩
        · exact .inr (.inr ⟨by rw [if_neg (by omega), if_pos h], h⟩)
        · exact .inr (.inl ⟨by rw [if_neg (by omega), if_neg (by omega)], h⟩)
      rcases hcc with ⟨rfl, hlt⟩ | ⟨rfl, hlt⟩ | ⟨rfl, hlt⟩
      · have HGF : Hid (G = F) := near_lt HN.out HM0.out hlt
        clear hlt
        obtain ⟨cg0, cg1, fg0, fg1⟩ := Xg.out
        have hneg := Xg.out.lt
        obtain ⟨cf0, cf1, ff0, ff1⟩ := Xf.out
        have hnef := Xf.out.lt
        go_wp2_with fail
        clear cg0 cg1 fg0 fg1 hneg
        clear cf0 cf1 ff0 ff1 hnef
        refine (tint Zg.out Zf.out).mono ?_
        rintro e v17 ⟨rfl, hb17⟩
        rw [decide_eq_true HGF.out]
        replace Xo : Hid _ := Xo.out.below hb17
        replace Xx : Hid _ := Xx.out.below hb17
        replace Xy : Hid _ := Xy.out.below hb17
        replace Xf : Hid _ := Xf.out.below hb17
        replace Xu : Hid _ := Xu.out.below hb17
        replace Xg : Hid _ := Xg.out.below hb17
        replace Xr : Hid _ := Xr.out.below hb17
        replace Xt : Hid _ := Xt.out.below hb17
        replace RR : Hid _ := RR.out.below hb17
        replace Zx : Hid _ := Zx.out.below hb17
        replace Zy : Hid _ := Zy.out.below hb17
        replace Zf : Hid _ := Zf.out.below hb17
        replace Zu : Hid _ := Zu.out.below hb17
        replace Zg : Hid _ := Zg.out.below hb17
        replace Zr : Hid _ := Zr.out.below hb17
        replace Zt : Hid _ := Zt.out.below hb17
        replace hbw := Below.on hbw hb17
        clear hb17
        go_wp2_with fail
        go_ret
        exact ⟨rfl, hbw⟩
      · have HGF : Hid (G = F + 1) := near_gt HN.out HM0.out hlt
        clear hlt
        obtain ⟨cg0, cg1, fg0, fg1⟩ := Xg.out
        have hneg := Xg.out.lt
        obtain ⟨co0, co1, fo0, fo1⟩ := Xo.out
        have hneo := Xo.out.lt
        go_wp2_with fail
        clear cg0 cg1 fg0 fg1 hneg
        clear co0 co1 fo0 fo1 hneo
        refine (tint Zg.out RR.out).mono ?_
        rintro e v17 ⟨rfl, hb17⟩
        rw [decide_eq_true HGF.out]
        replace Xo : Hid _ := Xo.out.below hb17
        replace Xx : Hid _ := Xx.out.below hb17
        replace Xy : Hid _ := Xy.out.below hb17
        replace Xf : Hid _ := Xf.out.below hb17
        replace Xu : Hid _ := Xu.out.below hb17
        replace Xg : Hid _ := Xg.out.below hb17
        replace Xr : Hid _ := Xr.out.below hb17
        replace Xt : Hid _ := Xt.out.below hb17
        replace RR : Hid _ := RR.out.below hb17
        replace Zx : Hid _ := Zx.out.below hb17
        replace Zy : Hid _ := Zy.out.below hb17
        replace Zf : Hid _ := Zf.out.below hb17
        replace Zu : Hid _ := Zu.out.below hb17
        replace Zg : Hid _ := Zg.out.below hb17
        replace Zr : Hid _ := Zr.out.below hb17
        replace Zt : Hid _ := Zt.out.below hb17
        replace hbw := Below.on hbw hb17
        clear hb17
        go_wp2_with fail
        go_ret
        exact ⟨rfl, hbw⟩
      · have HGF : Hid ((F.natAbs % 2 = 1 → G = F + 1) ∧ (F.natAbs % 2 = 0 → G = F)) := near_eq HN.out HM0.out hlt
        clear hlt
        obtain ⟨cf0, cf1, ff0, ff1⟩ := Xf.out
        have hnef := Xf.out.lt
        go_wp2_with fail
        clear cf0 cf1 ff0 ff1 hnef
        obtain ⟨fs, hFs⟩ := Zf.out.ex
        refine (bit_any hFs.at_ (by have := hFs.le; omega) 0 (by decide)).mono ?_
        rintro e v17 ⟨rfl, hw⟩
        obtain rfl := hw.symm
        clear hw
        rw [hFs.nf.val, Nat.pow_zero, Nat.div_one]
        clear hFs
        by_cases hodd : F.natAbs % 2 = 1
        · rw [decide_eq_true hodd]
          have HG1 : Hid (G = F + 1) := HGF.out.1 hodd
          clear hodd
          obtain ⟨cg0, cg1, fg0, fg1⟩ := Xg.out
          have hneg := Xg.out.lt
          obtain ⟨co0, co1, fo0, fo1⟩ := Xo.out
          have hneo := Xo.out.lt
          go_wp2_with fail
          clear cg0 cg1 fg0 fg1 hneg
          clear co0 co1 fo0 fo1 hneo
          refine (tint Zg.out RR.out).mono ?_
          rintro e v18 ⟨rfl, hb18⟩
          rw [decide_eq_true HG1.out]
          replace Xo : Hid _ := Xo.out.below hb18
          replace Xx : Hid _ := Xx.out.below hb18
          replace Xy : Hid _ := Xy.out.below hb18
          replace Xf : Hid _ := Xf.out.below hb18
          replace Xu : Hid _ := Xu.out.below hb18
          replace Xg : Hid _ := Xg.out.below hb18
          replace Xr : Hid _ := Xr.out.below hb18
          replace Xt : Hid _ := Xt.out.below hb18
          replace RR : Hid _ := RR.out.below hb18
          replace Zx : Hid _ := Zx.out.below hb18
          replace Zy : Hid _ := Zy.out.below hb18
          replace Zf : Hid _ := Zf.out.below hb18
          replace Zu : Hid _ := Zu.out.below hb18
          replace Zg : Hid _ := Zg.out.below hb18
          replace Zr : Hid _ := Zr.out.below hb18
          replace Zt : Hid _ := Zt.out.below hb18
          replace hbw := Below.on hbw hb18
          clear hb18
          go_wp2_with fail
          go_ret
          exact ⟨rfl, hbw⟩
        · rw [decide_eq_false hodd]
          have HG1 : Hid (G = F) := HGF.out.2 (by omega)
          clear hodd
          obtain ⟨cg0, cg1, fg0, fg1⟩ := Xg.out
          have hneg := Xg.out.lt
          obtain ⟨cf0, cf1, ff0, ff1⟩ := Xf.out
          have hnef := Xf.out.lt
          go_wp2_with fail
          clear cg0 cg1 fg0 fg1 hneg
          clear cf0 cf1 ff0 ff1 hnef
          refine (tint Zg.out Zf.out).mono ?_
          rintro e v18 ⟨rfl, hb18⟩
          rw [decide_eq_true HG1.out]
          replace Xo : Hid _ := Xo.out.below hb18
          replace Xx : Hid _ := Xx.out.below hb18
          replace Xy : Hid _ := Xy.out.below hb18
          replace Xf : Hid _ := Xf.out.below hb18
          replace Xu : Hid _ := Xu.out.below hb18
          replace Xg : Hid _ := Xg.out.below hb18
          replace Xr : Hid _ := Xr.out.below hb18
          replace Xt : Hid _ := Xt.out.below hb18
          replace RR : Hid _ := RR.out.below hb18
          replace Zx : Hid _ := Zx.out.below hb18
          replace Zy : Hid _ := Zy.out.below hb18
          replace Zf : Hid _ := Zf.out.below hb18
          replace Zu : Hid _ := Zu.out.below hb18
          replace Zg : Hid _ := Zg.out.below hb18
          replace Zr : Hid _ := Zr.out.below hb18
          replace Zt : Hid _ := Zt.out.below hb18
          replace hbw := Below.on hbw hb18
          clear hb18
          go_wp2_with fail
          go_ret
          exact ⟨rfl, hbw⟩
    · skip
      refine wpJ_two (i := 1) (k := 6) (by kernel_rfl) rfl rfl (by kernel_rfl) (by kernel_rfl) (fun KJ hK => ?_) (fun KJ hK => ?_)
      · go_simp
        refine (zof 1 _ (by decide) (by decide)).mono ?_
        rintro e9 u1 ⟨sF, pF, mF, rfl, hzF, hbF⟩
        replace Xx : Hid _ := Xx.out.below hbF
        replace Xy : Hid _ := Xy.out.below hbF
        replace Xf : Hid _ := Xf.out.below hbF
        replace Xu : Hid _ := Xu.out.below hbF
        replace Xg : Hid _ := Xg.out.below hbF
        replace Xr : Hid _ := Xr.out.below hbF
        replace Zx : Hid _ := Zx.out.below hbF
        replace Zy : Hid _ := Zy.out.below hbF
        replace Zf : Hid _ := Zf.out.below hbF
        replace Zu : Hid _ := Zu.out.below hbF
        replace Zg : Hid _ := Zg.out.below hbF
        replace Zr : Hid _ := Zr.out.below hbF
        replace HBS : Hid (BelS Wr0 u1) := HBS.out.below hbF
        replace hbw := Below.on hbw hbF
        clear hbF
        have ZF : Hid (ZN u1 sF pF mF mF 1) := hzF
        clear hzF
        clear HJ
        have HJ : Hid ((fun W' : World => W'.cell? ⟨gf, 0, none⟩ = some (.bool s1) ∧ W'.cell? ⟨gf, 1, none⟩ = some (.slice p1 m1 m1)) u1) := ⟨Xf.out.c0, Xf.out.c1⟩
        refine hK _ _ HJ.out ?_
        clear hK
        refine wpJ_two (i := 2) (k := 6) (by kernel_rfl) rfl rfl (by kernel_rfl) (by kernel_rfl) (fun KJ hK => ?_) (fun KJ hK => ?_)
        · go_simp
          refine (zadd Zf.out ZF.out).mono ?_
          rintro e9 u2 ⟨haR, hbR⟩
          obtain ⟨sR, pR, mR, rfl, hoR⟩ := haR.zo H1L.out
          clear haR
          replace Xx : Hid _ := Xx.out.below hbR
          replace Xy : Hid _ := Xy.out.below hbR
          replace Xf : Hid _ := Xf.out.below hbR
          replace Xu : Hid _ := Xu.out.below hbR
          replace Xg : Hid _ := Xg.out.below hbR
          replace Xr : Hid _ := Xr.out.below hbR
          replace Zx : Hid _ := Zx.out.below hbR
          replace Zy : Hid _ := Zy.out.below hbR
          replace Zf : Hid _ := Zf.out.below hbR
          replace Zu : Hid _ := Zu.out.below hbR
          replace Zg : Hid _ := Zg.out.below hbR
          replace Zr : Hid _ := Zr.out.below hbR
          replace HBS : Hid (BelS Wr0 u2) := HBS.out.below hbR
          replace ZF : Hid _ := ZF.out.below hbR
          replace hbw := Below.on hbw hbR
          clear hbR
          have RR : Hid (ZO u1.heap.size u2 sR pR mR (F + 1)) := hoR
          clear hoR
          clear ZF
          clear HJ
          have HJ : Hid ((fun W' : World => W'.cell? ⟨gf, 0, none⟩ = some (.bool s1) ∧ W'.cell? ⟨gf, 1, none⟩ = some (.slice p1 m1 m1)) u2) := ⟨Xf.out.c0, Xf.out.c1⟩
          refine hK _ _ HJ.out ?_
          clear hK
          refine wpJ_take (i := 3) (v := ?v15x3) rfl (by kernel_rfl) (by kernel_rfl) (by kernel_rfl) (fun _ _ _ h => by cases h.1) (by kernel_rfl) ?hy15x3 HJ.out ?rest15x3
          case hy15x3 => (intro W' hJ; obtain ⟨j0, j1⟩ := hJ; go_simp; first | done | with_reducible rfl)
          refine wpJ_take (i := 4) (v := ?v16x4) rfl (by kernel_rfl) (by kernel_rfl) (by kernel_rfl) (fun _ _ _ h => by cases h.1) (by kernel_rfl) ?hy16x4 HJ.out ?rest16x4
          case hy16x4 => (intro W' hJ; obtain ⟨j0, j1⟩ := hJ; go_simp; first | done | with_reducible rfl)
          refine wpJ_take (i := 5) (v := ?v17x5) rfl (by kernel_rfl) (by kernel_rfl) (by kernel_rfl) (fun _ _ _ h => by cases h.1) (by kernel_rfl) ?hy17x5 HJ.out ?rest17x5
          case hy17x5 => (intro W' hJ; obtain ⟨j0, j1⟩ := hJ; go_simp; first | done | with_reducible rfl)
          refine wpJ_on 6 rfl fun KJ hK => ?_
          go_simp
          have HDxo : Hid (gx ≠ u2.heap.size) := Nat.ne_of_lt Xx.out.lt
          have HDyo : Hid (gy ≠ u2.heap.size) := Nat.ne_of_lt Xy.out.lt
          have HDfo : Hid (gf ≠ u2.heap.size) := Nat.ne_of_lt Xf.out.lt
          have HDuo : Hid (gu ≠ u2.heap.size) := Nat.ne_of_lt Xu.out.lt
          have HDgo : Hid (gg ≠ u2.heap.size) := Nat.ne_of_lt Xg.out.lt
          have HDro : Hid (gr ≠ u2.heap.size) := Nat.ne_of_lt Xr.out.lt
          have HLS : Hid (∀ v0 v1, ZN (((u2.alloc (.cells #[.bool false, .slice none 0 0] 33)).setCell ⟨u2.heap.size, 0, none⟩ v0).setCell ⟨u2.heap.size, 1, none⟩ v1) sR pR mR mR (F + 1)) := fun v0 v1 => RR.out.zn.below (bSet (bSet (below1 _ _) _ _ _ (Nat.le_refl _)) _ _ _ (Nat.le_refl _))
          have HGS : Hid (GeS Wr0 u2.heap.size) := HBS.out.size
          have Xo0 : Hid (Box (u2.alloc (.cells #[.bool false, .slice none 0 0] 33)) u2.heap.size (.bool false) (.slice none 0 0)) := Box.new u2 _ _ _
          have hbn : Below u2.heap.size u2 (u2.alloc (.cells #[.bool false, .slice none 0 0] 33)) := below1 u2 _
          generalize u2.alloc (.cells #[.bool false, .slice none 0 0] 33) = Wn at *
          have HGo : Hid (w.heap.size ≤ u2.heap.size) := hbw.size
          replace Xx : Hid _ := Xx.out.below hbn
          replace Xy : Hid _ := Xy.out.below hbn
          replace Xf : Hid _ := Xf.out.below hbn
          replace Xu : Hid _ := Xu.out.below hbn
          replace Xg : Hid _ := Xg.out.below hbn
          replace Xr : Hid _ := Xr.out.below hbn
          replace Zx : Hid _ := Zx.out.below hbn
          replace Zy : Hid _ := Zy.out.below hbn
          replace Zf : Hid _ := Zf.out.below hbn
          replace Zu : Hid _ := Zu.out.below hbn
          replace Zg : Hid _ := Zg.out.below hbn
          replace Zr : Hid _ := Zr.out.below hbn
          replace HBS : Hid (BelS Wr0 Wn) := HBS.out.below hbn
          replace RR : Hid (ZO u1.heap.size Wn sR pR mR (F + 1)) := RR.out.below hbn
          replace hbw := Below.on hbw hbn
          clear hbn
          generalize u2.heap.size = go at *
          have Xo := Xo0
          clear Xo0
          refine hK _ _ ⟨Xf.out.c0, Xf.out.c1⟩ ?_
          clear hK
          obtain ⟨co0, co1, fo0, fo1⟩ := Xo.out
          have hneo := Xo.out.lt
          obtain ⟨cx0, cx1, fx0, fx1⟩ := Xx.out
          have hnex := Xx.out.lt
          obtain ⟨cy0, cy1, fy0, fy1⟩ := Xy.out
          have hney := Xy.out.lt
          obtain ⟨cf0, cf1, ff0, ff1⟩ := Xf.out
          have hnef := Xf.out.lt
          obtain ⟨cu0, cu1, fu0, fu1⟩ := Xu.out
          have hneu := Xu.out.lt
          obtain ⟨cg0, cg1, fg0, fg1⟩ := Xg.out
          have hneg := Xg.out.lt
          obtain ⟨cr0, cr1, fr0, fr1⟩ := Xr.out
          have hner := Xr.out.lt
          have qax : gx ≠ go := HDxo.out
          have qbx : go ≠ gx := fun h => qax h.symm
          have qay : gy ≠ go := HDyo.out
          have qby : go ≠ gy := fun h => qay h.symm
          have qaf : gf ≠ go := HDfo.out
          have qbf : go ≠ gf := fun h => qaf h.symm
          have qau : gu ≠ go := HDuo.out
          have qbu : go ≠ gu := fun h => qau h.symm
          have qag : gg ≠ go := HDgo.out
          have qbg : go ≠ gg := fun h => qag h.symm
          have qar : gr ≠ go := HDro.out
          have qbr : go ≠ gr := fun h => qar h.symm
          refine wpJ_on 7 rfl fun KJ hK => ?_
          go_simp
          have HJ2 : Hid ((fun W' : World => W'.cell? ⟨gf, 0, none⟩ = some (.bool s1) ∧ W'.cell? ⟨gf, 1, none⟩ = some (.slice p1 m1 m1)) ((Wn.setCell ⟨go, 0, none⟩ (.bool sR)).setCell ⟨go, 1, none⟩ (.slice pR mR mR))) := ⟨by go_simp, by go_simp⟩
          have Xo2 : Hid (Box ((Wn.setCell ⟨go, 0, none⟩ (.bool sR)).setCell ⟨go, 1, none⟩ (.slice pR mR mR)) go (.bool sR) (.slice pR mR mR)) := ⟨by go_simp, by go_simp, by go_simp, by go_simp⟩
          have Xx2 : Hid (Box ((Wn.setCell ⟨go, 0, none⟩ (.bool sR)).setCell ⟨go, 1, none⟩ (.slice pR mR mR)) gx (.bool s) (.slice p m c)) := ⟨by go_simp, by go_simp, by go_simp, by go_simp⟩
          have Xy2 : Hid (Box ((Wn.setCell ⟨go, 0, none⟩ (.bool sR)).setCell ⟨go, 1, none⟩ (.slice pR mR mR)) gy (.bool s4) (.slice q n d)) := ⟨by go_simp, by go_simp, by go_simp, by go_simp⟩
          have Xf2 : Hid (Box ((Wn.setCell ⟨go, 0, none⟩ (.bool sR)).setCell ⟨go, 1, none⟩ (.slice pR mR mR)) gf (.bool s1) (.slice p1 m1 m1)) := ⟨by go_simp, by go_simp, by go_simp, by go_simp⟩
          have Xu2 : Hid (Box ((Wn.setCell ⟨go, 0, none⟩ (.bool sR)).setCell ⟨go, 1, none⟩ (.slice pR mR mR)) gu (.bool s2) (.slice p2 m2 m2)) := ⟨by go_simp, by go_simp, by go_simp, by go_simp⟩
          have Xg2 : Hid (Box ((Wn.setCell ⟨go, 0, none⟩ (.bool sR)).setCell ⟨go, 1, none⟩ (.slice pR mR mR)) gg (.bool s3) (.slice p3 m3 m3)) := ⟨by go_simp, by go_simp, by go_simp, by go_simp⟩
          have Xr2 : Hid (Box ((Wn.setCell ⟨go, 0, none⟩ (.bool sR)).setCell ⟨go, 1, none⟩ (.slice pR mR mR)) gr (.bool s4) (.slice p4 m4 m4)) := ⟨by go_simp, by go_simp, by go_simp, by go_simp⟩
          have RR2 : Hid (ZN ((Wn.setCell ⟨go, 0, none⟩ (.bool sR)).setCell ⟨go, 1, none⟩ (.slice pR mR mR)) sR pR mR mR (F + 1)) := HLS.out _ _
          have hbw2 : Below w.heap.size w ((Wn.setCell ⟨go, 0, none⟩ (.bool sR)).setCell ⟨go, 1, none⟩ (.slice pR mR mR)) := bSet (bSet hbw _ _ _ HGo.out) _ _ _ HGo.out
          have HBS2 : Hid (BelS Wr0 ((Wn.setCell ⟨go, 0, none⟩ (.bool sR)).setCell ⟨go, 1, none⟩ (.slice pR mR mR))) := bSet (bSet HBS.out _ _ _ HGS.out) _ _ _ HGS.out
          refine hK _ _ HJ2.out ?_
          clear hK HJ
          have HJ := HJ2
          clear HJ2
          refine wpJ_take (i := 8) (v := ?v18x8) rfl (by kernel_rfl) (by kernel_rfl) (by kernel_rfl) (fun _ _ _ h => by cases h.1) (by kernel_rfl) ?hy18x8 HJ.out ?rest18x8
          case hy18x8 => (intro W' hJ; obtain ⟨j0, j1⟩ := hJ; go_simp; first | done | with_reducible rfl)
          refine wpJ_done (by kernel_rfl) ?_ _
          exact ⟨rfl, HRQ.out _ _ _ ⟨go, sF, pF, mF, sR, pR, mR, by kernel_rfl, Xo2.out, Xx2.out, Xy2.out, Xf2.out, Xu2.out, Xg2.out, Xr2.out, RR2.out, HBS2.out, HGo.out, HDxo.out, HDyo.out, HDfo.out, HDuo.out, HDgo.out, HDro.out, hbw2⟩⟩
        · go_simp
          have HDxo : Hid (gx ≠ u1.heap.size) := Nat.ne_of_lt Xx.out.lt
          have HDyo : Hid (gy ≠ u1.heap.size) := Nat.ne_of_lt Xy.out.lt
          have HDfo : Hid (gf ≠ u1.heap.size) := Nat.ne_of_lt Xf.out.lt
          have HDuo : Hid (gu ≠ u1.heap.size) := Nat.ne_of_lt Xu.out.lt
          have HDgo : Hid (gg ≠ u1.heap.size) := Nat.ne_of_lt Xg.out.lt
          have HDro : Hid (gr ≠ u1.heap.size) := Nat.ne_of_lt Xr.out.lt
          have HGS : Hid (GeS Wr0 u1.heap.size) := HBS.out.size
          have Xo0 : Hid (Box (u1.alloc (.cells #[.bool false, .slice none 0 0] 33)) u1.heap.size (.bool false) (.slice none 0 0)) := Box.new u1 _ _ _
          have hbn : Below u1.heap.size u1 (u1.alloc (.cells #[.bool false, .slice none 0 0] 33)) := below1 u1 _
          generalize u1.alloc (.cells #[.bool false, .slice none 0 0] 33) = Wn at *
          have HGo : Hid (w.heap.size ≤ u1.heap.size) := hbw.size
          replace Xx : Hid _ := Xx.out.below hbn
          replace Xy : Hid _ := Xy.out.below hbn
          replace Xf : Hid _ := Xf.out.below hbn
          replace Xu : Hid _ := Xu.out.below hbn
          replace Xg : Hid _ := Xg.out.below hbn
          replace Xr : Hid _ := Xr.out.below hbn
          replace Zx : Hid _ := Zx.out.below hbn
          replace Zy : Hid _ := Zy.out.below hbn
          replace Zf : Hid _ := Zf.out.below hbn
          replace Zu : Hid _ := Zu.out.below hbn
          replace Zg : Hid _ := Zg.out.below hbn
          replace Zr : Hid _ := Zr.out.below hbn
          replace HBS : Hid (BelS Wr0 Wn) := HBS.out.below hbn
          replace ZF : Hid _ := ZF.out.below hbn
          replace hbw := Below.on hbw hbn
          clear hbn
          generalize u1.heap.size = go at *
          have Xo := Xo0
          clear Xo0
          refine hK _ _ ⟨Xf.out.c0, Xf.out.c1⟩ ?_
          clear hK
          refine wpJ_on 2 rfl fun KJ hK => ?_
          go_simp
          have HLT : Hid (go < Wn.heap.size) := Xo.out.lt
          refine (zadd Zf.out ZF.out).mono ?_
          rintro e9 u2 ⟨haR, hbR⟩
          obtain ⟨sR, pR, mR, rfl, hoR⟩ := haR.zo H1L.out
          clear haR
          replace Xx : Hid _ := Xx.out.below hbR
          replace Xy : Hid _ := Xy.out.below hbR
          replace Xf : Hid _ := Xf.out.below hbR
          replace Xu : Hid _ := Xu.out.below hbR
          replace Xg : Hid _ := Xg.out.below hbR
          replace Xr : Hid _ := Xr.out.below hbR
          replace Xo : Hid _ := Xo.out.below hbR
          replace Zx : Hid _ := Zx.out.below hbR
          replace Zy : Hid _ := Zy.out.below hbR
          replace Zf : Hid _ := Zf.out.below hbR
          replace Zu : Hid _ := Zu.out.below hbR
          replace Zg : Hid _ := Zg.out.below hbR
          replace Zr : Hid _ := Zr.out.below hbR
          replace HBS : Hid (BelS Wr0 u2) := HBS.out.below hbR
          replace ZF : Hid _ := ZF.out.below hbR
          replace hbw := Below.on hbw hbR
          clear hbR
          have RR : Hid (ZO Wn.heap.size u2 sR pR mR (F + 1)) := hoR
          clear hoR
          clear ZF
          clear HJ
          have HJ : Hid ((fun W' : World => W'.cell? ⟨gf, 0, none⟩ = some (.bool s1) ∧ W'.cell? ⟨gf, 1, none⟩ = some (.slice p1 m1 m1)) u2) := ⟨Xf.out.c0, Xf.out.c1⟩
          refine hK _ _ HJ.out ?_
          clear hK
          refine wpJ_take (i := 3) (v := ?v19x3) rfl (by kernel_rfl) (by kernel_rfl) (by kernel_rfl) (fun _ _ _ h => by cases h.1) (by kernel_rfl) ?hy19x3 HJ.out ?rest19x3
          case hy19x3 => (intro W' hJ; obtain ⟨j0, j1⟩ := hJ; go_simp; first | done | with_reducible rfl)
          refine wpJ_take (i := 4) (v := ?v20x4) rfl (by kernel_rfl) (by kernel_rfl) (by kernel_rfl) (fun _ _ _ h => by cases h.1) (by kernel_rfl) ?hy20x4 HJ.out ?rest20x4
          case hy20x4 => (intro W' hJ; obtain ⟨j0, j1⟩ := hJ; go_simp; first | done | with_reducible rfl)
          refine wpJ_take (i := 5) (v := ?v21x5) rfl (by kernel_rfl) (by kernel_rfl) (by kernel_rfl) (fun _ _ _ h => by cases h.1) (by kernel_rfl) ?hy21x5 HJ.out ?rest21x5
          case hy21x5 => (intro W' hJ; obtain ⟨j0, j1⟩ := hJ; go_simp; first | done | with_reducible rfl)
          obtain ⟨co0, co1, fo0, fo1⟩ := Xo.out
          have hneo := Xo.out.lt
          obtain ⟨cx0, cx1, fx0, fx1⟩ := Xx.out
          have hnex := Xx.out.lt
          obtain ⟨cy0, cy1, fy0, fy1⟩ := Xy.out
          have hney := Xy.out.lt
          obtain ⟨cf0, cf1, ff0, ff1⟩ := Xf.out
          have hnef := Xf.out.lt
          obtain ⟨cu0, cu1, fu0, fu1⟩ := Xu.out
          have hneu := Xu.out.lt
          obtain ⟨cg0, cg1, fg0, fg1⟩ := Xg.out
          have hneg := Xg.out.lt
          obtain ⟨cr0, cr1, fr0, fr1⟩ := Xr.out
          have hner := Xr.out.lt
          have qax : gx ≠ go := HDxo.out
          have qbx : go ≠ gx := fun h => qax h.symm
          have qay : gy ≠ go := HDyo.out
          have qby : go ≠ gy := fun h => qay h.symm
          have qaf : gf ≠ go := HDfo.out
          have qbf : go ≠ gf := fun h => qaf h.symm
          have qau : gu ≠ go := HDuo.out
          have qbu : go ≠ gu := fun h => qau h.symm
          have qag : gg ≠ go := HDgo.out
          have qbg : go ≠ gg := fun h => qag h.symm
          have qar : gr ≠ go := HDro.out
          have qbr : go ≠ gr := fun h => qar h.symm
          refine wpJ_on 7 rfl fun KJ hK => ?_
          go_simp
          have HJ2 : Hid ((fun W' : World => W'.cell? ⟨gf, 0, none⟩ = some (.bool s1) ∧ W'.cell? ⟨gf, 1, none⟩ = some (.slice p1 m1 m1)) ((u2.setCell ⟨go, 0, none⟩ (.bool sR)).setCell ⟨go, 1, none⟩ (.slice pR mR mR))) := ⟨by go_simp, by go_simp⟩
          have Xo2 : Hid (Box ((u2.setCell ⟨go, 0, none⟩ (.bool sR)).setCell ⟨go, 1, none⟩ (.slice pR mR mR)) go (.bool sR) (.slice pR mR mR)) := ⟨by go_simp, by go_simp, by go_simp, by go_simp⟩
          have Xx2 : Hid (Box ((u2.setCell ⟨go, 0, none⟩ (.bool sR)).setCell ⟨go, 1, none⟩ (.slice pR mR mR)) gx (.bool s) (.slice p m c)) := ⟨by go_simp, by go_simp, by go_simp, by go_simp⟩
          have Xy2 : Hid (Box ((u2.setCell ⟨go, 0, none⟩ (.bool sR)).setCell ⟨go, 1, none⟩ (.slice pR mR mR)) gy (.bool s4) (.slice q n d)) := ⟨by go_simp, by go_simp, by go_simp, by go_simp⟩
          have Xf2 : Hid (Box ((u2.setCell ⟨go, 0, none⟩ (.bool sR)).setCell ⟨go, 1, none⟩ (.slice pR mR mR)) gf (.bool s1) (.slice p1 m1 m1)) := ⟨by go_simp, by go_simp, by go_simp, by go_simp⟩
          have Xu2 : Hid (Box ((u2.setCell ⟨go, 0, none⟩ (.bool sR)).setCell ⟨go, 1, none⟩ (.slice pR mR mR)) gu (.bool s2) (.slice p2 m2 m2)) := ⟨by go_simp, by go_simp, by go_simp, by go_simp⟩
          have Xg2 : Hid (Box ((u2.setCell ⟨go, 0, none⟩ (.bool sR)).setCell ⟨go, 1, none⟩ (.slice pR mR mR)) gg (.bool s3) (.slice p3 m3 m3)) := ⟨by go_simp, by go_simp, by go_simp, by go_simp⟩
          have Xr2 : Hid (Box ((u2.setCell ⟨go, 0, none⟩ (.bool sR)).setCell ⟨go, 1, none⟩ (.slice pR mR mR)) gr (.bool s4) (.slice p4 m4 m4)) := ⟨by go_simp, by go_simp, by go_simp, by go_simp⟩
          have RR2 : Hid (ZN ((u2.setCell ⟨go, 0, none⟩ (.bool sR)).setCell ⟨go, 1, none⟩ (.slice pR mR mR)) sR pR mR mR (F + 1)) := ((RR.out.set _ _ _ HLT.out).set _ _ _ HLT.out).zn
          have hbw2 : Below w.heap.size w ((u2.setCell ⟨go, 0, none⟩ (.bool sR)).setCell ⟨go, 1, none⟩ (.slice pR mR mR)) := bSet (bSet hbw _ _ _ HGo.out) _ _ _ HGo.out
          have HBS2 : Hid (BelS Wr0 ((u2.setCell ⟨go, 0, none⟩ (.bool sR)).setCell ⟨go, 1, none⟩ (.slice pR mR mR))) := bSet (bSet HBS.out _ _ _ HGS.out) _ _ _ HGS.out
          refine hK _ _ HJ2.out ?_
          clear hK HJ
          have HJ := HJ2
          clear HJ2
          refine wpJ_take (i := 8) (v := ?v22x8) rfl (by kernel_rfl) (by kernel_rfl) (by kernel_rfl) (fun _ _ _ h => by cases h.1) (by kernel_rfl) ?hy22x8 HJ.out ?rest22x8
          case hy22x8 => (intro W' hJ; obtain ⟨j0, j1⟩ := hJ; go_simp; first | done | with_reducible rfl)
          refine wpJ_done (by kernel_rfl) ?_ _
          exact ⟨rfl, HRQ.out _ _ _ ⟨go, sF, pF, mF, sR, pR, mR, by kernel_rfl, Xo2.out, Xx2.out, Xy2.out, Xf2.out, Xu2.out, Xg2.out, Xr2.out, RR2.out, HBS2.out, HGo.out, HDxo.out, HDyo.out, HDfo.out, HDuo.out, HDgo.out, HDro.out, hbw2⟩⟩
      · go_simp
        have HDxo : Hid (gx ≠ Wr0.heap.size) := Nat.ne_of_lt Xx.out.lt
        have HDyo : Hid (gy ≠ Wr0.heap.size) := Nat.ne_of_lt Xy.out.lt
        have HDfo : Hid (gf ≠ Wr0.heap.size) := Nat.ne_of_lt Xf.out.lt
        have HDuo : Hid (gu ≠ Wr0.heap.size) := Nat.ne_of_lt Xu.out.lt
        have HDgo : Hid (gg ≠ Wr0.heap.size) := Nat.ne_of_lt Xg.out.lt
        have HDro : Hid (gr ≠ Wr0.heap.size) := Nat.ne_of_lt Xr.out.lt
        have HGS : Hid (GeS Wr0 Wr0.heap.size) := HBS.out.size
        have Xo0 : Hid (Box (Wr0.alloc (.cells #[.bool false, .slice none 0 0] 33)) Wr0.heap.size (.bool false) (.slice none 0 0)) := Box.new Wr0 _ _ _
        have hbn : Below Wr0.heap.size Wr0 (Wr0.alloc (.cells #[.bool false, .slice none 0 0] 33)) := below1 Wr0 _
        generalize Wr0.alloc (.cells #[.bool false, .slice none 0 0] 33) = Wn at *
        have HGo : Hid (w.heap.size ≤ Wr0.heap.size) := hbw.size
        replace Xx : Hid _ := Xx.out.below hbn
        replace Xy : Hid _ := Xy.out.below hbn
        replace Xf : Hid _ := Xf.out.below hbn
        replace Xu : Hid _ := Xu.out.below hbn
        replace Xg : Hid _ := Xg.out.below hbn
        replace Xr : Hid _ := Xr.out.below hbn
        replace Zx : Hid _ := Zx.out.below hbn
        replace Zy : Hid _ := Zy.out.below hbn
        replace Zf : Hid _ := Zf.out.below hbn
        replace Zu : Hid _ := Zu.out.below hbn
        replace Zg : Hid _ := Zg.out.below hbn
        replace Zr : Hid _ := Zr.out.below hbn
        replace HBS : Hid (BelS Wr0 Wn) := HBS.out.below hbn
        replace hbw := Below.on hbw hbn
        clear hbn
        generalize Wr0.heap.size = go at *
        have Xo := Xo0
        clear Xo0
        refine hK _ _ ⟨Xf.out.c0, Xf.out.c1⟩ ?_
        clear hK
        refine wpJ_on 1 rfl fun KJ hK => ?_
        go_simp
        refine (zof 1 _ (by decide) (by decide)).mono ?_
        rintro e9 u1 ⟨sF, pF, mF, rfl, hzF, hbF⟩
        replace Xx : Hid _ := Xx.out.below hbF
        replace Xy : Hid _ := Xy.out.below hbF
        replace Xf : Hid _ := Xf.out.below hbF
        replace Xu : Hid _ := Xu.out.below hbF
        replace Xg : Hid _ := Xg.out.below hbF
        replace Xr : Hid _ := Xr.out.below hbF
        replace Xo : Hid _ := Xo.out.below hbF
        replace Zx : Hid _ := Zx.out.below hbF
        replace Zy : Hid _ := Zy.out.below hbF
        replace Zf : Hid _ := Zf.out.below hbF
        replace Zu : Hid _ := Zu.out.below hbF
        replace Zg : Hid _ := Zg.out.below hbF
        replace Zr : Hid _ := Zr.out.below hbF
        replace HBS : Hid (BelS Wr0 u1) := HBS.out.below hbF
        replace hbw := Below.on hbw hbF
        clear hbF
        have ZF : Hid (ZN u1 sF pF mF mF 1) := hzF
        clear hzF
        refine hK _ _ ⟨Xf.out.c0, Xf.out.c1⟩ ?_
        clear hK
        refine wpJ_on 2 rfl fun KJ hK => ?_
        go_simp
        have HLT : Hid (go < u1.heap.size) := Xo.out.lt
        refine (zadd Zf.out ZF.out).mono ?_
        rintro e9 u2 ⟨haR, hbR⟩
        obtain ⟨sR, pR, mR, rfl, hoR⟩ := haR.zo H1L.out
        clear haR
        replace Xx : Hid _ := Xx.out.below hbR
        replace Xy : Hid _ := Xy.out.below hbR
        replace Xf : Hid _ := Xf.out.below hbR
        replace Xu : Hid _ := Xu.out.below hbR
        replace Xg : Hid _ := Xg.out.below hbR
        replace Xr : Hid _ := Xr.out.below hbR
        replace Xo : Hid _ := Xo.out.below hbR
        replace Zx : Hid _ := Zx.out.below hbR
        replace Zy : Hid _ := Zy.out.below hbR
        replace Zf : Hid _ := Zf.out.below hbR
        replace Zu : Hid _ := Zu.out.below hbR
        replace Zg : Hid _ := Zg.out.below hbR
        replace Zr : Hid _ := Zr.out.below hbR
        replace HBS : Hid (BelS Wr0 u2) := HBS.out.below hbR
        replace ZF : Hid _ := ZF.out.below hbR
        replace hbw := Below.on hbw hbR
        clear hbR
        have RR : Hid (ZO u1.heap.size u2 sR pR mR (F + 1)) := hoR
        clear hoR
        clear ZF
        clear HJ
        have HJ : Hid ((fun W' : World => W'.cell? ⟨gf, 0, none⟩ = some (.bool s1) ∧ W'.cell? ⟨gf, 1, none⟩ = some (.slice p1 m1 m1)) u2) := ⟨Xf.out.c0, Xf.out.c1⟩
        refine hK _ _ HJ.out ?_
        clear hK
        refine wpJ_take (i := 3) (v := ?v23x3) rfl (by kernel_rfl) (by kernel_rfl) (by kernel_rfl) (fun _ _ _ h => by cases h.1) (by kernel_rfl) ?hy23x3 HJ.out ?rest23x3
        case hy23x3 => (intro W' hJ; obtain ⟨j0, j1⟩ := hJ; go_simp; first | done | with_reducible rfl)
        refine wpJ_take (i := 4) (v := ?v24x4) rfl (by kernel_rfl) (by kernel_rfl) (by kernel_rfl) (fun _ _ _ h => by cases h.1) (by kernel_rfl) ?hy24x4 HJ.out ?rest24x4
        case hy24x4 => (intro W' hJ; obtain ⟨j0, j1⟩ := hJ; go_simp; first | done | with_reducible rfl)
        refine wpJ_take (i := 5) (v := ?v25x5) rfl (by kernel_rfl) (by kernel_rfl) (by kernel_rfl) (fun _ _ _ h => by cases h.1) (by kernel_rfl) ?hy25x5 HJ.out ?rest25x5
        case hy25x5 => (intro W' hJ; obtain ⟨j0, j1⟩ := hJ; go_simp; first | done | with_reducible rfl)
        obtain ⟨co0, co1, fo0, fo1⟩ := Xo.out
        have hneo := Xo.out.lt
        obtain ⟨cx0, cx1, fx0, fx1⟩ := Xx.out
        have hnex := Xx.out.lt
        obtain ⟨cy0, cy1, fy0, fy1⟩ := Xy.out
        have hney := Xy.out.lt
        obtain ⟨cf0, cf1, ff0, ff1⟩ := Xf.out
        have hnef := Xf.out.lt
        obtain ⟨cu0, cu1, fu0, fu1⟩ := Xu.out
        have hneu := Xu.out.lt
        obtain ⟨cg0, cg1, fg0, fg1⟩ := Xg.out
        have hneg := Xg.out.lt
        obtain ⟨cr0, cr1, fr0, fr1⟩ := Xr.out
        have hner := Xr.out.lt
        have qax : gx ≠ go := HDxo.out
        have qbx : go ≠ gx := fun h => qax h.symm
        have qay : gy ≠ go := HDyo.out
        have qby : go ≠ gy := fun h => qay h.symm
        have qaf : gf ≠ go := HDfo.out
        have qbf : go ≠ gf := fun h => qaf h.symm
        have qau : gu ≠ go := HDuo.out
        have qbu : go ≠ gu := fun h => qau h.symm
        have qag : gg ≠ go := HDgo.out
        have qbg : go ≠ gg := fun h => qag h.symm
        have qar : gr ≠ go := HDro.out
        have qbr : go ≠ gr := fun h => qar h.symm
        refine wpJ_on 7 rfl fun KJ hK => ?_
        go_simp
        have HJ2 : Hid ((fun W' : World => W'.cell? ⟨gf, 0, none⟩ = some (.bool s1) ∧ W'.cell? ⟨gf, 1, none⟩ = some (.slice p1 m1 m1)) ((u2.setCell ⟨go, 0, none⟩ (.bool sR)).setCell ⟨go, 1, none⟩ (.slice pR mR mR))) := ⟨by go_simp, by go_simp⟩
        have Xo2 : Hid (Box ((u2.setCell ⟨go, 0, none⟩ (.bool sR)).setCell ⟨go, 1, none⟩ (.slice pR mR mR)) go (.bool sR) (.slice pR mR mR)) := ⟨by go_simp, by go_simp, by go_simp, by go_simp⟩
        have Xx2 : Hid (Box ((u2.setCell ⟨go, 0, none⟩ (.bool sR)).setCell ⟨go, 1, none⟩ (.slice pR mR mR)) gx (.bool s) (.slice p m c)) := ⟨by go_simp, by go_simp, by go_simp, by go_simp⟩
        have Xy2 : Hid (Box ((u2.setCell ⟨go, 0, none⟩ (.bool sR)).setCell ⟨go, 1, none⟩ (.slice pR mR mR)) gy (.bool s4) (.slice q n d)) := ⟨by go_simp, by go_simp, by go_simp, by go_simp⟩
        have Xf2 : Hid (Box ((u2.setCell ⟨go, 0, none⟩ (.bool sR)).setCell ⟨go, 1, none⟩ (.slice pR mR mR)) gf (.bool s1) (.slice p1 m1 m1)) := ⟨by go_simp, by go_simp, by go_simp, by go_simp⟩
        have Xu2 : Hid (Box ((u2.setCell ⟨go, 0, none⟩ (.bool sR)).setCell ⟨go, 1, none⟩ (.slice pR mR mR)) gu (.bool s2) (.slice p2 m2 m2)) := ⟨by go_simp, by go_simp, by go_simp, by go_simp⟩
        have Xg2 : Hid (Box ((u2.setCell ⟨go, 0, none⟩ (.bool sR)).setCell ⟨go, 1, none⟩ (.slice pR mR mR)) gg (.bool s3) (.slice p3 m3 m3)) := ⟨by go_simp, by go_simp, by go_simp, by go_simp⟩
        have Xr2 : Hid (Box ((u2.setCell ⟨go, 0, none⟩ (.bool sR)).setCell ⟨go, 1, none⟩ (.slice pR mR mR)) gr (.bool s4) (.slice p4 m4 m4)) := ⟨by go_simp, by go_simp, by go_simp, by go_simp⟩
        have RR2 : Hid (ZN ((u2.setCell ⟨go, 0, none⟩ (.bool sR)).setCell ⟨go, 1, none⟩ (.slice pR mR mR)) sR pR mR mR (F + 1)) := ((RR.out.set _ _ _ HLT.out).set _ _ _ HLT.out).zn
        have hbw2 : Below w.heap.size w ((u2.setCell ⟨go, 0, none⟩ (.bool sR)).setCell ⟨go, 1, none⟩ (.slice pR mR mR)) := bSet (bSet hbw _ _ _ HGo.out) _ _ _ HGo.out
        have HBS2 : Hid (BelS Wr0 ((u2.setCell ⟨go, 0, none⟩ (.bool sR)).setCell ⟨go, 1, none⟩ (.slice pR mR mR))) := bSet (bSet HBS.out _ _ _ HGS.out) _ _ _ HGS.out
        refine hK _ _ HJ2.out ?_
        clear hK HJ
        have HJ := HJ2
        clear HJ2
        refine wpJ_take (i := 8) (v := ?v26x8) rfl (by kernel_rfl) (by kernel_rfl) (by kernel_rfl) (fun _ _ _ h => by cases h.1) (by kernel_rfl) ?hy26x8 HJ.out ?rest26x8
        case hy26x8 => (intro W' hJ; obtain ⟨j0, j1⟩ := hJ; go_simp; first | done | with_reducible rfl)
        refine wpJ_done (by kernel_rfl) ?_ _
        exact ⟨rfl, HRQ.out _ _ _ ⟨go, sF, pF, mF, sR, pR, mR, by kernel_rfl, Xo2.out, Xx2.out, Xy2.out, Xf2.out, Xu2.out, Xg2.out, Xr2.out, RR2.out, HBS2.out, HGo.out, HDxo.out, HDyo.out, HDfo.out, HDuo.out, HDgo.out, HDro.out, hbw2⟩⟩
theorem two_pos (k : Nat) : decide ((1 : Int) * 2 ^ k < 0) = false ∧ ((1 : Int) * 2 ^ k).natAbs = 2 ^ k := by
  have hp : (0 : Int) < 2 ^ k := Int.pow_pos (by omega)
  refine ⟨decide_eq_false (by omega), ?_⟩
  rw [Int.one_mul, Int.natAbs_pow]; rfl
theorem big_shift (K : Nat) (h : LIM ≤ ((1 : Int) * 2 ^ K).natAbs) : 524288 ≤ K := by
  rw [(two_pos K).2] at h
  obtain ⟨E, hE⟩ : ∃ E, E = 524288 := ⟨_, rfl⟩
  rw [LIM_two E hE] at h
  rcases Nat.lt_or_ge K E with h1 | h1
  · exact absurd (Nat.pow_lt_pow_right (by omega : 1 < 2) h1) (by omega)
  · omega
end Go.Proofs.YtmekccpbcjpddaaGreatDoor
