import Derived.Test.YtmekccpbcjpddaaGreatDoorJ16
import Derived.Test.YtmekccpbcjpddaaGreatDoorJ12
import Derived.Test.YtmekccpbcjpddaaGreatDoorJ8
namespace Go.Proofs.YtmekccpbcjpddaaGreatDoor
open Go.RowKit Go.Shelf
set_option maxRecDepth 20000
set_option maxHeartbeats 0
theorem sh_s (x : Int) (k : Nat) : (decide (x < 0) != decide ((1 : Int) * 2 ^ k < 0)) = decide (x < 0) := by rw [(two_pos k).1]; simp
theorem shifts_ok {s : Bool} {p : Option Addr} {m c : Nat} {x : Int} {w : World} (h : ZN w s p m c x) (k : Nat) (hk : k < 20000) (hT : Tab w) :
    Calls Tryz.prog 11 #[ZV s p m c, .int .i64 (k : Int)] w fun en w' => en = .returned (.bool true) ∧ Below w.heap.size w w' := by
  have Zx : Hid (ZN w s p m c x) := h
  have TB : Hid (Tab w) := hT
  have HK : Hid (k < 20000 ∧ ((1 : Int) * 2 ^ k).natAbs < LIM ∧ (1 : Int) * 2 ^ k ≠ 0) := by
    refine ⟨hk, ?_, ?_⟩
    · rcases Nat.lt_or_ge ((1 : Int) * 2 ^ k).natAbs LIM with h | h
      · exact h
      · have := big_shift k h; omega
    · intro e
      have h1 := (two_pos k).2
      rw [e] at h1
      have h2 : 0 < 2 ^ k := Nat.two_pow_pos k
      simp at h1
      omega
  clear h hT hk
  go_enter Tryz.func11, Tryz.ntmps11
  go_wp2_with fail
  obtain ⟨W0, hW0⟩ : ∃ W0, W0 = (w.alloc (.cells #[.bool s, .slice p m c] 33)) := ⟨_, rfl⟩
  have Xx : Hid (Box W0 (w.heap.size) (.bool s) (.slice p m c)) := by rw [hW0]; exact ⟨by go_simp, by go_simp, by go_simp, by go_simp⟩
  have hb0 : Below w.heap.size w W0 := by rw [hW0]; exact below1 w _
  rw [← hW0]
  clear hW0
  have hbw : Below w.heap.size w w := Below.refl _ _
  obtain ⟨gx, hgx⟩ : ∃ g, g = w.heap.size := ⟨_, rfl⟩
  have HGx : Hid (w.heap.size ≤ gx) := by rw [hgx]; show _ ≤ _; omega
  rw [← hgx] at Xx
  try rw [← hgx]
  clear hgx
  replace Zx : Hid _ := Zx.out.below hb0
  replace TB : Hid (Tab W0) := TB.out.below hb0
  replace hbw := Below.on hbw hb0
  clear hb0
  refine (zof (1) W0 (by omega) (by omega)).mono ?_
  rintro e v1 ⟨s1, p1, m1, rfl, hz, hb1⟩
  replace Xx : Hid _ := Xx.out.below hb1
  replace Zx : Hid _ := Zx.out.below hb1
  replace TB : Hid (Tab v1) := TB.out.below hb1
  replace hbw := Below.on hbw hb1
  clear hb1
  have Zo : Hid (ZN v1 s1 p1 m1 m1 (1)) := hz
  clear hz
  go_wp2_with fail
  refine (zshl Zo.out k (by have := HK.out; omega)).mono ?_
  rintro e v2 ⟨ha, hb2⟩
  obtain ⟨s2, p2, m2, rfl, hz⟩ := ha.got (HK.out.2.1)
  clear ha
  replace Xx : Hid _ := Xx.out.below hb2
  replace Zx : Hid _ := Zx.out.below hb2
  replace TB : Hid (Tab v2) := TB.out.below hb2
  replace Zo : Hid _ := Zo.out.below hb2
  replace hbw := Below.on hbw hb2
  clear hb2
  have Zp : Hid (ZN v2 s2 p2 m2 m2 (1 * 2 ^ k)) := hz
  clear hz
  obtain ⟨cx0, cx1, fx0, fx1⟩ := Xx.out
  have hnex := Xx.out.lt
  go_wp2_with fail
  clear cx0 cx1 fx0 fx1 hnex
  have Xp0 : Hid (Box (v2.alloc (.cells #[.bool s2, .slice p2 m2 m2] 33)) v2.heap.size (.bool s2) (.slice p2 m2 m2)) := Box.new v2 _ _ _
  have hbn : Below v2.heap.size v2 (v2.alloc (.cells #[.bool s2, .slice p2 m2 m2] 33)) := below1 v2 _
  generalize v2.alloc (.cells #[.bool s2, .slice p2 m2 m2] 33) = W2 at *
  have HGp : Hid (w.heap.size ≤ v2.heap.size) := hbw.size
  replace Xx : Hid _ := Xx.out.below hbn
  replace Zx : Hid _ := Zx.out.below hbn
  replace TB : Hid (Tab W2) := TB.out.below hbn
  replace Zo : Hid _ := Zo.out.below hbn
  replace Zp : Hid _ := Zp.out.below hbn
  replace hbw := Below.on hbw hbn
  clear hbn
  generalize v2.heap.size = gp at *
  have Xp := Xp0
  clear Xp0
  clear Zo
  obtain ⟨za, hza⟩ : ∃ z, Hid (z = fl (decide (x < 0)) x.natAbs (2 ^ k)) := ⟨_, rfl⟩
  refine (zfshr Zx.out k (by have := HK.out; omega) TB.out).mono ?_
  rintro e v3 ⟨⟨s3, p3, m3, rfl, hz⟩, hb3⟩
  replace Xx : Hid _ := Xx.out.below hb3
  replace Xp : Hid _ := Xp.out.below hb3
  replace Zx : Hid _ := Zx.out.below hb3
  replace TB : Hid (Tab v3) := TB.out.below hb3
  replace Zp : Hid _ := Zp.out.below hb3
  replace hbw := Below.on hbw hb3
  clear hb3
  have hz := hz.cast (z' := za) (hza.out.symm)
  have Za : Hid (ZN v3 s3 p3 m3 m3 (za)) := hz
  clear hz
  obtain ⟨cx0, cx1, fx0, fx1⟩ := Xx.out
  have hnex := Xx.out.lt
  obtain ⟨cp0, cp1, fp0, fp1⟩ := Xp.out
  have hnep := Xp.out.lt
  go_wp2_with fail
  clear cx0 cx1 fx0 fx1 hnex
  clear cp0 cp1 fp0 fp1 hnep
  have Xa0 : Hid (Box (v3.alloc (.cells #[.bool s3, .slice p3 m3 m3] 33)) v3.heap.size (.bool s3) (.slice p3 m3 m3)) := Box.new v3 _ _ _
  have hbn : Below v3.heap.size v3 (v3.alloc (.cells #[.bool s3, .slice p3 m3 m3] 33)) := below1 v3 _
  generalize v3.alloc (.cells #[.bool s3, .slice p3 m3 m3] 33) = W3 at *
  have HGa : Hid (w.heap.size ≤ v3.heap.size) := hbw.size
  replace Xx : Hid _ := Xx.out.below hbn
  replace Xp : Hid _ := Xp.out.below hbn
  replace Zx : Hid _ := Zx.out.below hbn
  replace TB : Hid (Tab W3) := TB.out.below hbn
  replace Zp : Hid _ := Zp.out.below hbn
  replace Za : Hid _ := Za.out.below hbn
  replace hbw := Below.on hbw hbn
  clear hbn
  generalize v3.heap.size = ga at *
  have Xa := Xa0
  clear Xa0
  refine (zfdiv Zx.out Zp.out HK.out.2.2).mono ?_
  rintro e v4 ⟨⟨s4, p4, m4, rfl, hz⟩, hb4⟩
  replace Xx : Hid _ := Xx.out.below hb4
  replace Xp : Hid _ := Xp.out.below hb4
  replace Xa : Hid _ := Xa.out.below hb4
  replace Zx : Hid _ := Zx.out.below hb4
  replace TB : Hid (Tab v4) := TB.out.below hb4
  replace Zp : Hid _ := Zp.out.below hb4
  replace Za : Hid _ := Za.out.below hb4
  replace hbw := Below.on hbw hb4
  clear hb4
  have hz := hz.cast (z' := za) (by rw [sh_s, (two_pos k).2]; exact hza.out.symm)
  have Zb : Hid (ZN v4 s4 p4 m4 m4 (za)) := hz
  clear hz
  obtain ⟨cx0, cx1, fx0, fx1⟩ := Xx.out
  have hnex := Xx.out.lt
  obtain ⟨cp0, cp1, fp0, fp1⟩ := Xp.out
  have hnep := Xp.out.lt
  go_wp2_with fail
  clear cx0 cx1 fx0 fx1 hnex
  clear cp0 cp1 fp0 fp1 hnep
  have Xb0 : Hid (Box (v4.alloc (.cells #[.bool s4, .slice p4 m4 m4] 33)) v4.heap.size (.bool s4) (.slice p4 m4 m4)) := Box.new v4 _ _ _
  have hbn : Below v4.heap.size v4 (v4.alloc (.cells #[.bool s4, .slice p4 m4 m4] 33)) := below1 v4 _
  generalize v4.alloc (.cells #[.bool s4, .slice p4 m4 m4] 33) = W4 at *
  have HGb : Hid (w.heap.size ≤ v4.heap.size) := hbw.size
  replace Xx : Hid _ := Xx.out.below hbn
  replace Xp : Hid _ := Xp.out.below hbn
  replace Xa : Hid _ := Xa.out.below hbn
  replace Zx : Hid _ := Zx.out.below hbn
  replace TB : Hid (Tab W4) := TB.out.below hbn
  replace Zp : Hid _ := Zp.out.below hbn
  replace Za : Hid _ := Za.out.below hbn
  replace Zb : Hid _ := Zb.out.below hbn
  replace hbw := Below.on hbw hbn
  clear hbn
  generalize v4.heap.size = gb at *
  have Xb := Xb0
  clear Xb0
  obtain ⟨zc, hzc⟩ : ∃ z, Hid (z = ce (decide (x < 0)) x.natAbs (2 ^ k)) := ⟨_, rfl⟩
  refine (zcshr Zx.out k (by have := HK.out; omega) TB.out).mono ?_
  rintro e v5 ⟨⟨s5, p5, m5, rfl, hz⟩, hb5⟩
  replace Xx : Hid _ := Xx.out.below hb5
  replace Xp : Hid _ := Xp.out.below hb5
  replace Xa : Hid _ := Xa.out.below hb5
  replace Xb : Hid _ := Xb.out.below hb5
  replace Zx : Hid _ := Zx.out.below hb5
  replace TB : Hid (Tab v5) := TB.out.below hb5
  replace Zp : Hid _ := Zp.out.below hb5
  replace Za : Hid _ := Za.out.below hb5
  replace Zb : Hid _ := Zb.out.below hb5
  replace hbw := Below.on hbw hb5
  clear hb5
  have hz := hz.cast (z' := zc) (hzc.out.symm)
  have Zc : Hid (ZN v5 s5 p5 m5 m5 (zc)) := hz
  clear hz
  obtain ⟨cx0, cx1, fx0, fx1⟩ := Xx.out
  have hnex := Xx.out.lt
  obtain ⟨cp0, cp1, fp0, fp1⟩ := Xp.out
  have hnep := Xp.out.lt
  go_wp2_with fail
  clear cx0 cx1 fx0 fx1 hnex
  clear cp0 cp1 fp0 fp1 hnep
  have Xc0 : Hid (Box (v5.alloc (.cells #[.bool s5, .slice p5 m5 m5] 33)) v5.heap.size (.bool s5) (.slice p5 m5 m5)) := Box.new v5 _ _ _
  have hbn : Below v5.heap.size v5 (v5.alloc (.cells #[.bool s5, .slice p5 m5 m5] 33)) := below1 v5 _
  generalize v5.alloc (.cells #[.bool s5, .slice p5 m5 m5] 33) = W5 at *
  have HGc : Hid (w.heap.size ≤ v5.heap.size) := hbw.size
  replace Xx : Hid _ := Xx.out.below hbn
  replace Xp : Hid _ := Xp.out.below hbn
  replace Xa : Hid _ := Xa.out.below hbn
  replace Xb : Hid _ := Xb.out.below hbn
  replace Zx : Hid _ := Zx.out.below hbn
  replace TB : Hid (Tab W5) := TB.out.below hbn
  replace Zp : Hid _ := Zp.out.below hbn
  replace Za : Hid _ := Za.out.below hbn
  replace Zb : Hid _ := Zb.out.below hbn
  replace Zc : Hid _ := Zc.out.below hbn
  replace hbw := Below.on hbw hbn
  clear hbn
  generalize v5.heap.size = gc at *
  have Xc := Xc0
  clear Xc0
  refine (zcdiv Zx.out Zp.out HK.out.2.2).mono ?_
  rintro e v6 ⟨⟨s6, p6, m6, rfl, hz⟩, hb6⟩
  replace Xx : Hid _ := Xx.out.below hb6
  replace Xp : Hid _ := Xp.out.below hb6
  replace Xa : Hid _ := Xa.out.below hb6
  replace Xb : Hid _ := Xb.out.below hb6
  replace Xc : Hid _ := Xc.out.below hb6
  replace Zx : Hid _ := Zx.out.below hb6
  replace TB : Hid (Tab v6) := TB.out.below hb6
  replace Zp : Hid _ := Zp.out.below hb6
  replace Za : Hid _ := Za.out.below hb6
  replace Zb : Hid _ := Zb.out.below hb6
  replace Zc : Hid _ := Zc.out.below hb6
  replace hbw := Below.on hbw hb6
  clear hb6
  have hz := hz.cast (z' := zc) (by rw [sh_s, (two_pos k).2]; exact hzc.out.symm)
  have Zd : Hid (ZN v6 s6 p6 m6 m6 (zc)) := hz
  clear hz
  obtain ⟨cx0, cx1, fx0, fx1⟩ := Xx.out
  have hnex := Xx.out.lt
  obtain ⟨cp0, cp1, fp0, fp1⟩ := Xp.out
  have hnep := Xp.out.lt
  go_wp2_with fail
  clear cx0 cx1 fx0 fx1 hnex
  clear cp0 cp1 fp0 fp1 hnep
  have Xd0 : Hid (Box (v6.alloc (.cells #[.bool s6, .slice p6 m6 m6] 33)) v6.heap.size (.bool s6) (.slice p6 m6 m6)) := Box.new v6 _ _ _
  have hbn : Below v6.heap.size v6 (v6.alloc (.cells #[.bool s6, .slice p6 m6 m6] 33)) := below1 v6 _
  generalize v6.alloc (.cells #[.bool s6, .slice p6 m6 m6] 33) = W6 at *
  have HGd : Hid (w.heap.size ≤ v6.heap.size) := hbw.size
  replace Xx : Hid _ := Xx.out.below hbn
  replace Xp : Hid _ := Xp.out.below hbn
  replace Xa : Hid _ := Xa.out.below hbn
  replace Xb : Hid _ := Xb.out.below hbn
  replace Xc : Hid _ := Xc.out.below hbn
  replace Zx : Hid _ := Zx.out.below hbn
  replace TB : Hid (Tab W6) := TB.out.below hbn
  replace Zp : Hid _ := Zp.out.below hbn
  replace Za : Hid _ := Za.out.below hbn
  replace Zb : Hid _ := Zb.out.below hbn
  replace Zc : Hid _ := Zc.out.below hbn
  replace Zd : Hid _ := Zd.out.below hbn
  replace hbw := Below.on hbw hbn
  clear hbn
  generalize v6.heap.size = gd at *
  have Xd := Xd0
  clear Xd0
  obtain ⟨zg, hzg⟩ : ∃ z, Hid (z = ne (decide (x < 0)) x.natAbs (2 ^ k)) := ⟨_, rfl⟩
  refine (zrshr Zx.out k (by have := HK.out; omega) TB.out).mono ?_
  rintro e v7 ⟨⟨s7, p7, m7, rfl, hz⟩, hb7⟩
  replace Xx : Hid _ := Xx.out.below hb7
  replace Xp : Hid _ := Xp.out.below hb7
  replace Xa : Hid _ := Xa.out.below hb7
  replace Xb : Hid _ := Xb.out.below hb7
  replace Xc : Hid _ := Xc.out.below hb7
  replace Xd : Hid _ := Xd.out.below hb7
  replace Zx : Hid _ := Zx.out.below hb7
  replace TB : Hid (Tab v7) := TB.out.below hb7
  replace Zp : Hid _ := Zp.out.below hb7
  replace Za : Hid _ := Za.out.below hb7
  replace Zb : Hid _ := Zb.out.below hb7
  replace Zc : Hid _ := Zc.out.below hb7
  replace Zd : Hid _ := Zd.out.below hb7
  replace hbw := Below.on hbw hb7
  clear hb7
  have hz := hz.cast (z' := zg) (hzg.out.symm)
  have Zg : Hid (ZN v7 s7 p7 m7 m7 (zg)) := hz
  clear hz
  obtain ⟨cx0, cx1, fx0, fx1⟩ := Xx.out
  have hnex := Xx.out.lt
  obtain ⟨cp0, cp1, fp0, fp1⟩ := Xp.out
  have hnep := Xp.out.lt
  go_wp2_with fail
  clear cx0 cx1 fx0 fx1 hnex
  clear cp0 cp1 fp0 fp1 hnep
  have Xg0 : Hid (Box (v7.alloc (.cells #[.bool s7, .slice p7 m7 m7] 33)) v7.heap.size (.bool s7) (.slice p7 m7 m7)) := Box.new v7 _ _ _
  have hbn : Below v7.heap.size v7 (v7.alloc (.cells #[.bool s7, .slice p7 m7 m7] 33)) := below1 v7 _
  generalize v7.alloc (.cells #[.bool s7, .slice p7 m7 m7] 33) = W7 at *
  have HGg : Hid (w.heap.size ≤ v7.heap.size) := hbw.size
  replace Xx : Hid _ := Xx.out.below hbn
  replace Xp : Hid _ := Xp.out.below hbn
  replace Xa : Hid _ := Xa.out.below hbn
  replace Xb : Hid _ := Xb.out.below hbn
  replace Xc : Hid _ := Xc.out.below hbn
  replace Xd : Hid _ := Xd.out.below hbn
  replace Zx : Hid _ := Zx.out.below hbn
  replace TB : Hid (Tab W7) := TB.out.below hbn
  replace Zp : Hid _ := Zp.out.below hbn
  replace Za : Hid _ := Za.out.below hbn
  replace Zb : Hid _ := Zb.out.below hbn
  replace Zc : Hid _ := Zc.out.below hbn
  replace Zd : Hid _ := Zd.out.below hbn
  replace Zg : Hid _ := Zg.out.below hbn
  replace hbw := Below.on hbw hbn
  clear hbn
  generalize v7.heap.size = gg at *
  have Xg := Xg0
  clear Xg0
  refine (zrdiv Zx.out Zp.out HK.out.2.2).mono ?_
  rintro e v8 ⟨⟨s8, p8, m8, rfl, hz⟩, hb8⟩
  replace Xx : Hid _ := Xx.out.below hb8
  replace Xp : Hid _ := Xp.out.below hb8
  replace Xa : Hid _ := Xa.out.below hb8
  replace Xb : Hid _ := Xb.out.below hb8
  replace Xc : Hid _ := Xc.out.below hb8
  replace Xd : Hid _ := Xd.out.below hb8
  replace Xg : Hid _ := Xg.out.below hb8
  replace Zx : Hid _ := Zx.out.below hb8
  replace TB : Hid (Tab v8) := TB.out.below hb8
  replace Zp : Hid _ := Zp.out.below hb8
  replace Za : Hid _ := Za.out.below hb8
  replace Zb : Hid _ := Zb.out.below hb8
  replace Zc : Hid _ := Zc.out.below hb8
  replace Zd : Hid _ := Zd.out.below hb8
  replace Zg : Hid _ := Zg.out.below hb8
  replace hbw := Below.on hbw hb8
  clear hb8
  have hz := hz.cast (z' := zg) (by rw [sh_s, (two_pos k).2]; exact hzg.out.symm)
  have Zh : Hid (ZN v8 s8 p8 m8 m8 (zg)) := hz
  clear hz
  obtain ⟨ca0, ca1, fa0, fa1⟩ := Xa.out
  have hnea := Xa.out.lt
  obtain ⟨cb0, cb1, fb0, fb1⟩ := Xb.out
  have hneb := Xb.out.lt
  go_wp2_with fail
  clear ca0 ca1 fa0 fa1 hnea
  clear cb0 cb1 fb0 fb1 hneb
  have Xh0 : Hid (Box (v8.alloc (.cells #[.bool s8, .slice p8 m8 m8] 33)) v8.heap.size (.bool s8) (.slice p8 m8 m8)) := Box.new v8 _ _ _
  have hbn : Below v8.heap.size v8 (v8.alloc (.cells #[.bool s8, .slice p8 m8 m8] 33)) := below1 v8 _
  generalize v8.alloc (.cells #[.bool s8, .slice p8 m8 m8] 33) = W8 at *
  have HGh : Hid (w.heap.size ≤ v8.heap.size) := hbw.size
  replace Xx : Hid _ := Xx.out.below hbn
  replace Xp : Hid _ := Xp.out.below hbn
  replace Xa : Hid _ := Xa.out.below hbn
  replace Xb : Hid _ := Xb.out.below hbn
  replace Xc : Hid _ := Xc.out.below hbn
  replace Xd : Hid _ := Xd.out.below hbn
  replace Xg : Hid _ := Xg.out.below hbn
  replace Zx : Hid _ := Zx.out.below hbn
  replace TB : Hid (Tab W8) := TB.out.below hbn
  replace Zp : Hid _ := Zp.out.below hbn
  replace Za : Hid _ := Za.out.below hbn
  replace Zb : Hid _ := Zb.out.below hbn
  replace Zc : Hid _ := Zc.out.below hbn
  replace Zd : Hid _ := Zd.out.below hbn
  replace Zg : Hid _ := Zg.out.below hbn
  replace Zh : Hid _ := Zh.out.below hbn
  replace hbw := Below.on hbw hbn
  clear hbn
  generalize v8.heap.size = gh at *
  have Xh := Xh0
  clear Xh0
  refine (tint Za.out Zb.out).mono ?_
  rintro e v20 ⟨rfl, hb20⟩
  rw [decide_eq_true rfl]
  replace Xx : Hid _ := Xx.out.below hb20
  replace Xp : Hid _ := Xp.out.below hb20
  replace Xa : Hid _ := Xa.out.below hb20
  replace Xb : Hid _ := Xb.out.below hb20
  replace Xc : Hid _ := Xc.out.below hb20
  replace Xd : Hid _ := Xd.out.below hb20
  replace Xg : Hid _ := Xg.out.below hb20
  replace Xh : Hid _ := Xh.out.below hb20
  replace Zx : Hid _ := Zx.out.below hb20
  replace TB : Hid (Tab v20) := TB.out.below hb20
  replace Zp : Hid _ := Zp.out.below hb20
  replace Za : Hid _ := Za.out.below hb20
  replace Zb : Hid _ := Zb.out.below hb20
  replace Zc : Hid _ := Zc.out.below hb20
  replace Zd : Hid _ := Zd.out.below hb20
  replace Zg : Hid _ := Zg.out.below hb20
  replace Zh : Hid _ := Zh.out.below hb20
  replace hbw := Below.on hbw hb20
  clear hb20
  obtain ⟨cc0, cc1, fc0, fc1⟩ := Xc.out
  have hnec := Xc.out.lt
  obtain ⟨cd0, cd1, fd0, fd1⟩ := Xd.out
  have hned := Xd.out.lt
  go_wp2_with fail
  clear cc0 cc1 fc0 fc1 hnec
  clear cd0 cd1 fd0 fd1 hned
  refine (tint Zc.out Zd.out).mono ?_
  rintro e v21 ⟨rfl, hb21⟩
  rw [decide_eq_true rfl]
  replace Xx : Hid _ := Xx.out.below hb21
  replace Xp : Hid _ := Xp.out.below hb21
  replace Xa : Hid _ := Xa.out.below hb21
  replace Xb : Hid _ := Xb.out.below hb21
  replace Xc : Hid _ := Xc.out.below hb21
  replace Xd : Hid _ := Xd.out.below hb21
  replace Xg : Hid _ := Xg.out.below hb21
  replace Xh : Hid _ := Xh.out.below hb21
  replace Zx : Hid _ := Zx.out.below hb21
  replace TB : Hid (Tab v21) := TB.out.below hb21
  replace Zp : Hid _ := Zp.out.below hb21
  replace Za : Hid _ := Za.out.below hb21
  replace Zb : Hid _ := Zb.out.below hb21
  replace Zc : Hid _ := Zc.out.below hb21
  replace Zd : Hid _ := Zd.out.below hb21
  replace Zg : Hid _ := Zg.out.below hb21
  replace Zh : Hid _ := Zh.out.below hb21
  replace hbw := Below.on hbw hb21
  clear hb21
  obtain ⟨cg0, cg1, fg0, fg1⟩ := Xg.out
  have hneg := Xg.out.lt
  obtain ⟨ch0, ch1, fh0, fh1⟩ := Xh.out
  have hneh := Xh.out.lt
  go_wp2_with fail
  clear cg0 cg1 fg0 fg1 hneg
  clear ch0 ch1 fh0 fh1 hneh
  refine (tint Zg.out Zh.out).mono ?_
  rintro e v22 ⟨rfl, hb22⟩
  rw [decide_eq_true rfl]
  replace Xx : Hid _ := Xx.out.below hb22
  replace Xp : Hid _ := Xp.out.below hb22
  replace Xa : Hid _ := Xa.out.below hb22
  replace Xb : Hid _ := Xb.out.below hb22
  replace Xc : Hid _ := Xc.out.below hb22
  replace Xd : Hid _ := Xd.out.below hb22
  replace Xg : Hid _ := Xg.out.below hb22
  replace Xh : Hid _ := Xh.out.below hb22
  replace Zx : Hid _ := Zx.out.below hb22
  replace TB : Hid (Tab v22) := TB.out.below hb22
  replace Zp : Hid _ := Zp.out.below hb22
  replace Za : Hid _ := Za.out.below hb22
  replace Zb : Hid _ := Zb.out.below hb22
  replace Zc : Hid _ := Zc.out.below hb22
  replace Zd : Hid _ := Zd.out.below hb22
  replace Zg : Hid _ := Zg.out.below hb22
  replace Zh : Hid _ := Zh.out.below hb22
  replace hbw := Below.on hbw hb22
  clear hb22
  go_wp2_with fail
  go_ret
  exact ⟨rfl, hbw⟩
structure B5q (W : World) (g : Nat) (v0 v1 v2 v3 v4 : Value) : Prop where
  c0 : W.cell? ⟨g, 0, none⟩ = some v0
  c1 : W.cell? ⟨g, 1, none⟩ = some v1
  c2 : W.cell? ⟨g, 2, none⟩ = some v2
  c3 : W.cell? ⟨g, 3, none⟩ = some v3
  c4 : W.cell? ⟨g, 4, none⟩ = some v4
  f0 : W.frozen? ⟨g, 0, none⟩ = false
  f1 : W.frozen? ⟨g, 1, none⟩ = false
  f2 : W.frozen? ⟨g, 2, none⟩ = false
  f3 : W.frozen? ⟨g, 3, none⟩ = false
  f4 : W.frozen? ⟨g, 4, none⟩ = false
theorem B5q.below {W W' : World} {g : Nat} {v0 v1 v2 v3 v4 : Value} (h : B5q W g v0 v1 v2 v3 v4) (hb : Below W.heap.size W W') : B5q W' g v0 v1 v2 v3 v4 := by
  have hl : g < W.heap.size := World.block_lt_of_cell? W _ h.c0
  exact ⟨(hb.cell (p := ⟨g, 0, none⟩) hl).trans h.c0, (hb.cell (p := ⟨g, 1, none⟩) hl).trans h.c1, (hb.cell (p := ⟨g, 2, none⟩) hl).trans h.c2, (hb.cell (p := ⟨g, 3, none⟩) hl).trans h.c3, (hb.cell (p := ⟨g, 4, none⟩) hl).trans h.c4,
    (hb.frozen (p := ⟨g, 0, none⟩) hl).trans h.f0, (hb.frozen (p := ⟨g, 1, none⟩) hl).trans h.f1, (hb.frozen (p := ⟨g, 2, none⟩) hl).trans h.f2, (hb.frozen (p := ⟨g, 3, none⟩) hl).trans h.f3, (hb.frozen (p := ⟨g, 4, none⟩) hl).trans h.f4⟩
theorem B5q.new (w : World) (ty : TypeId) (v0 v1 v2 v3 v4 : Value) : B5q (w.alloc (.cells #[v0, v1, v2, v3, v4] ty)) w.heap.size v0 v1 v2 v3 v4 :=
  ⟨by go_simp, by go_simp, by go_simp, by go_simp, by go_simp, by go_simp, by go_simp, by go_simp, by go_simp, by go_simp⟩
theorem B5q.lt {W : World} {g : Nat} {v0 v1 v2 v3 v4 : Value} (h : B5q W g v0 v1 v2 v3 v4) : g < W.heap.size := World.block_lt_of_cell? W _ h.c0
theorem nc_lit (w : World) (x : Nat) (hx : x < B64) (h0 : x ≠ 0) : NC (w.alloc (.cells #[U x] 28)) (some ⟨w.heap.size, 0, none⟩) 1 1 x := ⟨[x], lit_at w _ [x] 1 rfl rfl (dig1 hx) (by decide), nf_one hx h0, by decide⟩
theorem NC.zn {w : World} {p : Option Addr} {m c a : Nat} (h : NC w p m c a) (t : Bool) : ZN w (t && decide (0 < m)) p m c (iv (t && decide (0 < m)) a) := by
  obtain ⟨xs, hX⟩ := id h
  refine ZN.of hX fun ht => ?_
  have hz := h.zero
  simp at ht
  omega
theorem quotients_ok {s t : Bool} {p q : Option Addr} {m c n d i : Nat} {x y : Int} {w : World} (h : ZN w s p m c x) (k : ZN w t q n d y) (hi : i = 250) (hx9 : x.natAbs < B64 ^ i) (hy9 : y.natAbs < B64 ^ i) :
    Calls Tryz.prog 10 #[ZV s p m c, ZV t q n d] w fun en w' => en = .returned (.bool true) ∧ Below w.heap.size w w' := by
  by_cases hy : y = 0
  · exact quotients_z h k hy
  · exact quotients_n h k hy hi hx9 hy9
theorem iv_na (s : Bool) (a : Nat) : (iv s a).natAbs = a := by cases s <;> simp [iv]
theorem wholeDivision_w {pa pb : Option Addr} {na nb ca cb : Nat} {xa xb : List Nat} (ga9 gb9 : Bool) (nn : Int) {w : World} (ha : At w pa na ca xa) (hb : At w pb nb cb xb) (hnn : -9223372036854775808 ≤ nn ∧ nn ≤ 9223372036854775807) (hT : Tab w) (hP : TbP w) :
    Calls Tryz.prog 3 #[.agg #[.slice pa na ca, .slice pb nb cb, .bool ga9, .bool gb9, .int .i64 nn]] w fun en w' => en = .returned (.bool true) ∧ Below w.heap.size w w' := by
  have AA : Hid (At w pa na ca xa) := ha
  have AB : Hid (At w pb nb cb xb) := hb
  have HQ : Hid (Tab w ∧ TbP w ∧ -9223372036854775808 ≤ nn ∧ nn ≤ 9223372036854775807) := ⟨hT, hP, hnn⟩
  obtain ⟨i9, hi9⟩ : ∃ i : Nat, Hid (i = 250) := ⟨_, rfl⟩
  clear ha hb hnn hT hP
  go_enter Tryz.func3, Tryz.ntmps3
  go_wp2_with fail
  have hs0 : (w.alloc (.cells #[.slice pa na ca, .slice pb nb cb, .bool ga9, .bool gb9, .int .i64 nn] 24)).heap.size = w.heap.size + 1 := by simp
  have hs1 : ((w.alloc (.cells #[.slice pa na ca, .slice pb nb cb, .bool ga9, .bool gb9, .int .i64 nn] 24)).alloc (.cells #[.int .u64 7] 28)).heap.size = w.heap.size + 1 + 1 := by simp
  have hn7 := (nc_lit (w.alloc (.cells #[.slice pa na ca, .slice pb nb cb, .bool ga9, .bool gb9, .int .i64 nn] 24)) 7 (by decide) (by decide)).below (below1 ((w.alloc (.cells #[.slice pa na ca, .slice pb nb cb, .bool ga9, .bool gb9, .int .i64 nn] 24)).alloc (.cells #[.int .u64 7] 28)) (.cells #[.int .u64 2] 28))
  have hn2 := nc_lit ((w.alloc (.cells #[.slice pa na ca, .slice pb nb cb, .bool ga9, .bool gb9, .int .i64 nn] 24)).alloc (.cells #[.int .u64 7] 28)) 2 (by decide) (by decide)
  rw [hs0] at hn7
  rw [hs1] at hn2
  have hx0 := (B5q.new w 24 (.slice pa na ca) (.slice pb nb cb) (.bool ga9) (.bool gb9) (.int .i64 nn)).below (Below.on (below1 (w.alloc (.cells #[.slice pa na ca, .slice pb nb cb, .bool ga9, .bool gb9, .int .i64 nn] 24)) (.cells #[.int .u64 7] 28)) (below1 ((w.alloc (.cells #[.slice pa na ca, .slice pb nb cb, .bool ga9, .bool gb9, .int .i64 nn] 24)).alloc (.cells #[.int .u64 7] 28)) (.cells #[.int .u64 2] 28)))
  have hb0 : Below w.heap.size w (((w.alloc (.cells #[.slice pa na ca, .slice pb nb cb, .bool ga9, .bool gb9, .int .i64 nn] 24)).alloc (.cells #[.int .u64 7] 28)).alloc (.cells #[.int .u64 2] 28)) := Below.on (Below.on (below1 w _) (below1 (w.alloc (.cells #[.slice pa na ca, .slice pb nb cb, .bool ga9, .bool gb9, .int .i64 nn] 24)) _)) (below1 ((w.alloc (.cells #[.slice pa na ca, .slice pb nb cb, .bool ga9, .bool gb9, .int .i64 nn] 24)).alloc (.cells #[.int .u64 7] 28)) _)
  obtain ⟨V0, hV0⟩ : ∃ V, V = (((w.alloc (.cells #[.slice pa na ca, .slice pb nb cb, .bool ga9, .bool gb9, .int .i64 nn] 24)).alloc (.cells #[.int .u64 7] 28)).alloc (.cells #[.int .u64 2] 28)) := ⟨_, rfl⟩
  have N7 : Hid (NC V0 (some ⟨w.heap.size + 1, 0, none⟩) 1 1 7) := by rw [hV0]; exact hn7
  have N2 : Hid (NC V0 (some ⟨w.heap.size + 1 + 1, 0, none⟩) 1 1 2) := by rw [hV0]; exact hn2
  have Xn : Hid (B5q V0 w.heap.size (.slice pa na ca) (.slice pb nb cb) (.bool ga9) (.bool gb9) (.int .i64 nn)) := by rw [hV0]; exact hx0
  rw [← hV0] at hb0
  rw [← hV0]
  clear hV0 hn7 hn2 hx0 hs0 hs1
  obtain ⟨gn, hgn⟩ : ∃ g, g = w.heap.size := ⟨_, rfl⟩
  have HGn : Hid (w.heap.size ≤ gn) := by rw [hgn]; exact Nat.le_refl _
  rw [← hgn] at Xn N7 N2
  rw [← hgn]
  clear hgn
  have hbw : Below w.heap.size w w := Below.refl _ _
  replace AA : Hid _ := AA.out.below hb0
  replace AB : Hid _ := AB.out.below hb0
  replace hbw := Below.on hbw hb0
  clear hb0
  refine (nc_quo N7.out N2.out (by decide)).mono ?_
  rintro e v1 ⟨p1, m1, p1r, m1r, rfl, hR, hR2, hb1⟩
  have N1 : Hid (NC v1 p1 m1 m1 3) := hR
  have N1r : Hid (NC v1 p1r m1r m1r 1) := hR2
  clear hR hR2
  replace Xn : Hid _ := Xn.out.below hb1
  replace AA : Hid _ := AA.out.below hb1
  replace AB : Hid _ := AB.out.below hb1
  replace N7 : Hid (NC v1 (some ⟨gn + 1, 0, none⟩) 1 1 7) := N7.out.below hb1
  replace N2 : Hid (NC v1 (some ⟨gn + 1 + 1, 0, none⟩) 1 1 2) := N2.out.below hb1
  replace hbw := Below.on hbw hb1
  clear hb1
  clear N7
  clear N2
  go_wp2_with fail
  refine (nc_same (N1.out.below (below1 v1 _)) (nc_lit v1 3 (by decide) (by decide))).mono ?_
  rintro e v2 ⟨rfl, hb20⟩
  have hb2 := Below.on (below1 v1 (.cells #[.int .u64 3] 28)) hb20
  clear hb20
  replace Xn : Hid _ := Xn.out.below hb2
  replace AA : Hid _ := AA.out.below hb2
  replace AB : Hid _ := AB.out.below hb2
  replace N1 : Hid (NC v2 p1 m1 m1 3) := N1.out.below hb2
  replace N1r : Hid (NC v2 p1r m1r m1r 1) := N1r.out.below hb2
  replace hbw := Below.on hbw hb2
  clear hb2
  clear N1
  go_wp2_with fail
  refine (nc_same (N1r.out.below (below1 v2 _)) (nc_lit v2 1 (by decide) (by decide))).mono ?_
  rintro e v3 ⟨rfl, hb30⟩
  have hb3 := Below.on (below1 v2 (.cells #[.int .u64 1] 28)) hb30
  clear hb30
  replace Xn : Hid _ := Xn.out.below hb3
  replace AA : Hid _ := AA.out.below hb3
  replace AB : Hid _ := AB.out.below hb3
  replace N1r : Hid (NC v3 p1r m1r m1r 1) := N1r.out.below hb3
  replace hbw := Below.on hbw hb3
  clear hb3
  clear N1r
  obtain ⟨cn0, cn1, cn2, cn3, cn4, fn0, fn1, fn2, fn3, fn4⟩ := Xn.out
  have hnen : gn < v3.heap.size := World.block_lt_of_cell? v3 _ cn0
  go_wp2_with fail
  clear cn0 cn1 cn2 cn3 cn4 fn0 fn1 fn2 fn3 fn4 hnen
  refine (natural_any AA.out i9 hi9.out).mono ?_
  rintro e v4 ⟨p4, k4, N4, us4, a, rfl, hN, hl, hb4⟩
  have Na : Hid (NC v4 p4 k4 N4 a) := ⟨_, hN⟩
  have HLa : Hid (a < B64 ^ i9) := hl
  clear hN hl
  replace Xn : Hid _ := Xn.out.below hb4
  replace AA : Hid _ := AA.out.below hb4
  replace AB : Hid _ := AB.out.below hb4
  replace hbw := Below.on hbw hb4
  clear hb4
  obtain ⟨cn0, cn1, cn2, cn3, cn4, fn0, fn1, fn2, fn3, fn4⟩ := Xn.out
  have hnen : gn < v4.heap.size := World.block_lt_of_cell? v4 _ cn0
  go_wp2_with fail
  clear cn0 cn1 cn2 cn3 cn4 fn0 fn1 fn2 fn3 fn4 hnen
  refine (natural_any AB.out i9 hi9.out).mono ?_
  rintro e v5 ⟨p5, k5, N5, us5, b, rfl, hN, hl, hb5⟩
  have Nb : Hid (NC v5 p5 k5 N5 b) := ⟨_, hN⟩
  have HLb : Hid (b < B64 ^ i9) := hl
  clear hN hl
  replace Xn : Hid _ := Xn.out.below hb5
  replace AA : Hid _ := AA.out.below hb5
  replace AB : Hid _ := AB.out.below hb5
  replace Na : Hid (NC v5 p4 k4 N4 a) := Na.out.below hb5
  replace hbw := Below.on hbw hb5
  clear hb5
  obtain ⟨cn0, cn1, cn2, cn3, cn4, fn0, fn1, fn2, fn3, fn4⟩ := Xn.out
  have hnen : gn < v5.heap.size := World.block_lt_of_cell? v5 _ cn0
  go_wp2_with fail
  clear cn0 cn1 cn2 cn3 cn4 fn0 fn1 fn2 fn3 fn4 hnen
  refine (divides_ok Na.out Nb.out hi9.out HLa.out HLb.out).mono ?_
  rintro e v6 ⟨rfl, hb6⟩
  replace Xn : Hid _ := Xn.out.below hb6
  replace AA : Hid _ := AA.out.below hb6
  replace AB : Hid _ := AB.out.below hb6
  replace Na : Hid (NC v6 p4 k4 N4 a) := Na.out.below hb6
  replace Nb : Hid (NC v6 p5 k5 N5 b) := Nb.out.below hb6
  replace hbw := Below.on hbw hb6
  clear hb6
  go_wp2_with fail
  refine (roots_ok Na.out hi9.out HLa.out).mono ?_
  rintro e v7 ⟨rfl, hb7⟩
  replace Xn : Hid _ := Xn.out.below hb7
  replace AA : Hid _ := AA.out.below hb7
  replace AB : Hid _ := AB.out.below hb7
  replace Na : Hid (NC v7 p4 k4 N4 a) := Na.out.below hb7
  replace Nb : Hid (NC v7 p5 k5 N5 b) := Nb.out.below hb7
  replace hbw := Below.on hbw hb7
  clear hb7
  go_wp2_with fail
  refine (digits_t Na.out (HQ.out.2.1.below hbw)).mono ?_
  rintro e v8 ⟨rfl, hb8⟩
  replace Xn : Hid _ := Xn.out.below hb8
  replace AA : Hid _ := AA.out.below hb8
  replace AB : Hid _ := AB.out.below hb8
  replace Na : Hid (NC v8 p4 k4 N4 a) := Na.out.below hb8
  replace Nb : Hid (NC v8 p5 k5 N5 b) := Nb.out.below hb8
  replace hbw := Below.on hbw hb8
  clear hb8
  obtain ⟨ea, hea⟩ : ∃ b, Hid (b = decide (0 < k4)) := ⟨_, rfl⟩
  obtain ⟨eb, heb⟩ : ∃ b, Hid (b = decide (0 < k5)) := ⟨_, rfl⟩
  have qa1 : decide ((0 : Int) < (k4 : Int)) = ea := by rw [hea.out]; exact decide_eq_decide.2 (by omega)
  have qa2 : decide (0 < k4) = ea := hea.out.symm
  have qb1 : decide ((0 : Int) < (k5 : Int)) = eb := by rw [heb.out]; exact decide_eq_decide.2 (by omega)
  have qb2 : decide (0 < k5) = eb := heb.out.symm
  cases ga9 <;> cases gb9
  · obtain ⟨cn0, cn1, cn2, cn3, cn4, fn0, fn1, fn2, fn3, fn4⟩ := Xn.out
    have hnen : gn < v8.heap.size := World.block_lt_of_cell? v8 _ cn0
    go_wp2_with fail
    clear cn0 cn1 cn2 cn3 cn4 fn0 fn1 fn2 fn3 fn4 hnen
    clear qa1 qa2 qb1 qb2
    rw [show v8.heap.size + 1 = (v8.alloc (.cells #[.bool false, .slice p4 k4 N4] 33)).heap.size from by simp]
    have Xx0 : Hid (Box (v8.alloc (.cells #[.bool false, .slice p4 k4 N4] 33)) v8.heap.size (.bool false) (.slice p4 k4 N4)) := Box.new v8 _ _ _
    have hbn : Below v8.heap.size v8 (v8.alloc (.cells #[.bool false, .slice p4 k4 N4] 33)) := below1 v8 _
    generalize v8.alloc (.cells #[.bool false, .slice p4 k4 N4] 33) = Wx at *
    have HGx : Hid (w.heap.size ≤ v8.heap.size) := hbw.size
    replace Xn : Hid _ := Xn.out.below hbn
    replace AA : Hid _ := AA.out.below hbn
    replace AB : Hid _ := AB.out.below hbn
    replace Na : Hid (NC Wx p4 k4 N4 a) := Na.out.below hbn
    replace Nb : Hid (NC Wx p5 k5 N5 b) := Nb.out.below hbn
    replace hbw := Below.on hbw hbn
    clear hbn
    generalize v8.heap.size = gx at *
    have Xx := Xx0
    clear Xx0
    have Xy0 : Hid (Box (Wx.alloc (.cells #[.bool false, .slice p5 k5 N5] 33)) Wx.heap.size (.bool false) (.slice p5 k5 N5)) := Box.new Wx _ _ _
    have hbn : Below Wx.heap.size Wx (Wx.alloc (.cells #[.bool false, .slice p5 k5 N5] 33)) := below1 Wx _
    generalize Wx.alloc (.cells #[.bool false, .slice p5 k5 N5] 33) = Wy at *
    have HGy : Hid (w.heap.size ≤ Wx.heap.size) := hbw.size
    replace Xn : Hid _ := Xn.out.below hbn
    replace Xx : Hid _ := Xx.out.below hbn
    replace AA : Hid _ := AA.out.below hbn
    replace AB : Hid _ := AB.out.below hbn
    replace Na : Hid (NC Wy p4 k4 N4 a) := Na.out.below hbn
    replace Nb : Hid (NC Wy p5 k5 N5 b) := Nb.out.below hbn
    replace hbw := Below.on hbw hbn
    clear hbn
    generalize Wx.heap.size = gy at *
    have Xy := Xy0
    clear Xy0
    have Zx : Hid (ZN Wy false p4 k4 N4 (iv false a)) := by have h := Na.out.zn false; rw [Bool.false_and] at h; exact h
    have Zy : Hid (ZN Wy false p5 k5 N5 (iv false b)) := by have h := Nb.out.zn false; rw [Bool.false_and] at h; exact h
    clear Na
    clear Nb
    clear AA
    clear AB
    obtain ⟨Wr, hWr⟩ : ∃ W1, W1 = Wy.drew := ⟨_, rfl⟩
    have hbd : Below Wy.heap.size Wy Wr := by rw [hWr]; exact bDrew1 (Below.refl _ _)
    replace Xn : Hid _ := Xn.out.below hbd
    replace Xx : Hid _ := Xx.out.below hbd
    replace Xy : Hid _ := Xy.out.below hbd
    replace Zx : Hid _ := Zx.out.below hbd
    replace Zy : Hid _ := Zy.out.below hbd
    replace hbw := Below.on hbw hbd
    clear hbd
    have HJ : Hid ((fun W' : World => W'.cell? ⟨gx, 0, none⟩ = some (.bool false) ∧ W'.cell? ⟨gx, 1, none⟩ = some (.slice p4 k4 N4) ∧ W'.cell? ⟨gy, 0, none⟩ = some (.bool false) ∧ W'.cell? ⟨gy, 1, none⟩ = some (.slice p5 k5 N5) ∧ W'.cell? ⟨gn, 4, none⟩ = some (.int .i64 nn)) Wr) := ⟨Xx.out.c0, Xx.out.c1, Xy.out.c0, Xy.out.c1, Xn.out.c4⟩
    refine wp_region_J (fun W' => W'.cell? ⟨gx, 0, none⟩ = some (.bool false) ∧ W'.cell? ⟨gx, 1, none⟩ = some (.slice p4 k4 N4) ∧ W'.cell? ⟨gy, 0, none⟩ = some (.bool false) ∧ W'.cell? ⟨gy, 1, none⟩ = some (.slice p5 k5 N5) ∧ W'.cell? ⟨gn, 4, none⟩ = some (.int .i64 nn)) (by kernel_rfl) ?_
    rw [← hWr]
    clear hWr
    refine wpJ_tq 0 rfl HJ.out ?_
    refine wpJ_tq 1 rfl HJ.out ?_
    refine wpJ_on 2 rfl fun KJ hK => ?_
    go_simp
    refine (quotients_ok Zx.out Zy.out hi9.out (by rw [iv_na]; exact HLa.out) (by rw [iv_na]; exact HLb.out)).mono ?_
    rintro e v10 ⟨rfl, hb10⟩
    replace Xn : Hid _ := Xn.out.below hb10
    replace Xx : Hid _ := Xx.out.below hb10
    replace Xy : Hid _ := Xy.out.below hb10
    replace Zx : Hid _ := Zx.out.below hb10
    replace Zy : Hid _ := Zy.out.below hb10
    replace hbw := Below.on hbw hb10
    clear hb10
    clear HJ
    have HJ : Hid ((fun W' : World => W'.cell? ⟨gx, 0, none⟩ = some (.bool false) ∧ W'.cell? ⟨gx, 1, none⟩ = some (.slice p4 k4 N4) ∧ W'.cell? ⟨gy, 0, none⟩ = some (.bool false) ∧ W'.cell? ⟨gy, 1, none⟩ = some (.slice p5 k5 N5) ∧ W'.cell? ⟨gn, 4, none⟩ = some (.int .i64 nn)) v10) := ⟨Xx.out.c0, Xx.out.c1, Xy.out.c0, Xy.out.c1, Xn.out.c4⟩
    refine hK _ _ HJ.out ?_
    clear hK
    refine wpJ_tq 3 rfl HJ.out ?_
    refine wpJ_tq 4 rfl HJ.out ?_
    refine wpJ_tq 5 rfl HJ.out ?_
    refine wpJ_tq 6 rfl HJ.out ?_
    refine wpJ_on 7 rfl fun KJ hK => ?_
    go_simp
    refine (among_any nn 20000 _ ⟨HQ.out.2.2.1, HQ.out.2.2.2⟩ (by decide)).mono ?_
    rintro e v11 ⟨r, rfl, hr, hw⟩
    obtain rfl := hw.symm
    clear hw
    have HR : Hid (r < 20000) := by show _ < _; omega
    clear hr
    refine hK _ _ ⟨Xx.out.c0, Xx.out.c1, Xy.out.c0, Xy.out.c1, Xn.out.c4⟩ ?_
    clear hK
    refine wpJ_on 8 rfl fun KJ hK => ?_
    go_simp
    refine (shifts_ok Zx.out r HR.out (HQ.out.1.below hbw)).mono ?_
    rintro e v12 ⟨rfl, hb12⟩
    replace Xn : Hid _ := Xn.out.below hb12
    replace Xx : Hid _ := Xx.out.below hb12
    replace Xy : Hid _ := Xy.out.below hb12
    replace Zx : Hid _ := Zx.out.below hb12
    replace Zy : Hid _ := Zy.out.below hb12
    replace hbw := Below.on hbw hb12
    clear hb12
    clear HJ
    have HJ : Hid ((fun W' : World => W'.cell? ⟨gx, 0, none⟩ = some (.bool false) ∧ W'.cell? ⟨gx, 1, none⟩ = some (.slice p4 k4 N4) ∧ W'.cell? ⟨gy, 0, none⟩ = some (.bool false) ∧ W'.cell? ⟨gy, 1, none⟩ = some (.slice p5 k5 N5) ∧ W'.cell? ⟨gn, 4, none⟩ = some (.int .i64 nn)) v12) := ⟨Xx.out.c0, Xx.out.c1, Xy.out.c0, Xy.out.c1, Xn.out.c4⟩
    refine hK _ _ HJ.out ?_
    clear hK
    refine wpJ_tq 9 rfl HJ.out ?_
    refine wpJ_tq 10 rfl HJ.out ?_
    refine wpJ_done (by kernel_rfl) ?_ _
    clear HJ
    go_wp2_with fail
    go_ret
    exact ⟨rfl, hbw⟩
  · obtain ⟨cn0, cn1, cn2, cn3, cn4, fn0, fn1, fn2, fn3, fn4⟩ := Xn.out
    have hnen : gn < v8.heap.size := World.block_lt_of_cell? v8 _ cn0
    go_wp2_with fail
    clear cn0 cn1 cn2 cn3 cn4 fn0 fn1 fn2 fn3 fn4 hnen
    clear qa1 qa2 qb1 qb2
    rw [show v8.heap.size + 1 = (v8.alloc (.cells #[.bool false, .slice p4 k4 N4] 33)).heap.size from by simp]
    have Xx0 : Hid (Box (v8.alloc (.cells #[.bool false, .slice p4 k4 N4] 33)) v8.heap.size (.bool false) (.slice p4 k4 N4)) := Box.new v8 _ _ _
    have hbn : Below v8.heap.size v8 (v8.alloc (.cells #[.bool false, .slice p4 k4 N4] 33)) := below1 v8 _
    generalize v8.alloc (.cells #[.bool false, .slice p4 k4 N4] 33) = Wx at *
    have HGx : Hid (w.heap.size ≤ v8.heap.size) := hbw.size
    replace Xn : Hid _ := Xn.out.below hbn
    replace AA : Hid _ := AA.out.below hbn
    replace AB : Hid _ := AB.out.below hbn
    replace Na : Hid (NC Wx p4 k4 N4 a) := Na.out.below hbn
    replace Nb : Hid (NC Wx p5 k5 N5 b) := Nb.out.below hbn
    replace hbw := Below.on hbw hbn
    clear hbn
    generalize v8.heap.size = gx at *
    have Xx := Xx0
    clear Xx0
    have Xy0 : Hid (Box (Wx.alloc (.cells #[.bool eb, .slice p5 k5 N5] 33)) Wx.heap.size (.bool eb) (.slice p5 k5 N5)) := Box.new Wx _ _ _
    have hbn : Below Wx.heap.size Wx (Wx.alloc (.cells #[.bool eb, .slice p5 k5 N5] 33)) := below1 Wx _
    generalize Wx.alloc (.cells #[.bool eb, .slice p5 k5 N5] 33) = Wy at *
    have HGy : Hid (w.heap.size ≤ Wx.heap.size) := hbw.size
    replace Xn : Hid _ := Xn.out.below hbn
    replace Xx : Hid _ := Xx.out.below hbn
    replace AA : Hid _ := AA.out.below hbn
    replace AB : Hid _ := AB.out.below hbn
    replace Na : Hid (NC Wy p4 k4 N4 a) := Na.out.below hbn
    replace Nb : Hid (NC Wy p5 k5 N5 b) := Nb.out.below hbn
    replace hbw := Below.on hbw hbn
    clear hbn
    generalize Wx.heap.size = gy at *
    have Xy := Xy0
    clear Xy0
    have Zx : Hid (ZN Wy false p4 k4 N4 (iv false a)) := by have h := Na.out.zn false; rw [Bool.false_and] at h; exact h
    have Zy : Hid (ZN Wy eb p5 k5 N5 (iv eb b)) := by have h := Nb.out.zn true; rw [Bool.true_and, ← heb.out] at h; exact h
    clear Na
    clear Nb
    clear AA
    clear AB
    obtain ⟨Wr, hWr⟩ : ∃ W1, W1 = Wy.drew := ⟨_, rfl⟩
    have hbd : Below Wy.heap.size Wy Wr := by rw [hWr]; exact bDrew1 (Below.refl _ _)
    replace Xn : Hid _ := Xn.out.below hbd
    replace Xx : Hid _ := Xx.out.below hbd
    replace Xy : Hid _ := Xy.out.below hbd
    replace Zx : Hid _ := Zx.out.below hbd
    replace Zy : Hid _ := Zy.out.below hbd
    replace hbw := Below.on hbw hbd
    clear hbd
    have HJ : Hid ((fun W' : World => W'.cell? ⟨gx, 0, none⟩ = some (.bool false) ∧ W'.cell? ⟨gx, 1, none⟩ = some (.slice p4 k4 N4) ∧ W'.cell? ⟨gy, 0, none⟩ = some (.bool eb) ∧ W'.cell? ⟨gy, 1, none⟩ = some (.slice p5 k5 N5) ∧ W'.cell? ⟨gn, 4, none⟩ = some (.int .i64 nn)) Wr) := ⟨Xx.out.c0, Xx.out.c1, Xy.out.c0, Xy.out.c1, Xn.out.c4⟩
    refine wp_region_J (fun W' => W'.cell? ⟨gx, 0, none⟩ = some (.bool false) ∧ W'.cell? ⟨gx, 1, none⟩ = some (.slice p4 k4 N4) ∧ W'.cell? ⟨gy, 0, none⟩ = some (.bool eb) ∧ W'.cell? ⟨gy, 1, none⟩ = some (.slice p5 k5 N5) ∧ W'.cell? ⟨gn, 4, none⟩ = some (.int .i64 nn)) (by kernel_rfl) ?_
    rw [← hWr]
    clear hWr
    refine wpJ_tq 0 rfl HJ.out ?_
    refine wpJ_tq 1 rfl HJ.out ?_
    refine wpJ_on 2 rfl fun KJ hK => ?_
    go_simp
    refine (quotients_ok Zx.out Zy.out hi9.out (by rw [iv_na]; exact HLa.out) (by rw [iv_na]; exact HLb.out)).mono ?_
    rintro e v10 ⟨rfl, hb10⟩
    replace Xn : Hid _ := Xn.out.below hb10
    replace Xx : Hid _ := Xx.out.below hb10
    replace Xy : Hid _ := Xy.out.below hb10
    replace Zx : Hid _ := Zx.out.below hb10
    replace Zy : Hid _ := Zy.out.below hb10
    replace hbw := Below.on hbw hb10
    clear hb10
    clear HJ
    have HJ : Hid ((fun W' : World => W'.cell? ⟨gx, 0, none⟩ = some (.bool false) ∧ W'.cell? ⟨gx, 1, none⟩ = some (.slice p4 k4 N4) ∧ W'.cell? ⟨gy, 0, none⟩ = some (.bool eb) ∧ W'.cell? ⟨gy, 1, none⟩ = some (.slice p5 k5 N5) ∧ W'.cell? ⟨gn, 4, none⟩ = some (.int .i64 nn)) v10) := ⟨Xx.out.c0, Xx.out.c1, Xy.out.c0, Xy.out.c1, Xn.out.c4⟩
    refine hK _ _ HJ.out ?_
    clear hK
    refine wpJ_tq 3 rfl HJ.out ?_
    refine wpJ_tq 4 rfl HJ.out ?_
    refine wpJ_tq 5 rfl HJ.out ?_
    refine wpJ_tq 6 rfl HJ.out ?_
    refine wpJ_on 7 rfl fun KJ hK => ?_
    go_simp
    refine (among_any nn 20000 _ ⟨HQ.out.2.2.1, HQ.out.2.2.2⟩ (by decide)).mono ?_
    rintro e v11 ⟨r, rfl, hr, hw⟩
    obtain rfl := hw.symm
    clear hw
    have HR : Hid (r < 20000) := by show _ < _; omega
    clear hr
    refine hK _ _ ⟨Xx.out.c0, Xx.out.c1, Xy.out.c0, Xy.out.c1, Xn.out.c4⟩ ?_
    clear hK
    refine wpJ_on 8 rfl fun KJ hK => ?_
    go_simp
    refine (shifts_ok Zx.out r HR.out (HQ.out.1.below hbw)).mono ?_
    rintro e v12 ⟨rfl, hb12⟩
    replace Xn : Hid _ := Xn.out.below hb12
    replace Xx : Hid _ := Xx.out.below hb12
    replace Xy : Hid _ := Xy.out.below hb12
    replace Zx : Hid _ := Zx.out.below hb12
    replace Zy : Hid _ := Zy.out.below hb12
    replace hbw := Below.on hbw hb12
    clear hb12
    clear HJ
    have HJ : Hid ((fun W' : World => W'.cell? ⟨gx, 0, none⟩ = some (.bool false) ∧ W'.cell? ⟨gx, 1, none⟩ = some (.slice p4 k4 N4) ∧ W'.cell? ⟨gy, 0, none⟩ = some (.bool eb) ∧ W'.cell? ⟨gy, 1, none⟩ = some (.slice p5 k5 N5) ∧ W'.cell? ⟨gn, 4, none⟩ = some (.int .i64 nn)) v12) := ⟨Xx.out.c0, Xx.out.c1, Xy.out.c0, Xy.out.c1, Xn.out.c4⟩
    refine hK _ _ HJ.out ?_
    clear hK
    refine wpJ_tq 9 rfl HJ.out ?_
    refine wpJ_tq 10 rfl HJ.out ?_
    refine wpJ_done (by kernel_rfl) ?_ _
    clear HJ
    go_wp2_with fail
    go_ret
    exact ⟨rfl, hbw⟩
  · obtain ⟨cn0, cn1, cn2, cn3, cn4, fn0, fn1, fn2, fn3, fn4⟩ := Xn.out
    have hnen : gn < v8.heap.size := World.block_lt_of_cell? v8 _ cn0
    go_wp2_with fail
    clear cn0 cn1 cn2 cn3 cn4 fn0 fn1 fn2 fn3 fn4 hnen
    clear qa1 qa2 qb1 qb2
    rw [show v8.heap.size + 1 = (v8.alloc (.cells #[.bool ea, .slice p4 k4 N4] 33)).heap.size from by simp]
    have Xx0 : Hid (Box (v8.alloc (.cells #[.bool ea, .slice p4 k4 N4] 33)) v8.heap.size (.bool ea) (.slice p4 k4 N4)) := Box.new v8 _ _ _
    have hbn : Below v8.heap.size v8 (v8.alloc (.cells #[.bool ea, .slice p4 k4 N4] 33)) := below1 v8 _
    generalize v8.alloc (.cells #[.bool ea, .slice p4 k4 N4] 33) = Wx at *
    have HGx : Hid (w.heap.size ≤ v8.heap.size) := hbw.size
    replace Xn : Hid _ := Xn.out.below hbn
    replace AA : Hid _ := AA.out.below hbn
    replace AB : Hid _ := AB.out.below hbn
    replace Na : Hid (NC Wx p4 k4 N4 a) := Na.out.below hbn
    replace Nb : Hid (NC Wx p5 k5 N5 b) := Nb.out.below hbn
    replace hbw := Below.on hbw hbn
    clear hbn
    generalize v8.heap.size = gx at *
    have Xx := Xx0
    clear Xx0
    have Xy0 : Hid (Box (Wx.alloc (.cells #[.bool false, .slice p5 k5 N5] 33)) Wx.heap.size (.bool false) (.slice p5 k5 N5)) := Box.new Wx _ _ _
    have hbn : Below Wx.heap.size Wx (Wx.alloc (.cells #[.bool false, .slice p5 k5 N5] 33)) := below1 Wx _
    generalize Wx.alloc (.cells #[.bool false, .slice p5 k5 N5] 33) = Wy at *
    have HGy : Hid (w.heap.size ≤ Wx.heap.size) := hbw.size
    replace Xn : Hid _ := Xn.out.below hbn
    replace Xx : Hid _ := Xx.out.below hbn
    replace AA : Hid _ := AA.out.below hbn
    replace AB : Hid _ := AB.out.below hbn
    replace Na : Hid (NC Wy p4 k4 N4 a) := Na.out.below hbn
    replace Nb : Hid (NC Wy p5 k5 N5 b) := Nb.out.below hbn
    replace hbw := Below.on hbw hbn
    clear hbn
    generalize Wx.heap.size = gy at *
    have Xy := Xy0
    clear Xy0
    have Zx : Hid (ZN Wy ea p4 k4 N4 (iv ea a)) := by have h := Na.out.zn true; rw [Bool.true_and, ← hea.out] at h; exact h
    have Zy : Hid (ZN Wy false p5 k5 N5 (iv false b)) := by have h := Nb.out.zn false; rw [Bool.false_and] at h; exact h
    clear Na
    clear Nb
    clear AA
    clear AB
    obtain ⟨Wr, hWr⟩ : ∃ W1, W1 = Wy.drew := ⟨_, rfl⟩
    have hbd : Below Wy.heap.size Wy Wr := by rw [hWr]; exact bDrew1 (Below.refl _ _)
    replace Xn : Hid _ := Xn.out.below hbd
    replace Xx : Hid _ := Xx.out.below hbd
    replace Xy : Hid _ := Xy.out.below hbd
    replace Zx : Hid _ := Zx.out.below hbd
    replace Zy : Hid _ := Zy.out.below hbd
    replace hbw := Below.on hbw hbd
    clear hbd
    have HJ : Hid ((fun W' : World => W'.cell? ⟨gx, 0, none⟩ = some (.bool ea) ∧ W'.cell? ⟨gx, 1, none⟩ = some (.slice p4 k4 N4) ∧ W'.cell? ⟨gy, 0, none⟩ = some (.bool false) ∧ W'.cell? ⟨gy, 1, none⟩ = some (.slice p5 k5 N5) ∧ W'.cell? ⟨gn, 4, none⟩ = some (.int .i64 nn)) Wr) := ⟨Xx.out.c0, Xx.out.c1, Xy.out.c0, Xy.out.c1, Xn.out.c4⟩
    refine wp_region_J (fun W' => W'.cell? ⟨gx, 0, none⟩ = some (.bool ea) ∧ W'.cell? ⟨gx, 1, none⟩ = some (.slice p4 k4 N4) ∧ W'.cell? ⟨gy, 0, none⟩ = some (.bool false) ∧ W'.cell? ⟨gy, 1, none⟩ = some (.slice p5 k5 N5) ∧ W'.cell? ⟨gn, 4, none⟩ = some (.int .i64 nn)) (by kernel_rfl) ?_
    rw [← hWr]
    clear hWr
    refine wpJ_tq 0 rfl HJ.out ?_
    refine wpJ_tq 1 rfl HJ.out ?_
    refine wpJ_on 2 rfl fun KJ hK => ?_
    go_simp
    refine (quotients_ok Zx.out Zy.out hi9.out (by rw [iv_na]; exact HLa.out) (by rw [iv_na]; exact HLb.out)).mono ?_
    rintro e v10 ⟨rfl, hb10⟩
    replace Xn : Hid _ := Xn.out.below hb10
    replace Xx : Hid _ := Xx.out.below hb10
    replace Xy : Hid _ := Xy.out.below hb10
    replace Zx : Hid _ := Zx.out.below hb10
    replace Zy : Hid _ := Zy.out.below hb10
    replace hbw := Below.on hbw hb10
    clear hb10
    clear HJ
    have HJ : Hid ((fun W' : World => W'.cell? ⟨gx, 0, none⟩ = some (.bool ea) ∧ W'.cell? ⟨gx, 1, none⟩ = some (.slice p4 k4 N4) ∧ W'.cell? ⟨gy, 0, none⟩ = some (.bool false) ∧ W'.cell? ⟨gy, 1, none⟩ = some (.slice p5 k5 N5) ∧ W'.cell? ⟨gn, 4, none⟩ = some (.int .i64 nn)) v10) := ⟨Xx.out.c0, Xx.out.c1, Xy.out.c0, Xy.out.c1, Xn.out.c4⟩
    refine hK _ _ HJ.out ?_
    clear hK
    refine wpJ_tq 3 rfl HJ.out ?_
    refine wpJ_tq 4 rfl HJ.out ?_
    refine wpJ_tq 5 rfl HJ.out ?_
    refine wpJ_tq 6 rfl HJ.out ?_
    refine wpJ_on 7 rfl fun KJ hK => ?_
    go_simp
    refine (among_any nn 20000 _ ⟨HQ.out.2.2.1, HQ.out.2.2.2⟩ (by decide)).mono ?_
    rintro e v11 ⟨r, rfl, hr, hw⟩
    obtain rfl := hw.symm
    clear hw
    have HR : Hid (r < 20000) := by show _ < _; omega
    clear hr
    refine hK _ _ ⟨Xx.out.c0, Xx.out.c1, Xy.out.c0, Xy.out.c1, Xn.out.c4⟩ ?_
    clear hK
    refine wpJ_on 8 rfl fun KJ hK => ?_
    go_simp
    refine (shifts_ok Zx.out r HR.out (HQ.out.1.below hbw)).mono ?_
    rintro e v12 ⟨rfl, hb12⟩
    replace Xn : Hid _ := Xn.out.below hb12
    replace Xx : Hid _ := Xx.out.below hb12
    replace Xy : Hid _ := Xy.out.below hb12
    replace Zx : Hid _ := Zx.out.below hb12
    replace Zy : Hid _ := Zy.out.below hb12
    replace hbw := Below.on hbw hb12
    clear hb12
    clear HJ
    have HJ : Hid ((fun W' : World => W'.cell? ⟨gx, 0, none⟩ = some (.bool ea) ∧ W'.cell? ⟨gx, 1, none⟩ = some (.slice p4 k4 N4) ∧ W'.cell? ⟨gy, 0, none⟩ = some (.bool false) ∧ W'.cell? ⟨gy, 1, none⟩ = some (.slice p5 k5 N5) ∧ W'.cell? ⟨gn, 4, none⟩ = some (.int .i64 nn)) v12) := ⟨Xx.out.c0, Xx.out.c1, Xy.out.c0, Xy.out.c1, Xn.out.c4⟩
    refine hK _ _ HJ.out ?_
    clear hK
    refine wpJ_tq 9 rfl HJ.out ?_
    refine wpJ_tq 10 rfl HJ.out ?_
    refine wpJ_done (by kernel_rfl) ?_ _
    clear HJ
    go_wp2_with fail
    go_ret
    exact ⟨rfl, hbw⟩
  · obtain ⟨cn0, cn1, cn2, cn3, cn4, fn0, fn1, fn2, fn3, fn4⟩ := Xn.out
    have hnen : gn < v8.heap.size := World.block_lt_of_cell? v8 _ cn0
    go_wp2_with fail
    clear cn0 cn1 cn2 cn3 cn4 fn0 fn1 fn2 fn3 fn4 hnen
    clear qa1 qa2 qb1 qb2
    rw [show v8.heap.size + 1 = (v8.alloc (.cells #[.bool ea, .slice p4 k4 N4] 33)).heap.size from by simp]
    have Xx0 : Hid (Box (v8.alloc (.cells #[.bool ea, .slice p4 k4 N4] 33)) v8.heap.size (.bool ea) (.slice p4 k4 N4)) := Box.new v8 _ _ _
    have hbn : Below v8.heap.size v8 (v8.alloc (.cells #[.bool ea, .slice p4 k4 N4] 33)) := below1 v8 _
    generalize v8.alloc (.cells #[.bool ea, .slice p4 k4 N4] 33) = Wx at *
    have HGx : Hid (w.heap.size ≤ v8.heap.size) := hbw.size
    replace Xn : Hid _ := Xn.out.below hbn
    replace AA : Hid _ := AA.out.below hbn
    replace AB : Hid _ := AB.out.below hbn
    replace Na : Hid (NC Wx p4 k4 N4 a) := Na.out.below hbn
    replace Nb : Hid (NC Wx p5 k5 N5 b) := Nb.out.below hbn
    replace hbw := Below.on hbw hbn
    clear hbn
    generalize v8.heap.size = gx at *
    have Xx := Xx0
    clear Xx0
    have Xy0 : Hid (Box (Wx.alloc (.cells #[.bool eb, .slice p5 k5 N5] 33)) Wx.heap.size (.bool eb) (.slice p5 k5 N5)) := Box.new Wx _ _ _
    have hbn : Below Wx.heap.size Wx (Wx.alloc (.cells #[.bool eb, .slice p5 k5 N5] 33)) := below1 Wx _
    generalize Wx.alloc (.cells #[.bool eb, .slice p5 k5 N5] 33) = Wy at *
    have HGy : Hid (w.heap.size ≤ Wx.heap.size) := hbw.size
    replace Xn : Hid _ := Xn.out.below hbn
    replace Xx : Hid _ := Xx.out.below hbn
    replace AA : Hid _ := AA.out.below hbn
    replace AB : Hid _ := AB.out.below hbn
    replace Na : Hid (NC Wy p4 k4 N4 a) := Na.out.below hbn
    replace Nb : Hid (NC Wy p5 k5 N5 b) := Nb.out.below hbn
    replace hbw := Below.on hbw hbn
    clear hbn
    generalize Wx.heap.size = gy at *
    have Xy := Xy0
    clear Xy0
    have Zx : Hid (ZN Wy ea p4 k4 N4 (iv ea a)) := by have h := Na.out.zn true; rw [Bool.true_and, ← hea.out] at h; exact h
    have Zy : Hid (ZN Wy eb p5 k5 N5 (iv eb b)) := by have h := Nb.out.zn true; rw [Bool.true_and, ← heb.out] at h; exact h
    clear Na
    clear Nb
    clear AA
    clear AB
    obtain ⟨Wr, hWr⟩ : ∃ W1, W1 = Wy.drew := ⟨_, rfl⟩
    have hbd : Below Wy.heap.size Wy Wr := by rw [hWr]; exact bDrew1 (Below.refl _ _)
    replace Xn : Hid _ := Xn.out.below hbd
    replace Xx : Hid _ := Xx.out.below hbd
    replace Xy : Hid _ := Xy.out.below hbd
    replace Zx : Hid _ := Zx.out.below hbd
    replace Zy : Hid _ := Zy.out.below hbd
    replace hbw := Below.on hbw hbd
    clear hbd
    have HJ : Hid ((fun W' : World => W'.cell? ⟨gx, 0, none⟩ = some (.bool ea) ∧ W'.cell? ⟨gx, 1, none⟩ = some (.slice p4 k4 N4) ∧ W'.cell? ⟨gy, 0, none⟩ = some (.bool eb) ∧ W'.cell? ⟨gy, 1, none⟩ = some (.slice p5 k5 N5) ∧ W'.cell? ⟨gn, 4, none⟩ = some (.int .i64 nn)) Wr) := ⟨Xx.out.c0, Xx.out.c1, Xy.out.c0, Xy.out.c1, Xn.out.c4⟩
    refine wp_region_J (fun W' => W'.cell? ⟨gx, 0, none⟩ = some (.bool ea) ∧ W'.cell? ⟨gx, 1, none⟩ = some (.slice p4 k4 N4) ∧ W'.cell? ⟨gy, 0, none⟩ = some (.bool eb) ∧ W'.cell? ⟨gy, 1, none⟩ = some (.slice p5 k5 N5) ∧ W'.cell? ⟨gn, 4, none⟩ = some (.int .i64 nn)) (by kernel_rfl) ?_
    rw [← hWr]
    clear hWr
    refine wpJ_tq 0 rfl HJ.out ?_
    refine wpJ_tq 1 rfl HJ.out ?_
    refine wpJ_on 2 rfl fun KJ hK => ?_
    go_simp
    refine (quotients_ok Zx.out Zy.out hi9.out (by rw [iv_na]; exact HLa.out) (by rw [iv_na]; exact HLb.out)).mono ?_
    rintro e v10 ⟨rfl, hb10⟩
    replace Xn : Hid _ := Xn.out.below hb10
    replace Xx : Hid _ := Xx.out.below hb10
    replace Xy : Hid _ := Xy.out.below hb10
    replace Zx : Hid _ := Zx.out.below hb10
    replace Zy : Hid _ := Zy.out.below hb10
    replace hbw := Below.on hbw hb10
    clear hb10
    clear HJ
    have HJ : Hid ((fun W' : World => W'.cell? ⟨gx, 0, none⟩ = some (.bool ea) ∧ W'.cell? ⟨gx, 1, none⟩ = some (.slice p4 k4 N4) ∧ W'.cell? ⟨gy, 0, none⟩ = some (.bool eb) ∧ W'.cell? ⟨gy, 1, none⟩ = some (.slice p5 k5 N5) ∧ W'.cell? ⟨gn, 4, none⟩ = some (.int .i64 nn)) v10) := ⟨Xx.out.c0, Xx.out.c1, Xy.out.c0, Xy.out.c1, Xn.out.c4⟩
    refine hK _ _ HJ.out ?_
    clear hK
    refine wpJ_tq 3 rfl HJ.out ?_
    refine wpJ_tq 4 rfl HJ.out ?_
    refine wpJ_tq 5 rfl HJ.out ?_
    refine wpJ_tq 6 rfl HJ.out ?_
    refine wpJ_on 7 rfl fun KJ hK => ?_
    go_simp
    refine (among_any nn 20000 _ ⟨HQ.out.2.2.1, HQ.out.2.2.2⟩ (by decide)).mono ?_
    rintro e v11 ⟨r, rfl, hr, hw⟩
    obtain rfl := hw.symm
    clear hw
    have HR : Hid (r < 20000) := by show _ < _; omega
    clear hr
    refine hK _ _ ⟨Xx.out.c0, Xx.out.c1, Xy.out.c0, Xy.out.c1, Xn.out.c4⟩ ?_
    clear hK
    refine wpJ_on 8 rfl fun KJ hK => ?_
    go_simp
    refine (shifts_ok Zx.out r HR.out (HQ.out.1.below hbw)).mono ?_
    rintro e v12 ⟨rfl, hb12⟩
    replace Xn : Hid _ := Xn.out.below hb12
    replace Xx : Hid _ := Xx.out.below hb12
    replace Xy : Hid _ := Xy.out.below hb12
    replace Zx : Hid _ := Zx.out.below hb12
    replace Zy : Hid _ := Zy.out.below hb12
    replace hbw := Below.on hbw hb12
    clear hb12
    clear HJ
    have HJ : Hid ((fun W' : World => W'.cell? ⟨gx, 0, none⟩ = some (.bool ea) ∧ W'.cell? ⟨gx, 1, none⟩ = some (.slice p4 k4 N4) ∧ W'.cell? ⟨gy, 0, none⟩ = some (.bool eb) ∧ W'.cell? ⟨gy, 1, none⟩ = some (.slice p5 k5 N5) ∧ W'.cell? ⟨gn, 4, none⟩ = some (.int .i64 nn)) v12) := ⟨Xx.out.c0, Xx.out.c1, Xy.out.c0, Xy.out.c1, Xn.out.c4⟩
    refine hK _ _ HJ.out ?_
    clear hK
    refine wpJ_tq 9 rfl HJ.out ?_
    refine wpJ_tq 10 rfl HJ.out ?_
    refine wpJ_done (by kernel_rfl) ?_ _
    clear HJ
    go_wp2_with fail
    go_ret
    exact ⟨rfl, hbw⟩
end Go.Proofs.YtmekccpbcjpddaaGreatDoor
