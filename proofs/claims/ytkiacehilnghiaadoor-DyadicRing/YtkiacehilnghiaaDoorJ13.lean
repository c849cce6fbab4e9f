import Derived.Test.YtkiacehilnghiaaDoorJ12
import Derived.Test.YtkiacehilnghiaaDoorJ11
import Derived.Test.YtkiacehilnghiaaDoorJ10
import Derived.Deep.LoopGhost
import Derived.Deep.RegionWith
namespace Go.Proofs.YtkiacehilnghiaaDoor
open Go.RowKit Go.Shelf

theorem dv_cancel {x y : Int} (h : x * ((2 ^ 4194304 : Nat) : Int) = y * ((2 ^ 4194304 : Nat) : Int)) : x = y := Int.eq_of_mul_eq_mul_right (pow_pos_int _) h
set_option maxRecDepth 20000 in
set_option maxHeartbeats 8000000 in
theorem products5 {pa pb pc pd : Option Addr} {ma ca mb cb mc cc md cd : Nat} {w : World} {za ea zb eb zc ec zd ed : Int} {sa sb sc sd : Bool} (ha : DN w sa pa ma ca ea za) (hb : DN w sb pb mb cb eb zb) (hc : DN w sc pc mc cc ec zc) (hd : DN w sd pd md cd ed zd) (ba : DB za ea 32000 20000) (bb : DB zb eb 32000 20000) (bc : DB zc ec 32000 20000) (bd : DB zd ed 72001 92001) (hv : dv zd ed = dv zb eb + dv zc ec) (hT : Tab w) :
    Calls Tryd.prog 10 #[DV sa pa ma ca ea, DV sb pb mb cb eb, DV sc pc mc cc ec, DV sd pd md cd ed] w fun en w' => en = .returned (.bool true) ∧ Below w.heap.size w w' := by
  have Da : Hid (DN w sa pa ma ca ea za) := ha
  have Ba : Hid (DB za ea 32000 20000) := ba
  have Db : Hid (DN w sb pb mb cb eb zb) := hb
  have Bb : Hid (DB zb eb 32000 20000) := bb
  have Dc : Hid (DN w sc pc mc cc ec zc) := hc
  have Bc : Hid (DB zc ec 32000 20000) := bc
  have Dd : Hid (DN w sd pd md cd ed zd) := hd
  have Bd : Hid (DB zd ed 72001 92001) := bd
  have VD : Hid (dv zd ed = dv zb eb + dv zc ec) := hv
  have TB : Hid (Tab w) := hT
  clear ha hb hc hd ba bb bc bd hv hT
  go_enter Tryd.func10, Tryd.ntmps10
  go_wp2_with fail
  obtain ⟨W0, hW0⟩ : ∃ W0, W0 = ((((w.alloc (.cells #[.bool sa, .slice pa ma ca, .int .i64 ea] 26)).alloc (.cells #[.bool sb, .slice pb mb cb, .int .i64 eb] 26)).alloc (.cells #[.bool sc, .slice pc mc cc, .int .i64 ec] 26)).alloc (.cells #[.bool sd, .slice pd md cd, .int .i64 ed] 26)) := ⟨_, rfl⟩
  have Xa : Hid (B3q W0 (w.heap.size) (.bool sa) (.slice pa ma ca) (.int .i64 ea)) := by rw [hW0]; exact ⟨by go_simp, by go_simp, by go_simp, by go_simp, by go_simp, by go_simp⟩
  have Xb : Hid (B3q W0 (w.heap.size + 1) (.bool sb) (.slice pb mb cb) (.int .i64 eb)) := by rw [hW0]; exact ⟨by go_simp, by go_simp, by go_simp, by go_simp, by go_simp, by go_simp⟩
  have Xc : Hid (B3q W0 (w.heap.size + 1 + 1) (.bool sc) (.slice pc mc cc) (.int .i64 ec)) := by rw [hW0]; exact ⟨by go_simp, by go_simp, by go_simp, by go_simp, by go_simp, by go_simp⟩
  have Xd : Hid (B3q W0 (w.heap.size + 1 + 1 + 1) (.bool sd) (.slice pd md cd) (.int .i64 ed)) := by rw [hW0]; exact ⟨by go_simp, by go_simp, by go_simp, by go_simp, by go_simp, by go_simp⟩
  have hb0 : Below w.heap.size w W0 := by rw [hW0]; exact below4 w _ _ _ _
  rw [← hW0]
  clear hW0
  have hbw : Below w.heap.size w w := Below.refl _ _
  obtain ⟨gd, hgd⟩ : ∃ g, g = w.heap.size + 1 + 1 + 1 := ⟨_, rfl⟩
  have HGd : Hid (w.heap.size ≤ gd) := by rw [hgd]; show _ ≤ _; omega
  rw [← hgd] at Xd
  try rw [← hgd]
  obtain ⟨gc, hgc⟩ : ∃ g, g = w.heap.size + 1 + 1 := ⟨_, rfl⟩
  have HGc : Hid (w.heap.size ≤ gc) := by rw [hgc]; show _ ≤ _; omega
  rw [← hgc] at Xc
  try rw [← hgc]
  obtain ⟨gb, hgb⟩ : ∃ g, g = w.heap.size + 1 := ⟨_, rfl⟩
  have HGb : Hid (w.heap.size ≤ gb) := by rw [hgb]; show _ ≤ _; omega
  rw [← hgb] at Xb
  try rw [← hgb]
  obtain ⟨ga, hga⟩ : ∃ g, g = w.heap.size := ⟨_, rfl⟩
  have HGa : Hid (w.heap.size ≤ ga) := by rw [hga]; show _ ≤ _; omega
  rw [← hga] at Xa
  try rw [← hga]
  have HGD : Hid (ga ≠ gb ∧ ga ≠ gc ∧ ga ≠ gd ∧ gb ≠ ga ∧ gb ≠ gc ∧ gb ≠ gd ∧ gc ≠ ga ∧ gc ≠ gb ∧ gc ≠ gd ∧ gd ≠ ga ∧ gd ≠ gb ∧ gd ≠ gc) := by rw [hga, hgb, hgc, hgd]; exact ⟨by omega, by omega, by omega, by omega, by omega, by omega, by omega, by omega, by omega, by omega, by omega, by omega⟩
  clear hga hgb hgc hgd
  replace Da : Hid _ := Da.out.below hb0
  replace Db : Hid _ := Db.out.below hb0
  replace Dc : Hid _ := Dc.out.below hb0
  replace Dd : Hid _ := Dd.out.below hb0
  replace hbw := Below.on hbw hb0
  clear hb0
  refine (dmul_b Da.out Db.out Ba.out Bb.out (by decide) (by decide) (TB.out.below hbw)).mono ?_
  rintro e2 v1 ⟨v, z1, e1, rfl, hv, hdb, hdv, hb1⟩
  obtain ⟨s1, p1, m1, rfl, hd⟩ := hv.dn hdb.fm
  clear hv
  replace Xa : Hid _ := Xa.out.below hb1
  replace Xb : Hid _ := Xb.out.below hb1
  replace Xc : Hid _ := Xc.out.below hb1
  replace Xd : Hid _ := Xd.out.below hb1
  replace Da : Hid _ := Da.out.below hb1
  replace Db : Hid _ := Db.out.below hb1
  replace Dc : Hid _ := Dc.out.below hb1
  replace Dd : Hid _ := Dd.out.below hb1
  replace hbw := Below.on hbw hb1
  clear hb1
  have Df : Hid (DN v1 s1 p1 m1 m1 e1 z1) := hd
  have Bf : Hid (DB z1 e1 64000 104000) := hdb
  have Vf : Hid (dv z1 e1 = dv (za * zb) (ea + eb)) := hdv
  clear hd hdb hdv
  obtain ⟨ca0, ca1, ca2, fa0, fa1, fa2⟩ := Xa.out
  have hnea : ga < v1.heap.size := World.block_lt_of_cell? v1 _ ca0
  obtain ⟨cb0, cb1, cb2, fb0, fb1, fb2⟩ := Xb.out
  have hneb : gb < v1.heap.size := World.block_lt_of_cell? v1 _ cb0
  go_wp2_with fail
  clear ca0 ca1 ca2 fa0 fa1 fa2 hnea
  clear cb0 cb1 cb2 fb0 fb1 fb2 hneb
  have Xf0 : Hid (B3q (v1.alloc (.cells #[.bool s1, .slice p1 m1 m1, .int .i64 e1] 26)) v1.heap.size (.bool s1) (.slice p1 m1 m1) (.int .i64 e1)) := B3q.new v1 _ _ _ _
  have hbn : Below v1.heap.size v1 (v1.alloc (.cells #[.bool s1, .slice p1 m1 m1, .int .i64 e1] 26)) := below1 v1 _
  generalize v1.alloc (.cells #[.bool s1, .slice p1 m1 m1, .int .i64 e1] 26) = Wf at *
  have HGf : Hid (w.heap.size ≤ v1.heap.size) := hbw.size
  replace Xa : Hid _ := Xa.out.below hbn
  replace Xb : Hid _ := Xb.out.below hbn
  replace Xc : Hid _ := Xc.out.below hbn
  replace Xd : Hid _ := Xd.out.below hbn
  replace Da : Hid _ := Da.out.below hbn
  replace Db : Hid _ := Db.out.below hbn
  replace Dc : Hid _ := Dc.out.below hbn
  replace Dd : Hid _ := Dd.out.below hbn
  replace Df : Hid _ := Df.out.below hbn
  replace hbw := Below.on hbw hbn
  clear hbn
  generalize v1.heap.size = gf at *
  have Xf := Xf0
  clear Xf0
  refine (dmul_b Db.out Da.out Bb.out Ba.out (by decide) (by decide) (TB.out.below hbw)).mono ?_
  rintro e2 v2 ⟨v, z2, e2, rfl, hv, hdb, hdv, hb2⟩
  obtain ⟨s2, p2, m2, rfl, hd⟩ := hv.dn hdb.fm
  clear hv
  replace Xa : Hid _ := Xa.out.below hb2
  replace Xb : Hid _ := Xb.out.below hb2
  replace Xc : Hid _ := Xc.out.below hb2
  replace Xd : Hid _ := Xd.out.below hb2
  replace Xf : Hid _ := Xf.out.below hb2
  replace Da : Hid _ := Da.out.below hb2
  replace Db : Hid _ := Db.out.below hb2
  replace Dc : Hid _ := Dc.out.below hb2
  replace Dd : Hid _ := Dd.out.below hb2
  replace Df : Hid _ := Df.out.below hb2
  replace hbw := Below.on hbw hb2
  clear hb2
  have Dg : Hid (DN v2 s2 p2 m2 m2 e2 z2) := hd
  have Bg : Hid (DB z2 e2 64000 104000) := hdb
  have Vg : Hid (dv z2 e2 = dv (zb * za) (eb + ea)) := hdv
  clear hd hdb hdv
  have h9 : z1 = z2 ∧ e1 = e2 := dv_inj Bf.out.fm Bg.out.fm (by rw [Vf.out, Vg.out, Int.mul_comm, Int.add_comm])
  obtain ⟨rfl, rfl⟩ := h9
  obtain ⟨ca0, ca1, ca2, fa0, fa1, fa2⟩ := Xa.out
  have hnea : ga < v2.heap.size := World.block_lt_of_cell? v2 _ ca0
  obtain ⟨cc0, cc1, cc2, fc0, fc1, fc2⟩ := Xc.out
  have hnec : gc < v2.heap.size := World.block_lt_of_cell? v2 _ cc0
  go_wp2_with fail
  clear ca0 ca1 ca2 fa0 fa1 fa2 hnea
  clear cc0 cc1 cc2 fc0 fc1 fc2 hnec
  have Xg0 : Hid (B3q (v2.alloc (.cells #[.bool s2, .slice p2 m2 m2, .int .i64 e1] 26)) v2.heap.size (.bool s2) (.slice p2 m2 m2) (.int .i64 e1)) := B3q.new v2 _ _ _ _
  have hbn : Below v2.heap.size v2 (v2.alloc (.cells #[.bool s2, .slice p2 m2 m2, .int .i64 e1] 26)) := below1 v2 _
  generalize v2.alloc (.cells #[.bool s2, .slice p2 m2 m2, .int .i64 e1] 26) = Wg at *
  have HGg : Hid (w.heap.size ≤ v2.heap.size) := hbw.size
  replace Xa : Hid _ := Xa.out.below hbn
  replace Xb : Hid _ := Xb.out.below hbn
  replace Xc : Hid _ := Xc.out.below hbn
  replace Xd : Hid _ := Xd.out.below hbn
  replace Xf : Hid _ := Xf.out.below hbn
  replace Da : Hid _ := Da.out.below hbn
  replace Db : Hid _ := Db.out.below hbn
  replace Dc : Hid _ := Dc.out.below hbn
  replace Dd : Hid _ := Dd.out.below hbn
  replace Df : Hid _ := Df.out.below hbn
  replace Dg : Hid _ := Dg.out.below hbn
  replace hbw := Below.on hbw hbn
  clear hbn
  generalize v2.heap.size = gg at *
  have Xg := Xg0
  clear Xg0
  refine (dmul_b Da.out Dc.out Ba.out Bc.out (by decide) (by decide) (TB.out.below hbw)).mono ?_
  rintro e2 v3 ⟨v, z3, e3, rfl, hv, hdb, hdv, hb3⟩
  obtain ⟨s3, p3, m3, rfl, hd⟩ := hv.dn hdb.fm
  clear hv
  replace Xa : Hid _ := Xa.out.below hb3
  replace Xb : Hid _ := Xb.out.below hb3
  replace Xc : Hid _ := Xc.out.below hb3
  replace Xd : Hid _ := Xd.out.below hb3
  replace Xf : Hid _ := Xf.out.below hb3
  replace Xg : Hid _ := Xg.out.below hb3
  replace Da : Hid _ := Da.out.below hb3
  replace Db : Hid _ := Db.out.below hb3
  replace Dc : Hid _ := Dc.out.below hb3
  replace Dd : Hid _ := Dd.out.below hb3
  replace Df : Hid _ := Df.out.below hb3
  replace Dg : Hid _ := Dg.out.below hb3
  replace hbw := Below.on hbw hb3
  clear hb3
  have Dh : Hid (DN v3 s3 p3 m3 m3 e3 z3) := hd
  have Bh : Hid (DB z3 e3 64000 104000) := hdb
  have Vh : Hid (dv z3 e3 = dv (za * zc) (ea + ec)) := hdv
  clear hd hdb hdv
  obtain ⟨cf0, cf1, cf2, ff0, ff1, ff2⟩ := Xf.out
  have hnef : gf < v3.heap.size := World.block_lt_of_cell? v3 _ cf0
  obtain ⟨cg0, cg1, cg2, fg0, fg1, fg2⟩ := Xg.out
  have hneg : gg < v3.heap.size := World.block_lt_of_cell? v3 _ cg0
  go_wp2_with fail
  clear cf0 cf1 cf2 ff0 ff1 ff2 hnef
  clear cg0 cg1 cg2 fg0 fg1 fg2 hneg
  have Xh0 : Hid (B3q (v3.alloc (.cells #[.bool s3, .slice p3 m3 m3, .int .i64 e3] 26)) v3.heap.size (.bool s3) (.slice p3 m3 m3) (.int .i64 e3)) := B3q.new v3 _ _ _ _
  have hbn : Below v3.heap.size v3 (v3.alloc (.cells #[.bool s3, .slice p3 m3 m3, .int .i64 e3] 26)) := below1 v3 _
  generalize v3.alloc (.cells #[.bool s3, .slice p3 m3 m3, .int .i64 e3] 26) = Wh at *
  have HGh : Hid (w.heap.size ≤ v3.heap.size) := hbw.size
  replace Xa : Hid _ := Xa.out.below hbn
  replace Xb : Hid _ := Xb.out.below hbn
  replace Xc : Hid _ := Xc.out.below hbn
  replace Xd : Hid _ := Xd.out.below hbn
  replace Xf : Hid _ := Xf.out.below hbn
  replace Xg : Hid _ := Xg.out.below hbn
  replace Da : Hid _ := Da.out.below hbn
  replace Db : Hid _ := Db.out.below hbn
  replace Dc : Hid _ := Dc.out.below hbn
  replace Dd : Hid _ := Dd.out.below hbn
  replace Df : Hid _ := Df.out.below hbn
  replace Dg : Hid _ := Dg.out.below hbn
  replace Dh : Hid _ := Dh.out.below hbn
  replace hbw := Below.on hbw hbn
  clear hbn
  generalize v3.heap.size = gh at *
  have Xh := Xh0
  clear Xh0
  refine (same5 Df.out Dg.out).mono ?_
  rintro e v10 ⟨rfl, hb10⟩
  replace Xa : Hid _ := Xa.out.below hb10
  replace Xb : Hid _ := Xb.out.below hb10
  replace Xc : Hid _ := Xc.out.below hb10
  replace Xd : Hid _ := Xd.out.below hb10
  replace Xf : Hid _ := Xf.out.below hb10
  replace Xg : Hid _ := Xg.out.below hb10
  replace Xh : Hid _ := Xh.out.below hb10
  replace Da : Hid _ := Da.out.below hb10
  replace Db : Hid _ := Db.out.below hb10
  replace Dc : Hid _ := Dc.out.below hb10
  replace Dd : Hid _ := Dd.out.below hb10
  replace Df : Hid _ := Df.out.below hb10
  replace Dg : Hid _ := Dg.out.below hb10
  replace Dh : Hid _ := Dh.out.below hb10
  replace hbw := Below.on hbw hb10
  clear hb10
  clear Xg
  clear Dg
  obtain ⟨ca0, ca1, ca2, fa0, fa1, fa2⟩ := Xa.out
  have hnea : ga < v10.heap.size := World.block_lt_of_cell? v10 _ ca0
  obtain ⟨cd0, cd1, cd2, fd0, fd1, fd2⟩ := Xd.out
  have hned : gd < v10.heap.size := World.block_lt_of_cell? v10 _ cd0
  go_wp2_with fail
  clear ca0 ca1 ca2 fa0 fa1 fa2 hnea
  clear cd0 cd1 cd2 fd0 fd1 fd2 hned
  refine (dmul_b Da.out Dd.out Ba.out Bd.out (by decide) (by decide) (TB.out.below hbw)).mono ?_
  rintro e2 v4 ⟨v, z4, e4, rfl, hv, hdb, hdv, hb4⟩
  obtain ⟨s4, p4, m4, rfl, hd⟩ := hv.dn hdb.fm
  clear hv
  replace Xa : Hid _ := Xa.out.below hb4
  replace Xb : Hid _ := Xb.out.below hb4
  replace Xc : Hid _ := Xc.out.below hb4
  replace Xd : Hid _ := Xd.out.below hb4
  replace Xf : Hid _ := Xf.out.below hb4
  replace Xh : Hid _ := Xh.out.below hb4
  replace Da : Hid _ := Da.out.below hb4
  replace Db : Hid _ := Db.out.below hb4
  replace Dc : Hid _ := Dc.out.below hb4
  replace Dd : Hid _ := Dd.out.below hb4
  replace Df : Hid _ := Df.out.below hb4
  replace Dh : Hid _ := Dh.out.below hb4
  replace hbw := Below.on hbw hb4
  clear hb4
  have Dl : Hid (DN v4 s4 p4 m4 m4 e4 z4) := hd
  have Bl : Hid (DB z4 e4 104001 216002) := hdb
  have Vl : Hid (dv z4 e4 = dv (za * zd) (ea + ed)) := hdv
  clear hd hdb hdv
  obtain ⟨cf0, cf1, cf2, ff0, ff1, ff2⟩ := Xf.out
  have hnef : gf < v4.heap.size := World.block_lt_of_cell? v4 _ cf0
  obtain ⟨ch0, ch1, ch2, fh0, fh1, fh2⟩ := Xh.out
  have hneh : gh < v4.heap.size := World.block_lt_of_cell? v4 _ ch0
  go_wp2_with fail
  clear cf0 cf1 cf2 ff0 ff1 ff2 hnef
  clear ch0 ch1 ch2 fh0 fh1 fh2 hneh
  have Xl0 : Hid (B3q (v4.alloc (.cells #[.bool s4, .slice p4 m4 m4, .int .i64 e4] 26)) v4.heap.size (.bool s4) (.slice p4 m4 m4) (.int .i64 e4)) := B3q.new v4 _ _ _ _
  have hbn : Below v4.heap.size v4 (v4.alloc (.cells #[.bool s4, .slice p4 m4 m4, .int .i64 e4] 26)) := below1 v4 _
  generalize v4.alloc (.cells #[.bool s4, .slice p4 m4 m4, .int .i64 e4] 26) = Wl at *
  have HGl : Hid (w.heap.size ≤ v4.heap.size) := hbw.size
  replace Xa : Hid _ := Xa.out.below hbn
  replace Xb : Hid _ := Xb.out.below hbn
  replace Xc : Hid _ := Xc.out.below hbn
  replace Xd : Hid _ := Xd.out.below hbn
  replace Xf : Hid _ := Xf.out.below hbn
  replace Xh : Hid _ := Xh.out.below hbn
  replace Da : Hid _ := Da.out.below hbn
  replace Db : Hid _ := Db.out.below hbn
  replace Dc : Hid _ := Dc.out.below hbn
  replace Dd : Hid _ := Dd.out.below hbn
  replace Df : Hid _ := Df.out.below hbn
  replace Dh : Hid _ := Dh.out.below hbn
  replace Dl : Hid _ := Dl.out.below hbn
  replace hbw := Below.on hbw hbn
  clear hbn
  generalize v4.heap.size = gl at *
  have Xl := Xl0
  clear Xl0
  refine (dadd_b Df.out Dh.out Bf.out Bh.out (by decide) (TB.out.below hbw)).mono ?_
  rintro e2 v5 ⟨v, z5, e5, rfl, hv, hdb, hdv, hb5⟩
  obtain ⟨s5, p5, m5, rfl, hd⟩ := hv.dn hdb.fm
  clear hv
  replace Xa : Hid _ := Xa.out.below hb5
  replace Xb : Hid _ := Xb.out.below hb5
  replace Xc : Hid _ := Xc.out.below hb5
  replace Xd : Hid _ := Xd.out.below hb5
  replace Xf : Hid _ := Xf.out.below hb5
  replace Xh : Hid _ := Xh.out.below hb5
  replace Xl : Hid _ := Xl.out.below hb5
  replace Da : Hid _ := Da.out.below hb5
  replace Db : Hid _ := Db.out.below hb5
  replace Dc : Hid _ := Dc.out.below hb5
  replace Dd : Hid _ := Dd.out.below hb5
  replace Df : Hid _ := Df.out.below hb5
  replace Dh : Hid _ := Dh.out.below hb5
  replace Dl : Hid _ := Dl.out.below hb5
  replace hbw := Below.on hbw hb5
  clear hb5
  have Dr : Hid (DN v5 s5 p5 m5 m5 e5 z5) := hd
  have Br : Hid (DB z5 e5 272001 376001) := hdb
  have Vr : Hid (dv z5 e5 = dv z1 e1 + dv z3 e3) := hdv
  clear hd hdb hdv
  have HE4 : dv z4 e4 = dv z5 e5 := by
    refine dv_cancel ?_
    rw [Vl.out, dv_mul (by have := Ba.out.lo; omega) (by have := Bd.out.lo; omega), VD.out, Vr.out, Int.mul_add, Int.add_mul, Vf.out, Vh.out, dv_mul (by have := Ba.out.lo; omega) (by have := Bb.out.lo; omega), dv_mul (by have := Ba.out.lo; omega) (by have := Bc.out.lo; omega)]
  have h9 : z4 = z5 ∧ e4 = e5 := dv_inj Bl.out.fm Br.out.fm (HE4)
  obtain ⟨rfl, rfl⟩ := h9
  obtain ⟨cl0, cl1, cl2, fl0, fl1, fl2⟩ := Xl.out
  have hnel : gl < v5.heap.size := World.block_lt_of_cell? v5 _ cl0
  go_wp2_with fail
  clear cl0 cl1 cl2 fl0 fl1 fl2 hnel
  have Xr0 : Hid (B3q (v5.alloc (.cells #[.bool s5, .slice p5 m5 m5, .int .i64 e4] 26)) v5.heap.size (.bool s5) (.slice p5 m5 m5) (.int .i64 e4)) := B3q.new v5 _ _ _ _
  have hbn : Below v5.heap.size v5 (v5.alloc (.cells #[.bool s5, .slice p5 m5 m5, .int .i64 e4] 26)) := below1 v5 _
  generalize v5.alloc (.cells #[.bool s5, .slice p5 m5 m5, .int .i64 e4] 26) = Wr at *
  have HGr : Hid (w.heap.size ≤ v5.heap.size) := hbw.size
  replace Xa : Hid _ := Xa.out.below hbn
  replace Xb : Hid _ := Xb.out.below hbn
  replace Xc : Hid _ := Xc.out.below hbn
  replace Xd : Hid _ := Xd.out.below hbn
  replace Xf : Hid _ := Xf.out.below hbn
  replace Xh : Hid _ := Xh.out.below hbn
  replace Xl : Hid _ := Xl.out.below hbn
  replace Da : Hid _ := Da.out.below hbn
  replace Db : Hid _ := Db.out.below hbn
  replace Dc : Hid _ := Dc.out.below hbn
  replace Dd : Hid _ := Dd.out.below hbn
  replace Df : Hid _ := Df.out.below hbn
  replace Dh : Hid _ := Dh.out.below hbn
  replace Dl : Hid _ := Dl.out.below hbn
  replace Dr : Hid _ := Dr.out.below hbn
  replace hbw := Below.on hbw hbn
  clear hbn
  generalize v5.heap.size = gr at *
  have Xr := Xr0
  clear Xr0
  refine (same5 Dl.out Dr.out).mono ?_
  rintro e v11 ⟨rfl, hb11⟩
  replace Xa : Hid _ := Xa.out.below hb11
  replace Xb : Hid _ := Xb.out.below hb11
  replace Xc : Hid _ := Xc.out.below hb11
  replace Xd : Hid _ := Xd.out.below hb11
  replace Xf : Hid _ := Xf.out.below hb11
  replace Xh : Hid _ := Xh.out.below hb11
  replace Xl : Hid _ := Xl.out.below hb11
  replace Xr : Hid _ := Xr.out.below hb11
  replace Da : Hid _ := Da.out.below hb11
  replace Db : Hid _ := Db.out.below hb11
  replace Dc : Hid _ := Dc.out.below hb11
  replace Dd : Hid _ := Dd.out.below hb11
  replace Df : Hid _ := Df.out.below hb11
  replace Dh : Hid _ := Dh.out.below hb11
  replace Dl : Hid _ := Dl.out.below hb11
  replace Dr : Hid _ := Dr.out.below hb11
  replace hbw := Below.on hbw hb11
  clear hb11
  clear Xr
  clear Dr
  clear Xl
  clear Dl
  obtain ⟨cb0, cb1, cb2, fb0, fb1, fb2⟩ := Xb.out
  have hneb : gb < v11.heap.size := World.block_lt_of_cell? v11 _ cb0
  obtain ⟨cc0, cc1, cc2, fc0, fc1, fc2⟩ := Xc.out
  have hnec : gc < v11.heap.size := World.block_lt_of_cell? v11 _ cc0
  go_wp2_with fail
  clear cb0 cb1 cb2 fb0 fb1 fb2 hneb
  clear cc0 cc1 cc2 fc0 fc1 fc2 hnec
  refine (dmul_b Db.out Dc.out Bb.out Bc.out (by decide) (by decide) (TB.out.below hbw)).mono ?_
  rintro e2 v6 ⟨v, z6, e6, rfl, hv, hdb, hdv, hb6⟩
  obtain ⟨s6, p6, m6, rfl, hd⟩ := hv.dn hdb.fm
  clear hv
  replace Xa : Hid _ := Xa.out.below hb6
  replace Xb : Hid _ := Xb.out.below hb6
  replace Xc : Hid _ := Xc.out.below hb6
  replace Xd : Hid _ := Xd.out.below hb6
  replace Xf : Hid _ := Xf.out.below hb6
  replace Xh : Hid _ := Xh.out.below hb6
  replace Da : Hid _ := Da.out.below hb6
  replace Db : Hid _ := Db.out.below hb6
  replace Dc : Hid _ := Dc.out.below hb6
  replace Dd : Hid _ := Dd.out.below hb6
  replace Df : Hid _ := Df.out.below hb6
  replace Dh : Hid _ := Dh.out.below hb6
  replace hbw := Below.on hbw hb6
  clear hb6
  have Dm : Hid (DN v6 s6 p6 m6 m6 e6 z6) := hd
  have Bm : Hid (DB z6 e6 64000 104000) := hdb
  have Vm : Hid (dv z6 e6 = dv (zb * zc) (eb + ec)) := hdv
  clear hd hdb hdv
  obtain ⟨cf0, cf1, cf2, ff0, ff1, ff2⟩ := Xf.out
  have hnef : gf < v6.heap.size := World.block_lt_of_cell? v6 _ cf0
  obtain ⟨cc0, cc1, cc2, fc0, fc1, fc2⟩ := Xc.out
  have hnec : gc < v6.heap.size := World.block_lt_of_cell? v6 _ cc0
  go_wp2_with fail
  clear cf0 cf1 cf2 ff0 ff1 ff2 hnef
  clear cc0 cc1 cc2 fc0 fc1 fc2 hnec
  have Xm0 : Hid (B3q (v6.alloc (.cells #[.bool s6, .slice p6 m6 m6, .int .i64 e6] 26)) v6.heap.size (.bool s6) (.slice p6 m6 m6) (.int .i64 e6)) := B3q.new v6 _ _ _ _
  have hbn : Below v6.heap.size v6 (v6.alloc (.cells #[.bool s6, .slice p6 m6 m6, .int .i64 e6] 26)) := below1 v6 _
  generalize v6.alloc (.cells #[.bool s6, .slice p6 m6 m6, .int .i64 e6] 26) = Wm at *
  have HGm : Hid (w.heap.size ≤ v6.heap.size) := hbw.size
  replace Xa : Hid _ := Xa.out.below hbn
  replace Xb : Hid _ := Xb.out.below hbn
  replace Xc : Hid _ := Xc.out.below hbn
  replace Xd : Hid _ := Xd.out.below hbn
  replace Xf : Hid _ := Xf.out.below hbn
  replace Xh : Hid _ := Xh.out.below hbn
  replace Da : Hid _ := Da.out.below hbn
  replace Db : Hid _ := Db.out.below hbn
  replace Dc : Hid _ := Dc.out.below hbn
  replace Dd : Hid _ := Dd.out.below hbn
  replace Df : Hid _ := Df.out.below hbn
  replace Dh : Hid _ := Dh.out.below hbn
  replace Dm : Hid _ := Dm.out.below hbn
  replace hbw := Below.on hbw hbn
  clear hbn
  generalize v6.heap.size = gm at *
  have Xm := Xm0
  clear Xm0
  refine (dmul_b Df.out Dc.out Bf.out Bc.out (by decide) (by decide) (TB.out.below hbw)).mono ?_
  rintro e2 v7 ⟨v, z7, e7, rfl, hv, hdb, hdv, hb7⟩
  obtain ⟨s7, p7, m7, rfl, hd⟩ := hv.dn hdb.fm
  clear hv
  replace Xa : Hid _ := Xa.out.below hb7
  replace Xb : Hid _ := Xb.out.below hb7
  replace Xc : Hid _ := Xc.out.below hb7
  replace Xd : Hid _ := Xd.out.below hb7
  replace Xf : Hid _ := Xf.out.below hb7
  replace Xh : Hid _ := Xh.out.below hb7
  replace Xm : Hid _ := Xm.out.below hb7
  replace Da : Hid _ := Da.out.below hb7
  replace Db : Hid _ := Db.out.below hb7
  replace Dc : Hid _ := Dc.out.below hb7
  replace Dd : Hid _ := Dd.out.below hb7
  replace Df : Hid _ := Df.out.below hb7
  replace Dh : Hid _ := Dh.out.below hb7
  replace Dm : Hid _ := Dm.out.below hb7
  replace hbw := Below.on hbw hb7
  clear hb7
  have Dx : Hid (DN v7 s7 p7 m7 m7 e7 z7) := hd
  have Bx : Hid (DB z7 e7 96000 220000) := hdb
  have Vx : Hid (dv z7 e7 = dv (z1 * zc) (e1 + ec)) := hdv
  clear hd hdb hdv
  obtain ⟨ca0, ca1, ca2, fa0, fa1, fa2⟩ := Xa.out
  have hnea : ga < v7.heap.size := World.block_lt_of_cell? v7 _ ca0
  obtain ⟨cm0, cm1, cm2, fm0, fm1, fm2⟩ := Xm.out
  have hnem : gm < v7.heap.size := World.block_lt_of_cell? v7 _ cm0
  go_wp2_with fail
  clear ca0 ca1 ca2 fa0 fa1 fa2 hnea
  clear cm0 cm1 cm2 fm0 fm1 fm2 hnem
  have Xx0 : Hid (B3q (v7.alloc (.cells #[.bool s7, .slice p7 m7 m7, .int .i64 e7] 26)) v7.heap.size (.bool s7) (.slice p7 m7 m7) (.int .i64 e7)) := B3q.new v7 _ _ _ _
  have hbn : Below v7.heap.size v7 (v7.alloc (.cells #[.bool s7, .slice p7 m7 m7, .int .i64 e7] 26)) := below1 v7 _
  generalize v7.alloc (.cells #[.bool s7, .slice p7 m7 m7, .int .i64 e7] 26) = Wx at *
  have HGx : Hid (w.heap.size ≤ v7.heap.size) := hbw.size
  replace Xa : Hid _ := Xa.out.below hbn
  replace Xb : Hid _ := Xb.out.below hbn
  replace Xc : Hid _ := Xc.out.below hbn
  replace Xd : Hid _ := Xd.out.below hbn
  replace Xf : Hid _ := Xf.out.below hbn
  replace Xh : Hid _ := Xh.out.below hbn
  replace Xm : Hid _ := Xm.out.below hbn
  replace Da : Hid _ := Da.out.below hbn
  replace Db : Hid _ := Db.out.below hbn
  replace Dc : Hid _ := Dc.out.below hbn
  replace Dd : Hid _ := Dd.out.below hbn
  replace Df : Hid _ := Df.out.below hbn
  replace Dh : Hid _ := Dh.out.below hbn
  replace Dm : Hid _ := Dm.out.below hbn
  replace Dx : Hid _ := Dx.out.below hbn
  replace hbw := Below.on hbw hbn
  clear hbn
  generalize v7.heap.size = gx at *
  have Xx := Xx0
  clear Xx0
  refine (dmul_b Da.out Dm.out Ba.out Bm.out (by decide) (by decide) (TB.out.below hbw)).mono ?_
  rintro e2 v8 ⟨v, z8, e8, rfl, hv, hdb, hdv, hb8⟩
  obtain ⟨s8, p8, m8, rfl, hd⟩ := hv.dn hdb.fm
  clear hv
  replace Xa : Hid _ := Xa.out.below hb8
  replace Xb : Hid _ := Xb.out.below hb8
  replace Xc : Hid _ := Xc.out.below hb8
  replace Xd : Hid _ := Xd.out.below hb8
  replace Xf : Hid _ := Xf.out.below hb8
  replace Xh : Hid _ := Xh.out.below hb8
  replace Xm : Hid _ := Xm.out.below hb8
  replace Xx : Hid _ := Xx.out.below hb8
  replace Da : Hid _ := Da.out.below hb8
  replace Db : Hid _ := Db.out.below hb8
  replace Dc : Hid _ := Dc.out.below hb8
  replace Dd : Hid _ := Dd.out.below hb8
  replace Df : Hid _ := Df.out.below hb8
  replace Dh : Hid _ := Dh.out.below hb8
  replace Dm : Hid _ := Dm.out.below hb8
  replace Dx : Hid _ := Dx.out.below hb8
  replace hbw := Below.on hbw hb8
  clear hb8
  have Dy : Hid (DN v8 s8 p8 m8 m8 e8 z8) := hd
  have By : Hid (DB z8 e8 96000 220000) := hdb
  have Vy : Hid (dv z8 e8 = dv (za * z6) (ea + e6)) := hdv
  clear hd hdb hdv
  have HE8 : dv z7 e7 = dv z8 e8 := by
    refine dv_cancel (dv_cancel ?_)
    rw [Vx.out, Vy.out, dv_mul (by have := Bf.out.lo; omega) (by have := Bc.out.lo; omega), dv_mul (by have := Ba.out.lo; omega) (by have := Bm.out.lo; omega), Vf.out, Vm.out, Int.mul_right_comm, dv_mul (by have := Ba.out.lo; omega) (by have := Bb.out.lo; omega), Int.mul_assoc (dv za ea) (dv (zb * zc) (eb + ec)), dv_mul (by have := Bb.out.lo; omega) (by have := Bc.out.lo; omega), Int.mul_assoc]
  have h9 : z7 = z8 ∧ e7 = e8 := dv_inj Bx.out.fm By.out.fm (HE8)
  obtain ⟨rfl, rfl⟩ := h9
  obtain ⟨cx0, cx1, cx2, fx0, fx1, fx2⟩ := Xx.out
  have hnex : gx < v8.heap.size := World.block_lt_of_cell? v8 _ cx0
  go_wp2_with fail
  clear cx0 cx1 cx2 fx0 fx1 fx2 hnex
  have Xy0 : Hid (B3q (v8.alloc (.cells #[.bool s8, .slice p8 m8 m8, .int .i64 e7] 26)) v8.heap.size (.bool s8) (.slice p8 m8 m8) (.int .i64 e7)) := B3q.new v8 _ _ _ _
  have hbn : Below v8.heap.size v8 (v8.alloc (.cells #[.bool s8, .slice p8 m8 m8, .int .i64 e7] 26)) := below1 v8 _
  generalize v8.alloc (.cells #[.bool s8, .slice p8 m8 m8, .int .i64 e7] 26) = Wy at *
  have HGy : Hid (w.heap.size ≤ v8.heap.size) := hbw.size
  replace Xa : Hid _ := Xa.out.below hbn
  replace Xb : Hid _ := Xb.out.below hbn
  replace Xc : Hid _ := Xc.out.below hbn
  replace Xd : Hid _ := Xd.out.below hbn
  replace Xf : Hid _ := Xf.out.below hbn
  replace Xh : Hid _ := Xh.out.below hbn
  replace Xm : Hid _ := Xm.out.below hbn
  replace Xx : Hid _ := Xx.out.below hbn
  replace Da : Hid _ := Da.out.below hbn
  replace Db : Hid _ := Db.out.below hbn
  replace Dc : Hid _ := Dc.out.below hbn
  replace Dd : Hid _ := Dd.out.below hbn
  replace Df : Hid _ := Df.out.below hbn
  replace Dh : Hid _ := Dh.out.below hbn
  replace Dm : Hid _ := Dm.out.below hbn
  replace Dx : Hid _ := Dx.out.below hbn
  replace Dy : Hid _ := Dy.out.below hbn
  replace hbw := Below.on hbw hbn
  clear hbn
  generalize v8.heap.size = gy at *
  have Xy := Xy0
  clear Xy0
  refine (same5 Dx.out Dy.out).mono ?_
  rintro e v12 ⟨rfl, hb12⟩
  replace Xa : Hid _ := Xa.out.below hb12
  replace Xb : Hid _ := Xb.out.below hb12
  replace Xc : Hid _ := Xc.out.below hb12
  replace Xd : Hid _ := Xd.out.below hb12
  replace Xf : Hid _ := Xf.out.below hb12
  replace Xh : Hid _ := Xh.out.below hb12
  replace Xm : Hid _ := Xm.out.below hb12
  replace Xx : Hid _ := Xx.out.below hb12
  replace Xy : Hid _ := Xy.out.below hb12
  replace Da : Hid _ := Da.out.below hb12
  replace Db : Hid _ := Db.out.below hb12
  replace Dc : Hid _ := Dc.out.below hb12
  replace Dd : Hid _ := Dd.out.below hb12
  replace Df : Hid _ := Df.out.below hb12
  replace Dh : Hid _ := Dh.out.below hb12
  replace Dm : Hid _ := Dm.out.below hb12
  replace Dx : Hid _ := Dx.out.below hb12
  replace Dy : Hid _ := Dy.out.below hb12
  replace hbw := Below.on hbw hb12
  clear hb12
  go_wp2_with fail
  go_ret
  exact ⟨rfl, hbw⟩
end Go.Proofs.YtkiacehilnghiaaDoor

namespace Go.Proofs.YtkiacehilnghiaaDoor
open Go.RowKit Go.Shelf

set_option maxRecDepth 20000 in
set_option maxHeartbeats 8000000 in
theorem dyadicRing_w {pa pb pc : Option Addr} {ma ca mb cb mc cc : Nat} {xa xb xc : List Nat} {w : World} {ea eb ec : Int} (sa sb sc : Bool) (ha : At w pa ma ca xa) (hb : At w pb mb cb xb) (hc : At w pc mc cc xc) (hT : Tab w) (haw : ∀ W, Tab W → Calls Tryd.prog 4 #[] W fun en w' => en = .returned (.bool true) ∧ Below W.heap.size W w') :
    Calls Tryd.prog 3 #[DV sa pa ma ca ea, DV sb pb mb cb eb, DV sc pc mc cc ec] w fun en w' => en = .returned (.bool true) ∧ Below w.heap.size w w' := by
  have Ha : Hid (At w pa ma ca xa) := ha
  have Hb : Hid (At w pb mb cb xb) := hb
  have Hc : Hid (At w pc mc cc xc) := hc
  have TB : Hid (Tab w) := hT
  have HAW : Hid (∀ W, Tab W → Calls Tryd.prog 4 #[] W fun en w' => en = .returned (.bool true) ∧ Below W.heap.size W w') := haw
  clear ha hb hc hT haw
  go_enter Tryd.func3, Tryd.ntmps3
  go_wp2_with fail
  obtain ⟨W0, hW0⟩ : ∃ W0, W0 = (((w.alloc (.cells #[.bool sa, .slice pa ma ca, .int .i64 ea] 26)).alloc (.cells #[.bool sb, .slice pb mb cb, .int .i64 eb] 26)).alloc (.cells #[.bool sc, .slice pc mc cc, .int .i64 ec] 26)) := ⟨_, rfl⟩
  have Xa : Hid (B3q W0 (w.heap.size) (.bool sa) (.slice pa ma ca) (.int .i64 ea)) := by rw [hW0]; exact ⟨by go_simp, by go_simp, by go_simp, by go_simp, by go_simp, by go_simp⟩
  have Xb : Hid (B3q W0 (w.heap.size + 1) (.bool sb) (.slice pb mb cb) (.int .i64 eb)) := by rw [hW0]; exact ⟨by go_simp, by go_simp, by go_simp, by go_simp, by go_simp, by go_simp⟩
  have Xc : Hid (B3q W0 (w.heap.size + 1 + 1) (.bool sc) (.slice pc mc cc) (.int .i64 ec)) := by rw [hW0]; exact ⟨by go_simp, by go_simp, by go_simp, by go_simp, by go_simp, by go_simp⟩
  have hb0 : Below w.heap.size w W0 := by rw [hW0]; exact below3 w _ _ _
  rw [← hW0]
  clear hW0
  have hbw : Below w.heap.size w w := Below.refl _ _
  obtain ⟨gc, hgc⟩ : ∃ g, g = w.heap.size + 1 + 1 := ⟨_, rfl⟩
  have HGc : Hid (w.heap.size ≤ gc) := by rw [hgc]; show _ ≤ _; omega
  rw [← hgc] at Xc
  try rw [← hgc]
  obtain ⟨gb, hgb⟩ : ∃ g, g = w.heap.size + 1 := ⟨_, rfl⟩
  have HGb : Hid (w.heap.size ≤ gb) := by rw [hgb]; show _ ≤ _; omega
  rw [← hgb] at Xb
  try rw [← hgb]
  obtain ⟨ga, hga⟩ : ∃ g, g = w.heap.size := ⟨_, rfl⟩
  have HGa : Hid (w.heap.size ≤ ga) := by rw [hga]; show _ ≤ _; omega
  rw [← hga] at Xa
  try rw [← hga]
  have HGD : Hid (ga ≠ gb ∧ ga ≠ gc ∧ gb ≠ ga ∧ gb ≠ gc ∧ gc ≠ ga ∧ gc ≠ gb) := by rw [hga, hgb, hgc]; exact ⟨by omega, by omega, by omega, by omega, by omega, by omega⟩
  clear hga hgb hgc
  replace hbw := Below.on hbw hb0
  clear hb0
  refine (HAW.out _ (TB.out.below hbw)).mono ?_
  rintro e v1 ⟨rfl, hb1⟩
  replace Xa : Hid _ := Xa.out.below hb1
  replace Xb : Hid _ := Xb.out.below hb1
  replace Xc : Hid _ := Xc.out.below hb1
  replace hbw := Below.on hbw hb1
  clear hb1
  obtain ⟨ca0, ca1, ca2, fa0, fa1, fa2⟩ := Xa.out
  have hnea : ga < v1.heap.size := World.block_lt_of_cell? v1 _ ca0
  go_wp2_with fail
  clear ca0 ca1 ca2 fa0 fa1 fa2 hnea
  refine (near5 sa (Ha.out.below hbw)).mono ?_
  rintro e2 w2 ⟨⟨bo, rfl, hn2⟩, hb2⟩
  replace Xa : Hid _ := Xa.out.below hb2
  replace Xb : Hid _ := Xb.out.below hb2
  replace Xc : Hid _ := Xc.out.below hb2
  replace hbw := Below.on hbw hb2
  clear hb2
  cases bo
  · clear hn2
    go_wp2_with fail
    go_ret
    exact ⟨rfl, hbw⟩
  · have Fa := hn2 rfl
    have Da0 := near_db (Ha.out.below hbw) Fa
    obtain ⟨za, hza⟩ : ∃ z, z = iv sa (valB B64 xa) := ⟨_, rfl⟩
    rw [← hza] at Da0
    have Ba : Hid (DB za ea 32000 20000) := Da0.2
    have Da : Hid (DN w2 sa pa ma ca ea za) := Da0.1
    clear hn2 Fa Da0 hza
    obtain ⟨cb0, cb1, cb2, fb0, fb1, fb2⟩ := Xb.out
    have hneb : gb < w2.heap.size := World.block_lt_of_cell? w2 _ cb0
    go_wp2_with fail
    clear cb0 cb1 cb2 fb0 fb1 fb2 hneb
    refine (near5 sb (Hb.out.below hbw)).mono ?_
    rintro e2 w3 ⟨⟨bo, rfl, hn3⟩, hb3⟩
    replace Xa : Hid _ := Xa.out.below hb3
    replace Xb : Hid _ := Xb.out.below hb3
    replace Xc : Hid _ := Xc.out.below hb3
    replace Da : Hid _ := Da.out.below hb3
    replace hbw := Below.on hbw hb3
    clear hb3
    cases bo
    · clear hn3
      go_wp2_with fail
      go_ret
      exact ⟨rfl, hbw⟩
    · have Fb := hn3 rfl
      have Db0 := near_db (Hb.out.below hbw) Fb
      obtain ⟨zb, hzb⟩ : ∃ z, z = iv sb (valB B64 xb) := ⟨_, rfl⟩
      rw [← hzb] at Db0
      have Bb : Hid (DB zb eb 32000 20000) := Db0.2
      have Db : Hid (DN w3 sb pb mb cb eb zb) := Db0.1
      clear hn3 Fb Db0 hzb
      obtain ⟨cc0, cc1, cc2, fc0, fc1, fc2⟩ := Xc.out
      have hnec : gc < w3.heap.size := World.block_lt_of_cell? w3 _ cc0
      go_wp2_with fail
      clear cc0 cc1 cc2 fc0 fc1 fc2 hnec
      refine (near5 sc (Hc.out.below hbw)).mono ?_
      rintro e2 w4 ⟨⟨bo, rfl, hn4⟩, hb4⟩
      replace Xa : Hid _ := Xa.out.below hb4
      replace Xb : Hid _ := Xb.out.below hb4
      replace Xc : Hid _ := Xc.out.below hb4
      replace Da : Hid _ := Da.out.below hb4
      replace Db : Hid _ := Db.out.below hb4
      replace hbw := Below.on hbw hb4
      clear hb4
      cases bo
      · clear hn4
        go_wp2_with fail
        go_ret
        exact ⟨rfl, hbw⟩
      · have Fc := hn4 rfl
        have Dc0 := near_db (Hc.out.below hbw) Fc
        obtain ⟨zc, hzc⟩ : ∃ z, z = iv sc (valB B64 xc) := ⟨_, rfl⟩
        rw [← hzc] at Dc0
        have Bc : Hid (DB zc ec 32000 20000) := Dc0.2
        have Dc : Hid (DN w4 sc pc mc cc ec zc) := Dc0.1
        clear hn4 Fc Dc0 hzc
        obtain ⟨ca0, ca1, ca2, fa0, fa1, fa2⟩ := Xa.out
        have hnea : ga < w4.heap.size := World.block_lt_of_cell? w4 _ ca0
        obtain ⟨cb0, cb1, cb2, fb0, fb1, fb2⟩ := Xb.out
        have hneb : gb < w4.heap.size := World.block_lt_of_cell? w4 _ cb0
        go_wp2_with fail
        clear ca0 ca1 ca2 fa0 fa1 fa2 hnea
        clear cb0 cb1 cb2 fb0 fb1 fb2 hneb
        refine (dadd_b Da.out Db.out Ba.out Bb.out (by decide) (TB.out.below hbw)).mono ?_
        rintro e2 v5 ⟨v, z5, e5, rfl, hv, hdb, hdv, hb5⟩
        obtain ⟨s5, p5, m5, rfl, hd⟩ := hv.dn hdb.fm
        clear hv
        replace Xa : Hid _ := Xa.out.below hb5
        replace Xb : Hid _ := Xb.out.below hb5
        replace Xc : Hid _ := Xc.out.below hb5
        replace Da : Hid _ := Da.out.below hb5
        replace Db : Hid _ := Db.out.below hb5
        replace Dc : Hid _ := Dc.out.below hb5
        replace hbw := Below.on hbw hb5
        clear hb5
        have Df : Hid (DN v5 s5 p5 m5 m5 e5 z5) := hd
        have Bf : Hid (DB z5 e5 72001 92001) := hdb
        have Vf : Hid (dv z5 e5 = dv za ea + dv zb eb) := hdv
        clear hd hdb hdv
        obtain ⟨cb0, cb1, cb2, fb0, fb1, fb2⟩ := Xb.out
        have hneb : gb < v5.heap.size := World.block_lt_of_cell? v5 _ cb0
        obtain ⟨ca0, ca1, ca2, fa0, fa1, fa2⟩ := Xa.out
        have hnea : ga < v5.heap.size := World.block_lt_of_cell? v5 _ ca0
        go_wp2_with fail
        clear cb0 cb1 cb2 fb0 fb1 fb2 hneb
        clear ca0 ca1 ca2 fa0 fa1 fa2 hnea
        have Xf0 : Hid (B3q (v5.alloc (.cells #[.bool s5, .slice p5 m5 m5, .int .i64 e5] 26)) v5.heap.size (.bool s5) (.slice p5 m5 m5) (.int .i64 e5)) := B3q.new v5 _ _ _ _
        have hbn : Below v5.heap.size v5 (v5.alloc (.cells #[.bool s5, .slice p5 m5 m5, .int .i64 e5] 26)) := below1 v5 _
        generalize v5.alloc (.cells #[.bool s5, .slice p5 m5 m5, .int .i64 e5] 26) = Wf at *
        have HGf : Hid (w.heap.size ≤ v5.heap.size) := hbw.size
        replace Xa : Hid _ := Xa.out.below hbn
        replace Xb : Hid _ := Xb.out.below hbn
        replace Xc : Hid _ := Xc.out.below hbn
        replace Da : Hid _ := Da.out.below hbn
        replace Db : Hid _ := Db.out.below hbn
        replace Dc : Hid _ := Dc.out.below hbn
        replace Df : Hid _ := Df.out.below hbn
        replace hbw := Below.on hbw hbn
        clear hbn
        generalize v5.heap.size = gf at *
        have Xf := Xf0
        clear Xf0
        refine (dadd_b Db.out Da.out Bb.out Ba.out (by decide) (TB.out.below hbw)).mono ?_
        rintro e2 v6 ⟨v, z6, e6, rfl, hv, hdb, hdv, hb6⟩
        obtain ⟨s6, p6, m6, rfl, hd⟩ := hv.dn hdb.fm
        clear hv
        replace Xa : Hid _ := Xa.out.below hb6
        replace Xb : Hid _ := Xb.out.below hb6
        replace Xc : Hid _ := Xc.out.below hb6
        replace Xf : Hid _ := Xf.out.below hb6
        replace Da : Hid _ := Da.out.below hb6
        replace Db : Hid _ := Db.out.below hb6
        replace Dc : Hid _ := Dc.out.below hb6
        replace Df : Hid _ := Df.out.below hb6
        replace hbw := Below.on hbw hb6
        clear hb6
        have Dg : Hid (DN v6 s6 p6 m6 m6 e6 z6) := hd
        have Bg : Hid (DB z6 e6 72001 92001) := hdb
        have Vg : Hid (dv z6 e6 = dv zb eb + dv za ea) := hdv
        clear hd hdb hdv
        have h9 : z5 = z6 ∧ e5 = e6 := dv_inj Bf.out.fm Bg.out.fm (by rw [Vf.out, Vg.out, Int.add_comm])
        obtain ⟨rfl, rfl⟩ := h9
        obtain ⟨cf0, cf1, cf2, ff0, ff1, ff2⟩ := Xf.out
        have hnef : gf < v6.heap.size := World.block_lt_of_cell? v6 _ cf0
        go_wp2_with fail
        clear cf0 cf1 cf2 ff0 ff1 ff2 hnef
        have Xg0 : Hid (B3q (v6.alloc (.cells #[.bool s6, .slice p6 m6 m6, .int .i64 e5] 26)) v6.heap.size (.bool s6) (.slice p6 m6 m6) (.int .i64 e5)) := B3q.new v6 _ _ _ _
        have hbn : Below v6.heap.size v6 (v6.alloc (.cells #[.bool s6, .slice p6 m6 m6, .int .i64 e5] 26)) := below1 v6 _
        generalize v6.alloc (.cells #[.bool s6, .slice p6 m6 m6, .int .i64 e5] 26) = Wg at *
        have HGg : Hid (w.heap.size ≤ v6.heap.size) := hbw.size
        replace Xa : Hid _ := Xa.out.below hbn
        replace Xb : Hid _ := Xb.out.below hbn
        replace Xc : Hid _ := Xc.out.below hbn
        replace Xf : Hid _ := Xf.out.below hbn
        replace Da : Hid _ := Da.out.below hbn
        replace Db : Hid _ := Db.out.below hbn
        replace Dc : Hid _ := Dc.out.below hbn
        replace Df : Hid _ := Df.out.below hbn
        replace Dg : Hid _ := Dg.out.below hbn
        replace hbw := Below.on hbw hbn
        clear hbn
        generalize v6.heap.size = gg at *
        have Xg := Xg0
        clear Xg0
        refine (same5 Df.out Dg.out).mono ?_
        rintro e v7 ⟨rfl, hb7⟩
        replace Xa : Hid _ := Xa.out.below hb7
        replace Xb : Hid _ := Xb.out.below hb7
        replace Xc : Hid _ := Xc.out.below hb7
        replace Xf : Hid _ := Xf.out.below hb7
        replace Xg : Hid _ := Xg.out.below hb7
        replace Da : Hid _ := Da.out.below hb7
        replace Db : Hid _ := Db.out.below hb7
        replace Dc : Hid _ := Dc.out.below hb7
        replace Df : Hid _ := Df.out.below hb7
        replace Dg : Hid _ := Dg.out.below hb7
        replace hbw := Below.on hbw hb7
        clear hb7
        clear Xg
        clear Dg
        obtain ⟨cf0, cf1, cf2, ff0, ff1, ff2⟩ := Xf.out
        have hnef : gf < v7.heap.size := World.block_lt_of_cell? v7 _ cf0
        obtain ⟨cb0, cb1, cb2, fb0, fb1, fb2⟩ := Xb.out
        have hneb : gb < v7.heap.size := World.block_lt_of_cell? v7 _ cb0
        go_wp2_with fail
        clear cf0 cf1 cf2 ff0 ff1 ff2 hnef
        clear cb0 cb1 cb2 fb0 fb1 fb2 hneb
        refine (dsub_b Df.out Db.out Bf.out (Bb.out.mono (K' := 72001) (E' := 92001) (by decide) (by decide)) (by decide) (TB.out.below hbw)).mono ?_
        rintro e2 v8 ⟨v, z8, e8, rfl, hv, hdb, hdv, hb8⟩
        obtain ⟨s8, p8, m8, rfl, hd⟩ := hv.dn hdb.fm
        clear hv
        replace Xa : Hid _ := Xa.out.below hb8
        replace Xb : Hid _ := Xb.out.below hb8
        replace Xc : Hid _ := Xc.out.below hb8
        replace Xf : Hid _ := Xf.out.below hb8
        replace Da : Hid _ := Da.out.below hb8
        replace Db : Hid _ := Db.out.below hb8
        replace Dc : Hid _ := Dc.out.below hb8
        replace Df : Hid _ := Df.out.below hb8
        replace hbw := Below.on hbw hb8
        clear hb8
        have Dk : Hid (DN v8 s8 p8 m8 m8 e8 z8) := hd
        have Bk : Hid (DB z8 e8 256004 348005) := hdb
        have Vk : Hid (dv z8 e8 = dv z5 e5 - dv zb eb) := hdv
        clear hd hdb hdv
        have h9 : za = z8 ∧ ea = e8 := dv_inj Ba.out.fm Bk.out.fm (by rw [Vk.out, Vf.out]; omega)
        obtain ⟨rfl, rfl⟩ := h9
        obtain ⟨ca0, ca1, ca2, fa0, fa1, fa2⟩ := Xa.out
        have hnea : ga < v8.heap.size := World.block_lt_of_cell? v8 _ ca0
        go_wp2_with fail
        clear ca0 ca1 ca2 fa0 fa1 fa2 hnea
        have Xk0 : Hid (B3q (v8.alloc (.cells #[.bool s8, .slice p8 m8 m8, .int .i64 ea] 26)) v8.heap.size (.bool s8) (.slice p8 m8 m8) (.int .i64 ea)) := B3q.new v8 _ _ _ _
        have hbn : Below v8.heap.size v8 (v8.alloc (.cells #[.bool s8, .slice p8 m8 m8, .int .i64 ea] 26)) := below1 v8 _
        generalize v8.alloc (.cells #[.bool s8, .slice p8 m8 m8, .int .i64 ea] 26) = Wk at *
        have HGk : Hid (w.heap.size ≤ v8.heap.size) := hbw.size
        replace Xa : Hid _ := Xa.out.below hbn
        replace Xb : Hid _ := Xb.out.below hbn
        replace Xc : Hid _ := Xc.out.below hbn
        replace Xf : Hid _ := Xf.out.below hbn
        replace Da : Hid _ := Da.out.below hbn
        replace Db : Hid _ := Db.out.below hbn
        replace Dc : Hid _ := Dc.out.below hbn
        replace Df : Hid _ := Df.out.below hbn
        replace Dk : Hid _ := Dk.out.below hbn
        replace hbw := Below.on hbw hbn
        clear hbn
        generalize v8.heap.size = gk at *
        have Xk := Xk0
        clear Xk0
        refine (same5 Dk.out Da.out).mono ?_
        rintro e v9 ⟨rfl, hb9⟩
        replace Xa : Hid _ := Xa.out.below hb9
        replace Xb : Hid _ := Xb.out.below hb9
        replace Xc : Hid _ := Xc.out.below hb9
        replace Xf : Hid _ := Xf.out.below hb9
        replace Xk : Hid _ := Xk.out.below hb9
        replace Da : Hid _ := Da.out.below hb9
        replace Db : Hid _ := Db.out.below hb9
        replace Dc : Hid _ := Dc.out.below hb9
        replace Df : Hid _ := Df.out.below hb9
        replace Dk : Hid _ := Dk.out.below hb9
        replace hbw := Below.on hbw hb9
        clear hb9
        clear Xk
        clear Dk
        obtain ⟨ca0, ca1, ca2, fa0, fa1, fa2⟩ := Xa.out
        have hnea : ga < v9.heap.size := World.block_lt_of_cell? v9 _ ca0
        go_wp2_with fail
        clear ca0 ca1 ca2 fa0 fa1 fa2 hnea
        refine (dneg Da.out).mono ?_
        rintro e2 v10 ⟨v, rfl, hv, hf10, hb10⟩
        obtain ⟨s10, p10, m10, rfl, hd⟩ := hv.dn hf10
        clear hv hf10
        replace Xa : Hid _ := Xa.out.below hb10
        replace Xb : Hid _ := Xb.out.below hb10
        replace Xc : Hid _ := Xc.out.below hb10
        replace Xf : Hid _ := Xf.out.below hb10
        replace Da : Hid _ := Da.out.below hb10
        replace Db : Hid _ := Db.out.below hb10
        replace Dc : Hid _ := Dc.out.below hb10
        replace Df : Hid _ := Df.out.below hb10
        replace hbw := Below.on hbw hb10
        clear hb10
        have Dn : Hid (DN v10 s10 p10 m10 m10 ea (-za)) := hd
        have Bn : Hid (DB (-za) ea 32000 20000) := Ba.out.neg
        clear hd
        obtain ⟨ca0, ca1, ca2, fa0, fa1, fa2⟩ := Xa.out
        have hnea : ga < v10.heap.size := World.block_lt_of_cell? v10 _ ca0
        go_wp2_with fail
        clear ca0 ca1 ca2 fa0 fa1 fa2 hnea
        have Xn0 : Hid (B3q (v10.alloc (.cells #[.bool s10, .slice p10 m10 m10, .int .i64 ea] 26)) v10.heap.size (.bool s10) (.slice p10 m10 m10) (.int .i64 ea)) := B3q.new v10 _ _ _ _
        have hbn : Below v10.heap.size v10 (v10.alloc (.cells #[.bool s10, .slice p10 m10 m10, .int .i64 ea] 26)) := below1 v10 _
        generalize v10.alloc (.cells #[.bool s10, .slice p10 m10 m10, .int .i64 ea] 26) = Wn at *
        have HGn : Hid (w.heap.size ≤ v10.heap.size) := hbw.size
        replace Xa : Hid _ := Xa.out.below hbn
        replace Xb : Hid _ := Xb.out.below hbn
        replace Xc : Hid _ := Xc.out.below hbn
        replace Xf : Hid _ := Xf.out.below hbn
        replace Da : Hid _ := Da.out.below hbn
        replace Db : Hid _ := Db.out.below hbn
        replace Dc : Hid _ := Dc.out.below hbn
        replace Df : Hid _ := Df.out.below hbn
        replace Dn : Hid _ := Dn.out.below hbn
        replace hbw := Below.on hbw hbn
        clear hbn
        generalize v10.heap.size = gn at *
        have Xn := Xn0
        clear Xn0
        refine (dadd_b Da.out Dn.out Ba.out Bn.out (by decide) (TB.out.below hbw)).mono ?_
        rintro e2 v11 ⟨v, z11, e11, rfl, hv, hdb, hdv, hb11⟩
        obtain ⟨s11, p11, m11, rfl, hd⟩ := hv.dn hdb.fm
        clear hv
        replace Xa : Hid _ := Xa.out.below hb11
        replace Xb : Hid _ := Xb.out.below hb11
        replace Xc : Hid _ := Xc.out.below hb11
        replace Xf : Hid _ := Xf.out.below hb11
        replace Xn : Hid _ := Xn.out.below hb11
        replace Da : Hid _ := Da.out.below hb11
        replace Db : Hid _ := Db.out.below hb11
        replace Dc : Hid _ := Dc.out.below hb11
        replace Df : Hid _ := Df.out.below hb11
        replace Dn : Hid _ := Dn.out.below hb11
        replace hbw := Below.on hbw hb11
        clear hb11
        have Do : Hid (DN v11 s11 p11 m11 m11 e11 z11) := hd
        have Bo : Hid (DB z11 e11 72001 92001) := hdb
        have Vo : Hid (dv z11 e11 = dv za ea + dv (-za) ea) := hdv
        clear hd hdb hdv
        have h9 : z11 = 0 ∧ e11 = 0 := dv_inj Bo.out.fm (.inl ⟨rfl, rfl⟩) (by rw [Vo.out, dv_neg, dv_zero]; omega)
        obtain ⟨rfl, rfl⟩ := h9
        go_wp2_with fail
        have Xo0 : Hid (B3q (v11.alloc (.cells #[.bool s11, .slice p11 m11 m11, .int .i64 0] 26)) v11.heap.size (.bool s11) (.slice p11 m11 m11) (.int .i64 0)) := B3q.new v11 _ _ _ _
        have hbn : Below v11.heap.size v11 (v11.alloc (.cells #[.bool s11, .slice p11 m11 m11, .int .i64 0] 26)) := below1 v11 _
        generalize v11.alloc (.cells #[.bool s11, .slice p11 m11 m11, .int .i64 0] 26) = Wo at *
        have HGo : Hid (w.heap.size ≤ v11.heap.size) := hbw.size
        replace Xa : Hid _ := Xa.out.below hbn
        replace Xb : Hid _ := Xb.out.below hbn
        replace Xc : Hid _ := Xc.out.below hbn
        replace Xf : Hid _ := Xf.out.below hbn
        replace Xn : Hid _ := Xn.out.below hbn
        replace Da : Hid _ := Da.out.below hbn
        replace Db : Hid _ := Db.out.below hbn
        replace Dc : Hid _ := Dc.out.below hbn
        replace Df : Hid _ := Df.out.below hbn
        replace Dn : Hid _ := Dn.out.below hbn
        replace Do : Hid _ := Do.out.below hbn
        replace hbw := Below.on hbw hbn
        clear hbn
        generalize v11.heap.size = go at *
        have Xo := Xo0
        clear Xo0
        refine (same5 (t := false) (q := none) (n := 0) (d := 0) Do.out ⟨⟨⟨[], At.empty _ none 0 (by decide), Nf.nil _, by omega⟩, rfl⟩, .inl ⟨rfl, rfl⟩⟩).mono ?_
        rintro e v12 ⟨rfl, hb12⟩
        replace Xa : Hid _ := Xa.out.below hb12
        replace Xb : Hid _ := Xb.out.below hb12
        replace Xc : Hid _ := Xc.out.below hb12
        replace Xf : Hid _ := Xf.out.below hb12
        replace Xn : Hid _ := Xn.out.below hb12
        replace Xo : Hid _ := Xo.out.below hb12
        replace Da : Hid _ := Da.out.below hb12
        replace Db : Hid _ := Db.out.below hb12
        replace Dc : Hid _ := Dc.out.below hb12
        replace Df : Hid _ := Df.out.below hb12
        replace Dn : Hid _ := Dn.out.below hb12
        replace Do : Hid _ := Do.out.below hb12
        replace hbw := Below.on hbw hb12
        clear hb12
        clear Xo
        clear Do
        clear Xn
        clear Dn
        obtain ⟨cf0, cf1, cf2, ff0, ff1, ff2⟩ := Xf.out
        have hnef : gf < v12.heap.size := World.block_lt_of_cell? v12 _ cf0
        obtain ⟨cc0, cc1, cc2, fc0, fc1, fc2⟩ := Xc.out
        have hnec : gc < v12.heap.size := World.block_lt_of_cell? v12 _ cc0
        go_wp2_with fail
        clear cf0 cf1 cf2 ff0 ff1 ff2 hnef
        clear cc0 cc1 cc2 fc0 fc1 fc2 hnec
        refine (dadd_b Df.out Dc.out Bf.out (Bc.out.mono (K' := 72001) (E' := 92001) (by decide) (by decide)) (by decide) (TB.out.below hbw)).mono ?_
        rintro e2 v13 ⟨v, z13, e13, rfl, hv, hdb, hdv, hb13⟩
        obtain ⟨s13, p13, m13, rfl, hd⟩ := hv.dn hdb.fm
        clear hv
        replace Xa : Hid _ := Xa.out.below hb13
        replace Xb : Hid _ := Xb.out.below hb13
        replace Xc : Hid _ := Xc.out.below hb13
        replace Xf : Hid _ := Xf.out.below hb13
        replace Da : Hid _ := Da.out.below hb13
        replace Db : Hid _ := Db.out.below hb13
        replace Dc : Hid _ := Dc.out.below hb13
        replace Df : Hid _ := Df.out.below hb13
        replace hbw := Below.on hbw hb13
        clear hb13
        have Dl : Hid (DN v13 s13 p13 m13 m13 e13 z13) := hd
        have Bl : Hid (DB z13 e13 256004 348005) := hdb
        have Vl : Hid (dv z13 e13 = dv z5 e5 + dv zc ec) := hdv
        clear hd hdb hdv
        obtain ⟨cb0, cb1, cb2, fb0, fb1, fb2⟩ := Xb.out
        have hneb : gb < v13.heap.size := World.block_lt_of_cell? v13 _ cb0
        obtain ⟨cc0, cc1, cc2, fc0, fc1, fc2⟩ := Xc.out
        have hnec : gc < v13.heap.size := World.block_lt_of_cell? v13 _ cc0
        go_wp2_with fail
        clear cb0 cb1 cb2 fb0 fb1 fb2 hneb
        clear cc0 cc1 cc2 fc0 fc1 fc2 hnec
        have Xl0 : Hid (B3q (v13.alloc (.cells #[.bool s13, .slice p13 m13 m13, .int .i64 e13] 26)) v13.heap.size (.bool s13) (.slice p13 m13 m13) (.int .i64 e13)) := B3q.new v13 _ _ _ _
        have hbn : Below v13.heap.size v13 (v13.alloc (.cells #[.bool s13, .slice p13 m13 m13, .int .i64 e13] 26)) := below1 v13 _
        generalize v13.alloc (.cells #[.bool s13, .slice p13 m13 m13, .int .i64 e13] 26) = Wl at *
        have HGl : Hid (w.heap.size ≤ v13.heap.size) := hbw.size
        replace Xa : Hid _ := Xa.out.below hbn
        replace Xb : Hid _ := Xb.out.below hbn
        replace Xc : Hid _ := Xc.out.below hbn
        replace Xf : Hid _ := Xf.out.below hbn
        replace Da : Hid _ := Da.out.below hbn
        replace Db : Hid _ := Db.out.below hbn
        replace Dc : Hid _ := Dc.out.below hbn
        replace Df : Hid _ := Df.out.below hbn
        replace Dl : Hid _ := Dl.out.below hbn
        replace hbw := Below.on hbw hbn
        clear hbn
        generalize v13.heap.size = gl at *
        have Xl := Xl0
        clear Xl0
        refine (dadd_b Db.out Dc.out Bb.out Bc.out (by decide) (TB.out.below hbw)).mono ?_
        rintro e2 v14 ⟨v, z14, e14, rfl, hv, hdb, hdv, hb14⟩
        obtain ⟨s14, p14, m14, rfl, hd⟩ := hv.dn hdb.fm
        clear hv
        replace Xa : Hid _ := Xa.out.below hb14
        replace Xb : Hid _ := Xb.out.below hb14
        replace Xc : Hid _ := Xc.out.below hb14
        replace Xf : Hid _ := Xf.out.below hb14
        replace Xl : Hid _ := Xl.out.below hb14
        replace Da : Hid _ := Da.out.below hb14
        replace Db : Hid _ := Db.out.below hb14
        replace Dc : Hid _ := Dc.out.below hb14
        replace Df : Hid _ := Df.out.below hb14
        replace Dl : Hid _ := Dl.out.below hb14
        replace hbw := Below.on hbw hb14
        clear hb14
        have Dd : Hid (DN v14 s14 p14 m14 m14 e14 z14) := hd
        have Bd : Hid (DB z14 e14 72001 92001) := hdb
        have Vd : Hid (dv z14 e14 = dv zb eb + dv zc ec) := hdv
        clear hd hdb hdv
        obtain ⟨ca0, ca1, ca2, fa0, fa1, fa2⟩ := Xa.out
        have hnea : ga < v14.heap.size := World.block_lt_of_cell? v14 _ ca0
        go_wp2_with fail
        clear ca0 ca1 ca2 fa0 fa1 fa2 hnea
        have Xd0 : Hid (B3q (v14.alloc (.cells #[.bool s14, .slice p14 m14 m14, .int .i64 e14] 26)) v14.heap.size (.bool s14) (.slice p14 m14 m14) (.int .i64 e14)) := B3q.new v14 _ _ _ _
        have hbn : Below v14.heap.size v14 (v14.alloc (.cells #[.bool s14, .slice p14 m14 m14, .int .i64 e14] 26)) := below1 v14 _
        generalize v14.alloc (.cells #[.bool s14, .slice p14 m14 m14, .int .i64 e14] 26) = Wd at *
        have HGd : Hid (w.heap.size ≤ v14.heap.size) := hbw.size
        replace Xa : Hid _ := Xa.out.below hbn
        replace Xb : Hid _ := Xb.out.below hbn
        replace Xc : Hid _ := Xc.out.below hbn
        replace Xf : Hid _ := Xf.out.below hbn
        replace Xl : Hid _ := Xl.out.below hbn
        replace Da : Hid _ := Da.out.below hbn
        replace Db : Hid _ := Db.out.below hbn
        replace Dc : Hid _ := Dc.out.below hbn
        replace Df : Hid _ := Df.out.below hbn
        replace Dl : Hid _ := Dl.out.below hbn
        replace Dd : Hid _ := Dd.out.below hbn
        replace hbw := Below.on hbw hbn
        clear hbn
        generalize v14.heap.size = gd at *
        have Xd := Xd0
        clear Xd0
        refine (dadd_b Da.out Dd.out (Ba.out.mono (K' := 72001) (E' := 92001) (by decide) (by decide)) Bd.out (by decide) (TB.out.below hbw)).mono ?_
        rintro e2 v15 ⟨v, z15, e15, rfl, hv, hdb, hdv, hb15⟩
        obtain ⟨s15, p15, m15, rfl, hd⟩ := hv.dn hdb.fm
        clear hv
        replace Xa : Hid _ := Xa.out.below hb15
        replace Xb : Hid _ := Xb.out.below hb15
        replace Xc : Hid _ := Xc.out.below hb15
        replace Xf : Hid _ := Xf.out.below hb15
        replace Xl : Hid _ := Xl.out.below hb15
        replace Xd : Hid _ := Xd.out.below hb15
        replace Da : Hid _ := Da.out.below hb15
        replace Db : Hid _ := Db.out.below hb15
        replace Dc : Hid _ := Dc.out.below hb15
        replace Df : Hid _ := Df.out.below hb15
        replace Dl : Hid _ := Dl.out.below hb15
        replace Dd : Hid _ := Dd.out.below hb15
        replace hbw := Below.on hbw hb15
        clear hb15
        have Du : Hid (DN v15 s15 p15 m15 m15 e15 z15) := hd
        have Bu : Hid (DB z15 e15 256004 348005) := hdb
        have Vu : Hid (dv z15 e15 = dv za ea + dv z14 e14) := hdv
        clear hd hdb hdv
        have h9 : z13 = z15 ∧ e13 = e15 := dv_inj Bl.out.fm Bu.out.fm (by rw [Vl.out, Vu.out, Vf.out, Vd.out, Int.add_assoc])
        obtain ⟨rfl, rfl⟩ := h9
        obtain ⟨cl0, cl1, cl2, fl0, fl1, fl2⟩ := Xl.out
        have hnel : gl < v15.heap.size := World.block_lt_of_cell? v15 _ cl0
        go_wp2_with fail
        clear cl0 cl1 cl2 fl0 fl1 fl2 hnel
        have Xu0 : Hid (B3q (v15.alloc (.cells #[.bool s15, .slice p15 m15 m15, .int .i64 e13] 26)) v15.heap.size (.bool s15) (.slice p15 m15 m15) (.int .i64 e13)) := B3q.new v15 _ _ _ _
        have hbn : Below v15.heap.size v15 (v15.alloc (.cells #[.bool s15, .slice p15 m15 m15, .int .i64 e13] 26)) := below1 v15 _
        generalize v15.alloc (.cells #[.bool s15, .slice p15 m15 m15, .int .i64 e13] 26) = Wu at *
        have HGu : Hid (w.heap.size ≤ v15.heap.size) := hbw.size
        replace Xa : Hid _ := Xa.out.below hbn
        replace Xb : Hid _ := Xb.out.below hbn
        replace Xc : Hid _ := Xc.out.below hbn
        replace Xf : Hid _ := Xf.out.below hbn
        replace Xl : Hid _ := Xl.out.below hbn
        replace Xd : Hid _ := Xd.out.below hbn
        replace Da : Hid _ := Da.out.below hbn
        replace Db : Hid _ := Db.out.below hbn
        replace Dc : Hid _ := Dc.out.below hbn
        replace Df : Hid _ := Df.out.below hbn
        replace Dl : Hid _ := Dl.out.below hbn
        replace Dd : Hid _ := Dd.out.below hbn
        replace Du : Hid _ := Du.out.below hbn
        replace hbw := Below.on hbw hbn
        clear hbn
        generalize v15.heap.size = gu at *
        have Xu := Xu0
        clear Xu0
        refine (same5 Dl.out Du.out).mono ?_
        rintro e v16 ⟨rfl, hb16⟩
        replace Xa : Hid _ := Xa.out.below hb16
        replace Xb : Hid _ := Xb.out.below hb16
        replace Xc : Hid _ := Xc.out.below hb16
        replace Xf : Hid _ := Xf.out.below hb16
        replace Xl : Hid _ := Xl.out.below hb16
        replace Xd : Hid _ := Xd.out.below hb16
        replace Xu : Hid _ := Xu.out.below hb16
        replace Da : Hid _ := Da.out.below hb16
        replace Db : Hid _ := Db.out.below hb16
        replace Dc : Hid _ := Dc.out.below hb16
        replace Df : Hid _ := Df.out.below hb16
        replace Dl : Hid _ := Dl.out.below hb16
        replace Dd : Hid _ := Dd.out.below hb16
        replace Du : Hid _ := Du.out.below hb16
        replace hbw := Below.on hbw hb16
        clear hb16
        clear Xu
        clear Du
        clear Xl
        clear Dl
        obtain ⟨ca0, ca1, ca2, fa0, fa1, fa2⟩ := Xa.out
        have hnea : ga < v16.heap.size := World.block_lt_of_cell? v16 _ ca0
        obtain ⟨cb0, cb1, cb2, fb0, fb1, fb2⟩ := Xb.out
        have hneb : gb < v16.heap.size := World.block_lt_of_cell? v16 _ cb0
        obtain ⟨cc0, cc1, cc2, fc0, fc1, fc2⟩ := Xc.out
        have hnec : gc < v16.heap.size := World.block_lt_of_cell? v16 _ cc0
        obtain ⟨cd0, cd1, cd2, fd0, fd1, fd2⟩ := Xd.out
        have hned : gd < v16.heap.size := World.block_lt_of_cell? v16 _ cd0
        go_wp2_with fail
        clear ca0 ca1 ca2 fa0 fa1 fa2 hnea
        clear cb0 cb1 cb2 fb0 fb1 fb2 hneb
        clear cc0 cc1 cc2 fc0 fc1 fc2 hnec
        clear cd0 cd1 cd2 fd0 fd1 fd2 hned
        refine (products5 Da.out Db.out Dc.out Dd.out Ba.out Bb.out Bc.out Bd.out Vd.out (TB.out.below hbw)).mono ?_
        rintro e v17 ⟨rfl, hb17⟩
        replace Xa : Hid _ := Xa.out.below hb17
        replace Xb : Hid _ := Xb.out.below hb17
        replace Xc : Hid _ := Xc.out.below hb17
        replace Xf : Hid _ := Xf.out.below hb17
        replace Xd : Hid _ := Xd.out.below hb17
        replace Da : Hid _ := Da.out.below hb17
        replace Db : Hid _ := Db.out.below hb17
        replace Dc : Hid _ := Dc.out.below hb17
        replace Df : Hid _ := Df.out.below hb17
        replace Dd : Hid _ := Dd.out.below hb17
        replace hbw := Below.on hbw hb17
        clear hb17
        go_wp2_with fail
        go_ret
        exact ⟨rfl, hbw⟩
end Go.Proofs.YtkiacehilnghiaaDoor

namespace Go.Proofs.YtkiacehilnghiaaDoor
open Go.RowKit Go.Shelf

structure RSubR (w : World) (g N : Nat) (xs ys : List Nat) (i ow : Nat) (ss : List Nat) (wr : World) : Prop where
  bel : Below g w wr
  own : wr.ownsRow g 100 1 (.slice (some ⟨g, 0, none⟩) i N) i (cellsV ss)
  len : ss.length = i
  dig : Dig B32 ss
  car : ow ≤ 1
  sum : valB B32 ss + valB B32 (ys.take i) = valB B32 (xs.take i) + B32 ^ i * ow
theorem RSubR.at_ {w : World} {g N : Nat} {xs ys : List Nat} {i cy : Nat} {ss : List Nat} {wr : World} (h : RSubR w g N xs ys i cy ss wr) : At32 wr (some ⟨g, 0, none⟩) i N ss := by
  rcases h.own.2 with ⟨h', _⟩ | ⟨g', cap', cur, h', hbase, hgc, hcap', hmx, hsz, htake⟩
  · simp at h'
  · simp only [Value.slice.injEq, Option.some.injEq, Addr.mk.injEq, and_true, true_and] at h'
    obtain ⟨rfl, rfl⟩ := h'
    refine ⟨h.len, hcap', hmx, h.dig, .inr ⟨g, 0, rfl, fun jj hj => ?_⟩⟩
    rw [Nat.zero_add, cell_of_row wr g jj _ _ _ hgc]
    have e1 := cellsV_get ss jj (by rw [h.len]; exact hj)
    rw [← htake, Nat.mul_one, List.getElem?_take, if_pos hj] at e1
    rw [← Array.getElem?_toList]; exact e1

end Go.Proofs.YtkiacehilnghiaaDoor

namespace Go.Proofs.YtkiacehilnghiaaDoor
open Go.RowKit Go.Shelf

structure ZR (w : World) (s : Bool) (p : Option Addr) (m : Nat) (z : Int) : Prop where
  ex : ∃ zs, At32 w p m m zs ∧ Nf B32 zs z.natAbs
  sg : s = decide (z < 0)
theorem ZR.below {w w' : World} {s : Bool} {p : Option Addr} {m : Nat} {z : Int} (h : ZR w s p m z) (hb : Below w.heap.size w w') : ZR w' s p m z := by
  obtain ⟨zs, hA, hN⟩ := h.ex
  exact ⟨⟨zs, hA.below hb, hN⟩, h.sg⟩
theorem ZR.cast {w : World} {s : Bool} {p : Option Addr} {m : Nat} {z z' : Int} (h : ZR w s p m z) (e : z = z') : ZR w s p m z' := e ▸ h
theorem ZR.zero {w : World} {s : Bool} {p : Option Addr} {m : Nat} {z : Int} (h : ZR w s p m z) : m = 0 ↔ z = 0 := by
  obtain ⟨zs, hA, hN⟩ := h.ex
  have h1 := hN.zero_iff B32_one
  have h2 := hA.len
  constructor
  · intro e
    have := h1.1 (List.eq_nil_of_length_eq_zero (by omega))
    omega
  · intro e
    have := h1.2 (by omega)
    rw [← h2, this]; rfl
theorem ZR.iv {w : World} {s : Bool} {p : Option Addr} {m : Nat} {z : Int} (h : ZR w s p m z) : Go.Proofs.YtkiacehilnghiaaDoor.iv s z.natAbs = z := by rw [h.sg]; exact iv_abs z
def GotR (B : Nat) (w' : World) (v : Value) (z : Int) (L : Nat) : Prop := ∃ s g m, v = .agg #[.bool s, .slice (some ⟨g, 0, none⟩) m m] ∧ B ≤ g ∧ ZR w' s (some ⟨g, 0, none⟩) m z ∧ m ≤ L
theorem ZR.set {w : World} {s : Bool} {g m : Nat} {z : Int} (h : ZR w s (some ⟨g, 0, none⟩) m z) (g2 o2 : Nat) (v : Value) (hne : g ≠ g2) : ZR (w.setCell ⟨g2, o2, none⟩ v) s (some ⟨g, 0, none⟩) m z := by
  obtain ⟨zs, hA, hN⟩ := h.ex
  exact ⟨⟨zs, hA.setOther g2 o2 v hne, hN⟩, h.sg⟩
theorem rmk_any {p : Option Addr} {n c : Nat} {xs : List Nat} {a : Nat} {w : World} (s : Bool) (h : At32 w p n c xs) (hx : Nf B32 xs a) (hn : n ≤ 35184372088832) :
    Calls Tryd.prog 65 #[.bool s, .slice p n c] w fun e w' => ∃ v, e = .returned v ∧ GotR w.heap.size w' v (iv s a) n ∧ Below w.heap.size w w' := by
  refine (mk04 s h hn).mono ?_
  rintro e w1 ⟨g, m, hm, rfl, hg, hA, hb⟩
  rw [trimL_of_Top hx.top] at hm hA
  have hl := h.len
  refine ⟨_, rfl, ⟨_, g, m, rfl, hg, ⟨⟨xs, hA, by rw [iv_natAbs]; exact hx⟩, ?_⟩, by omega⟩, hb⟩
  rw [iv_lt]
  have : decide (0 < m) = decide (0 < a) := by
    refine decide_eq_decide.2 ?_
    have h1 := hx.zero_iff B32_one
    constructor
    · intro h0
      rcases Nat.eq_zero_or_pos a with e | e
      · have := h1.2 e; rw [this] at hm; simp at hm; omega
      · exact e
    · intro h0
      rcases Nat.eq_zero_or_pos m with e | e
      · have := h1.1 (List.eq_nil_of_length_eq_zero (by omega)); omega
      · exact e
  rw [this]
end Go.Proofs.YtkiacehilnghiaaDoor

namespace Go.Proofs.YtkiacehilnghiaaDoor
open Go.RowKit Go.Shelf

end Go.Proofs.YtkiacehilnghiaaDoor

namespace Go.Proofs.YtkiacehilnghiaaDoor
open Go.RowKit Go.Shelf

end Go.Proofs.YtkiacehilnghiaaDoor

namespace Go.Proofs.YtkiacehilnghiaaDoor
open Go.RowKit Go.Shelf

set_option maxRecDepth 20000 in
set_option maxHeartbeats 8000000 in
theorem rshr_0 {p : Option Addr} {n c : Nat} {xs : List Nat} {v : Nat} {w : World} (h : At32 w p n c xs) (hx : Nf B32 xs v) (hn : n ≤ 16384) :
    Calls Tryd.prog 63 #[.slice p n c, .int .i64 0] w fun e w' => ∃ g, e = .returned (.slice (some ⟨g, 0, none⟩) n n) ∧ At32 w' (some ⟨g, 0, none⟩) n n xs ∧ Below w.heap.size w w' := by
  have H : Hid (At32 w p n c xs) := h
  have HX : Hid (Nf B32 xs v) := hx
  have HN : Hid (n ≤ 16384) := hn
  have HL : Hid (xs.length = n) := h.len
  clear h hx hn
  go_enter Tryd.func63, Tryd.ntmps63
  go_wp2_with fail
  refine (rnorm_any H.out (by have := HN.out; omega)).mono ?_
  rintro e w1 ⟨g, rfl, hg, hblk, hb⟩
  rw [trimL_of_Top HX.out.top] at hblk ⊢
  rw [HL.out]
  have HB : Hid (At32 w1 (some ⟨g, 0, none⟩) n n xs) := hblk.at_ HX.out.dig HL.out (by unfold maxLen; have := HN.out; omega)
  clear hblk hg
  go_wp2_with fail
  go_ret
  exact ⟨g, rfl, HB.out, hb⟩
set_option maxRecDepth 20000 in
set_option maxHeartbeats 8000000 in
theorem told5 {p : Option Addr} {m : Nat} {w : World} {z e : Int} (s : Bool) (h : ZR w s p m z) (hz : z % 2 = 1) (hm : m ≤ 8000) (he : -1048576 ≤ e ∧ e ≤ 1048576) :
    Calls Tryd.prog 45 #[.agg #[.bool s, .slice p m m], .int .i64 e] w fun en w' => ∃ g m' c', en = .returned (.tuple #[DV s (some ⟨g, 0, none⟩) m' c' e, .int .i64 0]) ∧ w.heap.size ≤ g ∧ DN w' s (some ⟨g, 0, none⟩) m' c' e z ∧ Below w.heap.size w w' := by
  obtain ⟨xs, hA, hN⟩ := h.ex
  have AX : Hid (At32 w p m m xs) := hA
  have NX : Hid (Nf B32 xs z.natAbs) := hN
  have HZ : Hid (z % 2 = 1 ∧ s = decide (z < 0) ∧ m ≤ 8000) := ⟨hz, h.sg, hm⟩
  have HE : Hid (-1048576 ≤ e ∧ e ≤ 1048576) := he
  have hm0 : ¬ m = 0 := fun e0 => by have := h.zero.1 e0; omega
  have hm1 : ((m : Int) == 0) = false := by simp; omega
  have g1 : ¬ 1048576 < e := by omega
  have g2 : ¬ e < -1099511627776 := by omega
  have g3 : ¬ e < -1048576 := by omega
  have g4 : ¬ (16384 : Int) < (m : Int) := by omega
  have g5 : wrap64 e = e := by simp only [wrap64]; omega
  clear h hz hm hA hN he
  go_enter Tryd.func45, Tryd.ntmps45
  go_wp2_with fail
  obtain ⟨W0, hW0⟩ : ∃ W0, W0 = ((w.alloc (.cells #[.bool s, .slice p m m] 70)).alloc (.cells #[.bool false, .slice none 0 0, .int .i64 0] 26)) := ⟨_, rfl⟩
  have Xm : Hid (Box W0 (w.heap.size) (.bool s) (.slice p m m)) := by rw [hW0]; exact ⟨by go_simp, by go_simp, by go_simp, by go_simp⟩
  have Xr : Hid (B3q W0 (w.heap.size + 1) (.bool false) (.slice none 0 0) (.int .i64 0)) := by rw [hW0]; exact ⟨by go_simp, by go_simp, by go_simp, by go_simp, by go_simp, by go_simp⟩
  have hb0 : Below w.heap.size w W0 := by rw [hW0]; exact below2 w _ _
  rw [← hW0]
  clear hW0
  have hbw : Below w.heap.size w w := Below.refl _ _
  obtain ⟨gr, hgr⟩ : ∃ g, g = w.heap.size + 1 := ⟨_, rfl⟩
  have HGr : Hid (w.heap.size ≤ gr) := by rw [hgr]; show _ ≤ _; omega
  rw [← hgr] at Xr
  try rw [← hgr]
  obtain ⟨gm, hgm⟩ : ∃ g, g = w.heap.size := ⟨_, rfl⟩
  have HGm : Hid (w.heap.size ≤ gm) := by rw [hgm]; show _ ≤ _; omega
  rw [← hgm] at Xm
  try rw [← hgm]
  have HGD : Hid (gm ≠ gr ∧ gr ≠ gm) := by rw [hgm, hgr]; exact ⟨by omega, by omega⟩
  clear hgm hgr
  replace hbw := Below.on hbw hb0
  clear hb0
  refine (rzeros_any (k := 0) (AX.out.below hbw) NX.out (by have := HZ.out; omega) ⟨by rw [Nat.pow_zero, Nat.mod_one], by rw [Nat.pow_zero, Nat.div_one]; have := HZ.out; omega⟩ (by have := HZ.out; omega)).mono ?_
  rintro e2 v1 ⟨rfl, hw⟩
  obtain rfl := hw.symm
  clear hw
  obtain ⟨cm0, cm1, fm0, fm1⟩ := Xm.out
  have hnem := Xm.out.lt
  go_wp2_with fail
  clear cm0 cm1 fm0 fm1 hnem
  refine (rshr_0 (AX.out.below hbw) NX.out (by have := HZ.out; omega)).mono ?_
  rintro e2 v3 ⟨g3, rfl, hA3, hb3⟩
  replace Xm : Hid _ := Xm.out.below hb3
  replace Xr : Hid _ := Xr.out.below hb3
  replace hbw := Below.on hbw hb3
  clear hb3
  have A3 : Hid (At32 v3 (some ⟨g3, 0, none⟩) m m xs) := hA3
  clear hA3
  obtain ⟨cm0, cm1, fm0, fm1⟩ := Xm.out
  have hnem := Xm.out.lt
  go_wp2_with fail
  clear cm0 cm1 fm0 fm1 hnem
  refine (rmk_any s A3.out NX.out (by have := HZ.out; omega)).mono ?_
  rintro e v5 ⟨v, rfl, hv, hb5⟩
  obtain ⟨s5, g5, m5, rfl, hg5, hz5, hl5⟩ := hv
  have HN5 : Hid (v3.heap.size ≤ g5) := hg5
  have HB5 : Hid (v3.heap.size ≤ v5.heap.size) := hb5.size
  replace Xm : Hid _ := Xm.out.below hb5
  replace Xr : Hid _ := Xr.out.below hb5
  replace A3 : Hid _ := A3.out.below hb5
  replace hbw := Below.on hbw hb5
  clear hb5
  have Z5 : Hid (ZR v5 s5 (some ⟨g5, 0, none⟩) m5 (iv s z.natAbs)) := hz5
  have HL5 : Hid (m5 ≤ m) := hl5
  clear hz5 hl5 hg5
  have hz5 := Z5.out.cast (show iv s z.natAbs = z from by rw [HZ.out.2.1]; exact iv_abs z)
  obtain rfl : s5 = s := by rw [hz5.sg, HZ.out.2.1]
  obtain ⟨zs, hA5, hN5⟩ := hz5.ex
  have h05 : s5 = true → 0 < m5 := fun h8 => Nat.pos_of_ne_zero fun e0 => by have := hz5.zero.1 e0; have := HZ.out.1; omega
  have HZ5 : Hid (At32 v5 (some ⟨g5, 0, none⟩) m5 m5 zs ∧ Nf B32 zs z.natAbs ∧ (s5 = true → 0 < m5) ∧ m5 ≤ m) := ⟨hA5, hN5, h05, HL5.out⟩
  clear hz5 hA5 hN5 h05 Z5
  go_wp2_with fail
  have HRL : Hid (gr < v5.heap.size ∧ w.heap.size ≤ v5.heap.size) := ⟨Xr.out.lt, hbw.size⟩
  refine (to04_any s5 HZ5.out.1 HZ5.out.2.1 (by have := HZ5.out; have := HZ.out; omega) HZ5.out.2.2.1).mono ?_
  rintro e2 v6 ⟨g6, k6, c6, us, rfl, hA6, hN6, hg6, hb6⟩
  replace Xm : Hid _ := Xm.out.below hb6
  replace Xr : Hid _ := Xr.out.below hb6
  replace A3 : Hid _ := A3.out.below hb6
  replace hbw := Below.on hbw hb6
  clear hb6
  have A6 : Hid (At v6 (some ⟨g6, 0, none⟩) k6 c6 us) := hA6
  have N6 : Hid (Nf B64 us z.natAbs ∧ gr < g6) := ⟨hN6, Nat.lt_of_lt_of_le HRL.out.1 hg6⟩
  clear hA6 hN6 hg6
  obtain ⟨cr0, cr1, cr2, fr0, fr1, fr2⟩ := Xr.out
  have hner : gr < v6.heap.size := World.block_lt_of_cell? v6 _ cr0
  go_wp2_with fail
  refine bodyPost_ret (v := .tuple #[DV s5 (some ⟨g6, 0, none⟩) k6 c6 e, .int .i64 0]) (by rw [results_cell_tmp rfl]; go_simp) rfl ⟨g6, k6, c6, rfl, Nat.le_trans HGr.out (Nat.le_of_lt N6.out.2), ⟨⟨⟨us, ?_, N6.out.1, ?_⟩, HZ.out.2.1⟩, .inr ⟨HZ.out.1, HE.out⟩⟩, ?_⟩
  · have := N6.out.2
    exact ((A6.out.setOther _ _ _ (by omega)).setOther _ _ _ (by omega)).setOther _ _ _ (by omega)
  · have h1 := (NX.out.len_le B32_one (k := m)).1 (by rw [AX.out.len]; exact Nat.le_refl _)
    have h2 := (N6.out.1.len_le B64_one (k := m)).2 (Nat.lt_of_lt_of_le h1 (Nat.pow_le_pow_left (by decide) m))
    rw [A6.out.len] at h2
    have := HZ.out
    omega
  · exact bSet (bSet (bSet hbw _ _ _ HGr.out) _ _ _ HGr.out) _ _ _ HGr.out
end Go.Proofs.YtkiacehilnghiaaDoor

namespace Go.Proofs.YtkiacehilnghiaaDoor
open Go.RowKit Go.Shelf

theorem rfrom5 {p : Option Addr} {n c : Nat} {xs : List Nat} {w : World} (s : Bool) (h : At w p n c xs) (hn : n ≤ 17592186044416) :
    Calls Tryd.prog 46 #[ZV s p n c] w fun e w' => ∃ s' p' m', e = .returned (.agg #[.bool s', .slice p' m' m']) ∧ ZR w' s' p' m' (iv s (valB B64 xs)) ∧ m' ≤ 2 * n ∧ Below w.heap.size w w' := by
  refine (from04 s h hn).mono ?_
  rintro e w1 ⟨p1, m1, z1, rfl, hA, hN, hl, hb⟩
  refine ⟨_, p1, m1, rfl, ⟨⟨z1, hA, by rw [iv_natAbs]; exact hN⟩, ?_⟩, hl, hb⟩
  rw [iv_lt]
  have : decide (0 < m1) = decide (0 < valB B64 xs) := by
    refine decide_eq_decide.2 ?_
    have h1 := hN.zero_iff B32_one
    have h2 := hA.len
    constructor
    · intro h0
      rcases Nat.eq_zero_or_pos (valB B64 xs) with e | e
      · have := h1.2 e; rw [this] at h2; simp at h2; omega
      · exact e
    · intro h0
      rcases Nat.eq_zero_or_pos m1 with e | e
      · have := h1.1 (List.eq_nil_of_length_eq_zero (by omega)); omega
      · exact e
  rw [this]
theorem DN.set {w : World} {s : Bool} {g m c : Nat} {e z : Int} (h : DN w s (some ⟨g, 0, none⟩) m c e z) (g2 o2 : Nat) (v : Value) (hne : g ≠ g2) : DN (w.setCell ⟨g2, o2, none⟩ v) s (some ⟨g, 0, none⟩) m c e z := by
  obtain ⟨xs, hX⟩ := h.zn.ex
  exact ⟨⟨⟨xs, hX.at_.setOther g2 o2 v hne, hX.nf, hX.le⟩, h.zn.sg⟩, h.fm⟩
set_option maxRecDepth 20000 in
set_option maxHeartbeats 8000000 in
theorem docof5 {w : World} (z : Int) (h0 : -9223372036854775808 ≤ z) (h1 : z ≤ 9223372036854775807) (hz : z % 2 = 1) :
    Calls Tryd.prog 26 #[.int .i64 z] w fun en w' => ∃ s' g m' c', en = .returned (DV s' (some ⟨g, 0, none⟩) m' c' 0) ∧ w.heap.size ≤ g ∧ DN w' s' (some ⟨g, 0, none⟩) m' c' 0 z ∧ Below w.heap.size w w' := by
  have HZ : Hid (-9223372036854775808 ≤ z ∧ z ≤ 9223372036854775807 ∧ z % 2 = 1) := ⟨h0, h1, hz⟩
  clear h0 h1 hz
  go_enter Tryd.func26, Tryd.ntmps26
  go_wp2_with fail
  obtain ⟨W0, hW0⟩ : ∃ W0, W0 = (w.alloc (.cells #[.bool false, .slice none 0 0, .int .i64 0] 26)) := ⟨_, rfl⟩
  have Xr : Hid (B3q W0 (w.heap.size) (.bool false) (.slice none 0 0) (.int .i64 0)) := by rw [hW0]; exact ⟨by go_simp, by go_simp, by go_simp, by go_simp, by go_simp, by go_simp⟩
  have hb0 : Below w.heap.size w W0 := by rw [hW0]; exact below1 w _
  rw [← hW0]
  clear hW0
  have hbw : Below w.heap.size w w := Below.refl _ _
  obtain ⟨gr, hgr⟩ : ∃ g, g = w.heap.size := ⟨_, rfl⟩
  have HGr : Hid (w.heap.size ≤ gr) := by rw [hgr]; show _ ≤ _; omega
  rw [← hgr] at Xr
  try rw [← hgr]
  clear hgr
  replace hbw := Below.on hbw hb0
  clear hb0
  refine (rof_any z _ HZ.out.1 HZ.out.2.1).mono ?_
  rintro e2 v1 ⟨g1, m1, zs, rfl, hA1, hN1, hl1, hb1⟩
  replace Xr : Hid _ := Xr.out.below hb1
  replace hbw := Below.on hbw hb1
  clear hb1
  have Z1 : Hid (ZR v1 (decide (z < 0)) (some ⟨g1, 0, none⟩) m1 z) := ⟨⟨zs, hA1, hN1⟩, rfl⟩
  have HL1 : Hid (m1 ≤ 3) := hl1
  clear hA1 hN1 hl1
  obtain ⟨s1, hs1⟩ : ∃ b, b = decide (z < 0) := ⟨_, rfl⟩
  rw [← hs1] at Z1 ⊢
  clear hs1
  go_wp2_with fail
  refine (told5 s1 Z1.out HZ.out.2.2 (by have := HL1.out; omega) (by omega)).mono ?_
  rintro e2 v2 ⟨g2, m2, c2, rfl, hg2, hd2, hb2⟩
  have HR2 : Hid (gr < g2 ∧ w.heap.size ≤ g2) := ⟨Nat.lt_of_lt_of_le Xr.out.lt hg2, Nat.le_trans hbw.size hg2⟩
  replace Xr : Hid _ := Xr.out.below hb2
  replace Z1 : Hid _ := Z1.out.below hb2
  replace hbw := Below.on hbw hb2
  clear hb2
  have D2 : Hid (DN v2 s1 (some ⟨g2, 0, none⟩) m2 c2 0 z) := hd2
  clear hd2 hg2
  obtain ⟨cr0, cr1, cr2, fr0, fr1, fr2⟩ := Xr.out
  have hner : gr < v2.heap.size := World.block_lt_of_cell? v2 _ cr0
  go_wp2_with fail
  refine bodyPost_ret (v := DV s1 (some ⟨g2, 0, none⟩) m2 c2 0) (by rw [results_cell1 rfl]; go_simp) rfl ⟨s1, g2, m2, c2, rfl, HR2.out.2, ?_, ?_⟩
  · have := HR2.out.1
    exact (((D2.out.set _ _ _ (by omega)).set _ _ _ (by omega)).set _ _ _ (by omega)).below (below1 _ _)
  · exact Below.on (bSet (bSet (bSet hbw _ _ _ HGr.out) _ _ _ HGr.out) _ _ _ HGr.out) (below1 _ _)
end Go.Proofs.YtkiacehilnghiaaDoor

namespace Go.Proofs.YtkiacehilnghiaaDoor
open Go.RowKit Go.Shelf

set_option maxRecDepth 20000 in
set_option maxHeartbeats 8000000 in
theorem nought5 {p : Option Addr} {m c : Nat} {w : World} {e : Int} {s : Bool} (hm : 0 < m) :
    Calls Tryd.prog 44 #[DV s p m c e] w fun en w' => en = .returned (.bool false) ∧ Below w.heap.size w w' := by
  have h1 : ((m : Int) == 0) = false := by simp; omega
  have h2 : ¬ m = 0 := by omega
  clear hm
  go_enter Tryd.func44, Tryd.ntmps44
  go_wp2_with fail
  go_ret
  exact ⟨rfl, below1 w _⟩
set_option maxRecDepth 20000 in
set_option maxHeartbeats 8000000 in
theorem docscale5 {p : Option Addr} {m c : Nat} {w : World} {z e n : Int} {s : Bool} (h : DN w s p m c e z) (hz : z % 2 = 1) (hm : m ≤ 4000) (hn : -1000 ≤ n ∧ n ≤ 1000) (he : -1000 ≤ e ∧ e ≤ 1000) :
    Calls Tryd.prog 25 #[DV s p m c e, .int .i64 n] w fun en w' => ∃ s' g m' c', en = .returned (.tuple #[DV s' (some ⟨g, 0, none⟩) m' c' (e + n), .int .i64 0]) ∧ w.heap.size ≤ g ∧ DN w' s' (some ⟨g, 0, none⟩) m' c' (e + n) z ∧ Below w.heap.size w w' := by
  have H : Hid (DN w s p m c e z) := h
  have HZ : Hid (z % 2 = 1 ∧ m ≤ 4000 ∧ -1000 ≤ n ∧ n ≤ 1000 ∧ -1000 ≤ e ∧ e ≤ 1000) := ⟨hz, hm, hn.1, hn.2, he.1, he.2⟩
  have g1 : ¬ 2097152 < n := by omega
  have g2 : ¬ n < -2097152 := by omega
  have g5 : wrap64 (e + n) = e + n := by simp only [wrap64]; omega
  have g6 : IntKind.i64.wrap (e + n) = e + n := by simp [IntKind.wrap, IntKind.signed, IntKind.bits]; omega
  clear h hz hm hn he
  go_enter Tryd.func25, Tryd.ntmps25
  go_wp2_with fail
  obtain ⟨W0, hW0⟩ : ∃ W0, W0 = ((w.alloc (.cells #[.bool s, .slice p m c, .int .i64 e] 26)).alloc (.cells #[.bool false, .slice none 0 0, .int .i64 0] 26)) := ⟨_, rfl⟩
  have Xd : Hid (B3q W0 (w.heap.size) (.bool s) (.slice p m c) (.int .i64 e)) := by rw [hW0]; exact ⟨by go_simp, by go_simp, by go_simp, by go_simp, by go_simp, by go_simp⟩
  have Xr : Hid (B3q W0 (w.heap.size + 1) (.bool false) (.slice none 0 0) (.int .i64 0)) := by rw [hW0]; exact ⟨by go_simp, by go_simp, by go_simp, by go_simp, by go_simp, by go_simp⟩
  have hb0 : Below w.heap.size w W0 := by rw [hW0]; exact below2 w _ _
  rw [← hW0]
  clear hW0
  have hbw : Below w.heap.size w w := Below.refl _ _
  obtain ⟨gr, hgr⟩ : ∃ g, g = w.heap.size + 1 := ⟨_, rfl⟩
  have HGr : Hid (w.heap.size ≤ gr) := by rw [hgr]; show _ ≤ _; omega
  rw [← hgr] at Xr
  try rw [← hgr]
  obtain ⟨gd, hgd⟩ : ∃ g, g = w.heap.size := ⟨_, rfl⟩
  have HGd : Hid (w.heap.size ≤ gd) := by rw [hgd]; show _ ≤ _; omega
  rw [← hgd] at Xd
  try rw [← hgd]
  have HGD : Hid (gd ≠ gr ∧ gr ≠ gd) := by rw [hgd, hgr]; exact ⟨by omega, by omega⟩
  clear hgd hgr
  replace hbw := Below.on hbw hb0
  clear hb0
  obtain ⟨xs, hX⟩ := (H.out.zn.below hbw).ex
  have HV : Hid (valB B64 xs = z.natAbs) := hX.nf.val
  have HMP : Hid (0 < m) := by
    rcases Nat.eq_zero_or_pos m with e0 | e0
    · subst e0
      have h8 := hX.nf.val
      rw [List.eq_nil_of_length_eq_zero hX.at_.len] at h8
      have h9 := HZ.out.1
      have : z.natAbs = 0 := h8.symm
      omega
    · exact e0
  have AX : Hid (At W0 p m c xs) := hX.at_
  refine (docformd s hX.at_).mono ?_
  rintro e2 v1 ⟨rfl, hb1⟩
  rw [show formD s xs e = true from dn_formD (H.out.below hbw) hX]
  clear hX
  replace Xd : Hid _ := Xd.out.below hb1
  replace Xr : Hid _ := Xr.out.below hb1
  replace AX : Hid _ := AX.out.below hb1
  replace hbw := Below.on hbw hb1
  clear hb1
  obtain ⟨cd0, cd1, cd2, fd0, fd1, fd2⟩ := Xd.out
  have hned : gd < v1.heap.size := World.block_lt_of_cell? v1 _ cd0
  go_wp2_with fail
  clear cd0 cd1 cd2 fd0 fd1 fd2 hned
  refine (nought5 HMP.out).mono ?_
  rintro e v2 ⟨rfl, hb2⟩
  replace Xd : Hid _ := Xd.out.below hb2
  replace Xr : Hid _ := Xr.out.below hb2
  replace AX : Hid _ := AX.out.below hb2
  replace hbw := Below.on hbw hb2
  clear hb2
  obtain ⟨cd0, cd1, cd2, fd0, fd1, fd2⟩ := Xd.out
  have hned : gd < v2.heap.size := World.block_lt_of_cell? v2 _ cd0
  go_wp2_with fail
  clear cd0 cd1 cd2 fd0 fd1 fd2 hned
  obtain ⟨W5, hW5⟩ : ∃ W1, W1 = v2.drew := ⟨_, rfl⟩
  have hbd : Below v2.heap.size v2 W5 := by rw [hW5]; exact bDrew1 (Below.refl _ _)
  replace Xd : Hid _ := Xd.out.below hbd
  replace Xr : Hid _ := Xr.out.below hbd
  replace AX : Hid _ := AX.out.below hbd
  replace hbw := Below.on hbw hbd
  clear hbd
  have HJ : Hid ((fun W' : World => W'.cell? ⟨gd, 0, none⟩ = some (.bool s) ∧ W'.cell? ⟨gd, 1, none⟩ = some (.slice p m c) ∧ W'.cell? ⟨gd, 2, none⟩ = some (.int .i64 e)) W5) := ⟨Xd.out.c0, Xd.out.c1, Xd.out.c2⟩
  refine wp_region_J (fun W' => W'.cell? ⟨gd, 0, none⟩ = some (.bool s) ∧ W'.cell? ⟨gd, 1, none⟩ = some (.slice p m c) ∧ W'.cell? ⟨gd, 2, none⟩ = some (.int .i64 e)) (by kernel_rfl) ?_
  rw [← hW5]
  clear hW5
  refine wpJ_take (i := 0) (v := ?v1x0) rfl (by kernel_rfl) (by kernel_rfl) (by kernel_rfl) (fun _ _ _ h => h) (by kernel_rfl) ?hy1x0 HJ.out ?rest1x0
  case hy1x0 => (intro W' hJ; obtain ⟨j0, j1, j2⟩ := hJ; go_simp; first | done | with_reducible rfl)
  refine wpJ_take (i := 1) (v := ?v2x1) rfl (by kernel_rfl) (by kernel_rfl) (by kernel_rfl) (fun _ _ _ h => h) (by kernel_rfl) ?hy2x1 HJ.out ?rest2x1
  case hy2x1 => (intro W' hJ; obtain ⟨j0, j1, j2⟩ := hJ; go_simp; first | done | with_reducible rfl)
  refine wpJ_take (i := 3) (v := ?v3x3) rfl (by kernel_rfl) (by kernel_rfl) (by kernel_rfl) (fun _ _ _ h => h) (by kernel_rfl) ?hy3x3 HJ.out ?rest3x3
  case hy3x3 => (intro W' hJ; obtain ⟨j0, j1, j2⟩ := hJ; go_simp; first | done | with_reducible rfl)
  refine wpJ_take (i := 4) (v := ?v4x4) rfl (by kernel_rfl) (by kernel_rfl) (by kernel_rfl) (fun _ _ _ h => h) (by kernel_rfl) ?hy4x4 HJ.out ?rest4x4
  case hy4x4 => (intro W' hJ; obtain ⟨j0, j1, j2⟩ := hJ; go_simp; first | done | with_reducible rfl)
  refine wpJ_take (i := 5) (v := ?v5x5) rfl (by kernel_rfl) (by kernel_rfl) (by kernel_rfl) (fun _ _ _ h => h) (by kernel_rfl) ?hy5x5 HJ.out ?rest5x5
  case hy5x5 => (intro W' hJ; obtain ⟨j0, j1, j2⟩ := hJ; go_simp; first | done | with_reducible rfl)
  refine wpJ_take (i := 6) (v := ?v6x6) rfl (by kernel_rfl) (by kernel_rfl) (by kernel_rfl) (fun _ _ _ h => h) (by kernel_rfl) ?hy6x6 HJ.out ?rest6x6
  case hy6x6 => (intro W' hJ; obtain ⟨j0, j1, j2⟩ := hJ; go_simp; first | done | with_reducible rfl)
  refine wpJ_one (i := 2) (by kernel_rfl) rfl (by kernel_rfl) (fun KJ hK => ?_)
  go_simp
  refine (rfrom5 s AX.out (by have := HZ.out; omega)).mono ?_
  rintro e2 v3 ⟨s3, p3, m3, rfl, hz3, hl3, hb3⟩
  rw [HV.out, H.out.zn.iv] at hz3
  replace Xd : Hid _ := Xd.out.below hb3
  replace Xr : Hid _ := Xr.out.below hb3
  replace AX : Hid _ := AX.out.below hb3
  replace hbw := Below.on hbw hb3
  clear hb3
  have Z3 : Hid (ZR v3 s3 p3 m3 z) := hz3
  have HL3 : Hid (m3 ≤ 8000) := by have := HZ.out; show m3 ≤ _; omega
  clear hz3 hl3
  refine hK _ _ ⟨Xd.out.c0, Xd.out.c1, Xd.out.c2⟩ ?_
  clear hK
  refine wpJ_one (i := 7) (by kernel_rfl) rfl (by kernel_rfl) (fun KJ hK => ?_)
  go_simp
  refine (told5 s3 Z3.out HZ.out.1 HL3.out (by have := HZ.out; omega)).mono ?_
  rintro e2 v4 ⟨g4, m4, c4, rfl, hg4, hd4, hb4⟩
  have HR4 : Hid (gr < g4 ∧ w.heap.size ≤ g4) := ⟨Nat.lt_of_lt_of_le Xr.out.lt hg4, Nat.le_trans hbw.size hg4⟩
  replace Xd : Hid _ := Xd.out.below hb4
  replace Xr : Hid _ := Xr.out.below hb4
  replace AX : Hid _ := AX.out.below hb4
  replace Z3 : Hid _ := Z3.out.below hb4
  replace hbw := Below.on hbw hb4
  clear hb4
  have D4 : Hid (DN v4 s3 (some ⟨g4, 0, none⟩) m4 c4 (e + n) z) := hd4
  clear hd4 hg4
  clear HJ
  have HJ : Hid ((fun W' : World => W'.cell? ⟨gd, 0, none⟩ = some (.bool s) ∧ W'.cell? ⟨gd, 1, none⟩ = some (.slice p m c) ∧ W'.cell? ⟨gd, 2, none⟩ = some (.int .i64 e)) v4) := ⟨Xd.out.c0, Xd.out.c1, Xd.out.c2⟩
  refine hK _ _ HJ.out ?_
  clear hK
  refine wpJ_take (i := 8) (v := ?v7x8) rfl (by kernel_rfl) (by kernel_rfl) (by kernel_rfl) (fun _ _ _ h => h) (by kernel_rfl) ?hy7x8 HJ.out ?rest7x8
  case hy7x8 => (intro W' hJ; obtain ⟨j0, j1, j2⟩ := hJ; go_simp; first | done | with_reducible rfl)
  refine wpJ_take (i := 9) (v := ?v8x9) rfl (by kernel_rfl) (by kernel_rfl) (by kernel_rfl) (fun _ _ _ h => h) (by kernel_rfl) ?hy8x9 HJ.out ?rest8x9
  case hy8x9 => (intro W' hJ; obtain ⟨j0, j1, j2⟩ := hJ; go_simp; first | done | with_reducible rfl)
  obtain ⟨cr0, cr1, cr2, fr0, fr1, fr2⟩ := Xr.out
  have hner : gr < v4.heap.size := World.block_lt_of_cell? v4 _ cr0
  obtain ⟨cd0, cd1, cd2, fd0, fd1, fd2⟩ := Xd.out
  have hned : gd < v4.heap.size := World.block_lt_of_cell? v4 _ cd0
  obtain ⟨hgd0, hgd1⟩ := HGD.out
  refine wpJ_one (i := 10) (by kernel_rfl) rfl (by kernel_rfl) (fun KJ hK => ?_)
  go_simp
  have HJ2 : Hid ((fun W' : World => W'.cell? ⟨gd, 0, none⟩ = some (.bool s) ∧ W'.cell? ⟨gd, 1, none⟩ = some (.slice p m c) ∧ W'.cell? ⟨gd, 2, none⟩ = some (.int .i64 e)) (((v4.setCell ⟨gr, 0, none⟩ (.bool s3)).setCell ⟨gr, 1, none⟩ (.slice (some ⟨g4, 0, none⟩) m4 c4)).setCell ⟨gr, 2, none⟩ (.int .i64 (e + n)))) := ⟨by go_simp, by go_simp, by go_simp⟩
  refine hK _ _ HJ2.out ?_
  clear hK HJ
  have HJ := HJ2
  clear HJ2
  refine wpJ_take (i := 11) (v := ?v9x11) rfl (by kernel_rfl) (by kernel_rfl) (by kernel_rfl) (fun _ _ _ h => h) (by kernel_rfl) ?hy9x11 HJ.out ?rest9x11
  case hy9x11 => (intro W' hJ; obtain ⟨j0, j1, j2⟩ := hJ; go_simp; first | done | with_reducible rfl)
  refine wpJ_done (by kernel_rfl) ?_ _
  clear HJ
  go_wp2_with fail
  refine bodyPost_ret (v := .tuple #[DV s3 (some ⟨g4, 0, none⟩) m4 c4 (e + n), .int .i64 0]) (by rw [results_cell_tmp rfl]; go_simp) rfl ⟨s3, g4, m4, c4, rfl, HR4.out.2, ?_, ?_⟩
  · have := HR4.out.1
    exact ((D4.out.set _ _ _ (by omega)).set _ _ _ (by omega)).set _ _ _ (by omega)
  · exact bSet (bSet (bSet hbw _ _ _ HGr.out) _ _ _ HGr.out) _ _ _ HGr.out
end Go.Proofs.YtkiacehilnghiaaDoor

namespace Go.Proofs.YtkiacehilnghiaaDoor
open Go.RowKit Go.Shelf

set_option maxRecDepth 20000 in
set_option maxHeartbeats 8000000 in
theorem num5 {w : World} (z e : Int) (h0 : -1000 ≤ z ∧ z ≤ 1000) (hz : z % 2 = 1) (he : -1000 ≤ e ∧ e ≤ 1000) :
    Calls Tryd.prog 11 #[.int .i64 z, .int .i64 e] w fun en w' => ∃ s' g m' c', en = .returned (DV s' (some ⟨g, 0, none⟩) m' c' e) ∧ w.heap.size ≤ g ∧ DN w' s' (some ⟨g, 0, none⟩) m' c' e z ∧ Below w.heap.size w w' := by
  have HZ : Hid (-1000 ≤ z ∧ z ≤ 1000 ∧ z % 2 = 1 ∧ -1000 ≤ e ∧ e ≤ 1000) := ⟨h0.1, h0.2, hz, he.1, he.2⟩
  clear h0 hz he
  go_enter Tryd.func11, Tryd.ntmps11
  go_wp2_with fail
  obtain ⟨W0, hW0⟩ : ∃ W0, W0 = (w.alloc (.cells #[.bool false, .slice none 0 0, .int .i64 0] 26)) := ⟨_, rfl⟩
  have Xr : Hid (B3q W0 (w.heap.size) (.bool false) (.slice none 0 0) (.int .i64 0)) := by rw [hW0]; exact ⟨by go_simp, by go_simp, by go_simp, by go_simp, by go_simp, by go_simp⟩
  have hb0 : Below w.heap.size w W0 := by rw [hW0]; exact below1 w _
  rw [← hW0]
  clear hW0
  have hbw : Below w.heap.size w w := Below.refl _ _
  obtain ⟨gr, hgr⟩ : ∃ g, g = w.heap.size := ⟨_, rfl⟩
  have HGr : Hid (w.heap.size ≤ gr) := by rw [hgr]; show _ ≤ _; omega
  rw [← hgr] at Xr
  try rw [← hgr]
  clear hgr
  replace hbw := Below.on hbw hb0
  clear hb0
  refine (docof5 z (by have := HZ.out; omega) (by have := HZ.out; omega) HZ.out.2.2.1).mono ?_
  rintro e2 v1 ⟨s1, g1, m1, c1, rfl, hg1, hd1, hb1⟩
  replace Xr : Hid _ := Xr.out.below hb1
  replace hbw := Below.on hbw hb1
  clear hb1
  have D1 : Hid (DN v1 s1 (some ⟨g1, 0, none⟩) m1 c1 0 z) := hd1
  have hm1 : m1 ≤ 4000 := by
    obtain ⟨xs, hX⟩ := hd1.zn.ex
    have := (hX.nf.len_le B64_one (k := 1)).2 (by rw [Nat.pow_one, B64_eq]; have := HZ.out; omega)
    rw [hX.at_.len] at this
    omega
  have HM1 : Hid (m1 ≤ 4000) := hm1
  clear hd1 hg1 hm1
  go_wp2_with fail
  refine (docscale5 D1.out HZ.out.2.2.1 HM1.out (by have := HZ.out; omega) (by omega)).mono ?_
  rw [Int.zero_add]
  rintro e2 v2 ⟨s2, g2, m2, c2, rfl, hg2, hd2, hb2⟩
  have HR2 : Hid (gr < g2 ∧ w.heap.size ≤ g2) := ⟨Nat.lt_of_lt_of_le Xr.out.lt hg2, Nat.le_trans hbw.size hg2⟩
  replace Xr : Hid _ := Xr.out.below hb2
  replace D1 : Hid _ := D1.out.below hb2
  replace hbw := Below.on hbw hb2
  clear hb2
  have D2 : Hid (DN v2 s2 (some ⟨g2, 0, none⟩) m2 c2 e z) := hd2
  clear hd2 hg2
  obtain ⟨cr0, cr1, cr2, fr0, fr1, fr2⟩ := Xr.out
  have hner : gr < v2.heap.size := World.block_lt_of_cell? v2 _ cr0
  go_wp2_with fail
  refine bodyPost_ret (v := DV s2 (some ⟨g2, 0, none⟩) m2 c2 e) (by rw [results_cell1 rfl]; go_simp) rfl ⟨s2, g2, m2, c2, rfl, HR2.out.2, ?_, ?_⟩
  · have := HR2.out.1
    exact (((D2.out.set _ _ _ (by omega)).set _ _ _ (by omega)).set _ _ _ (by omega)).below (below1 _ _)
  · exact Below.on (bSet (bSet (bSet hbw _ _ _ HGr.out) _ _ _ HGr.out) _ _ _ HGr.out) (below1 _ _)
end Go.Proofs.YtkiacehilnghiaaDoor

namespace Go.Proofs.YtkiacehilnghiaaDoor
open Go.RowKit Go.Shelf

set_option maxRecDepth 20000 in
set_option maxHeartbeats 8000000 in
theorem dof12 {w : World} (hT : Tab w) :
    Calls Tryd.prog 15 #[.int .i64 12] w fun en w' => ∃ s p m, en = .returned (DV s p m m 2) ∧ DN w' s p m m 2 3 ∧ Below w.heap.size w w' := by
  have TB : Hid (Tab w) := hT
  clear hT
  go_enter Tryd.func15, Tryd.ntmps15
  go_wp2_with fail
  obtain ⟨W0, hW0⟩ : ∃ W0, W0 = (w.alloc (.cells #[.bool false, .slice none 0 0, .int .i64 0] 26)) := ⟨_, rfl⟩
  have Xr : Hid (B3q W0 (w.heap.size) (.bool false) (.slice none 0 0) (.int .i64 0)) := by rw [hW0]; exact ⟨by go_simp, by go_simp, by go_simp, by go_simp, by go_simp, by go_simp⟩
  have hb0 : Below w.heap.size w W0 := by rw [hW0]; exact below1 w _
  rw [← hW0]
  clear hW0
  have hbw : Below w.heap.size w w := Below.refl _ _
  obtain ⟨gr, hgr⟩ : ∃ g, g = w.heap.size := ⟨_, rfl⟩
  have HGr : Hid (w.heap.size ≤ gr) := by rw [hgr]; show _ ≤ _; omega
  rw [← hgr] at Xr
  try rw [← hgr]
  clear hgr
  replace hbw := Below.on hbw hb0
  clear hb0
  have HRL : Hid (gr < W0.heap.size ∧ w.heap.size ≤ W0.heap.size) := ⟨Xr.out.lt, hbw.size⟩
  refine (zof 12 _ (by decide) (by decide)).mono ?_
  rintro e2 v1 ⟨s1, p1, m1, rfl, hz1, hb1⟩
  have HB1 : Hid (W0.heap.size ≤ v1.heap.size) := hb1.size
  replace Xr : Hid _ := Xr.out.below hb1
  replace hbw := Below.on hbw hb1
  clear hb1
  have Z1 : Hid (ZN v1 s1 p1 m1 m1 12) := hz1
  clear hz1
  go_wp2_with fail
  refine (make_any Z1.out (by decide) (TB.out.below hbw)).mono ?_
  rintro e2 v6 ⟨v, zo, eo, rfl, hv, hfm, hdv, _, _, hb6⟩
  have h9 : zo = 3 ∧ eo = 2 := dv_inj hfm (.inr ⟨by decide, by decide, by decide⟩) (by rw [hdv, dv_shift (z := 3) (e := 2) (f := 0) (by decide) (by decide)]; rfl)
  obtain ⟨rfl, rfl⟩ := h9
  obtain ⟨p6, m6, z6, rfl, ho6, hn6, hm6⟩ := hv
  replace Xr : Hid _ := Xr.out.below hb6
  replace Z1 : Hid _ := Z1.out.below hb6
  replace hbw := Below.on hbw hb6
  clear hb6
  have O6 : Hid (Own v1.heap.size v6 p6 m6 z6) := ho6
  have N6 : Hid (Nf B64 z6 (3 : Int).natAbs ∧ m6 ≤ 8192) := ⟨hn6, hm6⟩
  clear ho6 hn6 hm6 hfm hdv
  obtain ⟨cr0, cr1, cr2, fr0, fr1, fr2⟩ := Xr.out
  have hner : gr < v6.heap.size := World.block_lt_of_cell? v6 _ cr0
  go_wp2_with fail
  refine bodyPost_ret (v := DV false p6 m6 m6 2) (by rw [results_cell1 rfl]; go_simp) rfl ⟨false, p6, m6, rfl, ⟨⟨⟨z6, Num.of ((own_set3 O6.out (Nat.lt_of_lt_of_le HRL.out.1 HB1.out) (Nat.le_refl _) _ _ _).below (below1 _ _)) N6.out.1 N6.out.2⟩, rfl⟩, .inr ⟨by decide, by decide, by decide⟩⟩, ?_⟩
  exact Below.on (bSet (bSet (bSet hbw _ _ _ HGr.out) _ _ _ HGr.out) _ _ _ HGr.out) (below1 _ _)
set_option maxRecDepth 20000 in
set_option maxHeartbeats 8000000 in
theorem isnan_i (x : Int) (w : World) : Calls Tryd.prog 48 #[.int .i64 x] w fun en w' => en = .returned (.bool false) ∧ w' = w := by
  have hb : (x == x) = true := by simp
  have hc : (x != x) = false := by simp
  go_enter Tryd.func48, Tryd.ntmps48
  go_wp2_with fail
  go_ret
  exact ⟨rfl, rfl⟩
set_option maxRecDepth 20000 in
set_option maxHeartbeats 8000000 in
theorem ccmp_m (w : World) : Calls Tryd.prog 27 #[.int .i64 (-1), .int .i64 1] w fun en w' => en = .returned (.int .i64 (-1)) ∧ Below w.heap.size w w' := by
  go_enter Tryd.func27, Tryd.ntmps27
  go_wp2_with fail
  refine (isnan_i (-1) w).mono ?_
  rintro e2 v1 ⟨rfl, hw⟩
  obtain rfl := hw.symm
  clear hw
  go_wp2_with fail
  refine (isnan_i 1 w).mono ?_
  rintro e2 v1 ⟨rfl, hw⟩
  obtain rfl := hw.symm
  clear hw
  go_wp2_with fail
  go_ret
  exact ⟨rfl, Below.refl _ _⟩
set_option maxRecDepth 20000 in
set_option maxHeartbeats 8000000 in
theorem dcmp_s {p q : Option Addr} {m c n d : Nat} {w : World} {x y e f : Int} {s t : Bool} (h : DN w s p m c e x) (k : DN w t q n d f y) (hx : x < 0) (hy : 0 < y) :
    Calls Tryd.prog 12 #[DV s p m c e, DV t q n d f] w fun en w' => en = .returned (.tuple #[.int .i64 (-1), .int .i64 0]) ∧ Below w.heap.size w w' := by
  have H : Hid (DN w s p m c e x) := h
  have K : Hid (DN w t q n d f y) := k
  have HS : Hid (sgnI x = -1 ∧ sgnI y = 1) := ⟨by unfold sgnI; rw [if_pos hx], by unfold sgnI; rw [if_neg (by omega), if_neg (by omega)]⟩
  clear h k hx hy
  go_enter Tryd.func12, Tryd.ntmps12
  go_wp2_with fail
  obtain ⟨W0, hW0⟩ : ∃ W0, W0 = ((w.alloc (.cells #[.bool s, .slice p m c, .int .i64 e] 26)).alloc (.cells #[.bool t, .slice q n d, .int .i64 f] 26)) := ⟨_, rfl⟩
  have Xa : Hid (B3q W0 (w.heap.size) (.bool s) (.slice p m c) (.int .i64 e)) := by rw [hW0]; exact ⟨by go_simp, by go_simp, by go_simp, by go_simp, by go_simp, by go_simp⟩
  have Xb : Hid (B3q W0 (w.heap.size + 1) (.bool t) (.slice q n d) (.int .i64 f)) := by rw [hW0]; exact ⟨by go_simp, by go_simp, by go_simp, by go_simp, by go_simp, by go_simp⟩
  have hb0 : Below w.heap.size w W0 := by rw [hW0]; exact below2 w _ _
  rw [← hW0]
  clear hW0
  have hbw : Below w.heap.size w w := Below.refl _ _
  obtain ⟨gb, hgb⟩ : ∃ g, g = w.heap.size + 1 := ⟨_, rfl⟩
  have HGb : Hid (w.heap.size ≤ gb) := by rw [hgb]; show _ ≤ _; omega
  rw [← hgb] at Xb
  try rw [← hgb]
  obtain ⟨ga, hga⟩ : ∃ g, g = w.heap.size := ⟨_, rfl⟩
  have HGa : Hid (w.heap.size ≤ ga) := by rw [hga]; show _ ≤ _; omega
  rw [← hga] at Xa
  try rw [← hga]
  have HGD : Hid (ga ≠ gb ∧ gb ≠ ga) := by rw [hga, hgb]; exact ⟨by omega, by omega⟩
  clear hga hgb
  replace hbw := Below.on hbw hb0
  clear hb0
  refine (dform_t (H.out.below hbw)).mono ?_
  rintro e v1 ⟨rfl, hb1⟩
  replace Xa : Hid _ := Xa.out.below hb1
  replace Xb : Hid _ := Xb.out.below hb1
  replace hbw := Below.on hbw hb1
  clear hb1
  obtain ⟨cb0, cb1, cb2, fb0, fb1, fb2⟩ := Xb.out
  have hneb : gb < v1.heap.size := World.block_lt_of_cell? v1 _ cb0
  go_wp2_with fail
  clear cb0 cb1 cb2 fb0 fb1 fb2 hneb
  refine (dform_t (K.out.below hbw)).mono ?_
  rintro e v2 ⟨rfl, hb2⟩
  replace Xa : Hid _ := Xa.out.below hb2
  replace Xb : Hid _ := Xb.out.below hb2
  replace hbw := Below.on hbw hb2
  clear hb2
  obtain ⟨ca0, ca1, ca2, fa0, fa1, fa2⟩ := Xa.out
  have hnea : ga < v2.heap.size := World.block_lt_of_cell? v2 _ ca0
  obtain ⟨cb0, cb1, cb2, fb0, fb1, fb2⟩ := Xb.out
  have hneb : gb < v2.heap.size := World.block_lt_of_cell? v2 _ cb0
  go_wp2_with fail
  clear ca0 ca1 ca2 fa0 fa1 fa2 hnea
  clear cb0 cb1 cb2 fb0 fb1 fb2 hneb
  refine (zsign (H.out.zn.below hbw)).mono ?_
  rintro e v3 ⟨rfl, hb3⟩
  rw [HS.out.1]
  replace Xa : Hid _ := Xa.out.below hb3
  replace Xb : Hid _ := Xb.out.below hb3
  replace hbw := Below.on hbw hb3
  clear hb3
  obtain ⟨cb0, cb1, cb2, fb0, fb1, fb2⟩ := Xb.out
  have hneb : gb < v3.heap.size := World.block_lt_of_cell? v3 _ cb0
  go_wp2_with fail
  clear cb0 cb1 cb2 fb0 fb1 fb2 hneb
  refine (zsign (K.out.zn.below hbw)).mono ?_
  rintro e v4 ⟨rfl, hb4⟩
  rw [HS.out.2]
  replace Xa : Hid _ := Xa.out.below hb4
  replace Xb : Hid _ := Xb.out.below hb4
  replace hbw := Below.on hbw hb4
  clear hb4
  go_wp2_with fail
  refine (ccmp_m _).mono ?_
  rintro e v5 ⟨rfl, hb5⟩
  replace Xa : Hid _ := Xa.out.below hb5
  replace Xb : Hid _ := Xb.out.below hb5
  replace hbw := Below.on hbw hb5
  clear hb5
  go_wp2_with fail
  go_ret2
  exact ⟨rfl, hbw⟩
end Go.Proofs.YtkiacehilnghiaaDoor

namespace Go.Proofs.YtkiacehilnghiaaDoor
open Go.RowKit Go.Shelf

set_option maxRecDepth 20000 in
set_option maxHeartbeats 8000000 in
theorem told5l {p q : Option Addr} {m c n d : Nat} {w : World} {z e : Int} {s t : Bool} (h : DN w s p m c e z) (k : DN w t q n d e z) :
    Calls Tryd.prog 13 #[DV s p m c e, .int .i64 0, DV t q n d e, .int .i64 0] w fun en w' => en = .returned (.bool true) ∧ Below w.heap.size w w' := by
  have H : Hid (DN w s p m c e z) := h
  have K : Hid (DN w t q n d e z) := k
  clear h k
  go_enter Tryd.func13, Tryd.ntmps13
  go_wp2_with fail
  obtain ⟨W0, hW0⟩ : ∃ W0, W0 = ((w.alloc (.cells #[.bool s, .slice p m c, .int .i64 e] 26)).alloc (.cells #[.bool t, .slice q n d, .int .i64 e] 26)) := ⟨_, rfl⟩
  have Xa : Hid (B3q W0 (w.heap.size) (.bool s) (.slice p m c) (.int .i64 e)) := by rw [hW0]; exact ⟨by go_simp, by go_simp, by go_simp, by go_simp, by go_simp, by go_simp⟩
  have Xb : Hid (B3q W0 (w.heap.size + 1) (.bool t) (.slice q n d) (.int .i64 e)) := by rw [hW0]; exact ⟨by go_simp, by go_simp, by go_simp, by go_simp, by go_simp, by go_simp⟩
  have hb0 : Below w.heap.size w W0 := by rw [hW0]; exact below2 w _ _
  rw [← hW0]
  clear hW0
  have hbw : Below w.heap.size w w := Below.refl _ _
  obtain ⟨gb, hgb⟩ : ∃ g, g = w.heap.size + 1 := ⟨_, rfl⟩
  have HGb : Hid (w.heap.size ≤ gb) := by rw [hgb]; show _ ≤ _; omega
  rw [← hgb] at Xb
  try rw [← hgb]
  obtain ⟨ga, hga⟩ : ∃ g, g = w.heap.size := ⟨_, rfl⟩
  have HGa : Hid (w.heap.size ≤ ga) := by rw [hga]; show _ ≤ _; omega
  rw [← hga] at Xa
  try rw [← hga]
  have HGD : Hid (ga ≠ gb ∧ gb ≠ ga) := by rw [hga, hgb]; exact ⟨by omega, by omega⟩
  clear hga hgb
  replace hbw := Below.on hbw hb0
  clear hb0
  refine (sameD_t (H.out.below hbw) (K.out.below hbw)).mono ?_
  rintro e v1 ⟨rfl, hb1⟩
  replace Xa : Hid _ := Xa.out.below hb1
  replace Xb : Hid _ := Xb.out.below hb1
  replace hbw := Below.on hbw hb1
  clear hb1
  go_wp2_with fail
  go_ret
  exact ⟨rfl, hbw⟩
set_option maxRecDepth 20000 in
set_option maxHeartbeats 8000000 in
theorem awake5 (w : World) (hT : Tab w) :
    Calls Tryd.prog 4 #[] w fun en w' => en = .returned (.bool true) ∧ Below w.heap.size w w' := by
  have TB : Hid (Tab w) := hT
  have hbw : Below w.heap.size w w := Below.refl _ _
  clear hT
  go_enter Tryd.func4, Tryd.ntmps4
  go_wp2_with fail
  refine (num5 (3) (0) (by decide) (by decide) (by decide)).mono ?_
  rintro e2 v1 ⟨s1, g1, m1, c1, rfl, _, hd1, hb1⟩
  replace hbw := Below.on hbw hb1
  clear hb1
  have D1 : Hid (DN v1 s1 (some ⟨g1, 0, none⟩) m1 c1 (0) (3)) := hd1
  clear hd1
  go_wp2_with fail
  refine (num5 (1) (-2) (by decide) (by decide) (by decide)).mono ?_
  rintro e2 v2 ⟨s2, g2, m2, c2, rfl, _, hd2, hb2⟩
  replace D1 : Hid _ := D1.out.below hb2
  replace hbw := Below.on hbw hb2
  clear hb2
  have D2 : Hid (DN v2 s2 (some ⟨g2, 0, none⟩) m2 c2 (-2) (1)) := hd2
  clear hd2
  go_wp2_with fail
  have HBX : Hid (DB 3 0 10 10 ∧ DB 1 (-2) 10 10) := ⟨⟨.inr ⟨by decide, by decide, by decide⟩, by decide, by decide, by decide⟩, ⟨.inr ⟨by decide, by decide, by decide⟩, by decide, by decide, by decide⟩⟩
  refine (dadd_b D1.out D2.out HBX.out.1 HBX.out.2 (by decide) (TB.out.below hbw)).mono ?_
  rintro e2 v3 ⟨v, z3, e3, rfl, hv, hdb, hdv, hb3⟩
  have h9 : z3 = 13 ∧ e3 = -2 := dv_inj hdb.fm (.inr ⟨by decide, by decide, by decide⟩) (by rw [hdv, dv_shift (z := 3) (e := 0) (f := -2) (by decide) (by decide), ← dv_add]; rfl)
  obtain ⟨rfl, rfl⟩ := h9
  obtain ⟨s3, p3, m3, rfl, hd3⟩ := hv.dn hdb.fm
  clear hv hdb hdv
  replace D1 : Hid _ := D1.out.below hb3
  replace D2 : Hid _ := D2.out.below hb3
  replace hbw := Below.on hbw hb3
  clear hb3
  have D3 : Hid (DN v3 s3 p3 m3 m3 (-2) 13) := hd3
  clear hd3
  clear D1
  clear D2
  go_wp2_with fail
  have Xa0 : Hid (B3q (v3.alloc (.cells #[.bool s3, .slice p3 m3 m3, .int .i64 (-2)] 26)) v3.heap.size (.bool s3) (.slice p3 m3 m3) (.int .i64 (-2))) := B3q.new v3 _ _ _ _
  have hbn : Below v3.heap.size v3 (v3.alloc (.cells #[.bool s3, .slice p3 m3 m3, .int .i64 (-2)] 26)) := below1 v3 _
  generalize v3.alloc (.cells #[.bool s3, .slice p3 m3 m3, .int .i64 (-2)] 26) = Wa at *
  have HGa : Hid (w.heap.size ≤ v3.heap.size) := hbw.size
  replace D3 : Hid _ := D3.out.below hbn
  replace hbw := Below.on hbw hbn
  clear hbn
  generalize v3.heap.size = ga at *
  have Xa := Xa0
  clear Xa0
  refine (num5 (-1) (4) (by decide) (by decide) (by decide)).mono ?_
  rintro e2 v4 ⟨s4, g4, m4, c4, rfl, _, hd4, hb4⟩
  replace Xa : Hid _ := Xa.out.below hb4
  replace D3 : Hid _ := D3.out.below hb4
  replace hbw := Below.on hbw hb4
  clear hb4
  have D4 : Hid (DN v4 s4 (some ⟨g4, 0, none⟩) m4 c4 (4) (-1)) := hd4
  clear hd4
  go_wp2_with fail
  refine (num5 (1) (-9) (by decide) (by decide) (by decide)).mono ?_
  rintro e2 v5 ⟨s5, g5, m5, c5, rfl, _, hd5, hb5⟩
  replace Xa : Hid _ := Xa.out.below hb5
  replace D3 : Hid _ := D3.out.below hb5
  replace D4 : Hid _ := D4.out.below hb5
  replace hbw := Below.on hbw hb5
  clear hb5
  have D5 : Hid (DN v5 s5 (some ⟨g5, 0, none⟩) m5 c5 (-9) (1)) := hd5
  clear hd5
  go_wp2_with fail
  refine (dcmp_s D4.out D5.out (by decide) (by decide)).mono ?_
  rintro e v6 ⟨rfl, hb6⟩
  replace Xa : Hid _ := Xa.out.below hb6
  replace D3 : Hid _ := D3.out.below hb6
  replace D4 : Hid _ := D4.out.below hb6
  replace D5 : Hid _ := D5.out.below hb6
  replace hbw := Below.on hbw hb6
  clear hb6
  clear D4
  clear D5
  obtain ⟨ca0, ca1, ca2, fa0, fa1, fa2⟩ := Xa.out
  have hnea : ga < v6.heap.size := World.block_lt_of_cell? v6 _ ca0
  go_wp2_with fail
  clear ca0 ca1 ca2 fa0 fa1 fa2 hnea
  obtain ⟨Wz, hWz⟩ : ∃ W1, W1 = v6.drew := ⟨_, rfl⟩
  have hbd : Below v6.heap.size v6 Wz := by rw [hWz]; exact bDrew1 (Below.refl _ _)
  replace Xa : Hid _ := Xa.out.below hbd
  replace D3 : Hid _ := D3.out.below hbd
  replace hbw := Below.on hbw hbd
  clear hbd
  have HJ : Hid ((fun W' : World => W'.cell? ⟨ga, 0, none⟩ = some (.bool s3) ∧ W'.cell? ⟨ga, 1, none⟩ = some (.slice p3 m3 m3) ∧ W'.cell? ⟨ga, 2, none⟩ = some (.int .i64 (-2))) Wz) := ⟨Xa.out.c0, Xa.out.c1, Xa.out.c2⟩
  refine wp_region_J (fun W' => W'.cell? ⟨ga, 0, none⟩ = some (.bool s3) ∧ W'.cell? ⟨ga, 1, none⟩ = some (.slice p3 m3 m3) ∧ W'.cell? ⟨ga, 2, none⟩ = some (.int .i64 (-2))) (by kernel_rfl) ?_
  rw [← hWz]
  clear hWz
  refine wpJ_take (i := 0) (v := ?v1x0) rfl (by kernel_rfl) (by kernel_rfl) (by kernel_rfl) (fun _ _ _ h => h) (by kernel_rfl) ?hy1x0 HJ.out ?rest1x0
  case hy1x0 => (intro W' hJ; obtain ⟨j0, j1, j2⟩ := hJ; go_simp; first | done | with_reducible rfl)
  refine wpJ_take (i := 1) (v := ?v2x1) rfl (by kernel_rfl) (by kernel_rfl) (by kernel_rfl) (fun _ _ _ h => h) (by kernel_rfl) ?hy2x1 HJ.out ?rest2x1
  case hy2x1 => (intro W' hJ; obtain ⟨j0, j1, j2⟩ := hJ; go_simp; first | done | with_reducible rfl)
  refine wpJ_one (i := 2) (by kernel_rfl) rfl (by kernel_rfl) (fun KJ hK => ?_)
  go_simp
  refine (num5 (13) (-2) (by decide) (by decide) (by decide)).mono ?_
  rintro e2 v7 ⟨s7, g7, m7, c7, rfl, _, hd7, hb7⟩
  replace Xa : Hid _ := Xa.out.below hb7
  replace D3 : Hid _ := D3.out.below hb7
  replace hbw := Below.on hbw hb7
  clear hb7
  have D7 : Hid (DN v7 s7 (some ⟨g7, 0, none⟩) m7 c7 (-2) (13)) := hd7
  clear hd7
  refine hK _ _ ⟨Xa.out.c0, Xa.out.c1, Xa.out.c2⟩ ?_
  clear hK
  refine wpJ_one (i := 3) (by kernel_rfl) rfl (by kernel_rfl) (fun KJ hK => ?_)
  go_simp
  refine (told5l D3.out D7.out).mono ?_
  rintro e v8 ⟨rfl, hb8⟩
  replace Xa : Hid _ := Xa.out.below hb8
  replace D3 : Hid _ := D3.out.below hb8
  replace D7 : Hid _ := D7.out.below hb8
  replace hbw := Below.on hbw hb8
  clear hb8
  clear HJ
  have HJ : Hid ((fun W' : World => W'.cell? ⟨ga, 0, none⟩ = some (.bool s3) ∧ W'.cell? ⟨ga, 1, none⟩ = some (.slice p3 m3 m3) ∧ W'.cell? ⟨ga, 2, none⟩ = some (.int .i64 (-2))) v8) := ⟨Xa.out.c0, Xa.out.c1, Xa.out.c2⟩
  refine hK _ _ HJ.out ?_
  clear hK
  refine wpJ_take (i := 4) (v := ?v3x4) rfl (by kernel_rfl) (by kernel_rfl) (by kernel_rfl) (fun _ _ _ h => h) (by kernel_rfl) ?hy3x4 HJ.out ?rest3x4
  case hy3x4 => (intro W' hJ; obtain ⟨j0, j1, j2⟩ := hJ; go_simp; first | done | with_reducible rfl)
  refine wpJ_take (i := 5) (v := ?v4x5) rfl (by kernel_rfl) (by kernel_rfl) (by kernel_rfl) (fun _ _ _ h => h) (by kernel_rfl) ?hy4x5 HJ.out ?rest4x5
  case hy4x5 => (intro W' hJ; obtain ⟨j0, j1, j2⟩ := hJ; go_simp; first | done | with_reducible rfl)
  refine wpJ_take (i := 6) (v := ?v5x6) rfl (by kernel_rfl) (by kernel_rfl) (by kernel_rfl) (fun _ _ _ h => h) (by kernel_rfl) ?hy5x6 HJ.out ?rest5x6
  case hy5x6 => (intro W' hJ; obtain ⟨j0, j1, j2⟩ := hJ; go_simp; first | done | with_reducible rfl)
  refine wpJ_take (i := 7) (v := ?v6x7) rfl (by kernel_rfl) (by kernel_rfl) (by kernel_rfl) (fun _ _ _ h => h) (by kernel_rfl) ?hy6x7 HJ.out ?rest6x7
  case hy6x7 => (intro W' hJ; obtain ⟨j0, j1, j2⟩ := hJ; go_simp; first | done | with_reducible rfl)
  refine wpJ_take (i := 8) (v := ?v7x8) rfl (by kernel_rfl) (by kernel_rfl) (by kernel_rfl) (fun _ _ _ h => h) (by kernel_rfl) ?hy7x8 HJ.out ?rest7x8
  case hy7x8 => (intro W' hJ; obtain ⟨j0, j1, j2⟩ := hJ; go_simp; first | done | with_reducible rfl)
  refine wpJ_take (i := 9) (v := ?v8x9) rfl (by kernel_rfl) (by kernel_rfl) (by kernel_rfl) (fun _ _ _ h => h) (by kernel_rfl) ?hy8x9 HJ.out ?rest8x9
  case hy8x9 => (intro W' hJ; obtain ⟨j0, j1, j2⟩ := hJ; go_simp; first | done | with_reducible rfl)
  refine wpJ_take (i := 10) (v := ?v9x10) rfl (by kernel_rfl) (by kernel_rfl) (by kernel_rfl) (fun _ _ _ h => h) (by kernel_rfl) ?hy9x10 HJ.out ?rest9x10
  case hy9x10 => (intro W' hJ; obtain ⟨j0, j1, j2⟩ := hJ; go_simp; first | done | with_reducible rfl)
  refine wpJ_take (i := 11) (v := ?v10x11) rfl (by kernel_rfl) (by kernel_rfl) (by kernel_rfl) (fun _ _ _ h => h) (by kernel_rfl) ?hy10x11 HJ.out ?rest10x11
  case hy10x11 => (intro W' hJ; obtain ⟨j0, j1, j2⟩ := hJ; go_simp; first | done | with_reducible rfl)
  refine wpJ_take (i := 12) (v := ?v11x12) rfl (by kernel_rfl) (by kernel_rfl) (by kernel_rfl) (fun _ _ _ h => h) (by kernel_rfl) ?hy11x12 HJ.out ?rest11x12
  case hy11x12 => (intro W' hJ; obtain ⟨j0, j1, j2⟩ := hJ; go_simp; first | done | with_reducible rfl)
  refine wpJ_one (i := 13) (by kernel_rfl) rfl (by kernel_rfl) (fun KJ hK => ?_)
  go_simp
  refine (dof12 (TB.out.below hbw)).mono ?_
  rintro e2 v9 ⟨s9, p9, m9, rfl, hd9, hb9⟩
  replace Xa : Hid _ := Xa.out.below hb9
  replace D3 : Hid _ := D3.out.below hb9
  replace D7 : Hid _ := D7.out.below hb9
  replace hbw := Below.on hbw hb9
  clear hb9
  have D9 : Hid (DN v9 s9 p9 m9 m9 2 3) := hd9
  clear hd9
  refine hK _ _ ⟨Xa.out.c0, Xa.out.c1, Xa.out.c2⟩ ?_
  clear hK
  refine wpJ_one (i := 14) (by kernel_rfl) rfl (by kernel_rfl) (fun KJ hK => ?_)
  go_simp
  refine (num5 (3) (2) (by decide) (by decide) (by decide)).mono ?_
  rintro e2 v10 ⟨s10, g10, m10, c10, rfl, _, hd10, hb10⟩
  replace Xa : Hid _ := Xa.out.below hb10
  replace D3 : Hid _ := D3.out.below hb10
  replace D7 : Hid _ := D7.out.below hb10
  replace D9 : Hid _ := D9.out.below hb10
  replace hbw := Below.on hbw hb10
  clear hb10
  have D10 : Hid (DN v10 s10 (some ⟨g10, 0, none⟩) m10 c10 (2) (3)) := hd10
  clear hd10
  refine hK _ _ ⟨Xa.out.c0, Xa.out.c1, Xa.out.c2⟩ ?_
  clear hK
  refine wpJ_one (i := 15) (by kernel_rfl) rfl (by kernel_rfl) (fun KJ hK => ?_)
  go_simp
  refine (sameD_t D9.out D10.out).mono ?_
  rintro e v11 ⟨rfl, hb11⟩
  replace Xa : Hid _ := Xa.out.below hb11
  replace D3 : Hid _ := D3.out.below hb11
  replace D7 : Hid _ := D7.out.below hb11
  replace D9 : Hid _ := D9.out.below hb11
  replace D10 : Hid _ := D10.out.below hb11
  replace hbw := Below.on hbw hb11
  clear hb11
  clear HJ
  have HJ : Hid ((fun W' : World => W'.cell? ⟨ga, 0, none⟩ = some (.bool s3) ∧ W'.cell? ⟨ga, 1, none⟩ = some (.slice p3 m3 m3) ∧ W'.cell? ⟨ga, 2, none⟩ = some (.int .i64 (-2))) v11) := ⟨Xa.out.c0, Xa.out.c1, Xa.out.c2⟩
  refine hK _ _ HJ.out ?_
  clear hK
  refine wpJ_take (i := 16) (v := ?v12x16) rfl (by kernel_rfl) (by kernel_rfl) (by kernel_rfl) (fun _ _ _ h => h) (by kernel_rfl) ?hy12x16 HJ.out ?rest12x16
  case hy12x16 => (intro W' hJ; obtain ⟨j0, j1, j2⟩ := hJ; go_simp; first | done | with_reducible rfl)
  refine wpJ_take (i := 17) (v := ?v13x17) rfl (by kernel_rfl) (by kernel_rfl) (by kernel_rfl) (fun _ _ _ h => h) (by kernel_rfl) ?hy13x17 HJ.out ?rest13x17
  case hy13x17 => (intro W' hJ; obtain ⟨j0, j1, j2⟩ := hJ; go_simp; first | done | with_reducible rfl)
  refine wpJ_done (by kernel_rfl) ?_ _
  clear HJ
  go_wp2_with fail
  go_ret
  exact ⟨rfl, hbw⟩
end Go.Proofs.YtkiacehilnghiaaDoor

namespace Go.Proofs.YtkiacehilnghiaaDoor
open Go.RowKit Go.Shelf
theorem dyadicRing_walk {pa pb pc : Option Addr} {ma ca mb cb mc cc : Nat} {xa xb xc : List Nat} {w : World} {ea eb ec : Int} (sa sb sc : Bool) (ha : At w pa ma ca xa) (hb : At w pb mb cb xb) (hc : At w pc mc cc xc) (hT : Tab w) :
    Calls Tryd.prog 3 #[DV sa pa ma ca ea, DV sb pb mb cb eb, DV sc pc mc cc ec] w fun en w' => en = .returned (.bool true) ∧ Below w.heap.size w w' :=
  dyadicRing_w sa sb sc ha hb hc hT (fun W hW => awake5 W hW)
end Go.Proofs.YtkiacehilnghiaaDoor

