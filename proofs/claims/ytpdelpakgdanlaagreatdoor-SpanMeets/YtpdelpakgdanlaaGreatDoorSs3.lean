import Derived.Test.YtpdelpakgdanlaaGreatDoorJ20
namespace Go.Proofs.YtpdelpakgdanlaaGreatDoor
open Go.RowKit Go.Shelf
set_option maxRecDepth 20000
set_option maxHeartbeats 0
theorem spanMeets_w {p1 p2 p3 p4 p5 : Option Addr} {m1 m2 m3 m4 m5 c1 c2 c3 c4 c5 : Nat} {w : World} {e1 e2 e3 e4 e5 : Int} {s1 s2 s3 s4 s5 : Bool} {x1 x2 x3 x4 x5 : List Nat} (h1 : At w p1 m1 c1 x1) (h2 : At w p2 m2 c2 x2) (h3 : At w p3 m3 c3 x3) (h4 : At w p4 m4 c4 x4) (h5 : At w p5 m5 c5 x5) (hm : m1 ≤ 17592186044416 ∧ m2 ≤ 17592186044416 ∧ m3 ≤ 17592186044416 ∧ m4 ≤ 17592186044416 ∧ m5 ≤ 17592186044416) (hT : Tab w) :
  Calls Tryz.prog 3 #[SV s1 p1 m1 c1 e1 s2 p2 m2 c2 e2, SV s3 p3 m3 c3 e3 s4 p4 m4 c4 e4, DV s5 p5 m5 c5 e5] w fun en w' => en = .returned (.bool true) ∧ Below w.heap.size w w' := by
 have A1 := hdQ h1;have A2 := hdQ h2;have A3 := hdQ h3;have A4 := hdQ h4;have A5 := hdQ h5;have HM : Hid (m1 ≤ 17592186044416 ∧ m2 ≤ 17592186044416 ∧ m3 ≤ 17592186044416 ∧ m4 ≤ 17592186044416 ∧ m5 ≤ 17592186044416) := hm;have TB : Hid (Tab w) := hT;clear h1 h2 h3 h4 h5 hm hT;obtain ⟨bb, hbb⟩ := exq (FormS s1 x1 e1 s2 x2 e2 && FormS s3 x3 e3 s4 x4 e4);have HBB0 : Hid (bb = (FormS s1 x1 e1 s2 x2 e2 && FormS s3 x3 e3 s4 x4 e4)) := hbb;clear hbb;obtain ⟨lo, hlo⟩ := exq (max (dv (iv s1 (valB B64 x1)) e1) (dv (iv s3 (valB B64 x3)) e3));have HLO : Hid (lo = (max (dv (iv s1 (valB B64 x1)) e1) (dv (iv s3 (valB B64 x3)) e3))) := hlo;clear hlo;obtain ⟨hi, hhi⟩ := exq (min (dv (iv s2 (valB B64 x2)) e2) (dv (iv s4 (valB B64 x4)) e4));have HHI : Hid (hi = (min (dv (iv s2 (valB B64 x2)) e2) (dv (iv s4 (valB B64 x4)) e4))) := hhi;clear hhi;obtain ⟨lo2, hlo2⟩ := exq (min (dv (iv s1 (valB B64 x1)) e1) (dv (iv s3 (valB B64 x3)) e3))
 have HLO2 : Hid (lo2 = (min (dv (iv s1 (valB B64 x1)) e1) (dv (iv s3 (valB B64 x3)) e3))) := hlo2;clear hlo2;obtain ⟨hi2, hhi2⟩ := exq (max (dv (iv s2 (valB B64 x2)) e2) (dv (iv s4 (valB B64 x4)) e4));have HHI2 : Hid (hi2 = (max (dv (iv s2 (valB B64 x2)) e2) (dv (iv s4 (valB B64 x4)) e4))) := hhi2;clear hhi2;obtain ⟨av5, hv5⟩ := exq (dv (iv s5 (valB B64 x5)) e5);have HV5 : Hid (av5 = dv (iv s5 (valB B64 x5)) e5) := hv5;clear hv5;obtain ⟨av1, hv1⟩ := exq (dv (iv s1 (valB B64 x1)) e1);have HV1 : Hid (av1 = dv (iv s1 (valB B64 x1)) e1) := hv1;clear hv1;obtain ⟨av2, hv2⟩ := exq (dv (iv s2 (valB B64 x2)) e2);have HV2 : Hid (av2 = dv (iv s2 (valB B64 x2)) e2) := hv2;clear hv2;obtain ⟨av3, hv3⟩ := exq (dv (iv s3 (valB B64 x3)) e3);have HV3 : Hid (av3 = dv (iv s3 (valB B64 x3)) e3) := hv3;clear hv3;obtain ⟨av4, hv4⟩ := exq (dv (iv s4 (valB B64 x4)) e4);have HV4 : Hid (av4 = dv (iv s4 (valB B64 x4)) e4) := hv4
 clear hv4
 have HLH : Hid (lo = max av1 av3 ∧ hi = min av2 av4 ∧ lo2 = min av1 av3 ∧ hi2 = max av2 av4) := by rw [HLO.out, HHI.out, HLO2.out, HHI2.out, HV1.out, HV2.out, HV3.out, HV4.out]; exact ⟨rfl, rfl, rfl, rfl⟩
 go_enter Tryz.func3, Tryz.ntmps3
 go_wp2_with fail;obtain ⟨W0, hW0⟩ := exq (((w.alloc (.cells #[.bool s1, .slice p1 m1 c1, .int .i64 e1, .bool s2, .slice p2 m2 c2, .int .i64 e2] 28)).alloc (.cells #[.bool s3, .slice p3 m3 c3, .int .i64 e3, .bool s4, .slice p4 m4 c4, .int .i64 e4] 28)).alloc (.cells #[.bool s5, .slice p5 m5 c5, .int .i64 e5] 26))
 have Xa : Hid (B6q W0 (w.heap.size) (.bool s1) (.slice p1 m1 c1) (.int .i64 e1) (.bool s2) (.slice p2 m2 c2) (.int .i64 e2)) := by rw [hW0]; constructor <;> go_simp
 have Xb : Hid (B6q W0 (w.heap.size + 1) (.bool s3) (.slice p3 m3 c3) (.int .i64 e3) (.bool s4) (.slice p4 m4 c4) (.int .i64 e4)) := by rw [hW0]; constructor <;> go_simp
 have Xd : Hid (B3q W0 (w.heap.size + 1 + 1) (.bool s5) (.slice p5 m5 c5) (.int .i64 e5)) := by rw [hW0]; constructor <;> go_simp
 have hb0 := bq3 hW0;rw [← hW0];clear hW0;have hbw := brf w;obtain ⟨gd, hgd⟩ := exq (w.heap.size + 1 + 1);have HGd : Hid (w.heap.size ≤ gd) := hgl hgd;rw [← hgd] at Xd
 try rw [← hgd]
 obtain ⟨gb, hgb⟩ := exq (w.heap.size + 1);have HGb : Hid (w.heap.size ≤ gb) := hgl hgb;rw [← hgb] at Xb
 try rw [← hgb]
 obtain ⟨ga, hga⟩ := exq w.heap.size;have HGa : Hid (w.heap.size ≤ ga) := hgl hga;rw [← hga] at Xa
 try rw [← hga]
 have HGD : Hid (ga ≠ gb ∧ ga ≠ gd ∧ gb ≠ ga ∧ gb ≠ gd ∧ gd ≠ ga ∧ gd ≠ gb) := by rw [hga, hgb, hgd]; show _ ∧ _; omega
 clear hga hgb hgd;replace hbw := bon hbw hb0;clear hb0
 refine (awake6 (TB.out.below hbw)).mono ?_
 rintro e v1 ⟨rfl, hb1⟩;replace Xa := B6q.b Xa hb1;replace Xb := B6q.b Xb hb1;replace Xd := B3q.b Xd hb1;replace hbw := bon hbw hb1;clear hb1;obtain ⟨ca0, ca1, ca2, ca3, ca4, ca5, fa0, fa1, fa2, fa3, fa4, fa5⟩ := Xa.out;have hnea : ga < v1.heap.size := blt ca0;obtain ⟨cb0, cb1, cb2, cb3, cb4, cb5, fb0, fb1, fb2, fb3, fb4, fb5⟩ := Xb.out;have hneb : gb < v1.heap.size := blt cb0;go_wp2_with fail;clear ca0 ca1 ca2 ca3 ca4 ca5 fa0 fa1 fa2 fa3 fa4 fa5 hnea cb0 cb1 cb2 cb3 cb4 cb5 fb0 fb1 fb2 fb3 fb4 fb5 hneb;obtain ⟨Wgm, hWgm⟩ := exq v1.drew
 have hbd : Below v1.heap.size v1 Wgm := by rw [hWgm]; exact bDrew1 (Below.refl _ _)
 replace Xa := B6q.b Xa hbd;replace Xb := B6q.b Xb hbd;replace Xd := B3q.b Xd hbd;replace hbw := bon hbw hbd;clear hbd
 have HJ : Hid ((fun W' : World => W'.cell? ⟨ga, 0, none⟩ = some (.bool s1) ∧ W'.cell? ⟨ga, 1, none⟩ = some (.slice p1 m1 c1) ∧ W'.cell? ⟨ga, 2, none⟩ = some (.int .i64 e1) ∧ W'.cell? ⟨ga, 3, none⟩ = some (.bool s2) ∧ W'.cell? ⟨ga, 4, none⟩ = some (.slice p2 m2 c2) ∧ W'.cell? ⟨ga, 5, none⟩ = some (.int .i64 e2) ∧ W'.cell? ⟨gb, 0, none⟩ = some (.bool s3) ∧ W'.cell? ⟨gb, 1, none⟩ = some (.slice p3 m3 c3) ∧ W'.cell? ⟨gb, 2, none⟩ = some (.int .i64 e3) ∧ W'.cell? ⟨gb, 3, none⟩ = some (.bool s4) ∧ W'.cell? ⟨gb, 4, none⟩ = some (.slice p4 m4 c4) ∧ W'.cell? ⟨gb, 5, none⟩ = some (.int .i64 e4)) Wgm) := ⟨Xa.out.c0, Xa.out.c1, Xa.out.c2, Xa.out.c3, Xa.out.c4, Xa.out.c5, Xb.out.c0, Xb.out.c1, Xb.out.c2, Xb.out.c3, Xb.out.c4, Xb.out.c5⟩
 refine wp_region_J (fun W' => W'.cell? ⟨ga, 0, none⟩ = some (.bool s1) ∧ W'.cell? ⟨ga, 1, none⟩ = some (.slice p1 m1 c1) ∧ W'.cell? ⟨ga, 2, none⟩ = some (.int .i64 e1) ∧ W'.cell? ⟨ga, 3, none⟩ = some (.bool s2) ∧ W'.cell? ⟨ga, 4, none⟩ = some (.slice p2 m2 c2) ∧ W'.cell? ⟨ga, 5, none⟩ = some (.int .i64 e2) ∧ W'.cell? ⟨gb, 0, none⟩ = some (.bool s3) ∧ W'.cell? ⟨gb, 1, none⟩ = some (.slice p3 m3 c3) ∧ W'.cell? ⟨gb, 2, none⟩ = some (.int .i64 e3) ∧ W'.cell? ⟨gb, 3, none⟩ = some (.bool s4) ∧ W'.cell? ⟨gb, 4, none⟩ = some (.slice p4 m4 c4) ∧ W'.cell? ⟨gb, 5, none⟩ = some (.int .i64 e4)) (by kernel_rfl) ?_
 rw [← hWgm];clear hWgm
 refine wpJ_tq 0 rfl HJ.out ?_
 refine wpJ_tq 2 rfl HJ.out ?_
 go_simp
 obtain ⟨FQ, hFQ⟩ : ∃ F : World → Prop, Hid (∀ W', F W' ↔ (B6q W' ga (.bool s1) (.slice p1 m1 c1) (.int .i64 e1) (.bool s2) (.slice p2 m2 c2) (.int .i64 e2) ∧ B6q W' gb (.bool s3) (.slice p3 m3 c3) (.int .i64 e3) (.bool s4) (.slice p4 m4 c4) (.int .i64 e4) ∧ B3q W' gd (.bool s5) (.slice p5 m5 c5) (.int .i64 e5) ∧ Below w.heap.size w W')) := ⟨fun W' => B6q W' ga (.bool s1) (.slice p1 m1 c1) (.int .i64 e1) (.bool s2) (.slice p2 m2 c2) (.int .i64 e2) ∧ B6q W' gb (.bool s3) (.slice p3 m3 c3) (.int .i64 e3) (.bool s4) (.slice p4 m4 c4) (.int .i64 e4) ∧ B3q W' gd (.bool s5) (.slice p5 m5 c5) (.int .i64 e5) ∧ Below w.heap.size w W', fun _ => Iff.rfl⟩
 have HFB : Hid (∀ W' W2, FQ W' → Below W'.heap.size W' W2 → FQ W2) := fun W' W2 h hb => by
  have h1 := (hFQ.out W').1 h
  exact (hFQ.out W2).2 ⟨h1.1.below hb, h1.2.1.below hb, h1.2.2.1.below hb, Below.on h1.2.2.2 hb⟩
 have HFJ : Hid (∀ W', FQ W' → (fun W' : World => W'.cell? ⟨ga, 0, none⟩ = some (.bool s1) ∧ W'.cell? ⟨ga, 1, none⟩ = some (.slice p1 m1 c1) ∧ W'.cell? ⟨ga, 2, none⟩ = some (.int .i64 e1) ∧ W'.cell? ⟨ga, 3, none⟩ = some (.bool s2) ∧ W'.cell? ⟨ga, 4, none⟩ = some (.slice p2 m2 c2) ∧ W'.cell? ⟨ga, 5, none⟩ = some (.int .i64 e2) ∧ W'.cell? ⟨gb, 0, none⟩ = some (.bool s3) ∧ W'.cell? ⟨gb, 1, none⟩ = some (.slice p3 m3 c3) ∧ W'.cell? ⟨gb, 2, none⟩ = some (.int .i64 e3) ∧ W'.cell? ⟨gb, 3, none⟩ = some (.bool s4) ∧ W'.cell? ⟨gb, 4, none⟩ = some (.slice p4 m4 c4) ∧ W'.cell? ⟨gb, 5, none⟩ = some (.int .i64 e4)) W') := fun W' h => by
  have h1 := (hFQ.out W').1 h
  exact ⟨h1.1.c0, h1.1.c1, h1.1.c2, h1.1.c3, h1.1.c4, h1.1.c5, h1.2.1.c0, h1.2.1.c1, h1.2.1.c2, h1.2.1.c3, h1.2.1.c4, h1.2.1.c5⟩
 refine wpJ_nodes5 fun WP hWP L0 a0 hL ha => ?_
 have N1_3_4_9 : ∀ (km1 : Nat) (lm1 : Nat) (km2 : Nat) (lm2 : Nat) (s6 : Bool) (p6 : Option Addr) (m6 : Nat) (e6 : Int) (s7 : Bool) (p7 : Option Addr) (m7 : Nat) (e7 : Int) (ok6 : Bool) (r6 : Int) (kvm : Nat) (W' : World), (FQ W') ∧ (At W' (some ⟨km1, 0, none⟩) m1 m1 x1) ∧ (At W' (some ⟨lm1, 0, none⟩) m2 m2 x2) ∧ (At W' (some ⟨km2, 0, none⟩) m3 m3 x3) ∧ (At W' (some ⟨lm2, 0, none⟩) m4 m4 x4) ∧ (SpG 0 W' s6 p6 m6 e6 s7 p7 m7 e7 (bb = true ∧ lo ≤ hi) lo hi) ∧ ((bb = false ∧ ok6 = false ∧ r6 = 2) ∨ (bb = true ∧ r6 = 0 ∧ ok6 = decide (lo ≤ hi))) ∧ (B6q W' kvm (.bool false) (.slice none 0 0) (.int .i64 0) (.bool false) (.slice none 0 0) (.int .i64 0)) ∧ (w.heap.size ≤ kvm) ∧ (ga ≠ kvm ∧ gb ≠ kvm ∧ gd ≠ kvm) ∧ (Off2 p6 m6 p7 m7 kvm) → WP 3 ((((((((L0.setIfInBounds 1 true).setIfInBounds 3 true).setIfInBounds 4 true).setIfInBounds 5 true).setIfInBounds 6 true).setIfInBounds 7 true).setIfInBounds 8 true).setIfInBounds 9 true) ((((((((a0.put (some 24) (SV s1 (some ⟨km1, 0, none⟩) m1 m1 e1 s2 (some ⟨lm1, 0, none⟩) m2 m2 e2)).put (some 26) (SV s3 (some ⟨km2, 0, none⟩) m3 m3 e3 s4 (some ⟨lm2, 0, none⟩) m4 m4 e4)).put (some 27) (.tuple #[SV s6 p6 m6 m6 e6 s7 p7 m7 m7 e7, .bool ok6, .int .i64 r6])).put (some 22) (.tuple #[SV s6 p6 m6 m6 e6 s7 p7 m7 m7 e7, .bool ok6, .int .i64 r6])).put (some 28) (SV s6 p6 m6 m6 e6 s7 p7 m7 m7 e7)).put (some 29) (.bool ok6)).put (some 30) (.int .i64 r6)).put (some 7) (.pointer (some ⟨kvm, 0, none⟩))) W' := by
  rintro km1 lm1 km2 lm2 s6 p6 m6 e6 s7 p7 m7 e7 ok6 r6 kvm W' ⟨fq, p1, p2, p3, p4, d6, v6, xv, hv, nv, od6⟩;subst hWP hL ha;have Hp1 := Hid.mk5 p1;have Hp2 := Hid.mk5 p2;have Hp3 := Hid.mk5 p3;have Hp4 := Hid.mk5 p4;have Hd6 := Hid.mk5 d6;have Hv6 := Hid.mk5 v6;have Hxv := Hid.mk5 xv;have Hhv := Hid.mk5 hv;have Hnv := Hid.mk5 nv;have Hod6 := Hid.mk5 od6;clear p1 p2 p3 p4 d6 v6 xv hv nv od6;obtain ⟨hxa, hxb, hxd, hbw⟩ := (hFQ.out W').1 fq;have Hxa := Hid.mk5 hxa;have Hxb := Hid.mk5 hxb;have Hxd := Hid.mk5 hxd;clear hxa hxb hxd;go_simp;have Xa := Hxa;have Xb := Hxb;have Xd := Hxd;have Xm := Hxv;clear Hxv Hxa Hxb Hxd;have HGm : Hid (w.heap.size ≤ kvm) := Hhv.out
  have HJ : Hid ((fun W' : World => W'.cell? ⟨ga, 0, none⟩ = some (.bool s1) ∧ W'.cell? ⟨ga, 1, none⟩ = some (.slice p1 m1 c1) ∧ W'.cell? ⟨ga, 2, none⟩ = some (.int .i64 e1) ∧ W'.cell? ⟨ga, 3, none⟩ = some (.bool s2) ∧ W'.cell? ⟨ga, 4, none⟩ = some (.slice p2 m2 c2) ∧ W'.cell? ⟨ga, 5, none⟩ = some (.int .i64 e2) ∧ W'.cell? ⟨gb, 0, none⟩ = some (.bool s3) ∧ W'.cell? ⟨gb, 1, none⟩ = some (.slice p3 m3 c3) ∧ W'.cell? ⟨gb, 2, none⟩ = some (.int .i64 e3) ∧ W'.cell? ⟨gb, 3, none⟩ = some (.bool s4) ∧ W'.cell? ⟨gb, 4, none⟩ = some (.slice p4 m4 c4) ∧ W'.cell? ⟨gb, 5, none⟩ = some (.int .i64 e4)) W') := ⟨Xa.out.c0, Xa.out.c1, Xa.out.c2, Xa.out.c3, Xa.out.c4, Xa.out.c5, Xb.out.c0, Xb.out.c1, Xb.out.c2, Xb.out.c3, Xb.out.c4, Xb.out.c5⟩
  obtain ⟨cm0, cm1, cm2, cm3, cm4, cm5, fm0, fm1, fm2, fm3, fm4, fm5⟩ := Xm.out;have hnem : kvm < W'.heap.size := blt cm0
  refine wpJ_on 10 rfl fun KJ hK => ?_
  go_simp;have Xm2 : Hid (B6q ((((((W'.setCell ⟨kvm, 0, none⟩ (.bool s6)).setCell ⟨kvm, 1, none⟩ (.slice p6 m6 m6)).setCell ⟨kvm, 2, none⟩ (.int .i64 e6)).setCell ⟨kvm, 3, none⟩ (.bool s7)).setCell ⟨kvm, 4, none⟩ (.slice p7 m7 m7)).setCell ⟨kvm, 5, none⟩ (.int .i64 e7)) kvm (.bool s6) (.slice p6 m6 m6) (.int .i64 e6) (.bool s7) (.slice p7 m7 m7) (.int .i64 e7)) := Xm.out.put6 (.bool s6) (.slice p6 m6 m6) (.int .i64 e6) (.bool s7) (.slice p7 m7 m7) (.int .i64 e7);have Xa2 : Hid (B6q ((((((W'.setCell ⟨kvm, 0, none⟩ (.bool s6)).setCell ⟨kvm, 1, none⟩ (.slice p6 m6 m6)).setCell ⟨kvm, 2, none⟩ (.int .i64 e6)).setCell ⟨kvm, 3, none⟩ (.bool s7)).setCell ⟨kvm, 4, none⟩ (.slice p7 m7 m7)).setCell ⟨kvm, 5, none⟩ (.int .i64 e7)) ga (.bool s1) (.slice p1 m1 c1) (.int .i64 e1) (.bool s2) (.slice p2 m2 c2) (.int .i64 e2)) := Xa.out.off6 Hnv.out.1 (.bool s6) (.slice p6 m6 m6) (.int .i64 e6) (.bool s7) (.slice p7 m7 m7) (.int .i64 e7)
  have Xb2 : Hid (B6q ((((((W'.setCell ⟨kvm, 0, none⟩ (.bool s6)).setCell ⟨kvm, 1, none⟩ (.slice p6 m6 m6)).setCell ⟨kvm, 2, none⟩ (.int .i64 e6)).setCell ⟨kvm, 3, none⟩ (.bool s7)).setCell ⟨kvm, 4, none⟩ (.slice p7 m7 m7)).setCell ⟨kvm, 5, none⟩ (.int .i64 e7)) gb (.bool s3) (.slice p3 m3 c3) (.int .i64 e3) (.bool s4) (.slice p4 m4 c4) (.int .i64 e4)) := Xb.out.off6 Hnv.out.2.1 (.bool s6) (.slice p6 m6 m6) (.int .i64 e6) (.bool s7) (.slice p7 m7 m7) (.int .i64 e7);have Xd2 : Hid (B3q ((((((W'.setCell ⟨kvm, 0, none⟩ (.bool s6)).setCell ⟨kvm, 1, none⟩ (.slice p6 m6 m6)).setCell ⟨kvm, 2, none⟩ (.int .i64 e6)).setCell ⟨kvm, 3, none⟩ (.bool s7)).setCell ⟨kvm, 4, none⟩ (.slice p7 m7 m7)).setCell ⟨kvm, 5, none⟩ (.int .i64 e7)) gd (.bool s5) (.slice p5 m5 c5) (.int .i64 e5)) := Xd.out.off6 Hnv.out.2.2 (.bool s6) (.slice p6 m6 m6) (.int .i64 e6) (.bool s7) (.slice p7 m7 m7) (.int .i64 e7);have hbw2 : Below w.heap.size w ((((((W'.setCell ⟨kvm, 0, none⟩ (.bool s6)).setCell ⟨kvm, 1, none⟩ (.slice p6 m6 m6)).setCell ⟨kvm, 2, none⟩ (.int .i64 e6)).setCell ⟨kvm, 3, none⟩ (.bool s7)).setCell ⟨kvm, 4, none⟩ (.slice p7 m7 m7)).setCell ⟨kvm, 5, none⟩ (.int .i64 e7)) := (bSet (bSet (bSet (bSet (bSet (bSet hbw _ _ _ HGm.out) _ _ _ HGm.out) _ _ _ HGm.out) _ _ _ HGm.out) _ _ _ HGm.out) _ _ _ HGm.out)
  have Fd6 : Hid (SpG 0 ((((((W'.setCell ⟨kvm, 0, none⟩ (.bool s6)).setCell ⟨kvm, 1, none⟩ (.slice p6 m6 m6)).setCell ⟨kvm, 2, none⟩ (.int .i64 e6)).setCell ⟨kvm, 3, none⟩ (.bool s7)).setCell ⟨kvm, 4, none⟩ (.slice p7 m7 m7)).setCell ⟨kvm, 5, none⟩ (.int .i64 e7)) s6 p6 m6 e6 s7 p7 m7 e7 (bb = true ∧ lo ≤ hi) lo hi) := Hd6.out.keep6 Hod6.out (.bool s6) (.slice p6 m6 m6) (.int .i64 e6) (.bool s7) (.slice p7 m7 m7) (.int .i64 e7)
  have HJ2 : Hid ((fun W' : World => W'.cell? ⟨ga, 0, none⟩ = some (.bool s1) ∧ W'.cell? ⟨ga, 1, none⟩ = some (.slice p1 m1 c1) ∧ W'.cell? ⟨ga, 2, none⟩ = some (.int .i64 e1) ∧ W'.cell? ⟨ga, 3, none⟩ = some (.bool s2) ∧ W'.cell? ⟨ga, 4, none⟩ = some (.slice p2 m2 c2) ∧ W'.cell? ⟨ga, 5, none⟩ = some (.int .i64 e2) ∧ W'.cell? ⟨gb, 0, none⟩ = some (.bool s3) ∧ W'.cell? ⟨gb, 1, none⟩ = some (.slice p3 m3 c3) ∧ W'.cell? ⟨gb, 2, none⟩ = some (.int .i64 e3) ∧ W'.cell? ⟨gb, 3, none⟩ = some (.bool s4) ∧ W'.cell? ⟨gb, 4, none⟩ = some (.slice p4 m4 c4) ∧ W'.cell? ⟨gb, 5, none⟩ = some (.int .i64 e4)) ((((((W'.setCell ⟨kvm, 0, none⟩ (.bool s6)).setCell ⟨kvm, 1, none⟩ (.slice p6 m6 m6)).setCell ⟨kvm, 2, none⟩ (.int .i64 e6)).setCell ⟨kvm, 3, none⟩ (.bool s7)).setCell ⟨kvm, 4, none⟩ (.slice p7 m7 m7)).setCell ⟨kvm, 5, none⟩ (.int .i64 e7))) := ⟨Xa2.out.c0, Xa2.out.c1, Xa2.out.c2, Xa2.out.c3, Xa2.out.c4, Xa2.out.c5, Xb2.out.c0, Xb2.out.c1, Xb2.out.c2, Xb2.out.c3, Xb2.out.c4, Xb2.out.c5⟩
  refine hK _ _ HJ2.out ?_
  clear hK HJ;have HJ := HJ2;clear cm0 cm1 cm2 cm3 cm4 cm5 fm0 fm1 fm2 fm3 fm4 fm5 hnem HJ2
  refine wpJ_tq 11 rfl HJ.out ?_
  refine wpJ_tq 12 rfl HJ.out ?_
  refine wpJ_done (by kernel_rfl) ?_ _
  clear HJ hbw Xa Xb Xd Xm Hp1 Hp2 Hp3 Hp4;have Xa := Xa2;have Xb := Xb2;have Xd := Xd2;have Xm := Xm2;have hbw := hbw2;clear hbw2 Xa2 Xb2 Xd2 Xm2;generalize ((((((W'.setCell ⟨kvm, 0, none⟩ (.bool s6)).setCell ⟨kvm, 1, none⟩ (.slice p6 m6 m6)).setCell ⟨kvm, 2, none⟩ (.int .i64 e6)).setCell ⟨kvm, 3, none⟩ (.bool s7)).setCell ⟨kvm, 4, none⟩ (.slice p7 m7 m7)).setCell ⟨kvm, 5, none⟩ (.int .i64 e7)) = Wnm at *;have hgm9 : True := trivial;clear hgm9;obtain ⟨ca0, ca1, ca2, ca3, ca4, ca5, fa0, fa1, fa2, fa3, fa4, fa5⟩ := Xa.out;have hnea : ga < Wnm.heap.size := blt ca0;obtain ⟨cb0, cb1, cb2, cb3, cb4, cb5, fb0, fb1, fb2, fb3, fb4, fb5⟩ := Xb.out;have hneb : gb < Wnm.heap.size := blt cb0;go_wp2_with fail;clear ca0 ca1 ca2 ca3 ca4 ca5 fa0 fa1 fa2 fa3 fa4 fa5 hnea cb0 cb1 cb2 cb3 cb4 cb5 fb0 fb1 fb2 fb3 fb4 fb5 hneb;obtain ⟨Wgh, hWgh⟩ := exq Wnm.drew
  have hbd : Below Wnm.heap.size Wnm Wgh := by rw [hWgh]; exact bDrew1 (Below.refl _ _)
  replace Xa := B6q.b Xa hbd;replace Xb := B6q.b Xb hbd;replace Xd := B3q.b Xd hbd;replace Xm := B6q.b Xm hbd;replace Fd6 : Hid (SpG 0 Wgh s6 p6 m6 e6 s7 p7 m7 e7 (bb = true ∧ lo ≤ hi) lo hi) := Fd6.out.below hbd;replace hbw := bon hbw hbd;clear hbd
  have HJ : Hid ((fun W' : World => W'.cell? ⟨ga, 0, none⟩ = some (.bool s1) ∧ W'.cell? ⟨ga, 1, none⟩ = some (.slice p1 m1 c1) ∧ W'.cell? ⟨ga, 2, none⟩ = some (.int .i64 e1) ∧ W'.cell? ⟨ga, 3, none⟩ = some (.bool s2) ∧ W'.cell? ⟨ga, 4, none⟩ = some (.slice p2 m2 c2) ∧ W'.cell? ⟨ga, 5, none⟩ = some (.int .i64 e2) ∧ W'.cell? ⟨gb, 0, none⟩ = some (.bool s3) ∧ W'.cell? ⟨gb, 1, none⟩ = some (.slice p3 m3 c3) ∧ W'.cell? ⟨gb, 2, none⟩ = some (.int .i64 e3) ∧ W'.cell? ⟨gb, 3, none⟩ = some (.bool s4) ∧ W'.cell? ⟨gb, 4, none⟩ = some (.slice p4 m4 c4) ∧ W'.cell? ⟨gb, 5, none⟩ = some (.int .i64 e4)) Wgh) := ⟨Xa.out.c0, Xa.out.c1, Xa.out.c2, Xa.out.c3, Xa.out.c4, Xa.out.c5, Xb.out.c0, Xb.out.c1, Xb.out.c2, Xb.out.c3, Xb.out.c4, Xb.out.c5⟩
  refine wp_region_J (fun W' => W'.cell? ⟨ga, 0, none⟩ = some (.bool s1) ∧ W'.cell? ⟨ga, 1, none⟩ = some (.slice p1 m1 c1) ∧ W'.cell? ⟨ga, 2, none⟩ = some (.int .i64 e1) ∧ W'.cell? ⟨ga, 3, none⟩ = some (.bool s2) ∧ W'.cell? ⟨ga, 4, none⟩ = some (.slice p2 m2 c2) ∧ W'.cell? ⟨ga, 5, none⟩ = some (.int .i64 e2) ∧ W'.cell? ⟨gb, 0, none⟩ = some (.bool s3) ∧ W'.cell? ⟨gb, 1, none⟩ = some (.slice p3 m3 c3) ∧ W'.cell? ⟨gb, 2, none⟩ = some (.int .i64 e3) ∧ W'.cell? ⟨gb, 3, none⟩ = some (.bool s4) ∧ W'.cell? ⟨gb, 4, none⟩ = some (.slice p4 m4 c4) ∧ W'.cell? ⟨gb, 5, none⟩ = some (.int .i64 e4)) (by kernel_rfl) ?_
  rw [← hWgh];clear hWgh
  refine wpJ_tq 0 rfl HJ.out ?_
  refine wpJ_tq 2 rfl HJ.out ?_
  go_simp
  obtain ⟨FQ, hFQ⟩ : ∃ F : World → Prop, Hid (∀ W', F W' ↔ (B6q W' ga (.bool s1) (.slice p1 m1 c1) (.int .i64 e1) (.bool s2) (.slice p2 m2 c2) (.int .i64 e2) ∧ B6q W' gb (.bool s3) (.slice p3 m3 c3) (.int .i64 e3) (.bool s4) (.slice p4 m4 c4) (.int .i64 e4) ∧ B3q W' gd (.bool s5) (.slice p5 m5 c5) (.int .i64 e5) ∧ B6q W' kvm (.bool s6) (.slice p6 m6 m6) (.int .i64 e6) (.bool s7) (.slice p7 m7 m7) (.int .i64 e7) ∧ Below w.heap.size w W')) := ⟨fun W' => B6q W' ga (.bool s1) (.slice p1 m1 c1) (.int .i64 e1) (.bool s2) (.slice p2 m2 c2) (.int .i64 e2) ∧ B6q W' gb (.bool s3) (.slice p3 m3 c3) (.int .i64 e3) (.bool s4) (.slice p4 m4 c4) (.int .i64 e4) ∧ B3q W' gd (.bool s5) (.slice p5 m5 c5) (.int .i64 e5) ∧ B6q W' kvm (.bool s6) (.slice p6 m6 m6) (.int .i64 e6) (.bool s7) (.slice p7 m7 m7) (.int .i64 e7) ∧ Below w.heap.size w W', fun _ => Iff.rfl⟩
  have HFB : Hid (∀ W' W2, FQ W' → Below W'.heap.size W' W2 → FQ W2) := fun W' W2 h hb => by
   have h1 := (hFQ.out W').1 h
   exact (hFQ.out W2).2 ⟨h1.1.below hb, h1.2.1.below hb, h1.2.2.1.below hb, h1.2.2.2.1.below hb, Below.on h1.2.2.2.2 hb⟩
  have HFJ : Hid (∀ W', FQ W' → (fun W' : World => W'.cell? ⟨ga, 0, none⟩ = some (.bool s1) ∧ W'.cell? ⟨ga, 1, none⟩ = some (.slice p1 m1 c1) ∧ W'.cell? ⟨ga, 2, none⟩ = some (.int .i64 e1) ∧ W'.cell? ⟨ga, 3, none⟩ = some (.bool s2) ∧ W'.cell? ⟨ga, 4, none⟩ = some (.slice p2 m2 c2) ∧ W'.cell? ⟨ga, 5, none⟩ = some (.int .i64 e2) ∧ W'.cell? ⟨gb, 0, none⟩ = some (.bool s3) ∧ W'.cell? ⟨gb, 1, none⟩ = some (.slice p3 m3 c3) ∧ W'.cell? ⟨gb, 2, none⟩ = some (.int .i64 e3) ∧ W'.cell? ⟨gb, 3, none⟩ = some (.bool s4) ∧ W'.cell? ⟨gb, 4, none⟩ = some (.slice p4 m4 c4) ∧ W'.cell? ⟨gb, 5, none⟩ = some (.int .i64 e4)) W') := fun W' h => by
   have h1 := (hFQ.out W').1 h
   exact ⟨h1.1.c0, h1.1.c1, h1.1.c2, h1.1.c3, h1.1.c4, h1.1.c5, h1.2.1.c0, h1.2.1.c1, h1.2.1.c2, h1.2.1.c3, h1.2.1.c4, h1.2.1.c5⟩
  refine wpJ_nodes5 fun WP hWP L0 a0 hL ha => ?_
  have N1_3_4_8 : ∀ (kh1 : Nat) (lh1 : Nat) (kh2 : Nat) (lh2 : Nat) (s8 : Bool) (p8 : Option Addr) (m8 : Nat) (e8 : Int) (s9 : Bool) (p9 : Option Addr) (m9 : Nat) (e9 : Int) (r8 : Int) (kvh : Nat) (W' : World), (FQ W') ∧ (SpG 0 W' s6 p6 m6 e6 s7 p7 m7 e7 (bb = true ∧ lo ≤ hi) lo hi) ∧ ((bb = false ∧ ok6 = false ∧ r6 = 2) ∨ (bb = true ∧ r6 = 0 ∧ ok6 = decide (lo ≤ hi))) ∧ (At W' (some ⟨kh1, 0, none⟩) m1 m1 x1) ∧ (At W' (some ⟨lh1, 0, none⟩) m2 m2 x2) ∧ (At W' (some ⟨kh2, 0, none⟩) m3 m3 x3) ∧ (At W' (some ⟨lh2, 0, none⟩) m4 m4 x4) ∧ (SpG 0 W' s8 p8 m8 e8 s9 p9 m9 e9 (bb = true) lo2 hi2) ∧ ((bb = false ∧ r8 = 2) ∨ (bb = true ∧ r8 = 0)) ∧ (B6q W' kvh (.bool false) (.slice none 0 0) (.int .i64 0) (.bool false) (.slice none 0 0) (.int .i64 0)) ∧ (w.heap.size ≤ kvh) ∧ (ga ≠ kvh ∧ gb ≠ kvh ∧ gd ≠ kvh ∧ kvm ≠ kvh) ∧ (Off2 p8 m8 p9 m9 kvh) ∧ (Off2 p6 m6 p7 m7 kvh) → WP 2 (((((((L0.setIfInBounds 1 true).setIfInBounds 3 true).setIfInBounds 4 true).setIfInBounds 5 true).setIfInBounds 6 true).setIfInBounds 7 true).setIfInBounds 8 true) (((((((a0.put (some 33) (SV s1 (some ⟨kh1, 0, none⟩) m1 m1 e1 s2 (some ⟨lh1, 0, none⟩) m2 m2 e2)).put (some 35) (SV s3 (some ⟨kh2, 0, none⟩) m3 m3 e3 s4 (some ⟨lh2, 0, none⟩) m4 m4 e4)).put (some 36) (.tuple #[SV s8 p8 m8 m8 e8 s9 p9 m9 m9 e9, .int .i64 r8])).put (some 31) (.tuple #[SV s8 p8 m8 m8 e8 s9 p9 m9 m9 e9, .int .i64 r8])).put (some 37) (SV s8 p8 m8 m8 e8 s9 p9 m9 m9 e9)).put (some 38) (.int .i64 r8)).put (some 10) (.pointer (some ⟨kvh, 0, none⟩))) W' := by
   rintro kh1 lh1 kh2 lh2 s8 p8 m8 e8 s9 p9 m9 e9 r8 kvh W' ⟨fq, q6, v6, p1, p2, p3, p4, d8, v8, xv, hv, nv, od8, okq6⟩;subst hWP hL ha;have Hq6 := Hid.mk5 q6;have Hv6 := Hid.mk5 v6;have Hp1 := Hid.mk5 p1;have Hp2 := Hid.mk5 p2;have Hp3 := Hid.mk5 p3;have Hp4 := Hid.mk5 p4;have Hd8 := Hid.mk5 d8;have Hv8 := Hid.mk5 v8;have Hxv := Hid.mk5 xv;have Hhv := Hid.mk5 hv;have Hnv := Hid.mk5 nv;have Hod8 := Hid.mk5 od8;have Hokq6 := Hid.mk5 okq6;clear q6 v6 p1 p2 p3 p4 d8 v8 xv hv nv od8 okq6;obtain ⟨hxa, hxb, hxd, hxm, hbw⟩ := (hFQ.out W').1 fq;have Hxa := Hid.mk5 hxa;have Hxb := Hid.mk5 hxb;have Hxd := Hid.mk5 hxd;have Hxm := Hid.mk5 hxm;clear hxa hxb hxd hxm;go_simp;have Xa := Hxa;have Xb := Hxb;have Xd := Hxd;have Xm := Hxm;have Xh := Hxv;clear Hxv Hxa Hxb Hxd Hxm;have HGh : Hid (w.heap.size ≤ kvh) := Hhv.out
   have HJ : Hid ((fun W' : World => W'.cell? ⟨ga, 0, none⟩ = some (.bool s1) ∧ W'.cell? ⟨ga, 1, none⟩ = some (.slice p1 m1 c1) ∧ W'.cell? ⟨ga, 2, none⟩ = some (.int .i64 e1) ∧ W'.cell? ⟨ga, 3, none⟩ = some (.bool s2) ∧ W'.cell? ⟨ga, 4, none⟩ = some (.slice p2 m2 c2) ∧ W'.cell? ⟨ga, 5, none⟩ = some (.int .i64 e2) ∧ W'.cell? ⟨gb, 0, none⟩ = some (.bool s3) ∧ W'.cell? ⟨gb, 1, none⟩ = some (.slice p3 m3 c3) ∧ W'.cell? ⟨gb, 2, none⟩ = some (.int .i64 e3) ∧ W'.cell? ⟨gb, 3, none⟩ = some (.bool s4) ∧ W'.cell? ⟨gb, 4, none⟩ = some (.slice p4 m4 c4) ∧ W'.cell? ⟨gb, 5, none⟩ = some (.int .i64 e4)) W') := ⟨Xa.out.c0, Xa.out.c1, Xa.out.c2, Xa.out.c3, Xa.out.c4, Xa.out.c5, Xb.out.c0, Xb.out.c1, Xb.out.c2, Xb.out.c3, Xb.out.c4, Xb.out.c5⟩
   obtain ⟨ch0, ch1, ch2, ch3, ch4, ch5, fh0, fh1, fh2, fh3, fh4, fh5⟩ := Xh.out;have hneh : kvh < W'.heap.size := blt ch0
   refine wpJ_on 9 rfl fun KJ hK => ?_
   go_simp;have Xh2 : Hid (B6q ((((((W'.setCell ⟨kvh, 0, none⟩ (.bool s8)).setCell ⟨kvh, 1, none⟩ (.slice p8 m8 m8)).setCell ⟨kvh, 2, none⟩ (.int .i64 e8)).setCell ⟨kvh, 3, none⟩ (.bool s9)).setCell ⟨kvh, 4, none⟩ (.slice p9 m9 m9)).setCell ⟨kvh, 5, none⟩ (.int .i64 e9)) kvh (.bool s8) (.slice p8 m8 m8) (.int .i64 e8) (.bool s9) (.slice p9 m9 m9) (.int .i64 e9)) := Xh.out.put6 (.bool s8) (.slice p8 m8 m8) (.int .i64 e8) (.bool s9) (.slice p9 m9 m9) (.int .i64 e9);have Xa2 : Hid (B6q ((((((W'.setCell ⟨kvh, 0, none⟩ (.bool s8)).setCell ⟨kvh, 1, none⟩ (.slice p8 m8 m8)).setCell ⟨kvh, 2, none⟩ (.int .i64 e8)).setCell ⟨kvh, 3, none⟩ (.bool s9)).setCell ⟨kvh, 4, none⟩ (.slice p9 m9 m9)).setCell ⟨kvh, 5, none⟩ (.int .i64 e9)) ga (.bool s1) (.slice p1 m1 c1) (.int .i64 e1) (.bool s2) (.slice p2 m2 c2) (.int .i64 e2)) := Xa.out.off6 Hnv.out.1 (.bool s8) (.slice p8 m8 m8) (.int .i64 e8) (.bool s9) (.slice p9 m9 m9) (.int .i64 e9)
   have Xb2 : Hid (B6q ((((((W'.setCell ⟨kvh, 0, none⟩ (.bool s8)).setCell ⟨kvh, 1, none⟩ (.slice p8 m8 m8)).setCell ⟨kvh, 2, none⟩ (.int .i64 e8)).setCell ⟨kvh, 3, none⟩ (.bool s9)).setCell ⟨kvh, 4, none⟩ (.slice p9 m9 m9)).setCell ⟨kvh, 5, none⟩ (.int .i64 e9)) gb (.bool s3) (.slice p3 m3 c3) (.int .i64 e3) (.bool s4) (.slice p4 m4 c4) (.int .i64 e4)) := Xb.out.off6 Hnv.out.2.1 (.bool s8) (.slice p8 m8 m8) (.int .i64 e8) (.bool s9) (.slice p9 m9 m9) (.int .i64 e9);have Xd2 : Hid (B3q ((((((W'.setCell ⟨kvh, 0, none⟩ (.bool s8)).setCell ⟨kvh, 1, none⟩ (.slice p8 m8 m8)).setCell ⟨kvh, 2, none⟩ (.int .i64 e8)).setCell ⟨kvh, 3, none⟩ (.bool s9)).setCell ⟨kvh, 4, none⟩ (.slice p9 m9 m9)).setCell ⟨kvh, 5, none⟩ (.int .i64 e9)) gd (.bool s5) (.slice p5 m5 c5) (.int .i64 e5)) := Xd.out.off6 Hnv.out.2.2.1 (.bool s8) (.slice p8 m8 m8) (.int .i64 e8) (.bool s9) (.slice p9 m9 m9) (.int .i64 e9);have Xm2 : Hid (B6q ((((((W'.setCell ⟨kvh, 0, none⟩ (.bool s8)).setCell ⟨kvh, 1, none⟩ (.slice p8 m8 m8)).setCell ⟨kvh, 2, none⟩ (.int .i64 e8)).setCell ⟨kvh, 3, none⟩ (.bool s9)).setCell ⟨kvh, 4, none⟩ (.slice p9 m9 m9)).setCell ⟨kvh, 5, none⟩ (.int .i64 e9)) kvm (.bool s6) (.slice p6 m6 m6) (.int .i64 e6) (.bool s7) (.slice p7 m7 m7) (.int .i64 e7)) := Xm.out.off6 Hnv.out.2.2.2 (.bool s8) (.slice p8 m8 m8) (.int .i64 e8) (.bool s9) (.slice p9 m9 m9) (.int .i64 e9)
   have hbw2 : Below w.heap.size w ((((((W'.setCell ⟨kvh, 0, none⟩ (.bool s8)).setCell ⟨kvh, 1, none⟩ (.slice p8 m8 m8)).setCell ⟨kvh, 2, none⟩ (.int .i64 e8)).setCell ⟨kvh, 3, none⟩ (.bool s9)).setCell ⟨kvh, 4, none⟩ (.slice p9 m9 m9)).setCell ⟨kvh, 5, none⟩ (.int .i64 e9)) := (bSet (bSet (bSet (bSet (bSet (bSet hbw _ _ _ HGh.out) _ _ _ HGh.out) _ _ _ HGh.out) _ _ _ HGh.out) _ _ _ HGh.out) _ _ _ HGh.out);have Fd8 : Hid (SpG 0 ((((((W'.setCell ⟨kvh, 0, none⟩ (.bool s8)).setCell ⟨kvh, 1, none⟩ (.slice p8 m8 m8)).setCell ⟨kvh, 2, none⟩ (.int .i64 e8)).setCell ⟨kvh, 3, none⟩ (.bool s9)).setCell ⟨kvh, 4, none⟩ (.slice p9 m9 m9)).setCell ⟨kvh, 5, none⟩ (.int .i64 e9)) s8 p8 m8 e8 s9 p9 m9 e9 (bb = true) lo2 hi2) := Hd8.out.keep6 Hod8.out (.bool s8) (.slice p8 m8 m8) (.int .i64 e8) (.bool s9) (.slice p9 m9 m9) (.int .i64 e9);have Fq6 : Hid (SpG 0 ((((((W'.setCell ⟨kvh, 0, none⟩ (.bool s8)).setCell ⟨kvh, 1, none⟩ (.slice p8 m8 m8)).setCell ⟨kvh, 2, none⟩ (.int .i64 e8)).setCell ⟨kvh, 3, none⟩ (.bool s9)).setCell ⟨kvh, 4, none⟩ (.slice p9 m9 m9)).setCell ⟨kvh, 5, none⟩ (.int .i64 e9)) s6 p6 m6 e6 s7 p7 m7 e7 (bb = true ∧ lo ≤ hi) lo hi) := Hq6.out.keep6 Hokq6.out (.bool s8) (.slice p8 m8 m8) (.int .i64 e8) (.bool s9) (.slice p9 m9 m9) (.int .i64 e9)
   have HJ2 : Hid ((fun W' : World => W'.cell? ⟨ga, 0, none⟩ = some (.bool s1) ∧ W'.cell? ⟨ga, 1, none⟩ = some (.slice p1 m1 c1) ∧ W'.cell? ⟨ga, 2, none⟩ = some (.int .i64 e1) ∧ W'.cell? ⟨ga, 3, none⟩ = some (.bool s2) ∧ W'.cell? ⟨ga, 4, none⟩ = some (.slice p2 m2 c2) ∧ W'.cell? ⟨ga, 5, none⟩ = some (.int .i64 e2) ∧ W'.cell? ⟨gb, 0, none⟩ = some (.bool s3) ∧ W'.cell? ⟨gb, 1, none⟩ = some (.slice p3 m3 c3) ∧ W'.cell? ⟨gb, 2, none⟩ = some (.int .i64 e3) ∧ W'.cell? ⟨gb, 3, none⟩ = some (.bool s4) ∧ W'.cell? ⟨gb, 4, none⟩ = some (.slice p4 m4 c4) ∧ W'.cell? ⟨gb, 5, none⟩ = some (.int .i64 e4)) ((((((W'.setCell ⟨kvh, 0, none⟩ (.bool s8)).setCell ⟨kvh, 1, none⟩ (.slice p8 m8 m8)).setCell ⟨kvh, 2, none⟩ (.int .i64 e8)).setCell ⟨kvh, 3, none⟩ (.bool s9)).setCell ⟨kvh, 4, none⟩ (.slice p9 m9 m9)).setCell ⟨kvh, 5, none⟩ (.int .i64 e9))) := ⟨Xa2.out.c0, Xa2.out.c1, Xa2.out.c2, Xa2.out.c3, Xa2.out.c4, Xa2.out.c5, Xb2.out.c0, Xb2.out.c1, Xb2.out.c2, Xb2.out.c3, Xb2.out.c4, Xb2.out.c5⟩
   refine hK _ _ HJ2.out ?_
   clear hK HJ;have HJ := HJ2;clear ch0 ch1 ch2 ch3 ch4 ch5 fh0 fh1 fh2 fh3 fh4 fh5 hneh HJ2
   refine wpJ_tq 10 rfl HJ.out ?_
   refine wpJ_done (by kernel_rfl) ?_ _
   clear HJ hbw Xa Xb Xd Xm Xh Hp1 Hp2 Hp3 Hp4;have Xa := Xa2;have Xb := Xb2;have Xd := Xd2;have Xm := Xm2;have Xh := Xh2;have hbw := hbw2;clear hbw2 Xa2 Xb2 Xd2 Xm2 Xh2;generalize ((((((W'.setCell ⟨kvh, 0, none⟩ (.bool s8)).setCell ⟨kvh, 1, none⟩ (.slice p8 m8 m8)).setCell ⟨kvh, 2, none⟩ (.int .i64 e8)).setCell ⟨kvh, 3, none⟩ (.bool s9)).setCell ⟨kvh, 4, none⟩ (.slice p9 m9 m9)).setCell ⟨kvh, 5, none⟩ (.int .i64 e9)) = Wnh at *;have hgh9 : True := trivial;clear hgh9
   cases hbb : bb with
   | false =>
    obtain ⟨rfl, rfl⟩ : ok6 = false ∧ r6 = 2 := by rcases Hv6.out with h | h; (· exact h.2); (· rw [hbb] at h; cases h.1)
    obtain rfl : r8 = 2 := by rcases Hv8.out with h | h; (· exact h.2); (· rw [hbb] at h; cases h.1)
    have HBB : Hid ((FormS s1 x1 e1 s2 x2 e2 && FormS s3 x3 e3 s4 x4 e4) = false) := HBB0.out.symm.trans hbb;clear hbb;obtain ⟨ca0, ca1, ca2, ca3, ca4, ca5, fa0, fa1, fa2, fa3, fa4, fa5⟩ := Xa.out;have hnea : ga < Wnh.heap.size := blt ca0;obtain ⟨cb0, cb1, cb2, cb3, cb4, cb5, fb0, fb1, fb2, fb3, fb4, fb5⟩ := Xb.out;have hneb : gb < Wnh.heap.size := blt cb0;go_wp2_with fail;clear ca0 ca1 ca2 ca3 ca4 ca5 fa0 fa1 fa2 fa3 fa4 fa5 hnea cb0 cb1 cb2 cb3 cb4 cb5 fb0 fb1 fb2 fb3 fb4 fb5 hneb
    refine (rform6 (A1.out.below hbw) (A2.out.below hbw)).mono ?_
    rintro e9 v41 ⟨rfl, hb41⟩;replace Xa := B6q.b Xa hb41;replace Xb := B6q.b Xb hb41;replace Xd := B3q.b Xd hb41;replace Xm := B6q.b Xm hb41;replace Xh := B6q.b Xh hb41;replace Fd8 : Hid (SpG 0 v41 s8 p8 m8 e8 s9 p9 m9 e9 (bb = true) lo2 hi2) := Fd8.out.below hb41;replace Fq6 : Hid (SpG 0 v41 s6 p6 m6 e6 s7 p7 m7 e7 (bb = true ∧ lo ≤ hi) lo hi) := Fq6.out.below hb41;replace hbw := bon hbw hb41;clear hb41
    rcases and_ff HBB.out with hf | ⟨hf, hg⟩
    ·rw [hf]
     go_wp2_with fail
     go_ret
     exact ⟨rfl, hbw⟩
    ·rw [hf]
     have HG := hdQ hg;clear hg;obtain ⟨cb0, cb1, cb2, cb3, cb4, cb5, fb0, fb1, fb2, fb3, fb4, fb5⟩ := Xb.out;have hneb : gb < v41.heap.size := blt cb0;go_wp2_with fail;clear cb0 cb1 cb2 cb3 cb4 cb5 fb0 fb1 fb2 fb3 fb4 fb5 hneb
     refine (rform6 (A3.out.below hbw) (A4.out.below hbw)).mono ?_
     rintro e v42 ⟨rfl, hb42⟩;rw [HG.out];replace Xa := B6q.b Xa hb42;replace Xb := B6q.b Xb hb42;replace Xd := B3q.b Xd hb42;replace Xm := B6q.b Xm hb42;replace Xh := B6q.b Xh hb42;replace Fd8 : Hid (SpG 0 v42 s8 p8 m8 e8 s9 p9 m9 e9 (bb = true) lo2 hi2) := Fd8.out.below hb42;replace Fq6 : Hid (SpG 0 v42 s6 p6 m6 e6 s7 p7 m7 e7 (bb = true ∧ lo ≤ hi) lo hi) := Fq6.out.below hb42;replace hbw := bon hbw hb42;clear hb42;go_wp2_with fail
     go_ret
     exact ⟨rfl, hbw⟩
   | true =>
    obtain rfl : r6 = 0 := by rcases Hv6.out with h | h; (· rw [hbb] at h; cases h.1); (· exact h.2.1)
    have HOK : Hid (ok6 = decide (lo ≤ hi)) := by rcases Hv6.out with h | h; (· rw [hbb] at h; cases h.1); (· exact h.2.2)
    obtain rfl : r8 = 0 := by rcases Hv8.out with h | h; (· rw [hbb] at h; cases h.1); (· exact h.2)
    obtain ⟨hf, hg⟩ := and_tt (HBB0.out.symm.trans hbb);have HF := hdQ hf;have HG := hdQ hg;have HBB : Hid (bb = true) := hbb;clear hf hg hbb Hv6 Hv8;obtain ⟨ca0, ca1, ca2, ca3, ca4, ca5, fa0, fa1, fa2, fa3, fa4, fa5⟩ := Xa.out;have hnea : ga < Wnh.heap.size := blt ca0;obtain ⟨cb0, cb1, cb2, cb3, cb4, cb5, fb0, fb1, fb2, fb3, fb4, fb5⟩ := Xb.out;have hneb : gb < Wnh.heap.size := blt cb0;go_wp2_with fail;clear ca0 ca1 ca2 ca3 ca4 ca5 fa0 fa1 fa2 fa3 fa4 fa5 hnea cb0 cb1 cb2 cb3 cb4 cb5 fb0 fb1 fb2 fb3 fb4 fb5 hneb
    refine (rform6 (A1.out.below hbw) (A2.out.below hbw)).mono ?_
    rintro e v41 ⟨rfl, hb41⟩;rw [HF.out];replace Xa := B6q.b Xa hb41;replace Xb := B6q.b Xb hb41;replace Xd := B3q.b Xd hb41;replace Xm := B6q.b Xm hb41;replace Xh := B6q.b Xh hb41;replace Fd8 : Hid (SpG 0 v41 s8 p8 m8 e8 s9 p9 m9 e9 (bb = true) lo2 hi2) := Fd8.out.below hb41;replace Fq6 : Hid (SpG 0 v41 s6 p6 m6 e6 s7 p7 m7 e7 (bb = true ∧ lo ≤ hi) lo hi) := Fq6.out.below hb41;replace hbw := bon hbw hb41;clear hb41;obtain ⟨cb0, cb1, cb2, cb3, cb4, cb5, fb0, fb1, fb2, fb3, fb4, fb5⟩ := Xb.out;have hneb : gb < v41.heap.size := blt cb0;go_wp2_with fail;clear cb0 cb1 cb2 cb3 cb4 cb5 fb0 fb1 fb2 fb3 fb4 fb5 hneb
    refine (rform6 (A3.out.below hbw) (A4.out.below hbw)).mono ?_
    rintro e v42 ⟨rfl, hb42⟩;rw [HG.out];replace Xa := B6q.b Xa hb42;replace Xb := B6q.b Xb hb42;replace Xd := B3q.b Xd hb42;replace Xm := B6q.b Xm hb42;replace Xh := B6q.b Xh hb42;replace Fd8 : Hid (SpG 0 v42 s8 p8 m8 e8 s9 p9 m9 e9 (bb = true) lo2 hi2) := Fd8.out.below hb42;replace Fq6 : Hid (SpG 0 v42 s6 p6 m6 e6 s7 p7 m7 e7 (bb = true ∧ lo ≤ hi) lo hi) := Fq6.out.below hb42;replace hbw := bon hbw hb42;clear hb42;obtain ⟨cd0, cd1, cd2, fd0, fd1, fd2⟩ := Xd.out;have hned : gd < v42.heap.size := blt cd0;go_wp2_with fail;clear cd0 cd1 cd2 fd0 fd1 fd2 hned
    refine (rform6 (A5.out.below hbw) (A5.out.below hbw)).mono ?_
    rintro e v43 ⟨rfl, hb43⟩;rw [FormS.self];replace Xa := B6q.b Xa hb43;replace Xb := B6q.b Xb hb43;replace Xd := B3q.b Xd hb43;replace Xm := B6q.b Xm hb43;replace Xh := B6q.b Xh hb43;replace Fd8 : Hid (SpG 0 v43 s8 p8 m8 e8 s9 p9 m9 e9 (bb = true) lo2 hi2) := Fd8.out.below hb43;replace Fq6 : Hid (SpG 0 v43 s6 p6 m6 e6 s7 p7 m7 e7 (bb = true ∧ lo ≤ hi) lo hi) := Fq6.out.below hb43;replace hbw := bon hbw hb43;clear hb43
    by_cases hd5 : formD s5 x5 e5 = true
    ·rw [hd5]
     have HD5 : Hid (formD s5 x5 e5 = true) := hd5;clear hd5;obtain ⟨ca0, ca1, ca2, ca3, ca4, ca5, fa0, fa1, fa2, fa3, fa4, fa5⟩ := Xa.out;have hnea : ga < v43.heap.size := blt ca0;obtain ⟨cd0, cd1, cd2, fd0, fd1, fd2⟩ := Xd.out;have hned : gd < v43.heap.size := blt cd0;go_wp2_with fail;clear ca0 ca1 ca2 ca3 ca4 ca5 fa0 fa1 fa2 fa3 fa4 fa5 hnea cd0 cd1 cd2 fd0 fd1 fd2 hned
     obtain ⟨z8, z9, hd8, hd9, hv8, hv9⟩ : ∃ z1 z2, DO 0 v43 s8 p8 m8 e8 z1 ∧ DO 0 v43 s9 p9 m9 e9 z2 ∧ dv z1 e8 = lo2 ∧ dv z2 e9 = hi2 := by rcases Fd8.out with h | h; (· exact h.2); (· exact absurd HBB.out h.1)
     have HV8 : Hid (dv z8 e8 = lo2 ∧ dv z9 e9 = hi2) := ⟨hv8, hv9⟩;obtain ⟨xs8, hX8, hm8, hc8⟩ := hd8.dn.copy;obtain ⟨xs9, hX9, hm9, hc9⟩ := hd9.dn.copy
     have HC8 : Hid ((m8 ≤ 8192 ∧ ∀ w' p' c', At w' p' m8 c' xs8 → DN w' s8 p' m8 c' e8 z8) ∧ m9 ≤ 8192 ∧ ∀ w' p' c', At w' p' m9 c' xs9 → DN w' s9 p' m9 c' e9 z9) := ⟨⟨hm8, hc8⟩, hm9, hc9⟩
     clear hm8 hc8 hm9 hc9 hd8 hd9 hv8 hv9 Fd8;have G8 := hdQ hX8;have G9 := hdQ hX9;clear hX8 hX9;obtain ⟨Wk1, hWk1⟩ := exq v43.drew
     have hbd : Below v43.heap.size v43 Wk1 := by rw [hWk1]; exact bDrew1 (Below.refl _ _)
     replace Xa := B6q.b Xa hbd;replace Xb := B6q.b Xb hbd;replace Xd := B3q.b Xd hbd;replace Xm := B6q.b Xm hbd;replace Xh := B6q.b Xh hbd;replace Fq6 : Hid (SpG 0 Wk1 s6 p6 m6 e6 s7 p7 m7 e7 (bb = true ∧ lo ≤ hi) lo hi) := Fq6.out.below hbd;replace G8 := At.b G8 hbd;replace G9 := At.b G9 hbd;replace hbw := bon hbw hbd;clear hbd
     have HJ : Hid ((fun W' : World => W'.cell? ⟨ga, 0, none⟩ = some (.bool s1) ∧ W'.cell? ⟨ga, 1, none⟩ = some (.slice p1 m1 c1) ∧ W'.cell? ⟨ga, 2, none⟩ = some (.int .i64 e1) ∧ W'.cell? ⟨ga, 3, none⟩ = some (.bool s2) ∧ W'.cell? ⟨ga, 4, none⟩ = some (.slice p2 m2 c2) ∧ W'.cell? ⟨ga, 5, none⟩ = some (.int .i64 e2) ∧ W'.cell? ⟨gd, 0, none⟩ = some (.bool s5) ∧ W'.cell? ⟨gd, 1, none⟩ = some (.slice p5 m5 c5) ∧ W'.cell? ⟨gd, 2, none⟩ = some (.int .i64 e5)) Wk1) := ⟨Xa.out.c0, Xa.out.c1, Xa.out.c2, Xa.out.c3, Xa.out.c4, Xa.out.c5, Xd.out.c0, Xd.out.c1, Xd.out.c2⟩
     refine wp_region_J (fun W' => W'.cell? ⟨ga, 0, none⟩ = some (.bool s1) ∧ W'.cell? ⟨ga, 1, none⟩ = some (.slice p1 m1 c1) ∧ W'.cell? ⟨ga, 2, none⟩ = some (.int .i64 e1) ∧ W'.cell? ⟨ga, 3, none⟩ = some (.bool s2) ∧ W'.cell? ⟨ga, 4, none⟩ = some (.slice p2 m2 c2) ∧ W'.cell? ⟨ga, 5, none⟩ = some (.int .i64 e2) ∧ W'.cell? ⟨gd, 0, none⟩ = some (.bool s5) ∧ W'.cell? ⟨gd, 1, none⟩ = some (.slice p5 m5 c5) ∧ W'.cell? ⟨gd, 2, none⟩ = some (.int .i64 e5)) (by kernel_rfl) ?_
     rw [← hWk1];clear hWk1
     refine wpJ_tq 0 rfl HJ.out ?_
     refine wpJ_tq 2 rfl HJ.out ?_
     refine wpJ_on 1 rfl fun KJ hK => ?_
     go_simp
     refine (ltwin6 (A1.out.below hbw) (A2.out.below hbw) HM.out.1 HM.out.2.1).mono ?_
     rintro e9 y1 ⟨ka1, la1, rfl, ho1, ho2, hb1⟩
     have ho1 := ho1.at2 (by have := HM.out; have := HC8.out; omega)
     have ho2 := ho2.at2 (by have := HM.out; have := HC8.out; omega)
     replace Xa := B6q.b Xa hb1;replace Xb := B6q.b Xb hb1;replace Xd := B3q.b Xd hb1;replace Xm := B6q.b Xm hb1;replace Xh := B6q.b Xh hb1;replace Fq6 : Hid (SpG 0 y1 s6 p6 m6 e6 s7 p7 m7 e7 (bb = true ∧ lo ≤ hi) lo hi) := Fq6.out.below hb1;replace G8 := At.b G8 hb1;replace G9 := At.b G9 hb1;replace hbw := bon hbw hb1;clear hb1;have T1 := hdQ ho1;have T2 := hdQ ho2;clear ho1 ho2
     refine hK _ _ ⟨Xa.out.c0, Xa.out.c1, Xa.out.c2, Xa.out.c3, Xa.out.c4, Xa.out.c5, Xd.out.c0, Xd.out.c1, Xd.out.c2⟩ ?_
     clear hK
     refine wpJ_on 3 rfl fun KJ hK => ?_
     go_simp
     refine (lnum6 (A5.out.below hbw) HM.out.2.2.2.2).mono ?_
     rintro e9 yn1 ⟨kn1, rfl, ho1, hb1⟩
     have ho1 := ho1.at2 (by have := HM.out; omega)
     replace Xa := B6q.b Xa hb1;replace Xb := B6q.b Xb hb1;replace Xd := B3q.b Xd hb1;replace Xm := B6q.b Xm hb1;replace Xh := B6q.b Xh hb1;replace Fq6 : Hid (SpG 0 yn1 s6 p6 m6 e6 s7 p7 m7 e7 (bb = true ∧ lo ≤ hi) lo hi) := Fq6.out.below hb1;replace G8 := At.b G8 hb1;replace G9 := At.b G9 hb1;replace T1 := At.b T1 hb1;replace T2 := At.b T2 hb1;replace hbw := bon hbw hb1;clear hb1;have T3 := hdQ ho1;clear ho1
     refine hK _ _ ⟨Xa.out.c0, Xa.out.c1, Xa.out.c2, Xa.out.c3, Xa.out.c4, Xa.out.c5, Xd.out.c0, Xd.out.c1, Xd.out.c2⟩ ?_
     clear hK
     refine wpJ_on 4 rfl fun KJ hK => ?_
     go_simp
     refine (shas (FormS.dn T1.out T2.out HF.out).1 (FormS.dn T1.out T2.out HF.out).2.1 (FormS.dn T1.out T2.out HF.out).2.2 (formD_dn T3.out HD5.out)).mono ?_
     rintro e9 yh1 ⟨rfl, hb1⟩;rw [← HV1.out, ← HV5.out, ← HV2.out];obtain ⟨bx, hbx⟩ := exq (decide (av1 ≤ av5 ∧ av5 ≤ av2));rw [← hbx];have HBX : Hid (bx = decide (av1 ≤ av5 ∧ av5 ≤ av2)) := hbx;clear hbx;replace Xa := B6q.b Xa hb1;replace Xb := B6q.b Xb hb1;replace Xd := B3q.b Xd hb1;replace Xm := B6q.b Xm hb1;replace Xh := B6q.b Xh hb1;replace Fq6 : Hid (SpG 0 yh1 s6 p6 m6 e6 s7 p7 m7 e7 (bb = true ∧ lo ≤ hi) lo hi) := Fq6.out.below hb1;replace G8 := At.b G8 hb1;replace G9 := At.b G9 hb1;replace T1 := At.b T1 hb1;replace T2 := At.b T2 hb1;replace T3 := At.b T3 hb1;replace hbw := bon hbw hb1;clear hb1 HJ
     have HJ : Hid ((fun W' : World => W'.cell? ⟨ga, 0, none⟩ = some (.bool s1) ∧ W'.cell? ⟨ga, 1, none⟩ = some (.slice p1 m1 c1) ∧ W'.cell? ⟨ga, 2, none⟩ = some (.int .i64 e1) ∧ W'.cell? ⟨ga, 3, none⟩ = some (.bool s2) ∧ W'.cell? ⟨ga, 4, none⟩ = some (.slice p2 m2 c2) ∧ W'.cell? ⟨ga, 5, none⟩ = some (.int .i64 e2) ∧ W'.cell? ⟨gd, 0, none⟩ = some (.bool s5) ∧ W'.cell? ⟨gd, 1, none⟩ = some (.slice p5 m5 c5) ∧ W'.cell? ⟨gd, 2, none⟩ = some (.int .i64 e5)) yh1) := ⟨Xa.out.c0, Xa.out.c1, Xa.out.c2, Xa.out.c3, Xa.out.c4, Xa.out.c5, Xd.out.c0, Xd.out.c1, Xd.out.c2⟩
     refine hK _ _ HJ.out ?_
     clear hK
     refine wpJ_tq 5 rfl HJ.out ?_
     refine wpJ_tq 6 rfl HJ.out ?_
     refine wpJ_tq 7 rfl HJ.out ?_
     refine wpJ_tq 8 rfl HJ.out ?_
     refine wpJ_tq 9 rfl HJ.out ?_
     refine wpJ_done (by kernel_rfl) ?_ _
     clear HJ T1 T2 T3;obtain ⟨cb0, cb1, cb2, cb3, cb4, cb5, fb0, fb1, fb2, fb3, fb4, fb5⟩ := Xb.out;have hneb : gb < yh1.heap.size := blt cb0;obtain ⟨cd0, cd1, cd2, fd0, fd1, fd2⟩ := Xd.out;have hned : gd < yh1.heap.size := blt cd0;go_wp2_with fail;clear cb0 cb1 cb2 cb3 cb4 cb5 fb0 fb1 fb2 fb3 fb4 fb5 hneb cd0 cd1 cd2 fd0 fd1 fd2 hned;obtain ⟨Wk2, hWk2⟩ := exq yh1.drew
     have hbd : Below yh1.heap.size yh1 Wk2 := by rw [hWk2]; exact bDrew1 (Below.refl _ _)
     replace Xa := B6q.b Xa hbd;replace Xb := B6q.b Xb hbd;replace Xd := B3q.b Xd hbd;replace Xm := B6q.b Xm hbd;replace Xh := B6q.b Xh hbd;replace Fq6 : Hid (SpG 0 Wk2 s6 p6 m6 e6 s7 p7 m7 e7 (bb = true ∧ lo ≤ hi) lo hi) := Fq6.out.below hbd;replace G8 := At.b G8 hbd;replace G9 := At.b G9 hbd;replace hbw := bon hbw hbd;clear hbd
     have HJ : Hid ((fun W' : World => W'.cell? ⟨gb, 0, none⟩ = some (.bool s3) ∧ W'.cell? ⟨gb, 1, none⟩ = some (.slice p3 m3 c3) ∧ W'.cell? ⟨gb, 2, none⟩ = some (.int .i64 e3) ∧ W'.cell? ⟨gb, 3, none⟩ = some (.bool s4) ∧ W'.cell? ⟨gb, 4, none⟩ = some (.slice p4 m4 c4) ∧ W'.cell? ⟨gb, 5, none⟩ = some (.int .i64 e4) ∧ W'.cell? ⟨gd, 0, none⟩ = some (.bool s5) ∧ W'.cell? ⟨gd, 1, none⟩ = some (.slice p5 m5 c5) ∧ W'.cell? ⟨gd, 2, none⟩ = some (.int .i64 e5)) Wk2) := ⟨Xb.out.c0, Xb.out.c1, Xb.out.c2, Xb.out.c3, Xb.out.c4, Xb.out.c5, Xd.out.c0, Xd.out.c1, Xd.out.c2⟩
     refine wp_region_J (fun W' => W'.cell? ⟨gb, 0, none⟩ = some (.bool s3) ∧ W'.cell? ⟨gb, 1, none⟩ = some (.slice p3 m3 c3) ∧ W'.cell? ⟨gb, 2, none⟩ = some (.int .i64 e3) ∧ W'.cell? ⟨gb, 3, none⟩ = some (.bool s4) ∧ W'.cell? ⟨gb, 4, none⟩ = some (.slice p4 m4 c4) ∧ W'.cell? ⟨gb, 5, none⟩ = some (.int .i64 e4) ∧ W'.cell? ⟨gd, 0, none⟩ = some (.bool s5) ∧ W'.cell? ⟨gd, 1, none⟩ = some (.slice p5 m5 c5) ∧ W'.cell? ⟨gd, 2, none⟩ = some (.int .i64 e5)) (by kernel_rfl) ?_
     rw [← hWk2];clear hWk2
     refine wpJ_tq 0 rfl HJ.out ?_
     refine wpJ_tq 2 rfl HJ.out ?_
     refine wpJ_on 1 rfl fun KJ hK => ?_
     go_simp
     refine (ltwin6 (A3.out.below hbw) (A4.out.below hbw) HM.out.2.2.1 HM.out.2.2.2.1).mono ?_
     rintro e9 y2 ⟨ka2, la2, rfl, ho1, ho2, hb1⟩
     have ho1 := ho1.at2 (by have := HM.out; have := HC8.out; omega)
     have ho2 := ho2.at2 (by have := HM.out; have := HC8.out; omega)
     replace Xa := B6q.b Xa hb1;replace Xb := B6q.b Xb hb1;replace Xd := B3q.b Xd hb1;replace Xm := B6q.b Xm hb1;replace Xh := B6q.b Xh hb1;replace Fq6 : Hid (SpG 0 y2 s6 p6 m6 e6 s7 p7 m7 e7 (bb = true ∧ lo ≤ hi) lo hi) := Fq6.out.below hb1;replace G8 := At.b G8 hb1;replace G9 := At.b G9 hb1;replace hbw := bon hbw hb1;clear hb1;have T1 := hdQ ho1;have T2 := hdQ ho2;clear ho1 ho2
     refine hK _ _ ⟨Xb.out.c0, Xb.out.c1, Xb.out.c2, Xb.out.c3, Xb.out.c4, Xb.out.c5, Xd.out.c0, Xd.out.c1, Xd.out.c2⟩ ?_
     clear hK
     refine wpJ_on 3 rfl fun KJ hK => ?_
     go_simp
     refine (lnum6 (A5.out.below hbw) HM.out.2.2.2.2).mono ?_
     rintro e9 yn2 ⟨kn2, rfl, ho1, hb1⟩
     have ho1 := ho1.at2 (by have := HM.out; omega)
     replace Xa := B6q.b Xa hb1;replace Xb := B6q.b Xb hb1;replace Xd := B3q.b Xd hb1;replace Xm := B6q.b Xm hb1;replace Xh := B6q.b Xh hb1;replace Fq6 : Hid (SpG 0 yn2 s6 p6 m6 e6 s7 p7 m7 e7 (bb = true ∧ lo ≤ hi) lo hi) := Fq6.out.below hb1;replace G8 := At.b G8 hb1;replace G9 := At.b G9 hb1;replace T1 := At.b T1 hb1;replace T2 := At.b T2 hb1;replace hbw := bon hbw hb1;clear hb1;have T3 := hdQ ho1;clear ho1
     refine hK _ _ ⟨Xb.out.c0, Xb.out.c1, Xb.out.c2, Xb.out.c3, Xb.out.c4, Xb.out.c5, Xd.out.c0, Xd.out.c1, Xd.out.c2⟩ ?_
     clear hK
     refine wpJ_on 4 rfl fun KJ hK => ?_
     go_simp
     refine (shas (FormS.dn T1.out T2.out HG.out).1 (FormS.dn T1.out T2.out HG.out).2.1 (FormS.dn T1.out T2.out HG.out).2.2 (formD_dn T3.out HD5.out)).mono ?_
     rintro e9 yh2 ⟨rfl, hb1⟩;rw [← HV3.out, ← HV5.out, ← HV4.out];obtain ⟨by_, hby_⟩ := exq (decide (av3 ≤ av5 ∧ av5 ≤ av4));rw [← hby_];have HBY_ : Hid (by_ = decide (av3 ≤ av5 ∧ av5 ≤ av4)) := hby_;clear hby_;replace Xa := B6q.b Xa hb1;replace Xb := B6q.b Xb hb1;replace Xd := B3q.b Xd hb1;replace Xm := B6q.b Xm hb1;replace Xh := B6q.b Xh hb1;replace Fq6 : Hid (SpG 0 yh2 s6 p6 m6 e6 s7 p7 m7 e7 (bb = true ∧ lo ≤ hi) lo hi) := Fq6.out.below hb1;replace G8 := At.b G8 hb1;replace G9 := At.b G9 hb1;replace T1 := At.b T1 hb1;replace T2 := At.b T2 hb1;replace T3 := At.b T3 hb1;replace hbw := bon hbw hb1;clear hb1 HJ
     have HJ : Hid ((fun W' : World => W'.cell? ⟨gb, 0, none⟩ = some (.bool s3) ∧ W'.cell? ⟨gb, 1, none⟩ = some (.slice p3 m3 c3) ∧ W'.cell? ⟨gb, 2, none⟩ = some (.int .i64 e3) ∧ W'.cell? ⟨gb, 3, none⟩ = some (.bool s4) ∧ W'.cell? ⟨gb, 4, none⟩ = some (.slice p4 m4 c4) ∧ W'.cell? ⟨gb, 5, none⟩ = some (.int .i64 e4) ∧ W'.cell? ⟨gd, 0, none⟩ = some (.bool s5) ∧ W'.cell? ⟨gd, 1, none⟩ = some (.slice p5 m5 c5) ∧ W'.cell? ⟨gd, 2, none⟩ = some (.int .i64 e5)) yh2) := ⟨Xb.out.c0, Xb.out.c1, Xb.out.c2, Xb.out.c3, Xb.out.c4, Xb.out.c5, Xd.out.c0, Xd.out.c1, Xd.out.c2⟩
     refine hK _ _ HJ.out ?_
     clear hK
     refine wpJ_tq 5 rfl HJ.out ?_
     refine wpJ_tq 6 rfl HJ.out ?_
     refine wpJ_tq 7 rfl HJ.out ?_
     refine wpJ_tq 8 rfl HJ.out ?_
     refine wpJ_tq 9 rfl HJ.out ?_
     refine wpJ_done (by kernel_rfl) ?_ _
     clear HJ T1 T2 T3;obtain ⟨ch0, ch1, ch2, ch3, ch4, ch5, fh0, fh1, fh2, fh3, fh4, fh5⟩ := Xh.out;have hneh : kvh < yh2.heap.size := blt ch0;obtain ⟨cd0, cd1, cd2, fd0, fd1, fd2⟩ := Xd.out;have hned : gd < yh2.heap.size := blt cd0;go_wp2_with fail;clear ch0 ch1 ch2 ch3 ch4 ch5 fh0 fh1 fh2 fh3 fh4 fh5 hneh cd0 cd1 cd2 fd0 fd1 fd2 hned;obtain ⟨Wk3, hWk3⟩ := exq yh2.drew
     have hbd : Below yh2.heap.size yh2 Wk3 := by rw [hWk3]; exact bDrew1 (Below.refl _ _)
     replace Xa := B6q.b Xa hbd;replace Xb := B6q.b Xb hbd;replace Xd := B3q.b Xd hbd;replace Xm := B6q.b Xm hbd;replace Xh := B6q.b Xh hbd;replace Fq6 : Hid (SpG 0 Wk3 s6 p6 m6 e6 s7 p7 m7 e7 (bb = true ∧ lo ≤ hi) lo hi) := Fq6.out.below hbd;replace G8 := At.b G8 hbd;replace G9 := At.b G9 hbd;replace hbw := bon hbw hbd;clear hbd
     have HJ : Hid ((fun W' : World => W'.cell? ⟨kvh, 0, none⟩ = some (.bool s8) ∧ W'.cell? ⟨kvh, 1, none⟩ = some (.slice p8 m8 m8) ∧ W'.cell? ⟨kvh, 2, none⟩ = some (.int .i64 e8) ∧ W'.cell? ⟨kvh, 3, none⟩ = some (.bool s9) ∧ W'.cell? ⟨kvh, 4, none⟩ = some (.slice p9 m9 m9) ∧ W'.cell? ⟨kvh, 5, none⟩ = some (.int .i64 e9) ∧ W'.cell? ⟨gd, 0, none⟩ = some (.bool s5) ∧ W'.cell? ⟨gd, 1, none⟩ = some (.slice p5 m5 c5) ∧ W'.cell? ⟨gd, 2, none⟩ = some (.int .i64 e5)) Wk3) := ⟨Xh.out.c0, Xh.out.c1, Xh.out.c2, Xh.out.c3, Xh.out.c4, Xh.out.c5, Xd.out.c0, Xd.out.c1, Xd.out.c2⟩
     refine wp_region_J (fun W' => W'.cell? ⟨kvh, 0, none⟩ = some (.bool s8) ∧ W'.cell? ⟨kvh, 1, none⟩ = some (.slice p8 m8 m8) ∧ W'.cell? ⟨kvh, 2, none⟩ = some (.int .i64 e8) ∧ W'.cell? ⟨kvh, 3, none⟩ = some (.bool s9) ∧ W'.cell? ⟨kvh, 4, none⟩ = some (.slice p9 m9 m9) ∧ W'.cell? ⟨kvh, 5, none⟩ = some (.int .i64 e9) ∧ W'.cell? ⟨gd, 0, none⟩ = some (.bool s5) ∧ W'.cell? ⟨gd, 1, none⟩ = some (.slice p5 m5 c5) ∧ W'.cell? ⟨gd, 2, none⟩ = some (.int .i64 e5)) (by kernel_rfl) ?_
     rw [← hWk3];clear hWk3
     refine wpJ_tq 0 rfl HJ.out ?_
     refine wpJ_tq 2 rfl HJ.out ?_
     refine wpJ_on 1 rfl fun KJ hK => ?_
     go_simp
     refine (ltwin6 G8.out G9.out (by have := HC8.out; omega) (by have := HC8.out; omega)).mono ?_
     rintro e9 y3 ⟨ka3, la3, rfl, ho1, ho2, hb1⟩
     have ho1 := ho1.at2 (by have := HM.out; have := HC8.out; omega)
     have ho2 := ho2.at2 (by have := HM.out; have := HC8.out; omega)
     replace Xa := B6q.b Xa hb1;replace Xb := B6q.b Xb hb1;replace Xd := B3q.b Xd hb1;replace Xm := B6q.b Xm hb1;replace Xh := B6q.b Xh hb1;replace Fq6 : Hid (SpG 0 y3 s6 p6 m6 e6 s7 p7 m7 e7 (bb = true ∧ lo ≤ hi) lo hi) := Fq6.out.below hb1;replace G8 := At.b G8 hb1;replace G9 := At.b G9 hb1;replace hbw := bon hbw hb1;clear hb1;have T1 := hdQ ho1;have T2 := hdQ ho2;clear ho1 ho2
     refine hK _ _ ⟨Xh.out.c0, Xh.out.c1, Xh.out.c2, Xh.out.c3, Xh.out.c4, Xh.out.c5, Xd.out.c0, Xd.out.c1, Xd.out.c2⟩ ?_
     clear hK
     refine wpJ_on 3 rfl fun KJ hK => ?_
     go_simp
     refine (lnum6 (A5.out.below hbw) HM.out.2.2.2.2).mono ?_
     rintro e9 yn3 ⟨kn3, rfl, ho1, hb1⟩
     have ho1 := ho1.at2 (by have := HM.out; omega)
     replace Xa := B6q.b Xa hb1;replace Xb := B6q.b Xb hb1;replace Xd := B3q.b Xd hb1;replace Xm := B6q.b Xm hb1;replace Xh := B6q.b Xh hb1;replace Fq6 : Hid (SpG 0 yn3 s6 p6 m6 e6 s7 p7 m7 e7 (bb = true ∧ lo ≤ hi) lo hi) := Fq6.out.below hb1;replace G8 := At.b G8 hb1;replace G9 := At.b G9 hb1;replace T1 := At.b T1 hb1;replace T2 := At.b T2 hb1;replace hbw := bon hbw hb1;clear hb1;have T3 := hdQ ho1;clear ho1
     refine hK _ _ ⟨Xh.out.c0, Xh.out.c1, Xh.out.c2, Xh.out.c3, Xh.out.c4, Xh.out.c5, Xd.out.c0, Xd.out.c1, Xd.out.c2⟩ ?_
     clear hK
     refine wpJ_on 4 rfl fun KJ hK => ?_
     go_simp
     refine (shas (HC8.out.1.2 _ _ _ T1.out) (HC8.out.2.2 _ _ _ T2.out) (by have h1 := HV8.out; have h2 := (FormS.dn (A1.out) (A2.out) HF.out).2.2; have h3 := HLH.out; rw [← HV1.out, ← HV2.out] at h2; omega) (formD_dn T3.out HD5.out)).mono ?_
     rintro e9 yh3 ⟨rfl, hb1⟩;rw [← HV5.out];obtain ⟨bu, hbu⟩ := exq (decide (dv z8 e8 ≤ av5 ∧ av5 ≤ dv z9 e9));rw [← hbu];have HBU : Hid (bu = decide (dv z8 e8 ≤ av5 ∧ av5 ≤ dv z9 e9)) := hbu;clear hbu;replace Xa := B6q.b Xa hb1;replace Xb := B6q.b Xb hb1;replace Xd := B3q.b Xd hb1;replace Xm := B6q.b Xm hb1;replace Xh := B6q.b Xh hb1;replace Fq6 : Hid (SpG 0 yh3 s6 p6 m6 e6 s7 p7 m7 e7 (bb = true ∧ lo ≤ hi) lo hi) := Fq6.out.below hb1;replace G8 := At.b G8 hb1;replace G9 := At.b G9 hb1;replace T1 := At.b T1 hb1;replace T2 := At.b T2 hb1;replace T3 := At.b T3 hb1;replace hbw := bon hbw hb1;clear hb1 HJ
     have HJ : Hid ((fun W' : World => W'.cell? ⟨kvh, 0, none⟩ = some (.bool s8) ∧ W'.cell? ⟨kvh, 1, none⟩ = some (.slice p8 m8 m8) ∧ W'.cell? ⟨kvh, 2, none⟩ = some (.int .i64 e8) ∧ W'.cell? ⟨kvh, 3, none⟩ = some (.bool s9) ∧ W'.cell? ⟨kvh, 4, none⟩ = some (.slice p9 m9 m9) ∧ W'.cell? ⟨kvh, 5, none⟩ = some (.int .i64 e9) ∧ W'.cell? ⟨gd, 0, none⟩ = some (.bool s5) ∧ W'.cell? ⟨gd, 1, none⟩ = some (.slice p5 m5 c5) ∧ W'.cell? ⟨gd, 2, none⟩ = some (.int .i64 e5)) yh3) := ⟨Xh.out.c0, Xh.out.c1, Xh.out.c2, Xh.out.c3, Xh.out.c4, Xh.out.c5, Xd.out.c0, Xd.out.c1, Xd.out.c2⟩
     refine hK _ _ HJ.out ?_
     clear hK
     refine wpJ_tq 5 rfl HJ.out ?_
     refine wpJ_tq 6 rfl HJ.out ?_
     refine wpJ_tq 7 rfl HJ.out ?_
     refine wpJ_tq 8 rfl HJ.out ?_
     refine wpJ_tq 9 rfl HJ.out ?_
     refine wpJ_done (by kernel_rfl) ?_ _
     clear HJ T1 T2 T3 Xa Xb Xh G8 G9
     by_cases hq : lo ≤ hi
     ·obtain rfl : ok6 = true := HOK.out.trans (decide_eq_true hq)
      have HQ : Hid ((lo ≤ hi)) := hq;clear hq HOK
      obtain ⟨z6, z7, hd6, hd7, hv6, hv7⟩ : ∃ z1 z2, DO 0 yh3 s6 p6 m6 e6 z1 ∧ DO 0 yh3 s7 p7 m7 e7 z2 ∧ dv z1 e6 = lo ∧ dv z2 e7 = hi := by rcases Fq6.out with h | h; (· exact h.2); (· exact absurd ⟨HBB.out, HQ.out⟩ h.1)
      have HV6 : Hid (dv z6 e6 = lo ∧ dv z7 e7 = hi) := ⟨hv6, hv7⟩;clear Fq6;have M6 := hdQ hd6;have M7 := hdQ hd7;clear hd6 hd7 hv6 hv7
      cases bx
      ·cases by_
       ·have PX : ¬ (av1 ≤ av5 ∧ av5 ≤ av2) := of_decide_eq_false HBX.out.symm
        have PY : ¬ (av3 ≤ av5 ∧ av5 ≤ av4) := of_decide_eq_false HBY_.out.symm;have HXY : Hid ((¬ (av1 ≤ av5 ∧ av5 ≤ av2)) ∧ ¬ (av3 ≤ av5 ∧ av5 ≤ av4)) := ⟨PX, PY⟩;clear PX PY;obtain ⟨cm0, cm1, cm2, cm3, cm4, cm5, fm0, fm1, fm2, fm3, fm4, fm5⟩ := Xm.out;have hnem : kvm < yh3.heap.size := blt cm0;obtain ⟨cd0, cd1, cd2, fd0, fd1, fd2⟩ := Xd.out;have hned : gd < yh3.heap.size := blt cd0;go_wp2_with fail;clear cm0 cm1 cm2 cm3 cm4 cm5 fm0 fm1 fm2 fm3 fm4 fm5 hnem cd0 cd1 cd2 fd0 fd1 fd2 hned;obtain ⟨Wk9, hWk9⟩ := exq yh3.drew
        have hbd : Below yh3.heap.size yh3 Wk9 := by rw [hWk9]; exact bDrew1 (Below.refl _ _)
        replace Xd := B3q.b Xd hbd;replace Xm := B6q.b Xm hbd;replace M6 := DO.b M6 hbd;replace M7 := DO.b M7 hbd;replace hbw := bon hbw hbd;clear hbd
        have HJ : Hid ((fun W' : World => W'.cell? ⟨kvm, 0, none⟩ = some (.bool s6) ∧ W'.cell? ⟨kvm, 1, none⟩ = some (.slice p6 m6 m6) ∧ W'.cell? ⟨kvm, 2, none⟩ = some (.int .i64 e6) ∧ W'.cell? ⟨kvm, 3, none⟩ = some (.bool s7) ∧ W'.cell? ⟨kvm, 4, none⟩ = some (.slice p7 m7 m7) ∧ W'.cell? ⟨kvm, 5, none⟩ = some (.int .i64 e7) ∧ W'.cell? ⟨gd, 0, none⟩ = some (.bool s5) ∧ W'.cell? ⟨gd, 1, none⟩ = some (.slice p5 m5 c5) ∧ W'.cell? ⟨gd, 2, none⟩ = some (.int .i64 e5)) Wk9) := ⟨Xm.out.c0, Xm.out.c1, Xm.out.c2, Xm.out.c3, Xm.out.c4, Xm.out.c5, Xd.out.c0, Xd.out.c1, Xd.out.c2⟩
        refine wp_region_J (fun W' => W'.cell? ⟨kvm, 0, none⟩ = some (.bool s6) ∧ W'.cell? ⟨kvm, 1, none⟩ = some (.slice p6 m6 m6) ∧ W'.cell? ⟨kvm, 2, none⟩ = some (.int .i64 e6) ∧ W'.cell? ⟨kvm, 3, none⟩ = some (.bool s7) ∧ W'.cell? ⟨kvm, 4, none⟩ = some (.slice p7 m7 m7) ∧ W'.cell? ⟨kvm, 5, none⟩ = some (.int .i64 e7) ∧ W'.cell? ⟨gd, 0, none⟩ = some (.bool s5) ∧ W'.cell? ⟨gd, 1, none⟩ = some (.slice p5 m5 c5) ∧ W'.cell? ⟨gd, 2, none⟩ = some (.int .i64 e5)) (by kernel_rfl) ?_
        rw [← hWk9];clear hWk9
        refine wpJ_tq 0 rfl HJ.out ?_
        refine wpJ_tq 1 rfl HJ.out ?_
        refine wpJ_on 2 rfl fun KJ hK => ?_
        go_simp
        refine (lnum6 (A5.out.below hbw) HM.out.2.2.2.2).mono ?_
        rintro e9 yn9 ⟨kn9, rfl, ho1, hb1⟩
        have ho1 := ho1.at2 (by have := HM.out; omega)
        replace Xd := B3q.b Xd hb1;replace Xm := B6q.b Xm hb1;replace M6 := DO.b M6 hb1;replace M7 := DO.b M7 hb1;replace hbw := bon hbw hb1;clear hb1;have T3 := hdQ ho1;clear ho1
        refine hK _ _ ⟨Xm.out.c0, Xm.out.c1, Xm.out.c2, Xm.out.c3, Xm.out.c4, Xm.out.c5, Xd.out.c0, Xd.out.c1, Xd.out.c2⟩ ?_
        clear hK
        refine wpJ_on 3 rfl fun KJ hK => ?_
        go_simp
        refine (shas M6.out.dn M7.out.dn (by have h1 := HV6.out; have h2 := HQ.out; omega) (formD_dn T3.out HD5.out)).mono ?_
        rintro e9 yh9 ⟨rfl, hb1⟩;rw [← HV5.out]
        rw [decide_eq_false (show ¬ (dv z6 e6 ≤ av5 ∧ av5 ≤ dv z7 e7) from by have h1 := HV6.out; have h2 := HXY.out; have h4 := HLH.out; omega)]
        replace Xd := B3q.b Xd hb1;replace Xm := B6q.b Xm hb1;replace M6 := DO.b M6 hb1;replace M7 := DO.b M7 hb1;replace T3 := At.b T3 hb1;replace hbw := bon hbw hb1;clear hb1 HJ
        have HJ : Hid ((fun W' : World => W'.cell? ⟨kvm, 0, none⟩ = some (.bool s6) ∧ W'.cell? ⟨kvm, 1, none⟩ = some (.slice p6 m6 m6) ∧ W'.cell? ⟨kvm, 2, none⟩ = some (.int .i64 e6) ∧ W'.cell? ⟨kvm, 3, none⟩ = some (.bool s7) ∧ W'.cell? ⟨kvm, 4, none⟩ = some (.slice p7 m7 m7) ∧ W'.cell? ⟨kvm, 5, none⟩ = some (.int .i64 e7) ∧ W'.cell? ⟨gd, 0, none⟩ = some (.bool s5) ∧ W'.cell? ⟨gd, 1, none⟩ = some (.slice p5 m5 c5) ∧ W'.cell? ⟨gd, 2, none⟩ = some (.int .i64 e5)) yh9) := ⟨Xm.out.c0, Xm.out.c1, Xm.out.c2, Xm.out.c3, Xm.out.c4, Xm.out.c5, Xd.out.c0, Xd.out.c1, Xd.out.c2⟩
        refine hK _ _ HJ.out ?_
        clear hK
        refine wpJ_tq 4 rfl HJ.out ?_
        refine wpJ_tq 5 rfl HJ.out ?_
        refine wpJ_tq 6 rfl HJ.out ?_
        refine wpJ_tq 7 rfl HJ.out ?_
        refine wpJ_tq 8 rfl HJ.out ?_
        refine wpJ_done (by kernel_rfl) ?_ _
        clear HJ T3;go_wp2_with fail
        go_ret
        exact ⟨rfl, hbw⟩
       ·have PX : ¬ (av1 ≤ av5 ∧ av5 ≤ av2) := of_decide_eq_false HBX.out.symm
        have PY : (av3 ≤ av5 ∧ av5 ≤ av4) := of_decide_eq_true HBY_.out.symm;have HXY : Hid ((¬ (av1 ≤ av5 ∧ av5 ≤ av2)) ∧ (av3 ≤ av5 ∧ av5 ≤ av4)) := ⟨PX, PY⟩
        obtain rfl : bu = true := HBU.out.trans (decide_eq_true (by have h1 := HV8.out; have h4 := HLH.out; omega))
        clear PX PY;obtain ⟨cm0, cm1, cm2, cm3, cm4, cm5, fm0, fm1, fm2, fm3, fm4, fm5⟩ := Xm.out;have hnem : kvm < yh3.heap.size := blt cm0;obtain ⟨cd0, cd1, cd2, fd0, fd1, fd2⟩ := Xd.out;have hned : gd < yh3.heap.size := blt cd0;go_wp2_with fail;clear cm0 cm1 cm2 cm3 cm4 cm5 fm0 fm1 fm2 fm3 fm4 fm5 hnem cd0 cd1 cd2 fd0 fd1 fd2 hned;obtain ⟨Wk9, hWk9⟩ := exq yh3.drew
        have hbd : Below yh3.heap.size yh3 Wk9 := by rw [hWk9]; exact bDrew1 (Below.refl _ _)
        replace Xd := B3q.b Xd hbd;replace Xm := B6q.b Xm hbd;replace M6 := DO.b M6 hbd;replace M7 := DO.b M7 hbd;replace hbw := bon hbw hbd;clear hbd
        have HJ : Hid ((fun W' : World => W'.cell? ⟨kvm, 0, none⟩ = some (.bool s6) ∧ W'.cell? ⟨kvm, 1, none⟩ = some (.slice p6 m6 m6) ∧ W'.cell? ⟨kvm, 2, none⟩ = some (.int .i64 e6) ∧ W'.cell? ⟨kvm, 3, none⟩ = some (.bool s7) ∧ W'.cell? ⟨kvm, 4, none⟩ = some (.slice p7 m7 m7) ∧ W'.cell? ⟨kvm, 5, none⟩ = some (.int .i64 e7) ∧ W'.cell? ⟨gd, 0, none⟩ = some (.bool s5) ∧ W'.cell? ⟨gd, 1, none⟩ = some (.slice p5 m5 c5) ∧ W'.cell? ⟨gd, 2, none⟩ = some (.int .i64 e5)) Wk9) := ⟨Xm.out.c0, Xm.out.c1, Xm.out.c2, Xm.out.c3, Xm.out.c4, Xm.out.c5, Xd.out.c0, Xd.out.c1, Xd.out.c2⟩
        refine wp_region_J (fun W' => W'.cell? ⟨kvm, 0, none⟩ = some (.bool s6) ∧ W'.cell? ⟨kvm, 1, none⟩ = some (.slice p6 m6 m6) ∧ W'.cell? ⟨kvm, 2, none⟩ = some (.int .i64 e6) ∧ W'.cell? ⟨kvm, 3, none⟩ = some (.bool s7) ∧ W'.cell? ⟨kvm, 4, none⟩ = some (.slice p7 m7 m7) ∧ W'.cell? ⟨kvm, 5, none⟩ = some (.int .i64 e7) ∧ W'.cell? ⟨gd, 0, none⟩ = some (.bool s5) ∧ W'.cell? ⟨gd, 1, none⟩ = some (.slice p5 m5 c5) ∧ W'.cell? ⟨gd, 2, none⟩ = some (.int .i64 e5)) (by kernel_rfl) ?_
        rw [← hWk9];clear hWk9
        refine wpJ_tq 0 rfl HJ.out ?_
        refine wpJ_tq 1 rfl HJ.out ?_
        refine wpJ_on 2 rfl fun KJ hK => ?_
        go_simp
        refine (lnum6 (A5.out.below hbw) HM.out.2.2.2.2).mono ?_
        rintro e9 yn9 ⟨kn9, rfl, ho1, hb1⟩
        have ho1 := ho1.at2 (by have := HM.out; omega)
        replace Xd := B3q.b Xd hb1;replace Xm := B6q.b Xm hb1;replace M6 := DO.b M6 hb1;replace M7 := DO.b M7 hb1;replace hbw := bon hbw hb1;clear hb1;have T3 := hdQ ho1;clear ho1
        refine hK _ _ ⟨Xm.out.c0, Xm.out.c1, Xm.out.c2, Xm.out.c3, Xm.out.c4, Xm.out.c5, Xd.out.c0, Xd.out.c1, Xd.out.c2⟩ ?_
        clear hK
        refine wpJ_on 3 rfl fun KJ hK => ?_
        go_simp
        refine (shas M6.out.dn M7.out.dn (by have h1 := HV6.out; have h2 := HQ.out; omega) (formD_dn T3.out HD5.out)).mono ?_
        rintro e9 yh9 ⟨rfl, hb1⟩;rw [← HV5.out]
        rw [decide_eq_false (show ¬ (dv z6 e6 ≤ av5 ∧ av5 ≤ dv z7 e7) from by have h1 := HV6.out; have h2 := HXY.out; have h4 := HLH.out; omega)]
        replace Xd := B3q.b Xd hb1;replace Xm := B6q.b Xm hb1;replace M6 := DO.b M6 hb1;replace M7 := DO.b M7 hb1;replace T3 := At.b T3 hb1;replace hbw := bon hbw hb1;clear hb1 HJ
        have HJ : Hid ((fun W' : World => W'.cell? ⟨kvm, 0, none⟩ = some (.bool s6) ∧ W'.cell? ⟨kvm, 1, none⟩ = some (.slice p6 m6 m6) ∧ W'.cell? ⟨kvm, 2, none⟩ = some (.int .i64 e6) ∧ W'.cell? ⟨kvm, 3, none⟩ = some (.bool s7) ∧ W'.cell? ⟨kvm, 4, none⟩ = some (.slice p7 m7 m7) ∧ W'.cell? ⟨kvm, 5, none⟩ = some (.int .i64 e7) ∧ W'.cell? ⟨gd, 0, none⟩ = some (.bool s5) ∧ W'.cell? ⟨gd, 1, none⟩ = some (.slice p5 m5 c5) ∧ W'.cell? ⟨gd, 2, none⟩ = some (.int .i64 e5)) yh9) := ⟨Xm.out.c0, Xm.out.c1, Xm.out.c2, Xm.out.c3, Xm.out.c4, Xm.out.c5, Xd.out.c0, Xd.out.c1, Xd.out.c2⟩
        refine hK _ _ HJ.out ?_
        clear hK
        refine wpJ_tq 4 rfl HJ.out ?_
        refine wpJ_tq 5 rfl HJ.out ?_
        refine wpJ_tq 6 rfl HJ.out ?_
        refine wpJ_tq 7 rfl HJ.out ?_
        refine wpJ_tq 8 rfl HJ.out ?_
        refine wpJ_done (by kernel_rfl) ?_ _
        clear HJ T3;go_wp2_with fail
        go_ret
        exact ⟨rfl, hbw⟩
      ·cases by_
       ·have PX : (av1 ≤ av5 ∧ av5 ≤ av2) := of_decide_eq_true HBX.out.symm
        have PY : ¬ (av3 ≤ av5 ∧ av5 ≤ av4) := of_decide_eq_false HBY_.out.symm;have HXY : Hid (((av1 ≤ av5 ∧ av5 ≤ av2)) ∧ ¬ (av3 ≤ av5 ∧ av5 ≤ av4)) := ⟨PX, PY⟩
        obtain rfl : bu = true := HBU.out.trans (decide_eq_true (by have h1 := HV8.out; have h4 := HLH.out; omega))
        clear PX PY;obtain ⟨cm0, cm1, cm2, cm3, cm4, cm5, fm0, fm1, fm2, fm3, fm4, fm5⟩ := Xm.out;have hnem : kvm < yh3.heap.size := blt cm0;obtain ⟨cd0, cd1, cd2, fd0, fd1, fd2⟩ := Xd.out;have hned : gd < yh3.heap.size := blt cd0;go_wp2_with fail;clear cm0 cm1 cm2 cm3 cm4 cm5 fm0 fm1 fm2 fm3 fm4 fm5 hnem cd0 cd1 cd2 fd0 fd1 fd2 hned;obtain ⟨Wk9, hWk9⟩ := exq yh3.drew
        have hbd : Below yh3.heap.size yh3 Wk9 := by rw [hWk9]; exact bDrew1 (Below.refl _ _)
        replace Xd := B3q.b Xd hbd;replace Xm := B6q.b Xm hbd;replace M6 := DO.b M6 hbd;replace M7 := DO.b M7 hbd;replace hbw := bon hbw hbd;clear hbd
        have HJ : Hid ((fun W' : World => W'.cell? ⟨kvm, 0, none⟩ = some (.bool s6) ∧ W'.cell? ⟨kvm, 1, none⟩ = some (.slice p6 m6 m6) ∧ W'.cell? ⟨kvm, 2, none⟩ = some (.int .i64 e6) ∧ W'.cell? ⟨kvm, 3, none⟩ = some (.bool s7) ∧ W'.cell? ⟨kvm, 4, none⟩ = some (.slice p7 m7 m7) ∧ W'.cell? ⟨kvm, 5, none⟩ = some (.int .i64 e7) ∧ W'.cell? ⟨gd, 0, none⟩ = some (.bool s5) ∧ W'.cell? ⟨gd, 1, none⟩ = some (.slice p5 m5 c5) ∧ W'.cell? ⟨gd, 2, none⟩ = some (.int .i64 e5)) Wk9) := ⟨Xm.out.c0, Xm.out.c1, Xm.out.c2, Xm.out.c3, Xm.out.c4, Xm.out.c5, Xd.out.c0, Xd.out.c1, Xd.out.c2⟩
        refine wp_region_J (fun W' => W'.cell? ⟨kvm, 0, none⟩ = some (.bool s6) ∧ W'.cell? ⟨kvm, 1, none⟩ = some (.slice p6 m6 m6) ∧ W'.cell? ⟨kvm, 2, none⟩ = some (.int .i64 e6) ∧ W'.cell? ⟨kvm, 3, none⟩ = some (.bool s7) ∧ W'.cell? ⟨kvm, 4, none⟩ = some (.slice p7 m7 m7) ∧ W'.cell? ⟨kvm, 5, none⟩ = some (.int .i64 e7) ∧ W'.cell? ⟨gd, 0, none⟩ = some (.bool s5) ∧ W'.cell? ⟨gd, 1, none⟩ = some (.slice p5 m5 c5) ∧ W'.cell? ⟨gd, 2, none⟩ = some (.int .i64 e5)) (by kernel_rfl) ?_
        rw [← hWk9];clear hWk9
        refine wpJ_tq 0 rfl HJ.out ?_
        refine wpJ_tq 1 rfl HJ.out ?_
        refine wpJ_on 2 rfl fun KJ hK => ?_
        go_simp
        refine (lnum6 (A5.out.below hbw) HM.out.2.2.2.2).mono ?_
        rintro e9 yn9 ⟨kn9, rfl, ho1, hb1⟩
        have ho1 := ho1.at2 (by have := HM.out; omega)
        replace Xd := B3q.b Xd hb1;replace Xm := B6q.b Xm hb1;replace M6 := DO.b M6 hb1;replace M7 := DO.b M7 hb1;replace hbw := bon hbw hb1;clear hb1;have T3 := hdQ ho1;clear ho1
        refine hK _ _ ⟨Xm.out.c0, Xm.out.c1, Xm.out.c2, Xm.out.c3, Xm.out.c4, Xm.out.c5, Xd.out.c0, Xd.out.c1, Xd.out.c2⟩ ?_
        clear hK
        refine wpJ_on 3 rfl fun KJ hK => ?_
        go_simp
        refine (shas M6.out.dn M7.out.dn (by have h1 := HV6.out; have h2 := HQ.out; omega) (formD_dn T3.out HD5.out)).mono ?_
        rintro e9 yh9 ⟨rfl, hb1⟩;rw [← HV5.out]
        rw [decide_eq_false (show ¬ (dv z6 e6 ≤ av5 ∧ av5 ≤ dv z7 e7) from by have h1 := HV6.out; have h2 := HXY.out; have h4 := HLH.out; omega)]
        replace Xd := B3q.b Xd hb1;replace Xm := B6q.b Xm hb1;replace M6 := DO.b M6 hb1;replace M7 := DO.b M7 hb1;replace T3 := At.b T3 hb1;replace hbw := bon hbw hb1;clear hb1 HJ
        have HJ : Hid ((fun W' : World => W'.cell? ⟨kvm, 0, none⟩ = some (.bool s6) ∧ W'.cell? ⟨kvm, 1, none⟩ = some (.slice p6 m6 m6) ∧ W'.cell? ⟨kvm, 2, none⟩ = some (.int .i64 e6) ∧ W'.cell? ⟨kvm, 3, none⟩ = some (.bool s7) ∧ W'.cell? ⟨kvm, 4, none⟩ = some (.slice p7 m7 m7) ∧ W'.cell? ⟨kvm, 5, none⟩ = some (.int .i64 e7) ∧ W'.cell? ⟨gd, 0, none⟩ = some (.bool s5) ∧ W'.cell? ⟨gd, 1, none⟩ = some (.slice p5 m5 c5) ∧ W'.cell? ⟨gd, 2, none⟩ = some (.int .i64 e5)) yh9) := ⟨Xm.out.c0, Xm.out.c1, Xm.out.c2, Xm.out.c3, Xm.out.c4, Xm.out.c5, Xd.out.c0, Xd.out.c1, Xd.out.c2⟩
        refine hK _ _ HJ.out ?_
        clear hK
        refine wpJ_tq 4 rfl HJ.out ?_
        refine wpJ_tq 5 rfl HJ.out ?_
        refine wpJ_tq 6 rfl HJ.out ?_
        refine wpJ_tq 7 rfl HJ.out ?_
        refine wpJ_tq 8 rfl HJ.out ?_
        refine wpJ_done (by kernel_rfl) ?_ _
        clear HJ T3;go_wp2_with fail
        go_ret
        exact ⟨rfl, hbw⟩
       ·have PX : (av1 ≤ av5 ∧ av5 ≤ av2) := of_decide_eq_true HBX.out.symm
        have PY : (av3 ≤ av5 ∧ av5 ≤ av4) := of_decide_eq_true HBY_.out.symm;have HXY : Hid (((av1 ≤ av5 ∧ av5 ≤ av2)) ∧ (av3 ≤ av5 ∧ av5 ≤ av4)) := ⟨PX, PY⟩
        obtain rfl : bu = true := HBU.out.trans (decide_eq_true (by have h1 := HV8.out; have h4 := HLH.out; omega))
        clear PX PY;obtain ⟨cm0, cm1, cm2, cm3, cm4, cm5, fm0, fm1, fm2, fm3, fm4, fm5⟩ := Xm.out;have hnem : kvm < yh3.heap.size := blt cm0;obtain ⟨cd0, cd1, cd2, fd0, fd1, fd2⟩ := Xd.out;have hned : gd < yh3.heap.size := blt cd0;go_wp2_with fail;clear cm0 cm1 cm2 cm3 cm4 cm5 fm0 fm1 fm2 fm3 fm4 fm5 hnem cd0 cd1 cd2 fd0 fd1 fd2 hned;obtain ⟨Wk9, hWk9⟩ := exq yh3.drew
        have hbd : Below yh3.heap.size yh3 Wk9 := by rw [hWk9]; exact bDrew1 (Below.refl _ _)
        replace Xd := B3q.b Xd hbd;replace Xm := B6q.b Xm hbd;replace M6 := DO.b M6 hbd;replace M7 := DO.b M7 hbd;replace hbw := bon hbw hbd;clear hbd
        have HJ : Hid ((fun W' : World => W'.cell? ⟨kvm, 0, none⟩ = some (.bool s6) ∧ W'.cell? ⟨kvm, 1, none⟩ = some (.slice p6 m6 m6) ∧ W'.cell? ⟨kvm, 2, none⟩ = some (.int .i64 e6) ∧ W'.cell? ⟨kvm, 3, none⟩ = some (.bool s7) ∧ W'.cell? ⟨kvm, 4, none⟩ = some (.slice p7 m7 m7) ∧ W'.cell? ⟨kvm, 5, none⟩ = some (.int .i64 e7) ∧ W'.cell? ⟨gd, 0, none⟩ = some (.bool s5) ∧ W'.cell? ⟨gd, 1, none⟩ = some (.slice p5 m5 c5) ∧ W'.cell? ⟨gd, 2, none⟩ = some (.int .i64 e5)) Wk9) := ⟨Xm.out.c0, Xm.out.c1, Xm.out.c2, Xm.out.c3, Xm.out.c4, Xm.out.c5, Xd.out.c0, Xd.out.c1, Xd.out.c2⟩
        refine wp_region_J (fun W' => W'.cell? ⟨kvm, 0, none⟩ = some (.bool s6) ∧ W'.cell? ⟨kvm, 1, none⟩ = some (.slice p6 m6 m6) ∧ W'.cell? ⟨kvm, 2, none⟩ = some (.int .i64 e6) ∧ W'.cell? ⟨kvm, 3, none⟩ = some (.bool s7) ∧ W'.cell? ⟨kvm, 4, none⟩ = some (.slice p7 m7 m7) ∧ W'.cell? ⟨kvm, 5, none⟩ = some (.int .i64 e7) ∧ W'.cell? ⟨gd, 0, none⟩ = some (.bool s5) ∧ W'.cell? ⟨gd, 1, none⟩ = some (.slice p5 m5 c5) ∧ W'.cell? ⟨gd, 2, none⟩ = some (.int .i64 e5)) (by kernel_rfl) ?_
        rw [← hWk9];clear hWk9
        refine wpJ_tq 0 rfl HJ.out ?_
        refine wpJ_tq 1 rfl HJ.out ?_
        refine wpJ_on 2 rfl fun KJ hK => ?_
        go_simp
        refine (lnum6 (A5.out.below hbw) HM.out.2.2.2.2).mono ?_
        rintro e9 yn9 ⟨kn9, rfl, ho1, hb1⟩
        have ho1 := ho1.at2 (by have := HM.out; omega)
        replace Xd := B3q.b Xd hb1;replace Xm := B6q.b Xm hb1;replace M6 := DO.b M6 hb1;replace M7 := DO.b M7 hb1;replace hbw := bon hbw hb1;clear hb1;have T3 := hdQ ho1;clear ho1
        refine hK _ _ ⟨Xm.out.c0, Xm.out.c1, Xm.out.c2, Xm.out.c3, Xm.out.c4, Xm.out.c5, Xd.out.c0, Xd.out.c1, Xd.out.c2⟩ ?_
        clear hK
        refine wpJ_on 3 rfl fun KJ hK => ?_
        go_simp
        refine (shas M6.out.dn M7.out.dn (by have h1 := HV6.out; have h2 := HQ.out; omega) (formD_dn T3.out HD5.out)).mono ?_
        rintro e9 yh9 ⟨rfl, hb1⟩;rw [← HV5.out]
        rw [decide_eq_true (show (dv z6 e6 ≤ av5 ∧ av5 ≤ dv z7 e7) from by have h1 := HV6.out; have h2 := HXY.out; have h4 := HLH.out; omega)]
        replace Xd := B3q.b Xd hb1;replace Xm := B6q.b Xm hb1;replace M6 := DO.b M6 hb1;replace M7 := DO.b M7 hb1;replace T3 := At.b T3 hb1;replace hbw := bon hbw hb1;clear hb1 HJ
        have HJ : Hid ((fun W' : World => W'.cell? ⟨kvm, 0, none⟩ = some (.bool s6) ∧ W'.cell? ⟨kvm, 1, none⟩ = some (.slice p6 m6 m6) ∧ W'.cell? ⟨kvm, 2, none⟩ = some (.int .i64 e6) ∧ W'.cell? ⟨kvm, 3, none⟩ = some (.bool s7) ∧ W'.cell? ⟨kvm, 4, none⟩ = some (.slice p7 m7 m7) ∧ W'.cell? ⟨kvm, 5, none⟩ = some (.int .i64 e7) ∧ W'.cell? ⟨gd, 0, none⟩ = some (.bool s5) ∧ W'.cell? ⟨gd, 1, none⟩ = some (.slice p5 m5 c5) ∧ W'.cell? ⟨gd, 2, none⟩ = some (.int .i64 e5)) yh9) := ⟨Xm.out.c0, Xm.out.c1, Xm.out.c2, Xm.out.c3, Xm.out.c4, Xm.out.c5, Xd.out.c0, Xd.out.c1, Xd.out.c2⟩
        refine hK _ _ HJ.out ?_
        clear hK
        refine wpJ_tq 4 rfl HJ.out ?_
        refine wpJ_tq 5 rfl HJ.out ?_
        refine wpJ_tq 6 rfl HJ.out ?_
        refine wpJ_tq 7 rfl HJ.out ?_
        refine wpJ_tq 8 rfl HJ.out ?_
        refine wpJ_done (by kernel_rfl) ?_ _
        clear HJ T3;go_wp2_with fail
        go_ret
        exact ⟨rfl, hbw⟩
     ·obtain rfl : ok6 = false := HOK.out.trans (decide_eq_false hq)
      have HQ : Hid (¬ (lo ≤ hi)) := hq;clear hq HOK
      obtain ⟨rfl, rfl, rfl, rfl, rfl, rfl, rfl, rfl⟩ : s6 = false ∧ p6 = none ∧ m6 = 0 ∧ e6 = 0 ∧ s7 = false ∧ p7 = none ∧ m7 = 0 ∧ e7 = 0 := by rcases Fq6.out with h | h; (· exact absurd h.1.2 HQ.out); (· exact h.2)
      clear Fq6
      cases bx
      ·cases by_
       ·have PX : ¬ (av1 ≤ av5 ∧ av5 ≤ av2) := of_decide_eq_false HBX.out.symm
        have PY : ¬ (av3 ≤ av5 ∧ av5 ≤ av4) := of_decide_eq_false HBY_.out.symm;have HXY : Hid ((¬ (av1 ≤ av5 ∧ av5 ≤ av2)) ∧ ¬ (av3 ≤ av5 ∧ av5 ≤ av4)) := ⟨PX, PY⟩;clear PX PY;obtain ⟨cm0, cm1, cm2, cm3, cm4, cm5, fm0, fm1, fm2, fm3, fm4, fm5⟩ := Xm.out;have hnem : kvm < yh3.heap.size := blt cm0;go_wp2_with fail;clear cm0 cm1 cm2 cm3 cm4 cm5 fm0 fm1 fm2 fm3 fm4 fm5 hnem
        refine (rs6 (DO.zero 0 _).dn (DO.zero 0 _).dn (DO.zero 0 _).dn (DO.zero 0 _).dn).mono ?_
        rintro e9 yz ⟨rfl, hb1⟩;replace Xd := B3q.b Xd hb1;replace Xm := B6q.b Xm hb1;replace hbw := bon hbw hb1;clear hb1;go_wp2_with fail
        go_ret
        exact ⟨rfl, hbw⟩
       ·have PX : ¬ (av1 ≤ av5 ∧ av5 ≤ av2) := of_decide_eq_false HBX.out.symm
        have PY : (av3 ≤ av5 ∧ av5 ≤ av4) := of_decide_eq_true HBY_.out.symm;have HXY : Hid ((¬ (av1 ≤ av5 ∧ av5 ≤ av2)) ∧ (av3 ≤ av5 ∧ av5 ≤ av4)) := ⟨PX, PY⟩
        obtain rfl : bu = true := HBU.out.trans (decide_eq_true (by have h1 := HV8.out; have h4 := HLH.out; omega))
        clear PX PY;obtain ⟨cm0, cm1, cm2, cm3, cm4, cm5, fm0, fm1, fm2, fm3, fm4, fm5⟩ := Xm.out;have hnem : kvm < yh3.heap.size := blt cm0;go_wp2_with fail;clear cm0 cm1 cm2 cm3 cm4 cm5 fm0 fm1 fm2 fm3 fm4 fm5 hnem
        refine (rs6 (DO.zero 0 _).dn (DO.zero 0 _).dn (DO.zero 0 _).dn (DO.zero 0 _).dn).mono ?_
        rintro e9 yz ⟨rfl, hb1⟩;replace Xd := B3q.b Xd hb1;replace Xm := B6q.b Xm hb1;replace hbw := bon hbw hb1;clear hb1;go_wp2_with fail
        go_ret
        exact ⟨rfl, hbw⟩
      ·cases by_
       ·have PX : (av1 ≤ av5 ∧ av5 ≤ av2) := of_decide_eq_true HBX.out.symm
        have PY : ¬ (av3 ≤ av5 ∧ av5 ≤ av4) := of_decide_eq_false HBY_.out.symm;have HXY : Hid (((av1 ≤ av5 ∧ av5 ≤ av2)) ∧ ¬ (av3 ≤ av5 ∧ av5 ≤ av4)) := ⟨PX, PY⟩
        obtain rfl : bu = true := HBU.out.trans (decide_eq_true (by have h1 := HV8.out; have h4 := HLH.out; omega))
        clear PX PY;obtain ⟨cm0, cm1, cm2, cm3, cm4, cm5, fm0, fm1, fm2, fm3, fm4, fm5⟩ := Xm.out;have hnem : kvm < yh3.heap.size := blt cm0;go_wp2_with fail;clear cm0 cm1 cm2 cm3 cm4 cm5 fm0 fm1 fm2 fm3 fm4 fm5 hnem
        refine (rs6 (DO.zero 0 _).dn (DO.zero 0 _).dn (DO.zero 0 _).dn (DO.zero 0 _).dn).mono ?_
        rintro e9 yz ⟨rfl, hb1⟩;replace Xd := B3q.b Xd hb1;replace Xm := B6q.b Xm hb1;replace hbw := bon hbw hb1;clear hb1;go_wp2_with fail
        go_ret
        exact ⟨rfl, hbw⟩
       ·have PX : (av1 ≤ av5 ∧ av5 ≤ av2) := of_decide_eq_true HBX.out.symm
        have PY : (av3 ≤ av5 ∧ av5 ≤ av4) := of_decide_eq_true HBY_.out.symm;have HXY : Hid (((av1 ≤ av5 ∧ av5 ≤ av2)) ∧ (av3 ≤ av5 ∧ av5 ≤ av4)) := ⟨PX, PY⟩
        exfalso
        have h3 := HQ.out;have h4 := HLH.out
        omega
    ·rw [Bool.eq_false_iff.2 hd5]
     go_wp2_with fail
     go_ret
     exact ⟨rfl, hbw⟩
  have N1_3_4 : ∀ (kh1 : Nat) (lh1 : Nat) (kh2 : Nat) (lh2 : Nat) (s8 : Bool) (p8 : Option Addr) (m8 : Nat) (e8 : Int) (s9 : Bool) (p9 : Option Addr) (m9 : Nat) (e9 : Int) (r8 : Int) (W' : World), (FQ W') ∧ (SpG 0 W' s6 p6 m6 e6 s7 p7 m7 e7 (bb = true ∧ lo ≤ hi) lo hi) ∧ ((bb = false ∧ ok6 = false ∧ r6 = 2) ∨ (bb = true ∧ r6 = 0 ∧ ok6 = decide (lo ≤ hi))) ∧ (At W' (some ⟨kh1, 0, none⟩) m1 m1 x1) ∧ (At W' (some ⟨lh1, 0, none⟩) m2 m2 x2) ∧ (At W' (some ⟨kh2, 0, none⟩) m3 m3 x3) ∧ (At W' (some ⟨lh2, 0, none⟩) m4 m4 x4) ∧ (SpG 0 W' s8 p8 m8 e8 s9 p9 m9 e9 (bb = true) lo2 hi2) ∧ ((bb = false ∧ r8 = 2) ∨ (bb = true ∧ r8 = 0)) → WP 3 ((((((L0.setIfInBounds 1 true).setIfInBounds 3 true).setIfInBounds 4 true).setIfInBounds 5 true).setIfInBounds 6 true).setIfInBounds 7 true) ((((((a0.put (some 33) (SV s1 (some ⟨kh1, 0, none⟩) m1 m1 e1 s2 (some ⟨lh1, 0, none⟩) m2 m2 e2)).put (some 35) (SV s3 (some ⟨kh2, 0, none⟩) m3 m3 e3 s4 (some ⟨lh2, 0, none⟩) m4 m4 e4)).put (some 36) (.tuple #[SV s8 p8 m8 m8 e8 s9 p9 m9 m9 e9, .int .i64 r8])).put (some 31) (.tuple #[SV s8 p8 m8 m8 e8 s9 p9 m9 m9 e9, .int .i64 r8])).put (some 37) (SV s8 p8 m8 m8 e8 s9 p9 m9 m9 e9)).put (some 38) (.int .i64 r8)) W' := by
   rintro kh1 lh1 kh2 lh2 s8 p8 m8 e8 s9 p9 m9 e9 r8 W' ⟨fq, q6, v6, p1, p2, p3, p4, d8, v8⟩;subst hWP hL ha;have Hq6 := Hid.mk5 q6;have Hv6 := Hid.mk5 v6;have Hp1 := Hid.mk5 p1;have Hp2 := Hid.mk5 p2;have Hp3 := Hid.mk5 p3;have Hp4 := Hid.mk5 p4;have Hd8 := Hid.mk5 d8;have Hv8 := Hid.mk5 v8;clear q6 v6 p1 p2 p3 p4 d8 v8;obtain ⟨hxa, hxb, hxd, hxm, hbw⟩ := (hFQ.out W').1 fq;have Hxa := Hid.mk5 hxa;have Hxb := Hid.mk5 hxb;have Hxd := Hid.mk5 hxd;have Hxm := Hid.mk5 hxm;clear hxa hxb hxd hxm;go_simp
   refine wpJ_on 8 rfl fun KJ hK => ?_
   go_simp;have hb := below1 W' (.cells #[.bool false, .slice none 0 0, .int .i64 0, .bool false, .slice none 0 0, .int .i64 0] 28)
   refine hK _ _ (HFJ.out _ (HFB.out _ _ fq hb)) ?_
   exact wpJ_same5 (by kernel_rfl) (by kernel_rfl) (N1_3_4_8 kh1 lh1 kh2 lh2 s8 p8 m8 e8 s9 p9 m9 e9 r8 W'.heap.size _ ⟨(HFB.out _ _ fq hb), (Hq6.out.below hb), Hv6.out, (Hp1.out.below hb), (Hp2.out.below hb), (Hp3.out.below hb), (Hp4.out.below hb), (Hd8.out.below hb), Hv8.out, (B6q.new W' _ _ _ _ _ _ _), hbw.size, ⟨Nat.ne_of_lt Hxa.out.lt, Nat.ne_of_lt Hxb.out.lt, Nat.ne_of_lt Hxd.out.lt, Nat.ne_of_lt Hxm.out.lt⟩, Hd8.out.apart_new, Hq6.out.apart_new⟩)
  have N1_3_8 : ∀ (kh1 : Nat) (lh1 : Nat) (kh2 : Nat) (lh2 : Nat) (kvh : Nat) (W' : World), (FQ W') ∧ (SpG 0 W' s6 p6 m6 e6 s7 p7 m7 e7 (bb = true ∧ lo ≤ hi) lo hi) ∧ ((bb = false ∧ ok6 = false ∧ r6 = 2) ∨ (bb = true ∧ r6 = 0 ∧ ok6 = decide (lo ≤ hi))) ∧ (At W' (some ⟨kh1, 0, none⟩) m1 m1 x1) ∧ (At W' (some ⟨lh1, 0, none⟩) m2 m2 x2) ∧ (At W' (some ⟨kh2, 0, none⟩) m3 m3 x3) ∧ (At W' (some ⟨lh2, 0, none⟩) m4 m4 x4) ∧ (B6q W' kvh (.bool false) (.slice none 0 0) (.int .i64 0) (.bool false) (.slice none 0 0) (.int .i64 0)) ∧ (w.heap.size ≤ kvh) ∧ (ga ≠ kvh ∧ gb ≠ kvh ∧ gd ≠ kvh ∧ kvm ≠ kvh) ∧ (Off2 p6 m6 p7 m7 kvh) → WP 6 (((L0.setIfInBounds 1 true).setIfInBounds 3 true).setIfInBounds 8 true) (((a0.put (some 33) (SV s1 (some ⟨kh1, 0, none⟩) m1 m1 e1 s2 (some ⟨lh1, 0, none⟩) m2 m2 e2)).put (some 35) (SV s3 (some ⟨kh2, 0, none⟩) m3 m3 e3 s4 (some ⟨lh2, 0, none⟩) m4 m4 e4)).put (some 10) (.pointer (some ⟨kvh, 0, none⟩))) W' := by
   rintro kh1 lh1 kh2 lh2 kvh W' ⟨fq, q6, v6, p1, p2, p3, p4, xv, hv, nv, okq6⟩;subst hWP hL ha;have Hq6 := Hid.mk5 q6;have Hv6 := Hid.mk5 v6;have Hp1 := Hid.mk5 p1;have Hp2 := Hid.mk5 p2;have Hp3 := Hid.mk5 p3;have Hp4 := Hid.mk5 p4;have Hxv := Hid.mk5 xv;have Hhv := Hid.mk5 hv;have Hnv := Hid.mk5 nv;have Hokq6 := Hid.mk5 okq6;clear q6 v6 p1 p2 p3 p4 xv hv nv okq6;go_simp
   refine wpJ_on 4 rfl fun KJ hK => ?_
   go_simp
   refine (shull_any Hp1.out Hp2.out Hp3.out Hp4.out).mono ?_
   rintro e9 W2 ⟨⟨s8, p8, m8, e8, s9, p9, m9, e9, r8, rfl, hd8, hv8⟩, hb⟩
   have HJ : Hid ((fun W' : World => W'.cell? ⟨ga, 0, none⟩ = some (.bool s1) ∧ W'.cell? ⟨ga, 1, none⟩ = some (.slice p1 m1 c1) ∧ W'.cell? ⟨ga, 2, none⟩ = some (.int .i64 e1) ∧ W'.cell? ⟨ga, 3, none⟩ = some (.bool s2) ∧ W'.cell? ⟨ga, 4, none⟩ = some (.slice p2 m2 c2) ∧ W'.cell? ⟨ga, 5, none⟩ = some (.int .i64 e2) ∧ W'.cell? ⟨gb, 0, none⟩ = some (.bool s3) ∧ W'.cell? ⟨gb, 1, none⟩ = some (.slice p3 m3 c3) ∧ W'.cell? ⟨gb, 2, none⟩ = some (.int .i64 e3) ∧ W'.cell? ⟨gb, 3, none⟩ = some (.bool s4) ∧ W'.cell? ⟨gb, 4, none⟩ = some (.slice p4 m4 c4) ∧ W'.cell? ⟨gb, 5, none⟩ = some (.int .i64 e4)) W2) := (HFJ.out _ (HFB.out _ _ fq hb))
   refine hK _ _ HJ.out ?_
   refine wpJ_tq 5 rfl HJ.out ?_
   refine wpJ_tq 6 rfl HJ.out ?_
   refine wpJ_tq 7 rfl HJ.out ?_
   exact wpJ_same5 (by kernel_rfl) (by kernel_rfl) (N1_3_4_8 kh1 lh1 kh2 lh2 s8 p8 m8 e8 s9 p9 m9 e9 r8 kvh W2 ⟨(HFB.out _ _ fq hb), (Hq6.out.below hb), Hv6.out, (Hp1.out.below hb), (Hp2.out.below hb), (Hp3.out.below hb), (Hp4.out.below hb), (by rw [HBB0.out, HLO2.out, HHI2.out]; exact hd8.mono (Nat.zero_le _)), (by rw [HBB0.out]; exact hv8), (Hxv.out.below hb), Hhv.out, Hnv.out, (hd8.apart Hxv.out.lt), Hokq6.out⟩)
  have N1_3 : ∀ (kh1 : Nat) (lh1 : Nat) (kh2 : Nat) (lh2 : Nat) (W' : World), (FQ W') ∧ (SpG 0 W' s6 p6 m6 e6 s7 p7 m7 e7 (bb = true ∧ lo ≤ hi) lo hi) ∧ ((bb = false ∧ ok6 = false ∧ r6 = 2) ∨ (bb = true ∧ r6 = 0 ∧ ok6 = decide (lo ≤ hi))) ∧ (At W' (some ⟨kh1, 0, none⟩) m1 m1 x1) ∧ (At W' (some ⟨lh1, 0, none⟩) m2 m2 x2) ∧ (At W' (some ⟨kh2, 0, none⟩) m3 m3 x3) ∧ (At W' (some ⟨lh2, 0, none⟩) m4 m4 x4) → WP 7 ((L0.setIfInBounds 1 true).setIfInBounds 3 true) ((a0.put (some 33) (SV s1 (some ⟨kh1, 0, none⟩) m1 m1 e1 s2 (some ⟨lh1, 0, none⟩) m2 m2 e2)).put (some 35) (SV s3 (some ⟨kh2, 0, none⟩) m3 m3 e3 s4 (some ⟨lh2, 0, none⟩) m4 m4 e4)) W' := by
   rintro kh1 lh1 kh2 lh2 W' ⟨fq, q6, v6, p1, p2, p3, p4⟩;subst hWP hL ha;have Hq6 := Hid.mk5 q6;have Hv6 := Hid.mk5 v6;have Hp1 := Hid.mk5 p1;have Hp2 := Hid.mk5 p2;have Hp3 := Hid.mk5 p3;have Hp4 := Hid.mk5 p4;clear q6 v6 p1 p2 p3 p4;obtain ⟨hxa, hxb, hxd, hxm, hbw⟩ := (hFQ.out W').1 fq;have Hxa := Hid.mk5 hxa;have Hxb := Hid.mk5 hxb;have Hxd := Hid.mk5 hxd;have Hxm := Hid.mk5 hxm;clear hxa hxb hxd hxm;go_simp
   refine wpJ_two (i := 4) (k := 8) (by kernel_rfl) rfl rfl (by kernel_rfl) (by kernel_rfl) (fun KJ hK => ?_) (fun KJ hK => ?_)
   ·go_simp
    refine (shull_any Hp1.out Hp2.out Hp3.out Hp4.out).mono ?_
    rintro e9 W2 ⟨⟨s8, p8, m8, e8, s9, p9, m9, e9, r8, rfl, hd8, hv8⟩, hb⟩
    have HJ : Hid ((fun W' : World => W'.cell? ⟨ga, 0, none⟩ = some (.bool s1) ∧ W'.cell? ⟨ga, 1, none⟩ = some (.slice p1 m1 c1) ∧ W'.cell? ⟨ga, 2, none⟩ = some (.int .i64 e1) ∧ W'.cell? ⟨ga, 3, none⟩ = some (.bool s2) ∧ W'.cell? ⟨ga, 4, none⟩ = some (.slice p2 m2 c2) ∧ W'.cell? ⟨ga, 5, none⟩ = some (.int .i64 e2) ∧ W'.cell? ⟨gb, 0, none⟩ = some (.bool s3) ∧ W'.cell? ⟨gb, 1, none⟩ = some (.slice p3 m3 c3) ∧ W'.cell? ⟨gb, 2, none⟩ = some (.int .i64 e3) ∧ W'.cell? ⟨gb, 3, none⟩ = some (.bool s4) ∧ W'.cell? ⟨gb, 4, none⟩ = some (.slice p4 m4 c4) ∧ W'.cell? ⟨gb, 5, none⟩ = some (.int .i64 e4)) W2) := (HFJ.out _ (HFB.out _ _ fq hb))
    refine hK _ _ HJ.out ?_
    refine wpJ_tq 5 rfl HJ.out ?_
    refine wpJ_tq 6 rfl HJ.out ?_
    refine wpJ_tq 7 rfl HJ.out ?_
    exact wpJ_same5 (by kernel_rfl) (by kernel_rfl) (N1_3_4 kh1 lh1 kh2 lh2 s8 p8 m8 e8 s9 p9 m9 e9 r8 W2 ⟨(HFB.out _ _ fq hb), (Hq6.out.below hb), Hv6.out, (Hp1.out.below hb), (Hp2.out.below hb), (Hp3.out.below hb), (Hp4.out.below hb), (by rw [HBB0.out, HLO2.out, HHI2.out]; exact hd8.mono (Nat.zero_le _)), (by rw [HBB0.out]; exact hv8)⟩)
   ·go_simp
    have hb := below1 W' (.cells #[.bool false, .slice none 0 0, .int .i64 0, .bool false, .slice none 0 0, .int .i64 0] 28)
    refine hK _ _ (HFJ.out _ (HFB.out _ _ fq hb)) ?_
    exact wpJ_same5 (by kernel_rfl) (by kernel_rfl) (N1_3_8 kh1 lh1 kh2 lh2 W'.heap.size _ ⟨(HFB.out _ _ fq hb), (Hq6.out.below hb), Hv6.out, (Hp1.out.below hb), (Hp2.out.below hb), (Hp3.out.below hb), (Hp4.out.below hb), (B6q.new W' _ _ _ _ _ _ _), hbw.size, ⟨Nat.ne_of_lt Hxa.out.lt, Nat.ne_of_lt Hxb.out.lt, Nat.ne_of_lt Hxd.out.lt, Nat.ne_of_lt Hxm.out.lt⟩, Hq6.out.apart_new⟩)
  have N1_8 : ∀ (kh1 : Nat) (lh1 : Nat) (kvh : Nat) (W' : World), (FQ W') ∧ (SpG 0 W' s6 p6 m6 e6 s7 p7 m7 e7 (bb = true ∧ lo ≤ hi) lo hi) ∧ ((bb = false ∧ ok6 = false ∧ r6 = 2) ∨ (bb = true ∧ r6 = 0 ∧ ok6 = decide (lo ≤ hi))) ∧ (At W' (some ⟨kh1, 0, none⟩) m1 m1 x1) ∧ (At W' (some ⟨lh1, 0, none⟩) m2 m2 x2) ∧ (B6q W' kvh (.bool false) (.slice none 0 0) (.int .i64 0) (.bool false) (.slice none 0 0) (.int .i64 0)) ∧ (w.heap.size ≤ kvh) ∧ (ga ≠ kvh ∧ gb ≠ kvh ∧ gd ≠ kvh ∧ kvm ≠ kvh) ∧ (Off2 p6 m6 p7 m7 kvh) → WP 7 ((L0.setIfInBounds 1 true).setIfInBounds 8 true) ((a0.put (some 33) (SV s1 (some ⟨kh1, 0, none⟩) m1 m1 e1 s2 (some ⟨lh1, 0, none⟩) m2 m2 e2)).put (some 10) (.pointer (some ⟨kvh, 0, none⟩))) W' := by
   rintro kh1 lh1 kvh W' ⟨fq, q6, v6, p1, p2, xv, hv, nv, okq6⟩;subst hWP hL ha;have Hq6 := Hid.mk5 q6;have Hv6 := Hid.mk5 v6;have Hp1 := Hid.mk5 p1;have Hp2 := Hid.mk5 p2;have Hxv := Hid.mk5 xv;have Hhv := Hid.mk5 hv;have Hnv := Hid.mk5 nv;have Hokq6 := Hid.mk5 okq6;clear q6 v6 p1 p2 xv hv nv okq6;obtain ⟨_, _, _, _, hbw⟩ := (hFQ.out W').1 fq;go_simp
   refine wpJ_on 3 rfl fun KJ hK => ?_
   go_simp
   refine (ltwin6 (A3.out.below hbw) (A4.out.below hbw) HM.out.2.2.1 HM.out.2.2.2.1).mono ?_
   rintro e9 W2 ⟨kh2, lh2, rfl, ho1, ho2, hb⟩
   have ho1 := ho1.at2 (by have := HM.out; omega)
   have ho2 := ho2.at2 (by have := HM.out; omega)
   refine hK _ _ (HFJ.out _ (HFB.out _ _ fq hb)) ?_
   exact wpJ_same5 (by kernel_rfl) (by kernel_rfl) (N1_3_8 kh1 lh1 kh2 lh2 kvh W2 ⟨(HFB.out _ _ fq hb), (Hq6.out.below hb), Hv6.out, (Hp1.out.below hb), (Hp2.out.below hb), ho1, ho2, (Hxv.out.below hb), Hhv.out, Hnv.out, Hokq6.out⟩)
  have N1 : ∀ (kh1 : Nat) (lh1 : Nat) (W' : World), (FQ W') ∧ (SpG 0 W' s6 p6 m6 e6 s7 p7 m7 e7 (bb = true ∧ lo ≤ hi) lo hi) ∧ ((bb = false ∧ ok6 = false ∧ r6 = 2) ∨ (bb = true ∧ r6 = 0 ∧ ok6 = decide (lo ≤ hi))) ∧ (At W' (some ⟨kh1, 0, none⟩) m1 m1 x1) ∧ (At W' (some ⟨lh1, 0, none⟩) m2 m2 x2) → WP 8 (L0.setIfInBounds 1 true) (a0.put (some 33) (SV s1 (some ⟨kh1, 0, none⟩) m1 m1 e1 s2 (some ⟨lh1, 0, none⟩) m2 m2 e2)) W' := by
   rintro kh1 lh1 W' ⟨fq, q6, v6, p1, p2⟩;subst hWP hL ha;have Hq6 := Hid.mk5 q6;have Hv6 := Hid.mk5 v6;have Hp1 := Hid.mk5 p1;have Hp2 := Hid.mk5 p2;clear q6 v6 p1 p2;obtain ⟨hxa, hxb, hxd, hxm, hbw⟩ := (hFQ.out W').1 fq;have Hxa := Hid.mk5 hxa;have Hxb := Hid.mk5 hxb;have Hxd := Hid.mk5 hxd;have Hxm := Hid.mk5 hxm;clear hxa hxb hxd hxm;go_simp
   refine wpJ_two (i := 3) (k := 8) (by kernel_rfl) rfl rfl (by kernel_rfl) (by kernel_rfl) (fun KJ hK => ?_) (fun KJ hK => ?_)
   ·go_simp
    refine (ltwin6 (A3.out.below hbw) (A4.out.below hbw) HM.out.2.2.1 HM.out.2.2.2.1).mono ?_
    rintro e9 W2 ⟨kh2, lh2, rfl, ho1, ho2, hb⟩
    have ho1 := ho1.at2 (by have := HM.out; omega)
    have ho2 := ho2.at2 (by have := HM.out; omega)
    refine hK _ _ (HFJ.out _ (HFB.out _ _ fq hb)) ?_
    exact wpJ_same5 (by kernel_rfl) (by kernel_rfl) (N1_3 kh1 lh1 kh2 lh2 W2 ⟨(HFB.out _ _ fq hb), (Hq6.out.below hb), Hv6.out, (Hp1.out.below hb), (Hp2.out.below hb), ho1, ho2⟩)
   ·go_simp
    have hb := below1 W' (.cells #[.bool false, .slice none 0 0, .int .i64 0, .bool false, .slice none 0 0, .int .i64 0] 28)
    refine hK _ _ (HFJ.out _ (HFB.out _ _ fq hb)) ?_
    exact wpJ_same5 (by kernel_rfl) (by kernel_rfl) (N1_8 kh1 lh1 W'.heap.size _ ⟨(HFB.out _ _ fq hb), (Hq6.out.below hb), Hv6.out, (Hp1.out.below hb), (Hp2.out.below hb), (B6q.new W' _ _ _ _ _ _ _), hbw.size, ⟨Nat.ne_of_lt Hxa.out.lt, Nat.ne_of_lt Hxb.out.lt, Nat.ne_of_lt Hxd.out.lt, Nat.ne_of_lt Hxm.out.lt⟩, Hq6.out.apart_new⟩)
  have N8 : ∀ (kvh : Nat) (W' : World), (FQ W') ∧ (SpG 0 W' s6 p6 m6 e6 s7 p7 m7 e7 (bb = true ∧ lo ≤ hi) lo hi) ∧ ((bb = false ∧ ok6 = false ∧ r6 = 2) ∨ (bb = true ∧ r6 = 0 ∧ ok6 = decide (lo ≤ hi))) ∧ (B6q W' kvh (.bool false) (.slice none 0 0) (.int .i64 0) (.bool false) (.slice none 0 0) (.int .i64 0)) ∧ (w.heap.size ≤ kvh) ∧ (ga ≠ kvh ∧ gb ≠ kvh ∧ gd ≠ kvh ∧ kvm ≠ kvh) ∧ (Off2 p6 m6 p7 m7 kvh) → WP 8 (L0.setIfInBounds 8 true) (a0.put (some 10) (.pointer (some ⟨kvh, 0, none⟩))) W' := by
   rintro kvh W' ⟨fq, q6, v6, xv, hv, nv, okq6⟩;subst hWP hL ha;have Hq6 := Hid.mk5 q6;have Hv6 := Hid.mk5 v6;have Hxv := Hid.mk5 xv;have Hhv := Hid.mk5 hv;have Hnv := Hid.mk5 nv;have Hokq6 := Hid.mk5 okq6;clear q6 v6 xv hv nv okq6;obtain ⟨_, _, _, _, hbw⟩ := (hFQ.out W').1 fq;go_simp
   refine wpJ_on 1 rfl fun KJ hK => ?_
   go_simp
   refine (ltwin6 (A1.out.below hbw) (A2.out.below hbw) HM.out.1 HM.out.2.1).mono ?_
   rintro e9 W2 ⟨kh1, lh1, rfl, ho1, ho2, hb⟩
   have ho1 := ho1.at2 (by have := HM.out; omega)
   have ho2 := ho2.at2 (by have := HM.out; omega)
   refine hK _ _ (HFJ.out _ (HFB.out _ _ fq hb)) ?_
   exact wpJ_same5 (by kernel_rfl) (by kernel_rfl) (N1_8 kh1 lh1 kvh W2 ⟨(HFB.out _ _ fq hb), (Hq6.out.below hb), Hv6.out, ho1, ho2, (Hxv.out.below hb), Hhv.out, Hnv.out, Hokq6.out⟩)
  have N_ : ∀ (W' : World), (FQ W') ∧ (SpG 0 W' s6 p6 m6 e6 s7 p7 m7 e7 (bb = true ∧ lo ≤ hi) lo hi) ∧ ((bb = false ∧ ok6 = false ∧ r6 = 2) ∨ (bb = true ∧ r6 = 0 ∧ ok6 = decide (lo ≤ hi))) → WP 9 L0 a0 W' := by
   rintro  W' ⟨fq, q6, v6⟩;subst hWP hL ha;have Hq6 := Hid.mk5 q6;have Hv6 := Hid.mk5 v6;clear q6 v6;obtain ⟨hxa, hxb, hxd, hxm, hbw⟩ := (hFQ.out W').1 fq;have Hxa := Hid.mk5 hxa;have Hxb := Hid.mk5 hxb;have Hxd := Hid.mk5 hxd;have Hxm := Hid.mk5 hxm;clear hxa hxb hxd hxm;go_simp
   refine wpJ_two (i := 1) (k := 8) (by kernel_rfl) rfl rfl (by kernel_rfl) (by kernel_rfl) (fun KJ hK => ?_) (fun KJ hK => ?_)
   ·go_simp
    refine (ltwin6 (A1.out.below hbw) (A2.out.below hbw) HM.out.1 HM.out.2.1).mono ?_
    rintro e9 W2 ⟨kh1, lh1, rfl, ho1, ho2, hb⟩
    have ho1 := ho1.at2 (by have := HM.out; omega)
    have ho2 := ho2.at2 (by have := HM.out; omega)
    refine hK _ _ (HFJ.out _ (HFB.out _ _ fq hb)) ?_
    exact wpJ_same5 (by kernel_rfl) (by kernel_rfl) (N1 kh1 lh1 W2 ⟨(HFB.out _ _ fq hb), (Hq6.out.below hb), Hv6.out, ho1, ho2⟩)
   ·go_simp
    have hb := below1 W' (.cells #[.bool false, .slice none 0 0, .int .i64 0, .bool false, .slice none 0 0, .int .i64 0] 28)
    refine hK _ _ (HFJ.out _ (HFB.out _ _ fq hb)) ?_
    exact wpJ_same5 (by kernel_rfl) (by kernel_rfl) (N8 W'.heap.size _ ⟨(HFB.out _ _ fq hb), (Hq6.out.below hb), Hv6.out, (B6q.new W' _ _ _ _ _ _ _), hbw.size, ⟨Nat.ne_of_lt Hxa.out.lt, Nat.ne_of_lt Hxb.out.lt, Nat.ne_of_lt Hxd.out.lt, Nat.ne_of_lt Hxm.out.lt⟩, Hq6.out.apart_new⟩)
  exact N_ Wgh ⟨((hFQ.out _).2 ⟨Xa.out, Xb.out, Xd.out, Xm.out, hbw⟩), Fd6.out, Hv6.out⟩
 have N1_3_4 : ∀ (km1 : Nat) (lm1 : Nat) (km2 : Nat) (lm2 : Nat) (s6 : Bool) (p6 : Option Addr) (m6 : Nat) (e6 : Int) (s7 : Bool) (p7 : Option Addr) (m7 : Nat) (e7 : Int) (ok6 : Bool) (r6 : Int) (W' : World), (FQ W') ∧ (At W' (some ⟨km1, 0, none⟩) m1 m1 x1) ∧ (At W' (some ⟨lm1, 0, none⟩) m2 m2 x2) ∧ (At W' (some ⟨km2, 0, none⟩) m3 m3 x3) ∧ (At W' (some ⟨lm2, 0, none⟩) m4 m4 x4) ∧ (SpG 0 W' s6 p6 m6 e6 s7 p7 m7 e7 (bb = true ∧ lo ≤ hi) lo hi) ∧ ((bb = false ∧ ok6 = false ∧ r6 = 2) ∨ (bb = true ∧ r6 = 0 ∧ ok6 = decide (lo ≤ hi))) → WP 4 (((((((L0.setIfInBounds 1 true).setIfInBounds 3 true).setIfInBounds 4 true).setIfInBounds 5 true).setIfInBounds 6 true).setIfInBounds 7 true).setIfInBounds 8 true) (((((((a0.put (some 24) (SV s1 (some ⟨km1, 0, none⟩) m1 m1 e1 s2 (some ⟨lm1, 0, none⟩) m2 m2 e2)).put (some 26) (SV s3 (some ⟨km2, 0, none⟩) m3 m3 e3 s4 (some ⟨lm2, 0, none⟩) m4 m4 e4)).put (some 27) (.tuple #[SV s6 p6 m6 m6 e6 s7 p7 m7 m7 e7, .bool ok6, .int .i64 r6])).put (some 22) (.tuple #[SV s6 p6 m6 m6 e6 s7 p7 m7 m7 e7, .bool ok6, .int .i64 r6])).put (some 28) (SV s6 p6 m6 m6 e6 s7 p7 m7 m7 e7)).put (some 29) (.bool ok6)).put (some 30) (.int .i64 r6)) W' := by
  rintro km1 lm1 km2 lm2 s6 p6 m6 e6 s7 p7 m7 e7 ok6 r6 W' ⟨fq, p1, p2, p3, p4, d6, v6⟩;subst hWP hL ha;have Hp1 := Hid.mk5 p1;have Hp2 := Hid.mk5 p2;have Hp3 := Hid.mk5 p3;have Hp4 := Hid.mk5 p4;have Hd6 := Hid.mk5 d6;have Hv6 := Hid.mk5 v6;clear p1 p2 p3 p4 d6 v6;obtain ⟨hxa, hxb, hxd, hbw⟩ := (hFQ.out W').1 fq;have Hxa := Hid.mk5 hxa;have Hxb := Hid.mk5 hxb;have Hxd := Hid.mk5 hxd;clear hxa hxb hxd;go_simp
  refine wpJ_on 9 rfl fun KJ hK => ?_
  go_simp;have hb := below1 W' (.cells #[.bool false, .slice none 0 0, .int .i64 0, .bool false, .slice none 0 0, .int .i64 0] 28)
  refine hK _ _ (HFJ.out _ (HFB.out _ _ fq hb)) ?_
  exact wpJ_same5 (by kernel_rfl) (by kernel_rfl) (N1_3_4_9 km1 lm1 km2 lm2 s6 p6 m6 e6 s7 p7 m7 e7 ok6 r6 W'.heap.size _ ⟨(HFB.out _ _ fq hb), (Hp1.out.below hb), (Hp2.out.below hb), (Hp3.out.below hb), (Hp4.out.below hb), (Hd6.out.below hb), Hv6.out, (B6q.new W' _ _ _ _ _ _ _), hbw.size, ⟨Nat.ne_of_lt Hxa.out.lt, Nat.ne_of_lt Hxb.out.lt, Nat.ne_of_lt Hxd.out.lt⟩, Hd6.out.apart_new⟩)
 have N1_3_9 : ∀ (km1 : Nat) (lm1 : Nat) (km2 : Nat) (lm2 : Nat) (kvm : Nat) (W' : World), (FQ W') ∧ (At W' (some ⟨km1, 0, none⟩) m1 m1 x1) ∧ (At W' (some ⟨lm1, 0, none⟩) m2 m2 x2) ∧ (At W' (some ⟨km2, 0, none⟩) m3 m3 x3) ∧ (At W' (some ⟨lm2, 0, none⟩) m4 m4 x4) ∧ (B6q W' kvm (.bool false) (.slice none 0 0) (.int .i64 0) (.bool false) (.slice none 0 0) (.int .i64 0)) ∧ (w.heap.size ≤ kvm) ∧ (ga ≠ kvm ∧ gb ≠ kvm ∧ gd ≠ kvm) → WP 8 (((L0.setIfInBounds 1 true).setIfInBounds 3 true).setIfInBounds 9 true) (((a0.put (some 24) (SV s1 (some ⟨km1, 0, none⟩) m1 m1 e1 s2 (some ⟨lm1, 0, none⟩) m2 m2 e2)).put (some 26) (SV s3 (some ⟨km2, 0, none⟩) m3 m3 e3 s4 (some ⟨lm2, 0, none⟩) m4 m4 e4)).put (some 7) (.pointer (some ⟨kvm, 0, none⟩))) W' := by
  rintro km1 lm1 km2 lm2 kvm W' ⟨fq, p1, p2, p3, p4, xv, hv, nv⟩;subst hWP hL ha;have Hp1 := Hid.mk5 p1;have Hp2 := Hid.mk5 p2;have Hp3 := Hid.mk5 p3;have Hp4 := Hid.mk5 p4;have Hxv := Hid.mk5 xv;have Hhv := Hid.mk5 hv;have Hnv := Hid.mk5 nv;clear p1 p2 p3 p4 xv hv nv;go_simp
  refine wpJ_on 4 rfl fun KJ hK => ?_
  go_simp
  refine (smeet_any Hp1.out Hp2.out Hp3.out Hp4.out).mono ?_
  rintro e9 W2 ⟨⟨s6, p6, m6, e6, s7, p7, m7, e7, ok6, r6, rfl, hd6, hv6⟩, hb⟩
  have HJ : Hid ((fun W' : World => W'.cell? ⟨ga, 0, none⟩ = some (.bool s1) ∧ W'.cell? ⟨ga, 1, none⟩ = some (.slice p1 m1 c1) ∧ W'.cell? ⟨ga, 2, none⟩ = some (.int .i64 e1) ∧ W'.cell? ⟨ga, 3, none⟩ = some (.bool s2) ∧ W'.cell? ⟨ga, 4, none⟩ = some (.slice p2 m2 c2) ∧ W'.cell? ⟨ga, 5, none⟩ = some (.int .i64 e2) ∧ W'.cell? ⟨gb, 0, none⟩ = some (.bool s3) ∧ W'.cell? ⟨gb, 1, none⟩ = some (.slice p3 m3 c3) ∧ W'.cell? ⟨gb, 2, none⟩ = some (.int .i64 e3) ∧ W'.cell? ⟨gb, 3, none⟩ = some (.bool s4) ∧ W'.cell? ⟨gb, 4, none⟩ = some (.slice p4 m4 c4) ∧ W'.cell? ⟨gb, 5, none⟩ = some (.int .i64 e4)) W2) := (HFJ.out _ (HFB.out _ _ fq hb))
  refine hK _ _ HJ.out ?_
  refine wpJ_tq 5 rfl HJ.out ?_
  refine wpJ_tq 6 rfl HJ.out ?_
  refine wpJ_tq 7 rfl HJ.out ?_
  refine wpJ_tq 8 rfl HJ.out ?_
  exact wpJ_same5 (by kernel_rfl) (by kernel_rfl) (N1_3_4_9 km1 lm1 km2 lm2 s6 p6 m6 e6 s7 p7 m7 e7 ok6 r6 kvm W2 ⟨(HFB.out _ _ fq hb), (Hp1.out.below hb), (Hp2.out.below hb), (Hp3.out.below hb), (Hp4.out.below hb), (by rw [HBB0.out, HLO.out, HHI.out]; exact hd6.mono (Nat.zero_le _)), (by rw [HBB0.out, HLO.out, HHI.out]; exact hv6), (Hxv.out.below hb), Hhv.out, Hnv.out, (hd6.apart Hxv.out.lt)⟩)
 have N1_3 : ∀ (km1 : Nat) (lm1 : Nat) (km2 : Nat) (lm2 : Nat) (W' : World), (FQ W') ∧ (At W' (some ⟨km1, 0, none⟩) m1 m1 x1) ∧ (At W' (some ⟨lm1, 0, none⟩) m2 m2 x2) ∧ (At W' (some ⟨km2, 0, none⟩) m3 m3 x3) ∧ (At W' (some ⟨lm2, 0, none⟩) m4 m4 x4) → WP 9 ((L0.setIfInBounds 1 true).setIfInBounds 3 true) ((a0.put (some 24) (SV s1 (some ⟨km1, 0, none⟩) m1 m1 e1 s2 (some ⟨lm1, 0, none⟩) m2 m2 e2)).put (some 26) (SV s3 (some ⟨km2, 0, none⟩) m3 m3 e3 s4 (some ⟨lm2, 0, none⟩) m4 m4 e4)) W' := by
  rintro km1 lm1 km2 lm2 W' ⟨fq, p1, p2, p3, p4⟩;subst hWP hL ha;have Hp1 := Hid.mk5 p1;have Hp2 := Hid.mk5 p2;have Hp3 := Hid.mk5 p3;have Hp4 := Hid.mk5 p4;clear p1 p2 p3 p4;obtain ⟨hxa, hxb, hxd, hbw⟩ := (hFQ.out W').1 fq;have Hxa := Hid.mk5 hxa;have Hxb := Hid.mk5 hxb;have Hxd := Hid.mk5 hxd;clear hxa hxb hxd;go_simp
  refine wpJ_two (i := 4) (k := 9) (by kernel_rfl) rfl rfl (by kernel_rfl) (by kernel_rfl) (fun KJ hK => ?_) (fun KJ hK => ?_)
  ·go_simp
   refine (smeet_any Hp1.out Hp2.out Hp3.out Hp4.out).mono ?_
   rintro e9 W2 ⟨⟨s6, p6, m6, e6, s7, p7, m7, e7, ok6, r6, rfl, hd6, hv6⟩, hb⟩
   have HJ : Hid ((fun W' : World => W'.cell? ⟨ga, 0, none⟩ = some (.bool s1) ∧ W'.cell? ⟨ga, 1, none⟩ = some (.slice p1 m1 c1) ∧ W'.cell? ⟨ga, 2, none⟩ = some (.int .i64 e1) ∧ W'.cell? ⟨ga, 3, none⟩ = some (.bool s2) ∧ W'.cell? ⟨ga, 4, none⟩ = some (.slice p2 m2 c2) ∧ W'.cell? ⟨ga, 5, none⟩ = some (.int .i64 e2) ∧ W'.cell? ⟨gb, 0, none⟩ = some (.bool s3) ∧ W'.cell? ⟨gb, 1, none⟩ = some (.slice p3 m3 c3) ∧ W'.cell? ⟨gb, 2, none⟩ = some (.int .i64 e3) ∧ W'.cell? ⟨gb, 3, none⟩ = some (.bool s4) ∧ W'.cell? ⟨gb, 4, none⟩ = some (.slice p4 m4 c4) ∧ W'.cell? ⟨gb, 5, none⟩ = some (.int .i64 e4)) W2) := (HFJ.out _ (HFB.out _ _ fq hb))
   refine hK _ _ HJ.out ?_
   refine wpJ_tq 5 rfl HJ.out ?_
   refine wpJ_tq 6 rfl HJ.out ?_
   refine wpJ_tq 7 rfl HJ.out ?_
   refine wpJ_tq 8 rfl HJ.out ?_
   exact wpJ_same5 (by kernel_rfl) (by kernel_rfl) (N1_3_4 km1 lm1 km2 lm2 s6 p6 m6 e6 s7 p7 m7 e7 ok6 r6 W2 ⟨(HFB.out _ _ fq hb), (Hp1.out.below hb), (Hp2.out.below hb), (Hp3.out.below hb), (Hp4.out.below hb), (by rw [HBB0.out, HLO.out, HHI.out]; exact hd6.mono (Nat.zero_le _)), (by rw [HBB0.out, HLO.out, HHI.out]; exact hv6)⟩)
  ·go_simp
   have hb := below1 W' (.cells #[.bool false, .slice none 0 0, .int .i64 0, .bool false, .slice none 0 0, .int .i64 0] 28)
   refine hK _ _ (HFJ.out _ (HFB.out _ _ fq hb)) ?_
   exact wpJ_same5 (by kernel_rfl) (by kernel_rfl) (N1_3_9 km1 lm1 km2 lm2 W'.heap.size _ ⟨(HFB.out _ _ fq hb), (Hp1.out.below hb), (Hp2.out.below hb), (Hp3.out.below hb), (Hp4.out.below hb), (B6q.new W' _ _ _ _ _ _ _), hbw.size, ⟨Nat.ne_of_lt Hxa.out.lt, Nat.ne_of_lt Hxb.out.lt, Nat.ne_of_lt Hxd.out.lt⟩⟩)
 have N1_9 : ∀ (km1 : Nat) (lm1 : Nat) (kvm : Nat) (W' : World), (FQ W') ∧ (At W' (some ⟨km1, 0, none⟩) m1 m1 x1) ∧ (At W' (some ⟨lm1, 0, none⟩) m2 m2 x2) ∧ (B6q W' kvm (.bool false) (.slice none 0 0) (.int .i64 0) (.bool false) (.slice none 0 0) (.int .i64 0)) ∧ (w.heap.size ≤ kvm) ∧ (ga ≠ kvm ∧ gb ≠ kvm ∧ gd ≠ kvm) → WP 9 ((L0.setIfInBounds 1 true).setIfInBounds 9 true) ((a0.put (some 24) (SV s1 (some ⟨km1, 0, none⟩) m1 m1 e1 s2 (some ⟨lm1, 0, none⟩) m2 m2 e2)).put (some 7) (.pointer (some ⟨kvm, 0, none⟩))) W' := by
  rintro km1 lm1 kvm W' ⟨fq, p1, p2, xv, hv, nv⟩;subst hWP hL ha;have Hp1 := Hid.mk5 p1;have Hp2 := Hid.mk5 p2;have Hxv := Hid.mk5 xv;have Hhv := Hid.mk5 hv;have Hnv := Hid.mk5 nv;clear p1 p2 xv hv nv;obtain ⟨_, _, _, hbw⟩ := (hFQ.out W').1 fq;go_simp
  refine wpJ_on 3 rfl fun KJ hK => ?_
  go_simp
  refine (ltwin6 (A3.out.below hbw) (A4.out.below hbw) HM.out.2.2.1 HM.out.2.2.2.1).mono ?_
  rintro e9 W2 ⟨km2, lm2, rfl, ho1, ho2, hb⟩
  have ho1 := ho1.at2 (by have := HM.out; omega)
  have ho2 := ho2.at2 (by have := HM.out; omega)
  refine hK _ _ (HFJ.out _ (HFB.out _ _ fq hb)) ?_
  exact wpJ_same5 (by kernel_rfl) (by kernel_rfl) (N1_3_9 km1 lm1 km2 lm2 kvm W2 ⟨(HFB.out _ _ fq hb), (Hp1.out.below hb), (Hp2.out.below hb), ho1, ho2, (Hxv.out.below hb), Hhv.out, Hnv.out⟩)
 have N1 : ∀ (km1 : Nat) (lm1 : Nat) (W' : World), (FQ W') ∧ (At W' (some ⟨km1, 0, none⟩) m1 m1 x1) ∧ (At W' (some ⟨lm1, 0, none⟩) m2 m2 x2) → WP 10 (L0.setIfInBounds 1 true) (a0.put (some 24) (SV s1 (some ⟨km1, 0, none⟩) m1 m1 e1 s2 (some ⟨lm1, 0, none⟩) m2 m2 e2)) W' := by
  rintro km1 lm1 W' ⟨fq, p1, p2⟩;subst hWP hL ha;have Hp1 := Hid.mk5 p1;have Hp2 := Hid.mk5 p2;clear p1 p2;obtain ⟨hxa, hxb, hxd, hbw⟩ := (hFQ.out W').1 fq;have Hxa := Hid.mk5 hxa;have Hxb := Hid.mk5 hxb;have Hxd := Hid.mk5 hxd;clear hxa hxb hxd;go_simp
  refine wpJ_two (i := 3) (k := 9) (by kernel_rfl) rfl rfl (by kernel_rfl) (by kernel_rfl) (fun KJ hK => ?_) (fun KJ hK => ?_)
  ·go_simp
   refine (ltwin6 (A3.out.below hbw) (A4.out.below hbw) HM.out.2.2.1 HM.out.2.2.2.1).mono ?_
   rintro e9 W2 ⟨km2, lm2, rfl, ho1, ho2, hb⟩
   have ho1 := ho1.at2 (by have := HM.out; omega)
   have ho2 := ho2.at2 (by have := HM.out; omega)
   refine hK _ _ (HFJ.out _ (HFB.out _ _ fq hb)) ?_
   exact wpJ_same5 (by kernel_rfl) (by kernel_rfl) (N1_3 km1 lm1 km2 lm2 W2 ⟨(HFB.out _ _ fq hb), (Hp1.out.below hb), (Hp2.out.below hb), ho1, ho2⟩)
  ·go_simp
   have hb := below1 W' (.cells #[.bool false, .slice none 0 0, .int .i64 0, .bool false, .slice none 0 0, .int .i64 0] 28)
   refine hK _ _ (HFJ.out _ (HFB.out _ _ fq hb)) ?_
   exact wpJ_same5 (by kernel_rfl) (by kernel_rfl) (N1_9 km1 lm1 W'.heap.size _ ⟨(HFB.out _ _ fq hb), (Hp1.out.below hb), (Hp2.out.below hb), (B6q.new W' _ _ _ _ _ _ _), hbw.size, ⟨Nat.ne_of_lt Hxa.out.lt, Nat.ne_of_lt Hxb.out.lt, Nat.ne_of_lt Hxd.out.lt⟩⟩)
 have N9 : ∀ (kvm : Nat) (W' : World), (FQ W') ∧ (B6q W' kvm (.bool false) (.slice none 0 0) (.int .i64 0) (.bool false) (.slice none 0 0) (.int .i64 0)) ∧ (w.heap.size ≤ kvm) ∧ (ga ≠ kvm ∧ gb ≠ kvm ∧ gd ≠ kvm) → WP 10 (L0.setIfInBounds 9 true) (a0.put (some 7) (.pointer (some ⟨kvm, 0, none⟩))) W' := by
  rintro kvm W' ⟨fq, xv, hv, nv⟩;subst hWP hL ha;have Hxv := Hid.mk5 xv;have Hhv := Hid.mk5 hv;have Hnv := Hid.mk5 nv;clear xv hv nv;obtain ⟨_, _, _, hbw⟩ := (hFQ.out W').1 fq;go_simp
  refine wpJ_on 1 rfl fun KJ hK => ?_
  go_simp
  refine (ltwin6 (A1.out.below hbw) (A2.out.below hbw) HM.out.1 HM.out.2.1).mono ?_
  rintro e9 W2 ⟨km1, lm1, rfl, ho1, ho2, hb⟩
  have ho1 := ho1.at2 (by have := HM.out; omega)
  have ho2 := ho2.at2 (by have := HM.out; omega)
  refine hK _ _ (HFJ.out _ (HFB.out _ _ fq hb)) ?_
  exact wpJ_same5 (by kernel_rfl) (by kernel_rfl) (N1_9 km1 lm1 kvm W2 ⟨(HFB.out _ _ fq hb), ho1, ho2, (Hxv.out.below hb), Hhv.out, Hnv.out⟩)
 have N_ : ∀ (W' : World), (FQ W') → WP 11 L0 a0 W' := by
  rintro  W' fq;subst hWP hL ha;obtain ⟨hxa, hxb, hxd, hbw⟩ := (hFQ.out W').1 fq;have Hxa := Hid.mk5 hxa;have Hxb := Hid.mk5 hxb;have Hxd := Hid.mk5 hxd;clear hxa hxb hxd;go_simp
  refine wpJ_two (i := 1) (k := 9) (by kernel_rfl) rfl rfl (by kernel_rfl) (by kernel_rfl) (fun KJ hK => ?_) (fun KJ hK => ?_)
  ·go_simp
   refine (ltwin6 (A1.out.below hbw) (A2.out.below hbw) HM.out.1 HM.out.2.1).mono ?_
   rintro e9 W2 ⟨km1, lm1, rfl, ho1, ho2, hb⟩
   have ho1 := ho1.at2 (by have := HM.out; omega)
   have ho2 := ho2.at2 (by have := HM.out; omega)
   refine hK _ _ (HFJ.out _ (HFB.out _ _ fq hb)) ?_
   exact wpJ_same5 (by kernel_rfl) (by kernel_rfl) (N1 km1 lm1 W2 ⟨(HFB.out _ _ fq hb), ho1, ho2⟩)
  ·go_simp
   have hb := below1 W' (.cells #[.bool false, .slice none 0 0, .int .i64 0, .bool false, .slice none 0 0, .int .i64 0] 28)
   refine hK _ _ (HFJ.out _ (HFB.out _ _ fq hb)) ?_
   exact wpJ_same5 (by kernel_rfl) (by kernel_rfl) (N9 W'.heap.size _ ⟨(HFB.out _ _ fq hb), (B6q.new W' _ _ _ _ _ _ _), hbw.size, ⟨Nat.ne_of_lt Hxa.out.lt, Nat.ne_of_lt Hxb.out.lt, Nat.ne_of_lt Hxd.out.lt⟩⟩)
 exact N_ Wgm ((hFQ.out _).2 ⟨Xa.out, Xb.out, Xd.out, hbw⟩)
end Go.Proofs.YtpdelpakgdanlaaGreatDoor
