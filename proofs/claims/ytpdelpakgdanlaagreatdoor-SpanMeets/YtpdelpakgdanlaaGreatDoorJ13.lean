import Derived.Test.YtpdelpakgdanlaaGreatDoorJ12
import Derived.Test.YtpdelpakgdanlaaGreatDoorJ11
import Derived.Test.YtpdelpakgdanlaaGreatDoorJ10
import Derived.Deep.LoopGhost
import Derived.Deep.RegionWith
namespace Go.Proofs.YtpdelpakgdanlaaGreatDoor
open Go.RowKit Go.Shelf
set_option maxRecDepth 20000
set_option maxHeartbeats 0
theorem results_c2t2 {fn : Func} {p u t1 t2 : Tmp} {ty ty2 : TypeId} (h : fn.results = #[.cell p ty, .cell u ty2, .tmp t1, .tmp t2]) (tmps : Array Value) (P : Program) (w : World) :
  (results fn tmps).run P w = ((asAddr (tmps.getD p undef)).run P w).andThen fun a w₁ => ((loadVar ty a).run P w₁).andThen fun v w₂ => ((asAddr (tmps.getD u undef)).run P w₂).andThen fun b w₃ => ((loadVar ty2 b).run P w₃).andThen fun v2 w₄ => .ok (.tuple #[v, v2, tmps.getD t1 undef, tmps.getD t2 undef]) w₄ := by
 simp only [results, h]
 simp [Sem.run_bind, Result.andThen]
theorem daligned {p q : Option Addr} {m c n d : Nat} {w : World} {x y e f g : Int} {s t : Bool} (h : ZN w s p m c x) (k : ZN w t q n d y) (hg : g = min e f) (he : -1048576 ≤ e ∧ e ≤ 1048576 ∧ -1048576 ≤ f ∧ f ≤ 1048576) (hx : (x * 2 ^ (e - g).toNat).natAbs < LIM) (hy : (y * 2 ^ (f - g).toNat).natAbs < LIM) :
  Calls Tryz.prog 51 #[DV s p m c e, DV t q n d f] w fun en w' => ∃ s1 p1 m1 s2 p2 m2, en = .returned (.tuple #[ZV s1 p1 m1 m1, ZV s2 p2 m2 m2, .int .i64 g, .int .i64 0]) ∧ ZN w' s1 p1 m1 m1 (x * 2 ^ (e - g).toNat) ∧ ZN w' s2 p2 m2 m2 (y * 2 ^ (f - g).toNat) ∧ Below w.heap.size w w' := by
 have H := hdQ h;have K := hdQ k;have HX : Hid ((x * 2 ^ (e - g).toNat).natAbs < LIM ∧ (y * 2 ^ (f - g).toNat).natAbs < LIM) := ⟨hx, hy⟩
 obtain ⟨a, ha⟩ : ∃ a : Nat, a = (e - g).toNat := ⟨_, rfl⟩
 obtain ⟨b, hb⟩ : ∃ b : Nat, b = (f - g).toNat := ⟨_, rfl⟩
 have f1 : wrap64 (e - g) = (a : Int) := by simp only [wrap64]; omega
 have f2 : wrap64 (f - g) = (b : Int) := by simp only [wrap64]; omega
 have f3 : min e f = g := hg.symm
 have HAB : Hid (a = (e - g).toNat ∧ b = (f - g).toNat ∧ a ≤ 9223372036854775807 ∧ b ≤ 9223372036854775807) := ⟨ha, hb, by omega, by omega⟩
 clear h k hx hy ha hb he hg
 go_enter Tryz.func51, Tryz.ntmps51
 go_wp2_with fail;obtain ⟨W0, hW0⟩ := exq ((((w.alloc (.cells #[.bool s, .slice p m c, .int .i64 e] 26)).alloc (.cells #[.bool t, .slice q n d, .int .i64 f] 26)).alloc (.cells #[.bool false, .slice none 0 0] 24)).alloc (.cells #[.bool false, .slice none 0 0] 24))
 have Xa : Hid (B3q W0 (w.heap.size) (.bool s) (.slice p m c) (.int .i64 e)) := by rw [hW0]; constructor <;> go_simp
 have Xb : Hid (B3q W0 (w.heap.size + 1) (.bool t) (.slice q n d) (.int .i64 f)) := by rw [hW0]; constructor <;> go_simp
 have Xx : Hid (Box W0 (w.heap.size + 1 + 1) (.bool false) (.slice none 0 0)) := by rw [hW0]; constructor <;> go_simp
 have Xy : Hid (Box W0 (w.heap.size + 1 + 1 + 1) (.bool false) (.slice none 0 0)) := by rw [hW0]; constructor <;> go_simp
 have hb0 : Below w.heap.size w W0 := by rw [hW0]; exact below4 w _ _ _ _
 rw [← hW0];clear hW0;have hbw := brf w;obtain ⟨gy, hgy⟩ := exq (w.heap.size + 1 + 1 + 1);have HGy : Hid (w.heap.size ≤ gy) := hgl hgy;rw [← hgy] at Xy
 try rw [← hgy]
 obtain ⟨gx, hgx⟩ := exq (w.heap.size + 1 + 1);have HGx : Hid (w.heap.size ≤ gx) := hgl hgx;rw [← hgx] at Xx
 try rw [← hgx]
 obtain ⟨gb, hgb⟩ := exq (w.heap.size + 1);have HGb : Hid (w.heap.size ≤ gb) := hgl hgb;rw [← hgb] at Xb
 try rw [← hgb]
 obtain ⟨ga, hga⟩ := exq w.heap.size;have HGa : Hid (w.heap.size ≤ ga) := hgl hga;rw [← hga] at Xa
 try rw [← hga]
 have HGD : Hid (ga ≠ gb ∧ ga ≠ gx ∧ ga ≠ gy ∧ gb ≠ ga ∧ gb ≠ gx ∧ gb ≠ gy ∧ gx ≠ ga ∧ gx ≠ gb ∧ gx ≠ gy ∧ gy ≠ ga ∧ gy ≠ gb ∧ gy ≠ gx) := by rw [hga, hgb, hgx, hgy]; show _ ∧ _; omega
 clear hga hgb hgx hgy;replace hbw := bon hbw hb0;clear hb0;have HB5 : Hid (gx < W0.heap.size ∧ gy < W0.heap.size ∧ w.heap.size ≤ W0.heap.size) := ⟨Xx.out.lt, Xy.out.lt, hbw.size⟩
 refine (zshl (H.out.below hbw) a HAB.out.2.2.1).mono ?_
 rintro e2 v5 ⟨ha5, hb5⟩
 rcases ha5 with ⟨_, p5, m5, z5, rfl, ho5, hn5, hm5⟩ | ⟨hl5, rfl⟩
 case inr => (exact absurd (by have h8 := HX.out.1; have h9 := HAB.out; rw [← h9.1] at h8; exact h8) (Nat.not_lt.2 hl5))
 replace Xa := B3q.b Xa hb5;replace Xb := B3q.b Xb hb5;replace Xx := Box.b Xx hb5;replace Xy := Box.b Xy hb5;replace hbw := bon hbw hb5;clear hb5;have O5 := hdQ ho5;have N5 : Hid (Nf B64 z5 (x * 2 ^ a).natAbs ∧ m5 ≤ 8192) := ⟨hn5, hm5⟩;obtain ⟨s5, hs5⟩ := exq (decide ((x * 2 ^ a) < 0));rw [← hs5];have HS5 : Hid (s5 = decide ((x * 2 ^ a) < 0)) := hs5;clear ho5 hn5 hm5 hs5;obtain ⟨hgd0, hgd1, hgd2, hgd3, hgd4, hgd5, hgd6, hgd7, hgd8, hgd9, hgd10, hgd11⟩ := HGD.out;obtain ⟨ca0, ca1, ca2, fa0, fa1, fa2⟩ := Xa.out;have hnea : ga < v5.heap.size := blt ca0;obtain ⟨cb0, cb1, cb2, fb0, fb1, fb2⟩ := Xb.out;have hneb : gb < v5.heap.size := blt cb0;obtain ⟨cx0, cx1, fx0, fx1⟩ := Xx.out;have hnex := Xx.out.lt;go_wp2_with fail;obtain ⟨cy0, cy1, fy0, fy1⟩ := Xy.out;have hney := Xy.out.lt
 have Xx2 : Hid (Box ((v5.setCell ⟨gx, 0, none⟩ (.bool s5)).setCell ⟨gx, 1, none⟩ (.slice p5 m5 m5)) gx (.bool s5) (.slice p5 m5 m5)) := ⟨by go_simp, by go_simp, by go_simp, by go_simp⟩
 have Xy2 : Hid (Box ((v5.setCell ⟨gx, 0, none⟩ (.bool s5)).setCell ⟨gx, 1, none⟩ (.slice p5 m5 m5)) gy (.bool false) (.slice none 0 0)) := ⟨by go_simp, by go_simp, by go_simp, by go_simp⟩
 have Xa2 : Hid (B3q ((v5.setCell ⟨gx, 0, none⟩ (.bool s5)).setCell ⟨gx, 1, none⟩ (.slice p5 m5 m5)) ga (.bool s) (.slice p m c) (.int .i64 e)) := ⟨by go_simp, by go_simp, by go_simp, by go_simp, by go_simp, by go_simp⟩
 have Xb2 : Hid (B3q ((v5.setCell ⟨gx, 0, none⟩ (.bool s5)).setCell ⟨gx, 1, none⟩ (.slice p5 m5 m5)) gb (.bool t) (.slice q n d) (.int .i64 f)) := ⟨by go_simp, by go_simp, by go_simp, by go_simp, by go_simp, by go_simp⟩
 have O52 : Hid (Own W0.heap.size ((v5.setCell ⟨gx, 0, none⟩ (.bool s5)).setCell ⟨gx, 1, none⟩ (.slice p5 m5 m5)) p5 m5 z5) := own_set2 O5.out HB5.out.1 (Nat.le_refl _) _ _;have hbw2 : Below w.heap.size w ((v5.setCell ⟨gx, 0, none⟩ (.bool s5)).setCell ⟨gx, 1, none⟩ (.slice p5 m5 m5)) := bSet (bSet hbw _ _ _ HGx.out) _ _ _ HGx.out;clear ca0 ca1 ca2 fa0 fa1 fa2 hnea cb0 cb1 cb2 fb0 fb1 fb2 hneb cx0 cx1 fx0 fx1 hnex cy0 cy1 fy0 fy1 hney Xx Xy Xa Xb O5 hbw hgd0 hgd1 hgd2 hgd3 hgd4 hgd5 hgd6 hgd7 hgd8 hgd9 hgd10 hgd11;generalize ((v5.setCell ⟨gx, 0, none⟩ (.bool s5)).setCell ⟨gx, 1, none⟩ (.slice p5 m5 m5)) = W6 at *;have Xx := Xx2;have Xy := Xy2;have Xa := Xa2;have Xb := Xb2;have O5 := O52;have hbw := hbw2;clear Xx2 Xy2 Xa2 Xb2 O52 hbw2;have HB7 : Hid (gx < W6.heap.size ∧ gy < W6.heap.size ∧ w.heap.size ≤ W6.heap.size) := ⟨Xx.out.lt, Xy.out.lt, hbw.size⟩
 refine (zshl (K.out.below hbw) b HAB.out.2.2.2).mono ?_
 rintro e2 v7 ⟨ha7, hb7⟩
 rcases ha7 with ⟨_, p7, m7, z7, rfl, ho7, hn7, hm7⟩ | ⟨hl7, rfl⟩
 case inr => (exact absurd (by have h8 := HX.out.2; have h9 := HAB.out; rw [← h9.2.1] at h8; exact h8) (Nat.not_lt.2 hl7))
 replace Xa := B3q.b Xa hb7;replace Xb := B3q.b Xb hb7;replace Xx := Box.b Xx hb7;replace Xy := Box.b Xy hb7;replace O5 := Own.b O5 hb7;replace hbw := bon hbw hb7;clear hb7;have O7 := hdQ ho7;have N7 : Hid (Nf B64 z7 (y * 2 ^ b).natAbs ∧ m7 ≤ 8192) := ⟨hn7, hm7⟩;obtain ⟨s7, hs7⟩ := exq (decide ((y * 2 ^ b) < 0));rw [← hs7];have HS7 : Hid (s7 = decide ((y * 2 ^ b) < 0)) := hs7;clear ho7 hn7 hm7 hs7;obtain ⟨hgd0, hgd1, hgd2, hgd3, hgd4, hgd5, hgd6, hgd7, hgd8, hgd9, hgd10, hgd11⟩ := HGD.out;obtain ⟨cx0, cx1, fx0, fx1⟩ := Xx.out;have hnex := Xx.out.lt;obtain ⟨cy0, cy1, fy0, fy1⟩ := Xy.out;have hney := Xy.out.lt;go_wp2_with fail;clear cx0 cx1 fx0 fx1 hnex cy0 cy1 fy0 fy1 hney;obtain ⟨cx0, cx1, fx0, fx1⟩ := Xx.out;have hnex := Xx.out.lt;obtain ⟨cy0, cy1, fy0, fy1⟩ := Xy.out;have hney := Xy.out.lt
 have Xy2 : Hid (Box ((v7.setCell ⟨gy, 0, none⟩ (.bool s7)).setCell ⟨gy, 1, none⟩ (.slice p7 m7 m7)) gy (.bool s7) (.slice p7 m7 m7)) := ⟨by go_simp, by go_simp, by go_simp, by go_simp⟩
 have Xx2 : Hid (Box ((v7.setCell ⟨gy, 0, none⟩ (.bool s7)).setCell ⟨gy, 1, none⟩ (.slice p7 m7 m7)) gx (.bool s5) (.slice p5 m5 m5)) := ⟨by go_simp, by go_simp, by go_simp, by go_simp⟩
 have O52 : Hid (Own W0.heap.size ((v7.setCell ⟨gy, 0, none⟩ (.bool s7)).setCell ⟨gy, 1, none⟩ (.slice p7 m7 m7)) p5 m5 z5) := own_set2 O5.out HB5.out.2.1 (Nat.le_refl _) _ _;have O72 : Hid (Own W6.heap.size ((v7.setCell ⟨gy, 0, none⟩ (.bool s7)).setCell ⟨gy, 1, none⟩ (.slice p7 m7 m7)) p7 m7 z7) := own_set2 O7.out HB7.out.2.1 (Nat.le_refl _) _ _;have hbw2 : Below w.heap.size w ((v7.setCell ⟨gy, 0, none⟩ (.bool s7)).setCell ⟨gy, 1, none⟩ (.slice p7 m7 m7)) := bSet (bSet hbw _ _ _ HGy.out) _ _ _ HGy.out;clear cx0 cx1 fx0 fx1 hnex cy0 cy1 fy0 fy1 hney Xx Xy Xa Xb O5 O7 hbw hgd0 hgd1 hgd2 hgd3 hgd4 hgd5 hgd6 hgd7 hgd8 hgd9 hgd10 hgd11;generalize ((v7.setCell ⟨gy, 0, none⟩ (.bool s7)).setCell ⟨gy, 1, none⟩ (.slice p7 m7 m7)) = W8 at *;have Xx := Xx2;have Xy := Xy2;have O5 := O52;have O7 := O72;have hbw := hbw2;clear Xx2 Xy2 O52 O72 hbw2;obtain ⟨W9, hW9⟩ := exq W8.drew
 have hbd : Below W8.heap.size W8 W9 := by rw [hW9]; exact bDrew1 (Below.refl _ _)
 replace Xx := Box.b Xx hbd;replace Xy := Box.b Xy hbd;replace O5 := Own.b O5 hbd;replace O7 := Own.b O7 hbd;replace hbw := bon hbw hbd;clear hbd
 have HJ : Hid ((fun W' : World => W'.cell? ⟨gx, 0, none⟩ = some (.bool s5) ∧ W'.cell? ⟨gx, 1, none⟩ = some (.slice p5 m5 m5) ∧ W'.cell? ⟨gy, 0, none⟩ = some (.bool s7) ∧ W'.cell? ⟨gy, 1, none⟩ = some (.slice p7 m7 m7)) W9) := ⟨Xx.out.c0, Xx.out.c1, Xy.out.c0, Xy.out.c1⟩
 refine wp_region_J (fun W' => W'.cell? ⟨gx, 0, none⟩ = some (.bool s5) ∧ W'.cell? ⟨gx, 1, none⟩ = some (.slice p5 m5 m5) ∧ W'.cell? ⟨gy, 0, none⟩ = some (.bool s7) ∧ W'.cell? ⟨gy, 1, none⟩ = some (.slice p7 m7 m7)) (by kernel_rfl) ?_
 rw [← hW9];clear hW9
 refine wpJ_tq 0 rfl HJ.out ?_
 refine wpJ_tq 1 rfl HJ.out ?_
 refine wpJ_tq 2 rfl HJ.out ?_
 refine wpJ_tq 3 rfl HJ.out ?_
 refine wpJ_tq 4 rfl HJ.out ?_
 refine wpJ_tq 5 rfl HJ.out ?_
 obtain ⟨cx0, cx1, fx0, fx1⟩ := Xx.out;have hnex := Xx.out.lt;obtain ⟨cy0, cy1, fy0, fy1⟩ := Xy.out;have hney := Xy.out.lt;have hq1 : gx ≠ gy := HGD.out.2.2.2.2.2.2.2.2.1
 have hq2 : gy ≠ gx := fun h => hq1 h.symm
 refine wpJ_on 6 rfl fun KJ hK => ?_
 go_simp
 have HJ2 : Hid ((fun W' : World => W'.cell? ⟨gx, 0, none⟩ = some (.bool s5) ∧ W'.cell? ⟨gx, 1, none⟩ = some (.slice p5 m5 m5) ∧ W'.cell? ⟨gy, 0, none⟩ = some (.bool s7) ∧ W'.cell? ⟨gy, 1, none⟩ = some (.slice p7 m7 m7)) ((W9.setCell ⟨gx, 0, none⟩ (.bool s5)).setCell ⟨gx, 1, none⟩ (.slice p5 m5 m5))) := ⟨by go_simp, by go_simp, by go_simp, by go_simp⟩
 have Xx2 : Hid (Box ((W9.setCell ⟨gx, 0, none⟩ (.bool s5)).setCell ⟨gx, 1, none⟩ (.slice p5 m5 m5)) gx (.bool s5) (.slice p5 m5 m5)) := ⟨by go_simp, by go_simp, by go_simp, by go_simp⟩
 have Xy2 : Hid (Box ((W9.setCell ⟨gx, 0, none⟩ (.bool s5)).setCell ⟨gx, 1, none⟩ (.slice p5 m5 m5)) gy (.bool s7) (.slice p7 m7 m7)) := ⟨by go_simp, by go_simp, by go_simp, by go_simp⟩
 have O52 : Hid (Own W0.heap.size ((W9.setCell ⟨gx, 0, none⟩ (.bool s5)).setCell ⟨gx, 1, none⟩ (.slice p5 m5 m5)) p5 m5 z5) := own_set2 O5.out HB5.out.1 (Nat.le_refl _) _ _;have O72 : Hid (Own W6.heap.size ((W9.setCell ⟨gx, 0, none⟩ (.bool s5)).setCell ⟨gx, 1, none⟩ (.slice p5 m5 m5)) p7 m7 z7) := own_set2 O7.out HB7.out.1 (Nat.le_refl _) _ _;have hbw2 : Below w.heap.size w ((W9.setCell ⟨gx, 0, none⟩ (.bool s5)).setCell ⟨gx, 1, none⟩ (.slice p5 m5 m5)) := bSet (bSet hbw _ _ _ HGx.out) _ _ _ HGx.out
 refine hK _ _ HJ2.out ?_
 clear hK HJ hq1 hq2;have HJ := HJ2;clear HJ2 cx0 cx1 fx0 fx1 hnex cy0 cy1 fy0 fy1 hney Xx Xy O5 O7 hbw;generalize ((W9.setCell ⟨gx, 0, none⟩ (.bool s5)).setCell ⟨gx, 1, none⟩ (.slice p5 m5 m5)) = Wp at *;have Xx := Xx2;have Xy := Xy2;have O5 := O52;have O7 := O72;have hbw := hbw2;clear Xx2 Xy2 O52 O72 hbw2;obtain ⟨cy0, cy1, fy0, fy1⟩ := Xy.out;have hney := Xy.out.lt;obtain ⟨cx0, cx1, fx0, fx1⟩ := Xx.out;have hnex := Xx.out.lt;have hq1 : gx ≠ gy := HGD.out.2.2.2.2.2.2.2.2.1
 have hq2 : gy ≠ gx := fun h => hq1 h.symm
 refine wpJ_on 7 rfl fun KJ hK => ?_
 go_simp
 have HJ2 : Hid ((fun W' : World => W'.cell? ⟨gx, 0, none⟩ = some (.bool s5) ∧ W'.cell? ⟨gx, 1, none⟩ = some (.slice p5 m5 m5) ∧ W'.cell? ⟨gy, 0, none⟩ = some (.bool s7) ∧ W'.cell? ⟨gy, 1, none⟩ = some (.slice p7 m7 m7)) ((Wp.setCell ⟨gy, 0, none⟩ (.bool s7)).setCell ⟨gy, 1, none⟩ (.slice p7 m7 m7))) := ⟨by go_simp, by go_simp, by go_simp, by go_simp⟩
 have Xy2 : Hid (Box ((Wp.setCell ⟨gy, 0, none⟩ (.bool s7)).setCell ⟨gy, 1, none⟩ (.slice p7 m7 m7)) gy (.bool s7) (.slice p7 m7 m7)) := ⟨by go_simp, by go_simp, by go_simp, by go_simp⟩
 have Xx2 : Hid (Box ((Wp.setCell ⟨gy, 0, none⟩ (.bool s7)).setCell ⟨gy, 1, none⟩ (.slice p7 m7 m7)) gx (.bool s5) (.slice p5 m5 m5)) := ⟨by go_simp, by go_simp, by go_simp, by go_simp⟩
 have O52 : Hid (Own W0.heap.size ((Wp.setCell ⟨gy, 0, none⟩ (.bool s7)).setCell ⟨gy, 1, none⟩ (.slice p7 m7 m7)) p5 m5 z5) := own_set2 O5.out HB5.out.2.1 (Nat.le_refl _) _ _;have O72 : Hid (Own W6.heap.size ((Wp.setCell ⟨gy, 0, none⟩ (.bool s7)).setCell ⟨gy, 1, none⟩ (.slice p7 m7 m7)) p7 m7 z7) := own_set2 O7.out HB7.out.2.1 (Nat.le_refl _) _ _;have hbw2 : Below w.heap.size w ((Wp.setCell ⟨gy, 0, none⟩ (.bool s7)).setCell ⟨gy, 1, none⟩ (.slice p7 m7 m7)) := bSet (bSet hbw _ _ _ HGy.out) _ _ _ HGy.out
 refine hK _ _ HJ2.out ?_
 clear hK HJ hq1 hq2;have HJ := HJ2;clear HJ2 cy0 cy1 fy0 fy1 hney cx0 cx1 fx0 fx1 hnex Xx Xy O5 O7 hbw;generalize ((Wp.setCell ⟨gy, 0, none⟩ (.bool s7)).setCell ⟨gy, 1, none⟩ (.slice p7 m7 m7)) = Wq at *;have Xx := Xx2;have Xy := Xy2;have O5 := O52;have O7 := O72;have hbw := hbw2;clear Xx2 Xy2 O52 O72 hbw2
 refine wpJ_tq 8 rfl HJ.out ?_
 refine wpJ_tq 9 rfl HJ.out ?_
 refine wpJ_done (by kernel_rfl) ?_ _
 clear HJ;obtain ⟨cx0, cx1, fx0, fx1⟩ := Xx.out;have hnex := Xx.out.lt;obtain ⟨cy0, cy1, fy0, fy1⟩ := Xy.out;have hney := Xy.out.lt;go_wp2_with fail
 refine bodyPost_ret (v := .tuple #[ZV s5 p5 m5 m5, ZV s7 p7 m7 m7, .int .i64 g, .int .i64 0]) (by rw [results_c2t2 rfl]; go_simp) rfl ⟨s5, p5, m5, s7, p7, m7, rfl, ?_, ?_, hbw⟩
 ·rw [← HAB.out.1]
  exact ⟨⟨z5, Num.of O5.out N5.out.1 N5.out.2⟩, HS5.out⟩
 ·rw [← HAB.out.2.1]
  exact ⟨⟨z7, Num.of O7.out N7.out.1 N7.out.2⟩, HS7.out⟩
theorem dcopied {p : Option Addr} {m c : Nat} {xs : List Nat} {w : World} {e : Int} (s : Bool) (h : At w p m c xs) (hm : m ≤ 8192) :
    Calls Tryz.prog 50 #[DV s p m c e] w fun en w' => ∃ p', en = .returned (DV s p' m m e) ∧ Own w.heap.size w' p' m xs ∧ Below w.heap.size w w' := by
  have H := hdQ h;have HM : Hid (m ≤ 8192) := hm;have HLX : Hid (xs.length = m) := h.len;have HDG : Hid (Dig B64 xs) := h.dig;obtain ⟨i0, hi, hz0, hz1, hz2⟩ := info_parts Tryz.infoU64;clear h hm
  go_enter Tryz.func50, Tryz.ntmps50
  go_wp2_with (first
    | (at_make
       obtain ⟨W0, hW0⟩ := exq ((w.alloc (.cells #[.bool s, .slice p m c, .int .i64 e] 26)).alloc (.cells #[.bool false, .slice none 0 0, .int .i64 0] 26))
       have Xd : Hid (B3q W0 (w.heap.size) (.bool s) (.slice p m c) (.int .i64 e)) := by rw [hW0]; constructor <;> go_simp
       have Xr : Hid (B3q W0 (w.heap.size + 1) (.bool false) (.slice none 0 0) (.int .i64 0)) := by rw [hW0]; constructor <;> go_simp
       have hb0 := bq2 hW0;rw [← hW0];clear hW0;have hbw := brf w;obtain ⟨gr, hgr⟩ := exq (w.heap.size + 1);have HGr : Hid (w.heap.size ≤ gr) := hgl hgr;rw [← hgr] at Xr
       try rw [← hgr]
       obtain ⟨gd, hgd⟩ := exq w.heap.size;have HGd : Hid (w.heap.size ≤ gd) := hgl hgd;rw [← hgd] at Xd
       try rw [← hgd]
       have HGD : Hid (gd ≠ gr ∧ gr ≠ gd) := by rw [hgd, hgr]; show _ ∧ _; omega
       clear hgd hgr;replace hbw := bon hbw hb0;clear hb0
       refine wpList_make_full _ rfl _ _ 22 rfl W0.heap.size 71 i0 (.int .u64 0) 1 Tryz.underlying22 hi hz0 hz1 _ _ _ _ m rfl rfl (by have := HM.out; omega) (by have := HM.out; omega) (by rw [hz2]; have := HM.out; omega) (by unfold maxLen; have := HM.out; omega) (Nat.le_refl _) ?_
       intro w1 hown hgrow
       have hb1 := made_blk hown hgrow;have HBK : Hid (Blk w1 W0.heap.size (List.replicate m 0)) := hb1.1;have HBL : Hid (Below W0.heap.size W0 w1) := hb1.2;have hb2 := hb1.2;have HRB : Hid (gr < W0.heap.size ∧ gd < W0.heap.size ∧ w.heap.size ≤ W0.heap.size) := ⟨Xr.out.lt, Xd.out.lt, hbw.size⟩;have HA0 : Hid (At W0 p m c xs) := H.out.below hbw;clear hown hgrow hb1;have XD0 := Xd;have XR0 := Xr;have HW0 := hdQ hbw;replace Xd := B3q.b Xd hb2;replace Xr := B3q.b Xr hb2;replace hbw := bon hbw hb2;clear hb2
       skip
       obtain ⟨cd0, cd1, cd2, fd0, fd1, fd2⟩ := Xd.out;have hned : gd < w1.heap.size := blt cd0;obtain ⟨cr0, cr1, cr2, fr0, fr1, fr2⟩ := Xr.out;have hner : gr < w1.heap.size := World.block_lt_of_cell? w1 _ cr0)
    | (refine wpList_copy_splice rfl (.tmp 9) (.tmp 12) 22 22 rfl 71 Tryz.underlying22 Tryz.sizeU64 (some ⟨W0.heap.size, 0, none⟩) p m m m c rfl rfl W0.heap.size 0 (cellsU (List.replicate m 0)) 71 HBK.out (cellsU xs) (by rw [cellsU_length, HLX.out]; exact (Nat.min_self m).symm) (fun h0 => ⟨rfl, (HA0.out.below HBL.out).src (by rw [cellsU_length, HLX.out] at h0; omega)⟩) (by simp [cellsU_length]; have := HLX.out; omega) (cellsU_one xs) W0.heap.size W0 HBL.out (Nat.le_refl _) ?_
       intro w2 hg2 hb2
       have HG2 : Hid (Blk w2 W0.heap.size xs) := by
         have h9 := hg2;rw [splice_cellsU, HLX.out, Nat.sub_self, List.replicate_zero, List.append_nil] at h9
         exact h9
       have HB2 := hdQ hb2;clear hg2 cd0 cd1 cd2 fd0 fd1 fd2 hned cr0 cr1 cr2 fr0 fr1 fr2 hner;obtain ⟨cd0, cd1, cd2, fd0, fd1, fd2⟩ := XD0.out.below hb2;have hned : gd < w2.heap.size := blt cd0;obtain ⟨cr0, cr1, cr2, fr0, fr1, fr2⟩ := XR0.out.below hb2;have hner : gr < w2.heap.size := blt cr0;have hq1 : gd ≠ gr := HGD.out.1;have hq2 : gr ≠ gd := HGD.out.2;clear hb2))
  refine bodyPost_ret (v := DV s (some ⟨W0.heap.size, 0, none⟩) m m e) (by rw [results_cell1 rfl]; go_simp) rfl ⟨_, rfl, ?_, ?_⟩
  · have h9 : Own W0.heap.size w2 (some ⟨W0.heap.size, 0, none⟩) m xs := by
      have h8 := HG2.out.own HDG.out (Nat.le_refl _);rw [HLX.out] at h8
      exact h8
    exact ((((h9.setOld _ _ _ HRB.out.2.1).setOld _ _ _ HRB.out.1).setOld _ _ _ HRB.out.1).setOld _ _ _ HRB.out.1).mono HRB.out.2.2
  · exact bSet (bSet (bSet (bSet (Below.on HW0.out HB2.out) _ _ _ HGd.out) _ _ _ HGr.out) _ _ _ HGr.out) _ _ _ HGr.out
theorem dadd_x {p q : Option Addr} {m c n d : Nat} {w : World} {x y e f : Int} {s t : Bool} (h : DN w s p m c e x) (k : DN w t q n d f y) (hz : x = 0) :
  Calls Tryz.prog 30 #[DV s p m c e, DV t q n d f] w fun en w' => ∃ v, en = .returned (.tuple #[v, .int .i64 0]) ∧ AnsD w.heap.size w' v y f ∧ Below w.heap.size w w' := by
 have H := hdQ h;have K := hdQ k;have HZ : Hid (x = 0) := hz;clear h k hz
 go_enter Tryz.func30, Tryz.ntmps30
 go_wp2_with fail;obtain ⟨W0, hW0⟩ := exq (((w.alloc (.cells #[.bool s, .slice p m c, .int .i64 e] 26)).alloc (.cells #[.bool t, .slice q n d, .int .i64 f] 26)).alloc (.cells #[.bool false, .slice none 0 0, .int .i64 0] 26))
 have Xa : Hid (B3q W0 (w.heap.size) (.bool s) (.slice p m c) (.int .i64 e)) := by rw [hW0]; constructor <;> go_simp
 have Xb : Hid (B3q W0 (w.heap.size + 1) (.bool t) (.slice q n d) (.int .i64 f)) := by rw [hW0]; constructor <;> go_simp
 have Xr : Hid (B3q W0 (w.heap.size + 1 + 1) (.bool false) (.slice none 0 0) (.int .i64 0)) := by rw [hW0]; constructor <;> go_simp
 have hb0 := bq3 hW0;rw [← hW0];clear hW0;have hbw := brf w;obtain ⟨gr, hgr⟩ := exq (w.heap.size + 1 + 1);have HGr : Hid (w.heap.size ≤ gr) := hgl hgr;rw [← hgr] at Xr
 try rw [← hgr]
 obtain ⟨gb, hgb⟩ := exq (w.heap.size + 1);have HGb : Hid (w.heap.size ≤ gb) := hgl hgb;rw [← hgb] at Xb
 try rw [← hgb]
 obtain ⟨ga, hga⟩ := exq w.heap.size;have HGa : Hid (w.heap.size ≤ ga) := hgl hga;rw [← hga] at Xa
 try rw [← hga]
 have HGD : Hid (ga ≠ gb ∧ ga ≠ gr ∧ gb ≠ ga ∧ gb ≠ gr ∧ gr ≠ ga ∧ gr ≠ gb) := by rw [hga, hgb, hgr]; show _ ∧ _; omega
 clear hga hgb hgr;replace hbw := bon hbw hb0;clear hb0
 refine (dform_t (H.out.below hbw)).mono ?_
 rintro e v1 ⟨rfl, hb1⟩;replace Xa := B3q.b Xa hb1;replace Xb := B3q.b Xb hb1;replace Xr := B3q.b Xr hb1;replace hbw := bon hbw hb1;clear hb1;obtain ⟨cb0, cb1, cb2, fb0, fb1, fb2⟩ := Xb.out;have hneb : gb < v1.heap.size := blt cb0;go_wp2_with fail;clear cb0 cb1 cb2 fb0 fb1 fb2 hneb
 refine (dform_t (K.out.below hbw)).mono ?_
 rintro e v2 ⟨rfl, hb2⟩;replace Xa := B3q.b Xa hb2;replace Xb := B3q.b Xb hb2;replace Xr := B3q.b Xr hb2;replace hbw := bon hbw hb2;clear hb2;obtain ⟨ca0, ca1, ca2, fa0, fa1, fa2⟩ := Xa.out;have hnea : ga < v2.heap.size := blt ca0;obtain ⟨cb0, cb1, cb2, fb0, fb1, fb2⟩ := Xb.out;have hneb : gb < v2.heap.size := blt cb0;go_wp2_with fail;clear ca0 ca1 ca2 fa0 fa1 fa2 hnea cb0 cb1 cb2 fb0 fb1 fb2 hneb
 refine (zsign (H.out.zn.below hbw)).mono ?_
 rintro e v3 ⟨rfl, hb3⟩
 rw [HZ.out, show sgnI 0 = 0 from rfl]
 replace Xa := B3q.b Xa hb3;replace Xb := B3q.b Xb hb3;replace Xr := B3q.b Xr hb3;replace hbw := bon hbw hb3;clear hb3;obtain ⟨cb0, cb1, cb2, fb0, fb1, fb2⟩ := Xb.out;have hneb : gb < v3.heap.size := blt cb0;go_wp2_with fail;clear cb0 cb1 cb2 fb0 fb1 fb2 hneb;have HRL : Hid (gr < v3.heap.size ∧ w.heap.size ≤ v3.heap.size) := ⟨Xr.out.lt, hbw.size⟩;obtain ⟨xs, hX⟩ := (K.out.zn.below hbw).ex
 refine (dcopied t hX.at_ hX.le).mono ?_
 rintro e2 v6 ⟨p6, rfl, ho6, hb6⟩;have N6 : Hid (Nf B64 xs (y).natAbs ∧ n ≤ 8192) := ⟨hX.nf, hX.le⟩;clear hX;replace Xa := B3q.b Xa hb6;replace Xb := B3q.b Xb hb6;replace Xr := B3q.b Xr hb6;replace hbw := bon hbw hb6;clear hb6;have O6 := hdQ ho6;clear ho6;obtain ⟨cr0, cr1, cr2, fr0, fr1, fr2⟩ := Xr.out;have hner : gr < v6.heap.size := blt cr0;go_wp2_with fail
 refine bodyPost_ret (v := .tuple #[DV t p6 n n f, .int .i64 0]) (by rw [results_cell_tmp rfl]; go_simp) rfl ⟨_, rfl, ⟨p6, n, xs, by rw [K.out.zn.sg], ?_, N6.out.1, N6.out.2⟩, ?_⟩
 ·exact own_set3 O6.out HRL.out.1 HRL.out.2 _ _ _
 ·exact bSet (bSet (bSet hbw _ _ _ HGr.out) _ _ _ HGr.out) _ _ _ HGr.out
theorem dadd_y {p q : Option Addr} {m c n d : Nat} {w : World} {x y e f : Int} {s t : Bool} (h : DN w s p m c e x) (k : DN w t q n d f y) (hz : x ≠ 0 ∧ y = 0) :
  Calls Tryz.prog 30 #[DV s p m c e, DV t q n d f] w fun en w' => ∃ v, en = .returned (.tuple #[v, .int .i64 0]) ∧ AnsD w.heap.size w' v x e ∧ Below w.heap.size w w' := by
 have H := hdQ h;have K := hdQ k;have HZ : Hid (x ≠ 0 ∧ y = 0) := hz;clear h k hz
 go_enter Tryz.func30, Tryz.ntmps30
 go_wp2_with fail;obtain ⟨W0, hW0⟩ := exq (((w.alloc (.cells #[.bool s, .slice p m c, .int .i64 e] 26)).alloc (.cells #[.bool t, .slice q n d, .int .i64 f] 26)).alloc (.cells #[.bool false, .slice none 0 0, .int .i64 0] 26))
 have Xa : Hid (B3q W0 (w.heap.size) (.bool s) (.slice p m c) (.int .i64 e)) := by rw [hW0]; constructor <;> go_simp
 have Xb : Hid (B3q W0 (w.heap.size + 1) (.bool t) (.slice q n d) (.int .i64 f)) := by rw [hW0]; constructor <;> go_simp
 have Xr : Hid (B3q W0 (w.heap.size + 1 + 1) (.bool false) (.slice none 0 0) (.int .i64 0)) := by rw [hW0]; constructor <;> go_simp
 have hb0 := bq3 hW0;rw [← hW0];clear hW0;have hbw := brf w;obtain ⟨gr, hgr⟩ := exq (w.heap.size + 1 + 1);have HGr : Hid (w.heap.size ≤ gr) := hgl hgr;rw [← hgr] at Xr
 try rw [← hgr]
 obtain ⟨gb, hgb⟩ := exq (w.heap.size + 1);have HGb : Hid (w.heap.size ≤ gb) := hgl hgb;rw [← hgb] at Xb
 try rw [← hgb]
 obtain ⟨ga, hga⟩ := exq w.heap.size;have HGa : Hid (w.heap.size ≤ ga) := hgl hga;rw [← hga] at Xa
 try rw [← hga]
 have HGD : Hid (ga ≠ gb ∧ ga ≠ gr ∧ gb ≠ ga ∧ gb ≠ gr ∧ gr ≠ ga ∧ gr ≠ gb) := by rw [hga, hgb, hgr]; show _ ∧ _; omega
 clear hga hgb hgr;replace hbw := bon hbw hb0;clear hb0
 refine (dform_t (H.out.below hbw)).mono ?_
 rintro e v1 ⟨rfl, hb1⟩;replace Xa := B3q.b Xa hb1;replace Xb := B3q.b Xb hb1;replace Xr := B3q.b Xr hb1;replace hbw := bon hbw hb1;clear hb1;obtain ⟨cb0, cb1, cb2, fb0, fb1, fb2⟩ := Xb.out;have hneb : gb < v1.heap.size := blt cb0;go_wp2_with fail;clear cb0 cb1 cb2 fb0 fb1 fb2 hneb
 refine (dform_t (K.out.below hbw)).mono ?_
 rintro e v2 ⟨rfl, hb2⟩;replace Xa := B3q.b Xa hb2;replace Xb := B3q.b Xb hb2;replace Xr := B3q.b Xr hb2;replace hbw := bon hbw hb2;clear hb2;obtain ⟨ca0, ca1, ca2, fa0, fa1, fa2⟩ := Xa.out;have hnea : ga < v2.heap.size := blt ca0;obtain ⟨cb0, cb1, cb2, fb0, fb1, fb2⟩ := Xb.out;have hneb : gb < v2.heap.size := blt cb0;go_wp2_with fail;clear ca0 ca1 ca2 fa0 fa1 fa2 hnea cb0 cb1 cb2 fb0 fb1 fb2 hneb
 refine (zsign (H.out.zn.below hbw)).mono ?_
 rintro e v3 ⟨rfl, hb3⟩;obtain ⟨sg3, hsg⟩ := exq (sgnI (x));rw [← hsg]
 have hs3 : (sg3 == 0) = false := by rw [hsg]; have := HZ.out.1; unfold sgnI; split <;> (try split) <;> simp <;> omega
 clear hsg;replace Xa := B3q.b Xa hb3;replace Xb := B3q.b Xb hb3;replace Xr := B3q.b Xr hb3;replace hbw := bon hbw hb3;clear hb3;obtain ⟨cb0, cb1, cb2, fb0, fb1, fb2⟩ := Xb.out;have hneb : gb < v3.heap.size := blt cb0;go_wp2_with fail;clear cb0 cb1 cb2 fb0 fb1 fb2 hneb hs3
 refine (zsign (K.out.zn.below hbw)).mono ?_
 rintro e v4 ⟨rfl, hb4⟩
 rw [HZ.out.2, show sgnI 0 = 0 from rfl]
 replace Xa := B3q.b Xa hb4;replace Xb := B3q.b Xb hb4;replace Xr := B3q.b Xr hb4;replace hbw := bon hbw hb4;clear hb4;obtain ⟨ca0, ca1, ca2, fa0, fa1, fa2⟩ := Xa.out;have hnea : ga < v4.heap.size := blt ca0;go_wp2_with fail;clear ca0 ca1 ca2 fa0 fa1 fa2 hnea;have HRL : Hid (gr < v4.heap.size ∧ w.heap.size ≤ v4.heap.size) := ⟨Xr.out.lt, hbw.size⟩;obtain ⟨xs, hX⟩ := (H.out.zn.below hbw).ex
 refine (dcopied s hX.at_ hX.le).mono ?_
 rintro e2 v6 ⟨p6, rfl, ho6, hb6⟩;have N6 : Hid (Nf B64 xs (x).natAbs ∧ m ≤ 8192) := ⟨hX.nf, hX.le⟩;clear hX;replace Xa := B3q.b Xa hb6;replace Xb := B3q.b Xb hb6;replace Xr := B3q.b Xr hb6;replace hbw := bon hbw hb6;clear hb6;have O6 := hdQ ho6;clear ho6;obtain ⟨cr0, cr1, cr2, fr0, fr1, fr2⟩ := Xr.out;have hner : gr < v6.heap.size := blt cr0;go_wp2_with fail
 refine bodyPost_ret (v := .tuple #[DV s p6 m m e, .int .i64 0]) (by rw [results_cell_tmp rfl]; go_simp) rfl ⟨_, rfl, ⟨p6, m, xs, by rw [H.out.zn.sg], ?_, N6.out.1, N6.out.2⟩, ?_⟩
 ·exact own_set3 O6.out HRL.out.1 HRL.out.2 _ _ _
 ·exact bSet (bSet (bSet hbw _ _ _ HGr.out) _ _ _ HGr.out) _ _ _ HGr.out
theorem pow_cast (n : Nat) : (2 : Int) ^ n = ((2 ^ n : Nat) : Int) := by norm_cast
theorem lt_LIM {n L : Nat} (h : n < 2 ^ L) (hL : L ≤ 524288) : n < LIM := by
  refine (lim_bits n).2 ?_
  by_cases h0 : n = 0
  · rw [h0, bitsN_zero]; omega
  · have h1 := bitsN_le n h0
    have h2 := (Nat.pow_lt_pow_iff_right (by omega : 1 < 2)).1 (Nat.lt_of_le_of_lt h1 h)
    omega
structure DB (z e : Int) (K E : Nat) : Prop where
 fm : DFm z e
 sz : z.natAbs < 2 ^ K
 lo : -(E : Int) ≤ e
 hi : e ≤ E
theorem DB.mono {z e : Int} {K E K' E' : Nat} (h : DB z e K E) (hK : K ≤ K') (hE : E ≤ E') : DB z e K' E' :=
 ⟨h.fm, Nat.lt_of_lt_of_le h.sz (Nat.pow_le_pow_right (by omega) hK), by have := h.lo; omega, by have := h.hi; omega⟩
theorem DFm.neg {z e : Int} (h : DFm z e) : DFm (-z) e := by
  rcases h with ⟨h1, h2⟩ | ⟨h1, h2⟩
  · exact .inl ⟨by omega, h2⟩
  · exact .inr ⟨by omega, h2⟩
theorem DB.neg {z e : Int} {K E : Nat} (h : DB z e K E) : DB (-z) e K E := ⟨h.fm.neg, by rw [Int.natAbs_neg]; exact h.sz, h.lo, h.hi⟩
theorem fl_neg (x : Int) (d : Nat) : fl (decide (-x < 0)) (-x).natAbs d = - ce (decide (x < 0)) x.natAbs d := by
  rw [Int.natAbs_neg]
  by_cases hx : x = 0
  · subst hx
    simp [fl, ce, iv]
  · rw [show decide (-x < 0) = !decide (x < 0) from by rw [← decide_not]; exact decide_eq_decide.2 (by omega)]
    exact fl_not _ _ _
theorem fl_eq (z : Int) (d : Nat) (hd : 0 < d) : fl (decide (z < 0)) z.natAbs d = z / (d : Int) := by
  have h := fl_mo (decide (z < 0)) false z.natAbs d hd;rw [iv_abs, iv_f, Bool.bne_false] at h
  have h1 : 0 ≤ mo (decide (z < 0)) false z.natAbs d ∧ mo (decide (z < 0)) false z.natAbs d < (d : Int) := by
    unfold mo;rw [iv_f];have := Nat.mod_lt z.natAbs hd
    split
    · rename_i h2
      have h3 : z.natAbs % d ≠ 0 := by simp at h2; omega
      omega
    · omega
  generalize mo (decide (z < 0)) false z.natAbs d = r at *;generalize fl (decide (z < 0)) z.natAbs d = q at *
  rw [← h, Int.add_comm, Int.add_mul_ediv_right _ _ (by omega), Int.ediv_eq_zero_of_lt h1.1 h1.2]
  omega
theorem ce_eq (z : Int) (d : Nat) (hd : 0 < d) : ce (decide (z < 0)) z.natAbs d = -((-z) / (d : Int)) := by
  have h := fl_neg z d;rw [fl_eq _ _ hd] at h
  omega
def rd (up : Bool) (z : Int) (d : Nat) : Int := if up then -((-z) / (d : Int)) else z / (d : Int)
theorem dv_up {x e : Int} (k : Nat) (he : -4194304 ≤ e) : dv x (e + k) = dv (x * ((2 ^ k : Nat) : Int)) e := by
  rw [dv_shift (e := e + k) (f := e) (by omega) he, show (e + (k : Int) - e).toNat = k from by omega]
def MakeP (B : Nat) (w' : World) (en : Ending) (z e : Int) : Prop :=
 (∃ v zo eo, en = .returned (.tuple #[v, .int .i64 0]) ∧ AnsD B w' v zo eo ∧ DFm zo eo ∧ dv zo eo = dv z e) ∨
 (en = .returned (.tuple #[DV false none 0 0 0, .int .i64 5]) ∧ ∀ zo eo, DFm zo eo → dv zo eo ≠ dv z e)
theorem MakeP.form {B : Nat} {w' : World} {en : Ending} {z e zo eo : Int} (h : MakeP B w' en z e) (hf : DFm zo eo) (hv : dv zo eo = dv z e) : ∃ v, en = .returned (.tuple #[v, .int .i64 0]) ∧ AnsD B w' v zo eo := by
  rcases h with ⟨v, z1, e1, h1, h2, h3, h4⟩ | ⟨_, h2⟩
  · obtain ⟨rfl, rfl⟩ := dv_inj h3 hf (h4.trans hv.symm)
    exact ⟨v, h1, h2⟩
  · exact absurd hv (h2 _ _ hf)
theorem odd_exp {z z' e e' : Int} (hz : z % 2 = 1) (hz' : z' % 2 = 1) (he : -4194304 ≤ e) (he' : -4194304 ≤ e') (h : dv z e = dv z' e') : e = e' := by
  unfold dv at h;have h1 := odd_ne hz h;have h2 := odd_ne hz' h.symm
  omega
theorem make_no {z e : Int} {k : Nat} (hz : z ≠ 0) (hk : TzO z.natAbs k) (he : -4194304 ≤ e) (hn : ¬ (-1048576 ≤ k + e ∧ k + e ≤ 1048576)) : ∀ zo eo, DFm zo eo → dv zo eo ≠ dv z e := by
  intro zo eo hf hv
  obtain ⟨h1, h2, _⟩ := tz_split hz hk;generalize fl (decide (z < 0)) z.natAbs (2 ^ k) = o at *;rw [← h2, ← dv_up k he] at hv
  rcases hf with ⟨rfl, rfl⟩ | ⟨h3, h4, h5⟩
  · rw [dv_zero] at hv
    have := dv_eq_zero hv.symm
    omega
  · have := odd_exp h3 h1 (by omega) (by omega) hv
    omega
def MP (B : Nat) (w' : World) (s : Bool) (p : Option Addr) (m : Nat) (eo er : Int) (z e : Int) : Prop :=
 (er = 0 ∧ ∃ zo zs, s = decide (zo < 0) ∧ Own B w' p m zs ∧ Nf B64 zs zo.natAbs ∧ m ≤ 8192 ∧ DFm zo eo ∧ dv zo eo = dv z e) ∨
 (er = 5 ∧ s = false ∧ p = none ∧ m = 0 ∧ eo = 0 ∧ ∀ zo eo, DFm zo eo → dv zo eo ≠ dv z e)
theorem MakeP.open {B : Nat} {w' : World} {en : Ending} {z e : Int} (h : MakeP B w' en z e) : ∃ s p m eo er, en = .returned (.tuple #[DV s p m m eo, .int .i64 er]) ∧ MP B w' s p m eo er z e := by
  rcases h with ⟨v, z1, e1, h1, ⟨p, m, zs, rfl, h2, h3, h4⟩, h5, h6⟩ | ⟨h1, h2⟩
  · exact ⟨_, p, m, e1, 0, h1, .inl ⟨rfl, z1, zs, rfl, h2, h3, h4, h5, h6⟩⟩
  · exact ⟨_, _, _, _, 5, h1, .inr ⟨rfl, rfl, rfl, rfl, rfl, h2⟩⟩
theorem MP.close {B : Nat} {w' : World} {s : Bool} {p : Option Addr} {m : Nat} {eo er z e : Int} (h : MP B w' s p m eo er z e) : MakeP B w' (.returned (.tuple #[DV s p m m eo, .int .i64 er])) z e := by
  rcases h with ⟨rfl, zo, zs, rfl, h2, h3, h4, h5, h6⟩ | ⟨rfl, rfl, rfl, rfl, rfl, h2⟩
  · exact .inl ⟨_, zo, eo, rfl, ⟨p, m, zs, rfl, h2, h3, h4⟩, h5, h6⟩
  · exact .inr ⟨rfl, h2⟩
theorem MP.set {B b : Nat} {w' : World} {s : Bool} {p : Option Addr} {m : Nat} {eo er z e : Int} (h : MP B w' s p m eo er z e) {r : Nat} (hr : r < B) (hb : b ≤ B) (v0 v1 v2 : Value) : MP b (((w'.setCell ⟨r, 0, none⟩ v0).setCell ⟨r, 1, none⟩ v1).setCell ⟨r, 2, none⟩ v2) s p m eo er z e := by
  rcases h with ⟨h0, zo, zs, h1, h2, h3, h4, h5, h6⟩ | h
  · exact .inl ⟨h0, zo, zs, h1, own_set3 h2 hr hb v0 v1 v2, h3, h4, h5, h6⟩
  · exact .inr h
theorem MP.below {B : Nat} {w w' : World} {s : Bool} {p : Option Addr} {m : Nat} {eo er z e : Int} (h : MP B w s p m eo er z e) (hb : Below w.heap.size w w') : MP B w' s p m eo er z e := by
  rcases h with ⟨h0, zo, zs, h1, h2, h3, h4, h5, h6⟩ | h
  · exact .inl ⟨h0, zo, zs, h1, h2.below hb, h3, h4, h5, h6⟩
  · exact .inr h
theorem MP.b {B : Nat} {w w' : World} {s : Bool} {p : Option Addr} {m : Nat} {eo er z e : Int} (h : Hid (MP B w s p m eo er z e)) (hb : Below w.heap.size w w') : Hid (MP B w' s p m eo er z e) := MP.below h hb
theorem MakeP.mono {B b : Nat} {w' : World} {en : Ending} {z e : Int} (h : MakeP B w' en z e) (hb : b ≤ B) : MakeP b w' en z e := by
  rcases h with ⟨v, z1, e1, h1, ⟨p, m, zs, h8, h2, h3, h4⟩, h5, h6⟩ | h
  · exact .inl ⟨v, z1, e1, h1, ⟨p, m, zs, h8, h2.mono hb, h3, h4⟩, h5, h6⟩
  · exact .inr h
theorem moved_no (e n : Int) (w : World) (he : -1048576 ≤ e ∧ e ≤ 2097152) (hs : ¬ (-1048576 ≤ e + n ∧ e + n ≤ 1048576)) :
  Calls Tryz.prog 79 #[.int .i64 e, .int .i64 n] w fun en w' => en = .returned (.tuple #[.int .i64 0, .int .i64 5]) ∧ w' = w := by
 have f1 : wrap64 (-1048576 - e) = -1048576 - e := by simp only [wrap64]; omega
 have f2 : wrap64 (1048576 - e) = 1048576 - e := by simp only [wrap64]; omega
 by_cases f4 : n < -1048576 - e
 ·clear he hs
  go_enter Tryz.func79, Tryz.ntmps79
  go_wp2_with fail
  go_ret2
  exact ⟨rfl, rfl⟩
 have f5 : 1048576 - e < n := by omega
 clear he hs
 go_enter Tryz.func79, Tryz.ntmps79
 go_wp2_with fail
 go_ret2
 exact ⟨rfl, rfl⟩
theorem makep_n {p : Option Addr} {m c : Nat} {w : World} {z e : Int} {s : Bool} (h : ZN w s p m c z) (he : -3145728 ≤ e ∧ e ≤ 3145728) (hT : Tab w) {k : Nat} (hz : z ≠ 0) (hk : TzO z.natAbs k) (hr : (-1048576 ≤ k + e ∧ k + e ≤ 1048576)) :
  Calls Tryz.prog 53 #[ZV s p m c, .int .i64 e] w fun en w' => MakeP w.heap.size w' en z e ∧ Below w.heap.size w w' := by
 have H := hdQ h;have HE : Hid (-3145728 ≤ e ∧ e ≤ 3145728) := he;have TB : Hid (Tab w) := hT;have HZ : Hid (z ≠ 0) := hz;have HR : Hid ((-1048576 ≤ k + e ∧ k + e ≤ 1048576)) := hr;have HK := hdQ hk;clear h he hT hz hr
 go_enter Tryz.func53, Tryz.ntmps53
 go_wp2_with fail;obtain ⟨W0, hW0⟩ := exq ((w.alloc (.cells #[.bool s, .slice p m c] 24)).alloc (.cells #[.bool false, .slice none 0 0, .int .i64 0] 26))
 have Xm : Hid (Box W0 (w.heap.size) (.bool s) (.slice p m c)) := by rw [hW0]; constructor <;> go_simp
 have Xr : Hid (B3q W0 (w.heap.size + 1) (.bool false) (.slice none 0 0) (.int .i64 0)) := by rw [hW0]; constructor <;> go_simp
 have hb0 := bq2 hW0;rw [← hW0];clear hW0;have hbw := brf w;obtain ⟨gr, hgr⟩ := exq (w.heap.size + 1);have HGr : Hid (w.heap.size ≤ gr) := hgl hgr;rw [← hgr] at Xr
 try rw [← hgr]
 obtain ⟨gm, hgm⟩ := exq w.heap.size;have HGm : Hid (w.heap.size ≤ gm) := hgl hgm;rw [← hgm] at Xm
 try rw [← hgm]
 have HGD : Hid (gm ≠ gr ∧ gr ≠ gm) := by rw [hgm, hgr]; show _ ∧ _; omega
 clear hgm hgr;replace hbw := bon hbw hb0;clear hb0
 refine (zform (H.out.below hbw)).mono ?_
 rintro e v1 ⟨rfl, hb1⟩;replace Xm := Box.b Xm hb1;replace Xr := B3q.b Xr hb1;replace hbw := bon hbw hb1;clear hb1;obtain ⟨cm0, cm1, fm0, fm1⟩ := Xm.out;have hnem := Xm.out.lt;go_wp2_with fail;clear cm0 cm1 fm0 fm1 hnem
 refine (zsign (H.out.below hbw)).mono ?_
 rintro e v2 ⟨rfl, hb2⟩;obtain ⟨sg, hsg⟩ := exq (sgnI (z));rw [← hsg]
 have hs0 : (sg == 0) = false := by rw [hsg]; have := HZ.out; unfold sgnI; split <;> (try split) <;> simp <;> omega
 clear hsg;replace Xm := Box.b Xm hb2;replace Xr := B3q.b Xr hb2;replace hbw := bon hbw hb2;clear hb2;obtain ⟨cm0, cm1, fm0, fm1⟩ := Xm.out;have hnem := Xm.out.lt;go_wp2_with fail;clear cm0 cm1 fm0 fm1 hnem
 have hkb : k ≤ 524288 := by
  have h1 := (lim_bits z.natAbs).1 H.out.lim
  rcases hk with ⟨h0, _⟩ | ⟨_, h2, h3⟩
  ·exact absurd (Int.natAbs_eq_zero.1 h0) HZ.out
  ·have h4 : 2 ^ k ≤ z.natAbs := by
    rcases Nat.lt_or_ge z.natAbs (2 ^ k) with h | h
    ·rw [Nat.div_eq_of_lt h] at h3; omega
    ·exact h
   have h5 := bitsN_lt z.natAbs
   have h6 := (Nat.pow_lt_pow_iff_right (by omega : 1 < 2)).1 (Nat.lt_of_le_of_lt h4 h5)
   omega
 have HKB : Hid (k ≤ 524288) := hkb;clear hk hkb;obtain ⟨xs, hX⟩ := (H.out.below hbw).ex
 refine (trail_any hX.at_ (by have := hX.le; omega) (k := k) (by rw [hX.nf.val]; exact HK.out) (TB.out.below hbw)).mono ?_
 rintro e2 v3 ⟨rfl, hw⟩;obtain rfl := hw.symm;clear hw hX;go_wp2_with fail
 refine (moved_ok k e _ (by have := HKB.out; omega) HR.out).mono ?_
 rintro e2 v4 ⟨rfl, hw⟩;obtain rfl := hw.symm;clear hw;obtain ⟨cm0, cm1, fm0, fm1⟩ := Xm.out;have hnem := Xm.out.lt;go_wp2_with fail;clear cm0 cm1 fm0 fm1 hnem;obtain ⟨o, ho9⟩ := exq (fl (decide (z < 0)) z.natAbs (2 ^ k))
 have HO9 : Hid (o % 2 = 1 ∧ o * ((2 ^ k : Nat) : Int) = z ∧ o.natAbs ≤ z.natAbs) := by rw [ho9]; exact tz_split HZ.out HK.out
 have HRL : Hid (gr < v2.heap.size ∧ w.heap.size ≤ v2.heap.size) := ⟨Xr.out.lt, hbw.size⟩;obtain ⟨xs, hX⟩ := (H.out.below hbw).ex
 refine (fshr_any s hX H.out.pos k (by have := HKB.out; omega) (TB.out.below hbw)).mono ?_
 rintro e2 v5 ⟨v, rfl, hv, hb5⟩;rw [H.out.sg, ← ho9] at hv;obtain ⟨p5, m5, z5, rfl, ho5, hn5, hm5⟩ := hv;clear hX ho9;replace Xm := Box.b Xm hb5;replace Xr := B3q.b Xr hb5;replace hbw := bon hbw hb5;clear hb5;have O5 := hdQ ho5;have N5 : Hid (Nf B64 z5 o.natAbs ∧ m5 ≤ 8192) := ⟨hn5, hm5⟩;clear ho5 hn5 hm5;obtain ⟨so, hso⟩ := exq (decide (o < 0));rw [← hso];have HSO : Hid (so = decide (o < 0)) := hso;clear hso;obtain ⟨cr0, cr1, cr2, fr0, fr1, fr2⟩ := Xr.out;have hner : gr < v5.heap.size := blt cr0;go_wp2_with fail
 refine bodyPost_ret (v := .tuple #[DV so p5 m5 m5 (k + e), .int .i64 0]) (by rw [results_cell_tmp rfl]; go_simp) rfl ⟨.inl ⟨_, o, k + e, rfl, ⟨p5, m5, z5, by rw [HSO.out], ?_, N5.out.1, N5.out.2⟩, .inr ⟨HO9.out.1, HR.out⟩, ?_⟩, ?_⟩
 ·exact (own_set3 O5.out HRL.out.1 HRL.out.2 _ _ _).below (below1 _ _)
 ·rw [dv_shift (e := (k : Int) + e) (f := e) (by omega) (by have := HE.out; omega), show ((k : Int) + e - e).toNat = k from by omega, HO9.out.2.1]
 ·exact Below.on (bSet (bSet (bSet hbw _ _ _ HGr.out) _ _ _ HGr.out) _ _ _ HGr.out) (below1 _ _)
theorem makep_e {p : Option Addr} {m c : Nat} {w : World} {z e : Int} {s : Bool} (h : ZN w s p m c z) (he : -3145728 ≤ e ∧ e ≤ 3145728) (hT : Tab w) {k : Nat} (hz : z ≠ 0) (hk : TzO z.natAbs k) (hr : ¬ (-1048576 ≤ k + e ∧ k + e ≤ 1048576)) :
  Calls Tryz.prog 53 #[ZV s p m c, .int .i64 e] w fun en w' => MakeP w.heap.size w' en z e ∧ Below w.heap.size w w' := by
 have H := hdQ h;have HE : Hid (-3145728 ≤ e ∧ e ≤ 3145728) := he;have TB : Hid (Tab w) := hT;have HZ : Hid (z ≠ 0) := hz;have HR : Hid (¬ (-1048576 ≤ k + e ∧ k + e ≤ 1048576)) := hr;have HK := hdQ hk;clear h he hT hz hr
 go_enter Tryz.func53, Tryz.ntmps53
 go_wp2_with fail;obtain ⟨W0, hW0⟩ := exq ((w.alloc (.cells #[.bool s, .slice p m c] 24)).alloc (.cells #[.bool false, .slice none 0 0, .int .i64 0] 26))
 have Xm : Hid (Box W0 (w.heap.size) (.bool s) (.slice p m c)) := by rw [hW0]; constructor <;> go_simp
 have Xr : Hid (B3q W0 (w.heap.size + 1) (.bool false) (.slice none 0 0) (.int .i64 0)) := by rw [hW0]; constructor <;> go_simp
 have hb0 := bq2 hW0;rw [← hW0];clear hW0;have hbw := brf w;obtain ⟨gr, hgr⟩ := exq (w.heap.size + 1);have HGr : Hid (w.heap.size ≤ gr) := hgl hgr;rw [← hgr] at Xr
 try rw [← hgr]
 obtain ⟨gm, hgm⟩ := exq w.heap.size;have HGm : Hid (w.heap.size ≤ gm) := hgl hgm;rw [← hgm] at Xm
 try rw [← hgm]
 have HGD : Hid (gm ≠ gr ∧ gr ≠ gm) := by rw [hgm, hgr]; show _ ∧ _; omega
 clear hgm hgr;replace hbw := bon hbw hb0;clear hb0
 refine (zform (H.out.below hbw)).mono ?_
 rintro e v1 ⟨rfl, hb1⟩;replace Xm := Box.b Xm hb1;replace Xr := B3q.b Xr hb1;replace hbw := bon hbw hb1;clear hb1;obtain ⟨cm0, cm1, fm0, fm1⟩ := Xm.out;have hnem := Xm.out.lt;go_wp2_with fail;clear cm0 cm1 fm0 fm1 hnem
 refine (zsign (H.out.below hbw)).mono ?_
 rintro e v2 ⟨rfl, hb2⟩;obtain ⟨sg, hsg⟩ := exq (sgnI (z));rw [← hsg]
 have hs0 : (sg == 0) = false := by rw [hsg]; have := HZ.out; unfold sgnI; split <;> (try split) <;> simp <;> omega
 clear hsg;replace Xm := Box.b Xm hb2;replace Xr := B3q.b Xr hb2;replace hbw := bon hbw hb2;clear hb2;obtain ⟨cm0, cm1, fm0, fm1⟩ := Xm.out;have hnem := Xm.out.lt;go_wp2_with fail;clear cm0 cm1 fm0 fm1 hnem
 have hkb : k ≤ 524288 := by
  have h1 := (lim_bits z.natAbs).1 H.out.lim
  rcases hk with ⟨h0, _⟩ | ⟨_, h2, h3⟩
  ·exact absurd (Int.natAbs_eq_zero.1 h0) HZ.out
  ·have h4 : 2 ^ k ≤ z.natAbs := by
    rcases Nat.lt_or_ge z.natAbs (2 ^ k) with h | h
    ·rw [Nat.div_eq_of_lt h] at h3; omega
    ·exact h
   have h5 := bitsN_lt z.natAbs
   have h6 := (Nat.pow_lt_pow_iff_right (by omega : 1 < 2)).1 (Nat.lt_of_le_of_lt h4 h5)
   omega
 have HKB : Hid (k ≤ 524288) := hkb;clear hk hkb;obtain ⟨xs, hX⟩ := (H.out.below hbw).ex
 refine (trail_any hX.at_ (by have := hX.le; omega) (k := k) (by rw [hX.nf.val]; exact HK.out) (TB.out.below hbw)).mono ?_
 rintro e2 v3 ⟨rfl, hw⟩;obtain rfl := hw.symm;clear hw hX;go_wp2_with fail
 refine (moved_no k e _ (by have := HKB.out; omega) HR.out).mono ?_
 rintro e2 v4 ⟨rfl, hw⟩;obtain rfl := hw.symm;clear hw;obtain ⟨cr0, cr1, cr2, fr0, fr1, fr2⟩ := Xr.out;have hner : gr < v2.heap.size := blt cr0;go_wp2_with fail
 refine bodyPost_ret (v := .tuple #[DV false none 0 0 0, .int .i64 5]) (by rw [results_cell_tmp rfl]; go_simp) rfl ⟨.inr ⟨rfl, make_no HZ.out HK.out (by have := HE.out; omega) HR.out⟩, ?_⟩
 first | exact hbw | exact bSet (bSet (bSet hbw _ _ _ HGr.out) _ _ _ HGr.out) _ _ _ HGr.out
theorem makep_z {p : Option Addr} {m c : Nat} {w : World} {z e : Int} {s : Bool} (h : ZN w s p m c z) (hz : z = 0) :
  Calls Tryz.prog 53 #[ZV s p m c, .int .i64 e] w fun en w' => MakeP w.heap.size w' en z e ∧ Below w.heap.size w w' := by
 have H := hdQ h;subst hz;clear h
 go_enter Tryz.func53, Tryz.ntmps53
 go_wp2_with fail;obtain ⟨W0, hW0⟩ := exq ((w.alloc (.cells #[.bool s, .slice p m c] 24)).alloc (.cells #[.bool false, .slice none 0 0, .int .i64 0] 26))
 have Xm : Hid (Box W0 (w.heap.size) (.bool s) (.slice p m c)) := by rw [hW0]; constructor <;> go_simp
 have Xr : Hid (B3q W0 (w.heap.size + 1) (.bool false) (.slice none 0 0) (.int .i64 0)) := by rw [hW0]; constructor <;> go_simp
 have hb0 := bq2 hW0;rw [← hW0];clear hW0;have hbw := brf w;obtain ⟨gr, hgr⟩ := exq (w.heap.size + 1);have HGr : Hid (w.heap.size ≤ gr) := hgl hgr;rw [← hgr] at Xr
 try rw [← hgr]
 obtain ⟨gm, hgm⟩ := exq w.heap.size;have HGm : Hid (w.heap.size ≤ gm) := hgl hgm;rw [← hgm] at Xm
 try rw [← hgm]
 have HGD : Hid (gm ≠ gr ∧ gr ≠ gm) := by rw [hgm, hgr]; show _ ∧ _; omega
 clear hgm hgr;replace hbw := bon hbw hb0;clear hb0
 refine (zform (H.out.below hbw)).mono ?_
 rintro e v1 ⟨rfl, hb1⟩;replace Xm := Box.b Xm hb1;replace Xr := B3q.b Xr hb1;replace hbw := bon hbw hb1;clear hb1;obtain ⟨cm0, cm1, fm0, fm1⟩ := Xm.out;have hnem := Xm.out.lt;go_wp2_with fail;clear cm0 cm1 fm0 fm1 hnem
 refine (zsign (H.out.below hbw)).mono ?_
 rintro e v2 ⟨rfl, hb2⟩
 rw [show sgnI 0 = 0 from rfl]
 replace Xm := Box.b Xm hb2;replace Xr := B3q.b Xr hb2;replace hbw := bon hbw hb2;clear hb2;obtain ⟨cr0, cr1, cr2, fr0, fr1, fr2⟩ := Xr.out;have hner : gr < v2.heap.size := blt cr0;go_wp2_with fail
 refine bodyPost_ret (v := .tuple #[DV false none 0 0 0, .int .i64 0]) (by rw [results_cell_tmp rfl]; go_simp) rfl ⟨.inl ⟨_, 0, 0, rfl, ⟨none, 0, [], rfl, ⟨rfl, Dig.nil _, .inl rfl⟩, Nf.nil _, by omega⟩, .inl ⟨rfl, rfl⟩, by rw [dv_zero, dv_zero]⟩, ?_⟩
 first | exact hbw | exact bSet (bSet (bSet hbw _ _ _ HGr.out) _ _ _ HGr.out) _ _ _ HGr.out
theorem makep {p : Option Addr} {m c : Nat} {w : World} {z e : Int} {s : Bool} (h : ZN w s p m c z) (he : -3145728 ≤ e ∧ e ≤ 3145728) (hT : Tab w) :
  Calls Tryz.prog 53 #[ZV s p m c, .int .i64 e] w fun en w' => MakeP w.heap.size w' en z e ∧ Below w.heap.size w w' := by
 by_cases hz : z = 0
 ·exact makep_z h hz
 obtain ⟨k, hk⟩ := TzO.ex z.natAbs
 by_cases hr : -1048576 ≤ k + e ∧ k + e ≤ 1048576
 ·exact makep_n h he hT hz hk hr
 ·exact makep_e h he hT hz hk hr
def formD (s : Bool) (xs : List Nat) (e : Int) : Bool := formB xs && (decide (-1048576 ≤ e) && (decide (e ≤ 1048576) && (if xs.length = 0 then (!s && decide (e = 0)) else decide (xs.getD 0 0 % 2 = 1))))
theorem docformd_f {p : Option Addr} {m c : Nat} {xs : List Nat} {w : World} {e : Int} (s : Bool) (h : At w p m c xs) (hf : formB xs = false) :
  Calls Tryz.prog 21 #[DV s p m c e] w fun en w' => en = .returned (.bool false) ∧ Below w.heap.size w w' := by
 have H := hdQ h;have HF : Hid (formB xs = false) := hf;clear h hf
 go_enter Tryz.func21, Tryz.ntmps21
 go_wp2_with fail;obtain ⟨W0, hW0⟩ := exq (w.alloc (.cells #[.bool s, .slice p m c, .int .i64 e] 26))
 have Xd : Hid (B3q W0 (w.heap.size) (.bool s) (.slice p m c) (.int .i64 e)) := by rw [hW0]; constructor <;> go_simp
 have hb0 := bq1 hW0;rw [← hW0];clear hW0;have hbw := brf w;obtain ⟨gd, hgd⟩ := exq w.heap.size;have HGd : Hid (w.heap.size ≤ gd) := hgl hgd;rw [← hgd] at Xd
 try rw [← hgd]
 clear hgd;replace hbw := bon hbw hb0;clear hb0
 refine (docform_any (H.out.below hbw)).mono ?_
 rintro e2 v1 ⟨rfl, hw⟩;obtain rfl := hw.symm;clear hw;rw [HF.out];obtain ⟨cd0, cd1, cd2, fd0, fd1, fd2⟩ := Xd.out;have hned : gd < W0.heap.size := blt cd0;go_wp2_with fail;clear cd0 cd1 cd2 fd0 fd1 fd2 hned
 go_ret
 exact ⟨rfl, hbw⟩
theorem docformd_lo {p : Option Addr} {m c : Nat} {xs : List Nat} {w : World} {e : Int} (s : Bool) (h : At w p m c xs) (hf : formB xs = true) (h1 : e < -1048576) :
  Calls Tryz.prog 21 #[DV s p m c e] w fun en w' => en = .returned (.bool false) ∧ Below w.heap.size w w' := by
 have H := hdQ h;have HF : Hid (formB xs = true) := hf;clear h hf
 go_enter Tryz.func21, Tryz.ntmps21
 go_wp2_with fail;obtain ⟨W0, hW0⟩ := exq (w.alloc (.cells #[.bool s, .slice p m c, .int .i64 e] 26))
 have Xd : Hid (B3q W0 (w.heap.size) (.bool s) (.slice p m c) (.int .i64 e)) := by rw [hW0]; constructor <;> go_simp
 have hb0 := bq1 hW0;rw [← hW0];clear hW0;have hbw := brf w;obtain ⟨gd, hgd⟩ := exq w.heap.size;have HGd : Hid (w.heap.size ≤ gd) := hgl hgd;rw [← hgd] at Xd
 try rw [← hgd]
 clear hgd;replace hbw := bon hbw hb0;clear hb0
 refine (docform_any (H.out.below hbw)).mono ?_
 rintro e2 v1 ⟨rfl, hw⟩;obtain rfl := hw.symm;clear hw;rw [HF.out];obtain ⟨cd0, cd1, cd2, fd0, fd1, fd2⟩ := Xd.out;have hned : gd < W0.heap.size := blt cd0;go_wp2_with fail;clear cd0 cd1 cd2 fd0 fd1 fd2 hned
 go_ret
 exact ⟨rfl, hbw⟩
theorem docformd_hi {p : Option Addr} {m c : Nat} {xs : List Nat} {w : World} {e : Int} (s : Bool) (h : At w p m c xs) (hf : formB xs = true) (h0 : ¬ e < -1048576) (h1 : 1048576 < e) :
  Calls Tryz.prog 21 #[DV s p m c e] w fun en w' => en = .returned (.bool false) ∧ Below w.heap.size w w' := by
 have H := hdQ h;have HF : Hid (formB xs = true) := hf;clear h hf
 go_enter Tryz.func21, Tryz.ntmps21
 go_wp2_with fail;obtain ⟨W0, hW0⟩ := exq (w.alloc (.cells #[.bool s, .slice p m c, .int .i64 e] 26))
 have Xd : Hid (B3q W0 (w.heap.size) (.bool s) (.slice p m c) (.int .i64 e)) := by rw [hW0]; constructor <;> go_simp
 have hb0 := bq1 hW0;rw [← hW0];clear hW0;have hbw := brf w;obtain ⟨gd, hgd⟩ := exq w.heap.size;have HGd : Hid (w.heap.size ≤ gd) := hgl hgd;rw [← hgd] at Xd
 try rw [← hgd]
 clear hgd;replace hbw := bon hbw hb0;clear hb0
 refine (docform_any (H.out.below hbw)).mono ?_
 rintro e2 v1 ⟨rfl, hw⟩;obtain rfl := hw.symm;clear hw;rw [HF.out];obtain ⟨cd0, cd1, cd2, fd0, fd1, fd2⟩ := Xd.out;have hned : gd < W0.heap.size := blt cd0;go_wp2_with fail;clear cd0 cd1 cd2 fd0 fd1 fd2 hned
 go_ret
 exact ⟨rfl, hbw⟩
theorem docformd_z {p : Option Addr} {m c : Nat} {xs : List Nat} {w : World} {e : Int} (s : Bool) (h : At w p m c xs) (hf : formB xs = true) (h0 : ¬ e < -1048576) (h1 : ¬ 1048576 < e) (hm : m = 0) (bo : Bool) (hbo : bo = (!s && decide (e = 0))) :
  Calls Tryz.prog 21 #[DV s p m c e] w fun en w' => en = .returned (.bool bo) ∧ Below w.heap.size w w' := by
 have H := hdQ h;have HF : Hid (formB xs = true) := hf;subst hm;have HBO : Hid (bo = (!s && decide (e = 0))) := hbo;clear hbo h hf
 go_enter Tryz.func21, Tryz.ntmps21
 go_wp2_with fail;obtain ⟨W0, hW0⟩ := exq (w.alloc (.cells #[.bool s, .slice p 0 c, .int .i64 e] 26))
 have Xd : Hid (B3q W0 (w.heap.size) (.bool s) (.slice p 0 c) (.int .i64 e)) := by rw [hW0]; constructor <;> go_simp
 have hb0 := bq1 hW0;rw [← hW0];clear hW0;have hbw := brf w;obtain ⟨gd, hgd⟩ := exq w.heap.size;have HGd : Hid (w.heap.size ≤ gd) := hgl hgd;rw [← hgd] at Xd
 try rw [← hgd]
 clear hgd;replace hbw := bon hbw hb0;clear hb0
 refine (docform_any (H.out.below hbw)).mono ?_
 rintro e2 v1 ⟨rfl, hw⟩;obtain rfl := hw.symm;clear hw;rw [HF.out]
 cases s
 ·by_cases he : e = 0
  ·have h9 : (e == 0) = true := by simp [he]
   have hbo : bo = true := by rw [HBO.out, he]; rfl
   subst he;subst hbo;clear HBO;obtain ⟨cd0, cd1, cd2, fd0, fd1, fd2⟩ := Xd.out;have hned : gd < W0.heap.size := blt cd0;go_wp2_with fail;clear cd0 cd1 cd2 fd0 fd1 fd2 hned
   go_ret
   exact ⟨rfl, hbw⟩
  ·have h9 : (e == 0) = false := by simp [he]
   have hbo : bo = false := by rw [HBO.out, decide_eq_false he]; rfl
   subst hbo;clear HBO;obtain ⟨cd0, cd1, cd2, fd0, fd1, fd2⟩ := Xd.out;have hned : gd < W0.heap.size := blt cd0;go_wp2_with fail;clear cd0 cd1 cd2 fd0 fd1 fd2 hned
   go_ret
   exact ⟨rfl, hbw⟩
 ·have hbo : bo = false := by rw [HBO.out]; rfl
  subst hbo;clear HBO;obtain ⟨cd0, cd1, cd2, fd0, fd1, fd2⟩ := Xd.out;have hned : gd < W0.heap.size := blt cd0;go_wp2_with fail;clear cd0 cd1 cd2 fd0 fd1 fd2 hned
  go_ret
  exact ⟨rfl, hbw⟩
theorem docformd_n {p : Option Addr} {m c : Nat} {xs : List Nat} {w : World} {e : Int} (s : Bool) (h : At w p m c xs) (hf : formB xs = true) (h0 : ¬ e < -1048576) (h1 : ¬ 1048576 < e) (hm : 0 < m) (bo : Bool) (hbo : bo = decide (xs.getD 0 0 % 2 = 1)) :
  Calls Tryz.prog 21 #[DV s p m c e] w fun en w' => en = .returned (.bool bo) ∧ Below w.heap.size w w' := by
 have H := hdQ h;have HF : Hid (formB xs = true) := hf;have HMP : Hid (0 < m) := hm
 obtain ⟨g, off, rfl, hc⟩ := h.cells.resolve_left (by omega)
 have hc0 : w.cell? ⟨g, off, none⟩ = some (U (xs.getD 0 0)) := by have := hc 0 hm; rw [Nat.add_zero] at this; exact this
 have hx0 : xs.getD 0 0 < B64 := by
  have hl := h.len
  rw [List.getD_eq_getElem?_getD, List.getElem?_eq_getElem (by omega)]
  exact h.dig _ (List.getElem_mem _)
 obtain ⟨x0, hx⟩ := exq (xs.getD 0 0);rw [← hx] at hc0 hx0 hbo;have HC0 : Hid (w.cell? ⟨g, off, none⟩ = some (U x0)) := hc0;have HLT : Hid (g < w.heap.size) := World.block_lt_of_cell? w _ hc0;have f1 : bits BinOp.and IntKind.u64 (x0 : Int) 1 = ((x0 % 2 : Nat) : Int) := and_one_u64q x0 hx0
 have d3 : ((m : Int) == 0) = false := by simp; omega
 have d4 : ¬ m = 0 := by omega
 have HBO : Hid (bo = decide (x0 % 2 = 1)) := hbo;clear hc hc0 hx0 hx hbo hm h hf
 go_enter Tryz.func21, Tryz.ntmps21
 go_wp2_with fail;obtain ⟨W0, hW0⟩ := exq (w.alloc (.cells #[.bool s, .slice (some ⟨g, off, none⟩) m c, .int .i64 e] 26))
 have Xd : Hid (B3q W0 (w.heap.size) (.bool s) (.slice (some ⟨g, off, none⟩) m c) (.int .i64 e)) := by rw [hW0]; constructor <;> go_simp
 have hb0 := bq1 hW0;rw [← hW0];clear hW0;have hbw := brf w;obtain ⟨gd, hgd⟩ := exq w.heap.size;have HGd : Hid (w.heap.size ≤ gd) := hgl hgd;rw [← hgd] at Xd
 try rw [← hgd]
 clear hgd;replace hbw := bon hbw hb0;clear hb0
 refine (docform_any (H.out.below hbw)).mono ?_
 rintro e2 v1 ⟨rfl, hw⟩;obtain rfl := hw.symm;clear hw;rw [HF.out];have hc1 := (hbw.cell (p := ⟨g, off, none⟩) HLT.out).trans HC0.out;have hl1 : g < W0.heap.size := Nat.lt_of_lt_of_le HLT.out hbw.size
 rcases Nat.mod_two_eq_zero_or_one x0 with h5 | h5
 ·rw [h5] at f1
  have hbo : bo = false := by rw [HBO.out, h5]; rfl
  subst hbo;clear HBO h5;obtain ⟨cd0, cd1, cd2, fd0, fd1, fd2⟩ := Xd.out;have hned : gd < W0.heap.size := blt cd0;go_wp2_with fail;clear cd0 cd1 cd2 fd0 fd1 fd2 hned
  go_ret
  exact ⟨rfl, hbw⟩
 ·rw [h5] at f1
  have hbo : bo = true := by rw [HBO.out, h5]; rfl
  subst hbo;clear HBO h5;obtain ⟨cd0, cd1, cd2, fd0, fd1, fd2⟩ := Xd.out;have hned : gd < W0.heap.size := blt cd0;go_wp2_with fail;clear cd0 cd1 cd2 fd0 fd1 fd2 hned
  go_ret
  exact ⟨rfl, hbw⟩
theorem docformd {p : Option Addr} {m c : Nat} {xs : List Nat} {w : World} {e : Int} (s : Bool) (h : At w p m c xs) :
  Calls Tryz.prog 21 #[DV s p m c e] w fun en w' => en = .returned (.bool (formD s xs e)) ∧ Below w.heap.size w w' := by
 have hl := h.len
 cases hf : formB xs
 ·have h0 : formD s xs e = false := by unfold formD; rw [hf]; rfl
  rw [h0]
  exact docformd_f s h hf
 ·by_cases h1 : e < -1048576
  ·have h0 : formD s xs e = false := by unfold formD; rw [hf, decide_eq_false (p := -1048576 ≤ e) (by omega)]; rfl
   rw [h0]
   exact docformd_lo s h hf h1
  ·by_cases h2 : 1048576 < e
   ·have h0 : formD s xs e = false := by unfold formD; rw [hf, decide_eq_true (p := -1048576 ≤ e) (by omega), decide_eq_false (p := e ≤ 1048576) (by omega)]; rfl
    rw [h0]
    exact docformd_hi s h hf h1 h2
   ·rcases Nat.eq_zero_or_pos m with hm | hm
    ·exact docformd_z s h hf h1 h2 hm _ (by unfold formD; rw [hf, decide_eq_true (p := -1048576 ≤ e) (by omega), decide_eq_true (p := e ≤ 1048576) (by omega), if_pos (by omega)]; rfl)
    ·exact docformd_n s h hf h1 h2 hm _ (by unfold formD; rw [hf, decide_eq_true (p := -1048576 ≤ e) (by omega), decide_eq_true (p := e ≤ 1048576) (by omega), if_neg (by omega)]; rfl)
theorem val_mod2 (xs : List Nat) : valB B64 xs % 2 = xs.getD 0 0 % 2 := by
  cases xs with
  | nil => rfl
  | cons a r =>
    show (a + B64 * valB B64 r) % 2 = a % 2
    rw [B64_eq]
    omega
theorem formD_dn {p : Option Addr} {m c : Nat} {xs : List Nat} {w : World} {e : Int} {s : Bool} (h : At w p m c xs) (hf : formD s xs e = true) : DN w s p m c e (iv s (valB B64 xs)) := by
  unfold formD at hf
  simp only [Bool.and_eq_true, decide_eq_true_eq] at hf
  obtain ⟨h1, h2, h3, h4⟩ := hf;have hl := h.len;have hN := (formB_nf h1 h.dig);have hv := val_mod2 xs
  by_cases h0 : xs.length = 0
  · rw [if_pos h0] at h4
    simp only [Bool.and_eq_true, Bool.not_eq_true', decide_eq_true_eq] at h4
    obtain ⟨rfl, rfl⟩ := h4;have hx : xs = [] := List.eq_nil_of_length_eq_zero h0;subst hx
    exact ⟨⟨⟨[], h, by exact hN.1, by have := hN.2; omega⟩, rfl⟩, .inl ⟨rfl, rfl⟩⟩
  · rw [if_neg h0] at h4
    have h5 := of_decide_eq_true h4
    refine ⟨⟨⟨xs, h, by rw [iv_natAbs]; exact hN.1, by have := hN.2; omega⟩, ?_⟩, .inr ⟨?_, h2, h3⟩⟩
    · rw [iv_lt, decide_eq_true (p := 0 < valB B64 xs) (by omega), Bool.and_true]
    · cases s
      · show ((valB B64 xs : Nat) : Int) % 2 = 1; omega
      · show (-((valB B64 xs : Nat) : Int)) % 2 = 1; omega
def formZ (s : Bool) (xs : List Nat) : Bool := formB xs && !(s && decide (xs = []))
theorem formZ_num {w : World} {p : Option Addr} {m c : Nat} {xs : List Nat} {s : Bool} (h : At w p m c xs) (hf : formZ s xs = true) : Num w p m c xs (valB B64 xs) ∧ (s = true → 0 < valB B64 xs) := by
  unfold formZ at hf;rw [Bool.and_eq_true] at hf;obtain ⟨hN, hL⟩ := formB_nf hf.1 h.dig;rw [h.len] at hL
  refine ⟨⟨h, hN, hL⟩, fun hs => ?_⟩
  have h2 := hf.2;rw [hs] at h2
  simp at h2
  rcases Nat.eq_zero_or_pos (valB B64 xs) with e | e
  · exact absurd ((hN.zero_iff B64_one).2 e) h2
  · exact e
theorem numform_f {p : Option Addr} {n c : Nat} {xs : List Nat} {w : World} (s : Bool) (h : At w p n c xs) (hf : formZ s xs = false) :
  Calls Tryz.prog 46 #[ZV s p n c] w fun e w' => e = .returned (.bool false) ∧ Below w.heap.size w w' := by
 have H := hdQ h
 cases hb : formB xs
 ·clear h hf
  go_enter Tryz.func46, Tryz.ntmps46
  go_wp2_with fail
  refine (form_false (H.out.alloc _) hb).mono ?_
  rintro e w' ⟨rfl, hw⟩;obtain rfl := hw.symm;clear hw hb;go_wp2_with fail
  go_ret
  exact ⟨rfl, below1 w _⟩
 ·have hs : s = true ∧ xs = [] := by
   unfold formZ at hf;rw [hb] at hf
   simpa using hf
  obtain ⟨rfl, rfl⟩ := hs;obtain rfl : n = 0 := h.len.symm;clear h hf
  go_enter Tryz.func46, Tryz.ntmps46
  go_wp2_with fail
  refine (form_true (H.out.alloc _) hb).mono ?_
  rintro e w' ⟨rfl, hw⟩;obtain rfl := hw.symm;clear hw hb;go_wp2_with fail
  go_ret
  exact ⟨rfl, below1 w _⟩
theorem dform_f0 {p : Option Addr} {m c : Nat} {xs : List Nat} {w : World} {e : Int} (s : Bool) (h : At w p m c xs) (hf : formZ s xs = false) :
  Calls Tryz.prog 23 #[DV s p m c e] w fun en w' => en = .returned (.bool false) ∧ Below w.heap.size w w' := by
 have H := hdQ h;have HF : Hid (formZ s xs = false) := hf;clear h hf
 go_enter Tryz.func23, Tryz.ntmps23
 go_wp2_with fail;obtain ⟨W0, hW0⟩ := exq (w.alloc (.cells #[.bool s, .slice p m c, .int .i64 e] 26))
 have Xd : Hid (B3q W0 (w.heap.size) (.bool s) (.slice p m c) (.int .i64 e)) := by rw [hW0]; constructor <;> go_simp
 have hb0 := bq1 hW0;rw [← hW0];clear hW0;have hbw := brf w;obtain ⟨gd, hgd⟩ := exq w.heap.size;have HGd : Hid (w.heap.size ≤ gd) := hgl hgd;rw [← hgd] at Xd
 try rw [← hgd]
 clear hgd;replace hbw := bon hbw hb0;clear hb0
 refine (numform_f s (H.out.below hbw) HF.out).mono ?_
 rintro e v1 ⟨rfl, hb1⟩;replace Xd := B3q.b Xd hb1;replace hbw := bon hbw hb1;clear hb1;obtain ⟨cd0, cd1, cd2, fd0, fd1, fd2⟩ := Xd.out;have hned : gd < v1.heap.size := blt cd0;go_wp2_with fail;clear cd0 cd1 cd2 fd0 fd1 fd2 hned
 go_ret
 exact ⟨rfl, hbw⟩
theorem dform_fz {p : Option Addr} {m c : Nat} {w : World} {z e : Int} {s : Bool} (h : ZN w s p m c z) (hz : z = 0) (he : e ≠ 0) :
  Calls Tryz.prog 23 #[DV s p m c e] w fun en w' => en = .returned (.bool false) ∧ Below w.heap.size w w' := by
 subst hz
 have h1 : (e == 0) = false := by simp [he]
 clear he;have H := hdQ h;clear h
 go_enter Tryz.func23, Tryz.ntmps23
 go_wp2_with fail;obtain ⟨W0, hW0⟩ := exq (w.alloc (.cells #[.bool s, .slice p m c, .int .i64 e] 26))
 have Xd : Hid (B3q W0 (w.heap.size) (.bool s) (.slice p m c) (.int .i64 e)) := by rw [hW0]; constructor <;> go_simp
 have hb0 := bq1 hW0;rw [← hW0];clear hW0;have hbw := brf w;obtain ⟨gd, hgd⟩ := exq w.heap.size;have HGd : Hid (w.heap.size ≤ gd) := hgl hgd;rw [← hgd] at Xd
 try rw [← hgd]
 clear hgd;replace hbw := bon hbw hb0;clear hb0
 refine (zform (H.out.below hbw)).mono ?_
 rintro e v1 ⟨rfl, hb1⟩;replace Xd := B3q.b Xd hb1;replace hbw := bon hbw hb1;clear hb1;obtain ⟨cd0, cd1, cd2, fd0, fd1, fd2⟩ := Xd.out;have hned : gd < v1.heap.size := blt cd0;go_wp2_with fail;clear cd0 cd1 cd2 fd0 fd1 fd2 hned
 refine (zsign (H.out.below hbw)).mono ?_
 rintro e v2 ⟨rfl, hb2⟩
 rw [show sgnI 0 = 0 from rfl]
 replace Xd := B3q.b Xd hb2;replace hbw := bon hbw hb2;clear hb2;obtain ⟨cd0, cd1, cd2, fd0, fd1, fd2⟩ := Xd.out;have hned : gd < v2.heap.size := blt cd0;go_wp2_with fail;clear cd0 cd1 cd2 fd0 fd1 fd2 hned
 go_ret
 exact ⟨rfl, hbw⟩
theorem dform_fe {p : Option Addr} {m c : Nat} {w : World} {z e : Int} {s : Bool} (h : ZN w s p m c z) (hz : z % 2 = 0 ∧ z ≠ 0) :
  Calls Tryz.prog 23 #[DV s p m c e] w fun en w' => en = .returned (.bool false) ∧ Below w.heap.size w w' := by
 have H := hdQ h;have HZ : Hid (z % 2 = 0 ∧ z ≠ 0) := hz;clear hz h
 go_enter Tryz.func23, Tryz.ntmps23
 go_wp2_with fail;obtain ⟨W0, hW0⟩ := exq (w.alloc (.cells #[.bool s, .slice p m c, .int .i64 e] 26))
 have Xd : Hid (B3q W0 (w.heap.size) (.bool s) (.slice p m c) (.int .i64 e)) := by rw [hW0]; constructor <;> go_simp
 have hb0 := bq1 hW0;rw [← hW0];clear hW0;have hbw := brf w;obtain ⟨gd, hgd⟩ := exq w.heap.size;have HGd : Hid (w.heap.size ≤ gd) := hgl hgd;rw [← hgd] at Xd
 try rw [← hgd]
 clear hgd;replace hbw := bon hbw hb0;clear hb0
 refine (zform (H.out.below hbw)).mono ?_
 rintro e v1 ⟨rfl, hb1⟩;replace Xd := B3q.b Xd hb1;replace hbw := bon hbw hb1;clear hb1;obtain ⟨cd0, cd1, cd2, fd0, fd1, fd2⟩ := Xd.out;have hned : gd < v1.heap.size := blt cd0;go_wp2_with fail;clear cd0 cd1 cd2 fd0 fd1 fd2 hned
 refine (zsign (H.out.below hbw)).mono ?_
 rintro e v2 ⟨rfl, hb2⟩;obtain ⟨sg, hsg⟩ := exq (sgnI (z));rw [← hsg]
 have hs0 : (sg == 0) = false := by rw [hsg]; have := HZ.out; unfold sgnI; split <;> (try split) <;> simp <;> omega
 clear hsg;replace Xd := B3q.b Xd hb2;replace hbw := bon hbw hb2;clear hb2;obtain ⟨cd0, cd1, cd2, fd0, fd1, fd2⟩ := Xd.out;have hned : gd < v2.heap.size := blt cd0;go_wp2_with fail;clear cd0 cd1 cd2 fd0 fd1 fd2 hned;obtain ⟨xs, hX⟩ := (H.out.below hbw).ex
 refine (bit_int hX.at_ (by have := hX.le; omega) 0 (by decide)).mono ?_
 rintro e2 v3 ⟨rfl, hw⟩;obtain rfl := hw.symm;clear hw
 rw [show bitO (valB B64 xs) 0 = false from by unfold bitO; rw [if_neg (by omega), hX.nf.val]; simp; have := HZ.out; omega]
 clear hX;obtain ⟨cd0, cd1, cd2, fd0, fd1, fd2⟩ := Xd.out;have hned : gd < v2.heap.size := blt cd0;go_wp2_with fail;clear cd0 cd1 cd2 fd0 fd1 fd2 hned
 go_ret
 exact ⟨rfl, hbw⟩
theorem dform_fl {p : Option Addr} {m c : Nat} {w : World} {z e : Int} {s : Bool} (h : ZN w s p m c z) (hz : z % 2 = 1) (he : e < -1048576) :
  Calls Tryz.prog 23 #[DV s p m c e] w fun en w' => en = .returned (.bool false) ∧ Below w.heap.size w w' := by
 have H := hdQ h;have HZ : Hid (z % 2 = 1) := hz
 have h1 : ¬ (-1048576 : Int) ≤ e := by omega
 clear hz h
 go_enter Tryz.func23, Tryz.ntmps23
 go_wp2_with fail;obtain ⟨W0, hW0⟩ := exq (w.alloc (.cells #[.bool s, .slice p m c, .int .i64 e] 26))
 have Xd : Hid (B3q W0 (w.heap.size) (.bool s) (.slice p m c) (.int .i64 e)) := by rw [hW0]; constructor <;> go_simp
 have hb0 := bq1 hW0;rw [← hW0];clear hW0;have hbw := brf w;obtain ⟨gd, hgd⟩ := exq w.heap.size;have HGd : Hid (w.heap.size ≤ gd) := hgl hgd;rw [← hgd] at Xd
 try rw [← hgd]
 clear hgd;replace hbw := bon hbw hb0;clear hb0
 refine (zform (H.out.below hbw)).mono ?_
 rintro e v1 ⟨rfl, hb1⟩;replace Xd := B3q.b Xd hb1;replace hbw := bon hbw hb1;clear hb1;obtain ⟨cd0, cd1, cd2, fd0, fd1, fd2⟩ := Xd.out;have hned : gd < v1.heap.size := blt cd0;go_wp2_with fail;clear cd0 cd1 cd2 fd0 fd1 fd2 hned
 refine (zsign (H.out.below hbw)).mono ?_
 rintro e v2 ⟨rfl, hb2⟩;obtain ⟨sg, hsg⟩ := exq (sgnI (z));rw [← hsg]
 have hs0 : (sg == 0) = false := by rw [hsg]; have := HZ.out; unfold sgnI; split <;> (try split) <;> simp <;> omega
 clear hsg;replace Xd := B3q.b Xd hb2;replace hbw := bon hbw hb2;clear hb2;obtain ⟨cd0, cd1, cd2, fd0, fd1, fd2⟩ := Xd.out;have hned : gd < v2.heap.size := blt cd0;go_wp2_with fail;clear cd0 cd1 cd2 fd0 fd1 fd2 hned;obtain ⟨xs, hX⟩ := (H.out.below hbw).ex
 refine (bit_int hX.at_ (by have := hX.le; omega) 0 (by decide)).mono ?_
 rintro e2 v3 ⟨rfl, hw⟩;obtain rfl := hw.symm;clear hw
 rw [show bitO (valB B64 xs) 0 = true from by unfold bitO; rw [if_neg (by omega), hX.nf.val]; simp; have := HZ.out; omega]
 clear hX;obtain ⟨cd0, cd1, cd2, fd0, fd1, fd2⟩ := Xd.out;have hned : gd < v2.heap.size := blt cd0;go_wp2_with fail;clear cd0 cd1 cd2 fd0 fd1 fd2 hned
 go_ret
 exact ⟨rfl, hbw⟩
theorem dform_fh {p : Option Addr} {m c : Nat} {w : World} {z e : Int} {s : Bool} (h : ZN w s p m c z) (hz : z % 2 = 1) (he : 1048576 < e) :
  Calls Tryz.prog 23 #[DV s p m c e] w fun en w' => en = .returned (.bool false) ∧ Below w.heap.size w w' := by
 have H := hdQ h;have HZ : Hid (z % 2 = 1) := hz
 have h1 : (-1048576 : Int) ≤ e := by omega
 have h2 : ¬ e ≤ (1048576 : Int) := by omega
 have h3 : ¬ e < (-1048576 : Int) := by omega
 clear hz h
 go_enter Tryz.func23, Tryz.ntmps23
 go_wp2_with fail;obtain ⟨W0, hW0⟩ := exq (w.alloc (.cells #[.bool s, .slice p m c, .int .i64 e] 26))
 have Xd : Hid (B3q W0 (w.heap.size) (.bool s) (.slice p m c) (.int .i64 e)) := by rw [hW0]; constructor <;> go_simp
 have hb0 := bq1 hW0;rw [← hW0];clear hW0;have hbw := brf w;obtain ⟨gd, hgd⟩ := exq w.heap.size;have HGd : Hid (w.heap.size ≤ gd) := hgl hgd;rw [← hgd] at Xd
 try rw [← hgd]
 clear hgd;replace hbw := bon hbw hb0;clear hb0
 refine (zform (H.out.below hbw)).mono ?_
 rintro e v1 ⟨rfl, hb1⟩;replace Xd := B3q.b Xd hb1;replace hbw := bon hbw hb1;clear hb1;obtain ⟨cd0, cd1, cd2, fd0, fd1, fd2⟩ := Xd.out;have hned : gd < v1.heap.size := blt cd0;go_wp2_with fail;clear cd0 cd1 cd2 fd0 fd1 fd2 hned
 refine (zsign (H.out.below hbw)).mono ?_
 rintro e v2 ⟨rfl, hb2⟩;obtain ⟨sg, hsg⟩ := exq (sgnI (z));rw [← hsg]
 have hs0 : (sg == 0) = false := by rw [hsg]; have := HZ.out; unfold sgnI; split <;> (try split) <;> simp <;> omega
 clear hsg;replace Xd := B3q.b Xd hb2;replace hbw := bon hbw hb2;clear hb2;obtain ⟨cd0, cd1, cd2, fd0, fd1, fd2⟩ := Xd.out;have hned : gd < v2.heap.size := blt cd0;go_wp2_with fail;clear cd0 cd1 cd2 fd0 fd1 fd2 hned;obtain ⟨xs, hX⟩ := (H.out.below hbw).ex
 refine (bit_int hX.at_ (by have := hX.le; omega) 0 (by decide)).mono ?_
 rintro e2 v3 ⟨rfl, hw⟩;obtain rfl := hw.symm;clear hw
 rw [show bitO (valB B64 xs) 0 = true from by unfold bitO; rw [if_neg (by omega), hX.nf.val]; simp; have := HZ.out; omega]
 clear hX;obtain ⟨cd0, cd1, cd2, fd0, fd1, fd2⟩ := Xd.out;have hned : gd < v2.heap.size := blt cd0;go_wp2_with fail;clear cd0 cd1 cd2 fd0 fd1 fd2 hned
 go_ret
 refine ⟨?_, hbw⟩
 show Ending.returned (.bool (decide (e ≤ 1048576))) = _
 rw [decide_eq_false (by omega)]
theorem dform_f {p : Option Addr} {m c : Nat} {xs : List Nat} {w : World} {e : Int} (s : Bool) (h : At w p m c xs) (hf : formD s xs e = false) :
  Calls Tryz.prog 23 #[DV s p m c e] w fun en w' => en = .returned (.bool false) ∧ Below w.heap.size w w' := by
 cases hz : formZ s xs
 ·exact dform_f0 s h hz
 obtain ⟨hN, hs⟩ := formZ_num h hz;have hZ : ZN w s p m c (iv s (valB B64 xs)) := ZN.of hN hs;unfold formZ at hz;rw [Bool.and_eq_true] at hz;unfold formD at hf;rw [hz.1, Bool.true_and] at hf;have hv := val_mod2 xs
 by_cases h0 : xs.length = 0
 ·have hx : xs = [] := List.length_eq_zero_iff.1 h0
  subst hx
  have hs2 : s = false := by
   have := hz.2
   cases s
   ·rfl
   ·simp at this
  subst hs2
  refine dform_fz hZ rfl ?_
  intro h9
  subst h9
  simp at hf
 ·rw [if_neg h0] at hf
  have hne : valB B64 xs ≠ 0 := by
   intro h9
   have h8 := hN.zero;have h7 := hN.at_.len;rw [h9] at h8;have := h8.2 rfl
   omega
  by_cases h5 : xs.getD 0 0 % 2 = 1
  ·rw [decide_eq_true h5, Bool.and_true] at hf
   have ho : iv s (valB B64 xs) % 2 = 1 := by cases s <;> simp only [iv] <;> simp <;> omega
   rcases Int.lt_or_le e (-1048576) with h6 | h6
   ·exact dform_fl hZ ho h6
   ·rcases Int.lt_or_le 1048576 e with h7 | h7
    ·exact dform_fh hZ ho h7
    ·rw [decide_eq_true h6, decide_eq_true h7] at hf
     exact absurd hf (by decide)
  ·refine dform_fe hZ ?_
   cases s <;> simp only [iv] <;> simp <;> omega
theorem dadd_m {p q : Option Addr} {m c n d : Nat} {w : World} {x y e f g : Int} {s t : Bool} (h : DN w s p m c e x) (k : DN w t q n d f y) (hx0 : x ≠ 0) (hy0 : y ≠ 0) (hg : g = min e f) (hx : (x * 2 ^ (e - g).toNat).natAbs < LIM) (hy : (y * 2 ^ (f - g).toNat).natAbs < LIM) (hl : (x * 2 ^ (e - g).toNat + y * 2 ^ (f - g).toNat).natAbs < LIM) (hT : Tab w) :
  Calls Tryz.prog 30 #[DV s p m c e, DV t q n d f] w fun en w' => MakeP w.heap.size w' en (x * 2 ^ (e - g).toNat + y * 2 ^ (f - g).toNat) g ∧ Below w.heap.size w w' := by
 have H := hdQ h;have K := hdQ k;have TB : Hid (Tab w) := hT
 have HE : Hid (-1048576 ≤ e ∧ e ≤ 1048576 ∧ -1048576 ≤ f ∧ f ≤ 1048576) := by
  rcases h.fm with ⟨h1, _⟩ | ⟨_, h1, h2⟩
  ·exact absurd h1 hx0
  ·rcases k.fm with ⟨k1, _⟩ | ⟨_, k1, k2⟩
   ·exact absurd k1 hy0
   ·exact ⟨h1, h2, k1, k2⟩
 have HG : Hid (g = min e f ∧ -1048576 ≤ g ∧ g ≤ 1048576) := ⟨hg, by have := HE.out; omega, by have := HE.out; omega⟩
 obtain ⟨X, hX⟩ := exq (x * 2 ^ (e - g).toNat);obtain ⟨Y, hY⟩ := exq (y * 2 ^ (f - g).toNat);rw [← hX, ← hY] at hl ⊢;have HL : Hid (x ≠ 0 ∧ y ≠ 0 ∧ (x * 2 ^ (e - g).toNat).natAbs < LIM ∧ (y * 2 ^ (f - g).toNat).natAbs < LIM ∧ (X + Y).natAbs < LIM) := ⟨hx0, hy0, hx, hy, hl⟩;have HXY : Hid (X = x * 2 ^ (e - g).toNat ∧ Y = y * 2 ^ (f - g).toNat) := ⟨hX, hY⟩;clear h k hT hx0 hy0 hx hy hl hg hX hY
 go_enter Tryz.func30, Tryz.ntmps30
 go_wp2_with fail;obtain ⟨W0, hW0⟩ := exq (((w.alloc (.cells #[.bool s, .slice p m c, .int .i64 e] 26)).alloc (.cells #[.bool t, .slice q n d, .int .i64 f] 26)).alloc (.cells #[.bool false, .slice none 0 0, .int .i64 0] 26))
 have Xa : Hid (B3q W0 (w.heap.size) (.bool s) (.slice p m c) (.int .i64 e)) := by rw [hW0]; constructor <;> go_simp
 have Xb : Hid (B3q W0 (w.heap.size + 1) (.bool t) (.slice q n d) (.int .i64 f)) := by rw [hW0]; constructor <;> go_simp
 have Xr : Hid (B3q W0 (w.heap.size + 1 + 1) (.bool false) (.slice none 0 0) (.int .i64 0)) := by rw [hW0]; constructor <;> go_simp
 have hb0 := bq3 hW0;rw [← hW0];clear hW0;have hbw := brf w;obtain ⟨gr, hgr⟩ := exq (w.heap.size + 1 + 1);have HGr : Hid (w.heap.size ≤ gr) := hgl hgr;rw [← hgr] at Xr
 try rw [← hgr]
 obtain ⟨gb, hgb⟩ := exq (w.heap.size + 1);have HGb : Hid (w.heap.size ≤ gb) := hgl hgb;rw [← hgb] at Xb
 try rw [← hgb]
 obtain ⟨ga, hga⟩ := exq w.heap.size;have HGa : Hid (w.heap.size ≤ ga) := hgl hga;rw [← hga] at Xa
 try rw [← hga]
 have HGD : Hid (ga ≠ gb ∧ ga ≠ gr ∧ gb ≠ ga ∧ gb ≠ gr ∧ gr ≠ ga ∧ gr ≠ gb) := by rw [hga, hgb, hgr]; show _ ∧ _; omega
 clear hga hgb hgr;replace hbw := bon hbw hb0;clear hb0
 refine (dform_t (H.out.below hbw)).mono ?_
 rintro e v1 ⟨rfl, hb1⟩;replace Xa := B3q.b Xa hb1;replace Xb := B3q.b Xb hb1;replace Xr := B3q.b Xr hb1;replace hbw := bon hbw hb1;clear hb1;obtain ⟨cb0, cb1, cb2, fb0, fb1, fb2⟩ := Xb.out;have hneb : gb < v1.heap.size := blt cb0;go_wp2_with fail;clear cb0 cb1 cb2 fb0 fb1 fb2 hneb
 refine (dform_t (K.out.below hbw)).mono ?_
 rintro e v2 ⟨rfl, hb2⟩;replace Xa := B3q.b Xa hb2;replace Xb := B3q.b Xb hb2;replace Xr := B3q.b Xr hb2;replace hbw := bon hbw hb2;clear hb2;obtain ⟨ca0, ca1, ca2, fa0, fa1, fa2⟩ := Xa.out;have hnea : ga < v2.heap.size := blt ca0;obtain ⟨cb0, cb1, cb2, fb0, fb1, fb2⟩ := Xb.out;have hneb : gb < v2.heap.size := blt cb0;go_wp2_with fail;clear ca0 ca1 ca2 fa0 fa1 fa2 hnea cb0 cb1 cb2 fb0 fb1 fb2 hneb
 refine (zsign (H.out.zn.below hbw)).mono ?_
 rintro e v3 ⟨rfl, hb3⟩;obtain ⟨sg3, hsg⟩ := exq (sgnI (x));rw [← hsg]
 have hs3 : (sg3 == 0) = false := by rw [hsg]; have := HL.out.1; unfold sgnI; split <;> (try split) <;> simp <;> omega
 clear hsg;replace Xa := B3q.b Xa hb3;replace Xb := B3q.b Xb hb3;replace Xr := B3q.b Xr hb3;replace hbw := bon hbw hb3;clear hb3;obtain ⟨cb0, cb1, cb2, fb0, fb1, fb2⟩ := Xb.out;have hneb : gb < v3.heap.size := blt cb0;go_wp2_with fail;clear cb0 cb1 cb2 fb0 fb1 fb2 hneb hs3
 refine (zsign (K.out.zn.below hbw)).mono ?_
 rintro e v4 ⟨rfl, hb4⟩;obtain ⟨sg4, hsg⟩ := exq (sgnI (y));rw [← hsg]
 have hs4 : (sg4 == 0) = false := by rw [hsg]; have := HL.out.2.1; unfold sgnI; split <;> (try split) <;> simp <;> omega
 clear hsg;replace Xa := B3q.b Xa hb4;replace Xb := B3q.b Xb hb4;replace Xr := B3q.b Xr hb4;replace hbw := bon hbw hb4;clear hb4;obtain ⟨ca0, ca1, ca2, fa0, fa1, fa2⟩ := Xa.out;have hnea : ga < v4.heap.size := blt ca0;obtain ⟨cb0, cb1, cb2, fb0, fb1, fb2⟩ := Xb.out;have hneb : gb < v4.heap.size := blt cb0;go_wp2_with fail;clear ca0 ca1 ca2 fa0 fa1 fa2 hnea cb0 cb1 cb2 fb0 fb1 fb2 hneb hs4
 refine (daligned (H.out.zn.below hbw) (K.out.zn.below hbw) HG.out.1 HE.out HL.out.2.2.1 HL.out.2.2.2.1).mono ?_
 rintro e2 v5 ⟨s5, p5, m5, s6, p6, m6, rfl, hz5, hz6, hb5⟩;rw [← HXY.out.1] at hz5;rw [← HXY.out.2] at hz6;replace Xa := B3q.b Xa hb5;replace Xb := B3q.b Xb hb5;replace Xr := B3q.b Xr hb5;replace hbw := bon hbw hb5;clear hb5;have Z5 := hdQ hz5;have Z6 := hdQ hz6;clear hz5 hz6;go_wp2_with fail
 rw [show v5.heap.size + 1 = (v5.alloc (.cells #[.bool s5, .slice p5 m5 m5] 24)).heap.size from by simp]
 have Xx0 : Hid (Box (v5.alloc (.cells #[.bool s5, .slice p5 m5 m5] 24)) v5.heap.size (.bool s5) (.slice p5 m5 m5)) := Box.new v5 _ _ _;have hbn : Below v5.heap.size v5 (v5.alloc (.cells #[.bool s5, .slice p5 m5 m5] 24)) := below1 v5 _;generalize v5.alloc (.cells #[.bool s5, .slice p5 m5 m5] 24) = Wx at *;have HGx : Hid (w.heap.size ≤ v5.heap.size) := hbw.size;replace Xa := B3q.b Xa hbn;replace Xb := B3q.b Xb hbn;replace Xr := B3q.b Xr hbn;replace Z5 := ZN.b Z5 hbn;replace Z6 := ZN.b Z6 hbn;replace hbw := bon hbw hbn;clear hbn;generalize v5.heap.size = gx at *;have Xx := Xx0;clear Xx0;have Xy0 : Hid (Box (Wx.alloc (.cells #[.bool s6, .slice p6 m6 m6] 24)) Wx.heap.size (.bool s6) (.slice p6 m6 m6)) := Box.new Wx _ _ _;have hbn : Below Wx.heap.size Wx (Wx.alloc (.cells #[.bool s6, .slice p6 m6 m6] 24)) := below1 Wx _;generalize Wx.alloc (.cells #[.bool s6, .slice p6 m6 m6] 24) = Wy at *;have HGy : Hid (w.heap.size ≤ Wx.heap.size) := hbw.size
 replace Xa := B3q.b Xa hbn;replace Xb := B3q.b Xb hbn;replace Xr := B3q.b Xr hbn;replace Xx := Box.b Xx hbn;replace Z5 := ZN.b Z5 hbn;replace Z6 := ZN.b Z6 hbn;replace hbw := bon hbw hbn;clear hbn;generalize Wx.heap.size = gy at *;have Xy := Xy0;clear Xy0
 refine (zadd Z5.out Z6.out).mono ?_
 rintro e2 v7 ⟨ha, hb7⟩;obtain ⟨s7, p7, m7, rfl, hz⟩ := ha.got HL.out.2.2.2.2;clear ha;replace Xa := B3q.b Xa hb7;replace Xb := B3q.b Xb hb7;replace Xr := B3q.b Xr hb7;replace Xx := Box.b Xx hb7;replace Xy := Box.b Xy hb7;replace Z5 := ZN.b Z5 hb7;replace Z6 := ZN.b Z6 hb7;replace hbw := bon hbw hb7;clear hb7;have Z7 := hdQ hz;clear hz;go_wp2_with fail;have Xq0 : Hid (Box (v7.alloc (.cells #[.bool s7, .slice p7 m7 m7] 24)) v7.heap.size (.bool s7) (.slice p7 m7 m7)) := Box.new v7 _ _ _;have hbn : Below v7.heap.size v7 (v7.alloc (.cells #[.bool s7, .slice p7 m7 m7] 24)) := below1 v7 _;generalize v7.alloc (.cells #[.bool s7, .slice p7 m7 m7] 24) = Wq at *;have HGq : Hid (w.heap.size ≤ v7.heap.size) := hbw.size;replace Xa := B3q.b Xa hbn;replace Xb := B3q.b Xb hbn;replace Xr := B3q.b Xr hbn;replace Xx := Box.b Xx hbn;replace Xy := Box.b Xy hbn;replace Z5 := ZN.b Z5 hbn;replace Z6 := ZN.b Z6 hbn
 replace Z7 := ZN.b Z7 hbn;replace hbw := bon hbw hbn;clear hbn;generalize v7.heap.size = gq at *;have Xq := Xq0;clear Xq0 Xx Xy Z5 Z6;have HRL : Hid (gr < Wq.heap.size ∧ w.heap.size ≤ Wq.heap.size) := ⟨Xr.out.lt, hbw.size⟩
 refine (makep Z7.out (by have := HG.out; omega) (TB.out.below hbw)).mono ?_
 rintro e2 v6 ⟨hv, hb6⟩;obtain ⟨s6, p6, m6, eo, er, rfl, hmp⟩ := hv.open;clear hv;replace Xa := B3q.b Xa hb6;replace Xb := B3q.b Xb hb6;replace Xr := B3q.b Xr hb6;replace Xq := Box.b Xq hb6;replace Z7 := ZN.b Z7 hb6;replace hbw := bon hbw hb6;clear hb6;have M6 := hdQ hmp;clear hmp;obtain ⟨cr0, cr1, cr2, fr0, fr1, fr2⟩ := Xr.out;have hner : gr < v6.heap.size := blt cr0;go_wp2_with fail
 refine bodyPost_ret (v := .tuple #[DV s6 p6 m6 m6 eo, .int .i64 er]) (by rw [results_cell_tmp rfl]; go_simp) rfl ⟨(M6.out.set HRL.out.1 HRL.out.2 _ _ _).close, ?_⟩
 exact bSet (bSet (bSet hbw _ _ _ HGr.out) _ _ _ HGr.out) _ _ _ HGr.out
theorem dadd_v {p q : Option Addr} {m c n d : Nat} {w : World} {x y e f zt et : Int} {s t : Bool} (h : DN w s p m c e x) (k : DN w t q n d f y) (hf : DFm zt et) (hv : dv zt et = dv x e + dv y f) (hl : x ≠ 0 → y ≠ 0 → (x * 2 ^ (e - min e f).toNat).natAbs < LIM ∧ (y * 2 ^ (f - min e f).toNat).natAbs < LIM ∧ (x * 2 ^ (e - min e f).toNat + y * 2 ^ (f - min e f).toNat).natAbs < LIM) (hT : Tab w) :
  Calls Tryz.prog 30 #[DV s p m c e, DV t q n d f] w fun en w' => ∃ v, en = .returned (.tuple #[v, .int .i64 0]) ∧ AnsD w.heap.size w' v zt et ∧ Below w.heap.size w w' := by
 by_cases hx : x = 0
 ·refine (dadd_x h k hx).mono fun en w' ⟨v, h1, h2, h3⟩ => ?_
  obtain ⟨rfl, rfl⟩ := dv_inj hf k.fm (by rw [hv, hx, dv_zero]; omega)
  exact ⟨v, h1, h2, h3⟩
 by_cases hy : y = 0
 ·refine (dadd_y h k ⟨hx, hy⟩).mono fun en w' ⟨v, h1, h2, h3⟩ => ?_
  obtain ⟨rfl, rfl⟩ := dv_inj hf h.fm (by rw [hv, hy, dv_zero]; omega)
  exact ⟨v, h1, h2, h3⟩
 obtain ⟨l1, l2, l3⟩ := hl hx hy
 refine (dadd_m h k hx hy rfl l1 l2 l3 hT).mono fun en w' ⟨h1, h2⟩ => ?_
 obtain ⟨v, h3, h4⟩ := h1.form hf (by
  have he : -1048576 ≤ e := by rcases h.fm with ⟨h0, _⟩ | ⟨_, h5, _⟩; (exact absurd h0 hx); exact h5
  have hff : -1048576 ≤ f := by rcases k.fm with ⟨h0, _⟩ | ⟨_, h5, _⟩; (exact absurd h0 hy); exact h5
  rw [hv, dv_add, pow_cast, pow_cast, ← dv_shift (by omega) (by omega), ← dv_shift (by omega) (by omega)])
 exact ⟨v, h3, h4, h2⟩
theorem dn_formD {p : Option Addr} {m c : Nat} {xs : List Nat} {w : World} {z e : Int} {s : Bool} (h : DN w s p m c e z) (hX : Num w p m c xs z.natAbs) : formD s xs e = true := by
  have h1 := hX.nf.form (by rw [hX.at_.len]; exact hX.le)
  have hv := val_mod2 xs;have hval : valB B64 xs = z.natAbs := hX.nf.val;have hsg := h.zn.sg;unfold formD
  rcases h.fm with ⟨h2, h3⟩ | ⟨h2, h3, h4⟩
  · subst h2
    subst h3;have hx : xs = [] := (hX.nf.zero_iff B64_one).2 rfl;subst hx;rw [h1, hsg]
    rfl
  · have h0 : ¬ xs.length = 0 := by
      intro e0
      have hx : xs = [] := List.eq_nil_of_length_eq_zero e0;subst hx;have : z.natAbs = 0 := hval.symm
      omega
    rw [h1, decide_eq_true h3, decide_eq_true h4, if_neg h0, decide_eq_true (p := xs.getD 0 0 % 2 = 1) (by omega)]
    rfl
structure RSubR (w : World) (g N : Nat) (xs ys : List Nat) (i ow : Nat) (ss : List Nat) (wr : World) : Prop where
 bel : Below g w wr
 own : wr.ownsRow g 92 1 (.slice (some ⟨g, 0, none⟩) i N) i (cellsV ss)
 len : ss.length = i
 dig : Dig B32 ss
 car : ow ≤ 1
 sum : valB B32 ss + valB B32 (ys.take i) = valB B32 (xs.take i) + B32 ^ i * ow
theorem rsub_step {xs ys ss : List Nat} {i ow x y lo o2 : Nat} (h : valB B32 ss + valB B32 (ys.take i) = valB B32 (xs.take i) + B32 ^ i * ow) (hl : ss.length = i) (ex : x = xs.getD i 0) (ey : y = ys.getD i 0) (hs : lo + ow + y = x + B32 * o2) :
  valB B32 (ss ++ [lo]) + valB B32 (ys.take (i + 1)) = valB B32 (xs.take (i + 1)) + B32 ^ (i + 1) * o2 := by
 rw [valB_snoc, hl, valB_take_any _ xs i, valB_take_any _ ys i, ← ex, ← ey, Nat.pow_succ]
 have e1 : B32 ^ i * (lo + ow + y) = B32 ^ i * (x + B32 * o2) := by rw [hs]
 rw [Nat.mul_add, Nat.mul_add, Nat.mul_add, ← Nat.mul_assoc] at e1
 omega
theorem RSubR.at_ {w : World} {g N : Nat} {xs ys : List Nat} {i cy : Nat} {ss : List Nat} {wr : World} (h : RSubR w g N xs ys i cy ss wr) : At32 wr (some ⟨g, 0, none⟩) i N ss := by
  rcases h.own.2 with ⟨h', _⟩ | ⟨g', cap', cur, h', hbase, hgc, hcap', hmx, hsz, htake⟩
  · simp at h'
  · simp only [Value.slice.injEq, Option.some.injEq, Addr.mk.injEq, and_true, true_and] at h'
    obtain ⟨rfl, rfl⟩ := h'
    refine ⟨h.len, hcap', hmx, h.dig, .inr ⟨g, 0, rfl, fun jj hj => ?_⟩⟩
    rw [Nat.zero_add, cell_of_row wr g jj _ _ _ hgc]
    have e1 := cellsV_get ss jj (by rw [h.len]; exact hj)
    rw [← htake, Nat.mul_one, List.getElem?_take, if_pos hj] at e1;rw [← Array.getElem?_toList]; exact e1

theorem rsub_gt {p q : Option Addr} {n m c d : Nat} {xs ys : List Nat} {a b : Nat} {w : World} (h : At32 w p n c xs) (k : At32 w q m d ys) (hx : Nf B32 xs a) (hy : Nf B32 ys b) (hn : n ≤ 4398046511104) (hlt : b < a) :
  Calls Tryz.prog 125 #[.slice p n c, .slice q m d] w fun e w' => ∃ p' m' zs, e = .returned (.slice p' m' m') ∧ At32 w' p' m' m' zs ∧ Nf B32 zs (a - b) ∧ m' ≤ n ∧ Below w.heap.size w w' := by
 obtain ⟨i0, hi, hz0, hz1, hz2⟩ := info_parts Tryz.infoU32;have HX := hdQ hx;have HY := hdQ hy;have HLX : Hid (xs.length = n) := h.len;have HLY : Hid (ys.length = m) := k.len;have HLT : Hid (b < a) := hlt
 have hmn : m ≤ n := by
  rcases Nat.lt_or_ge n m with e | e
  ·exfalso
   have h1 := nf32_lt hx (K := n) (by rw [h.len]; exact Nat.le_refl _)
   have h2 := nf32_ge hy (K := n) (by rw [k.len]; exact e)
   omega
  ·exact e
 have hcap := h.cap; have hbig := h.big; have kcap := k.cap; have kbig := k.big;unfold maxLen at hbig kbig;have HA := hdQ h;have HB := hdQ k;clear hx hy h k hlt
 go_enter Tryz.func125, Tryz.ntmps125
 go_wp2_with fail
 refine (rcmp_any HA.out HB.out HX.out HY.out).mono ?_
 rintro e w' ⟨rfl, r, rfl⟩;rw [cmpN_gt HLT.out];have h := HA.out.drewN r;have k := HB.out.drewN r;have hb0 : Below w.heap.size w (w.drewN r) := bDrewN (Below.refl _ _) r;clear HA HB;generalize w.drewN r = w0 at *
 go_wp2_with (at_make; refine wpList_make_own _ rfl _ _ 65 rfl w0.heap.size 92 i0 (.int .u32 0) 1 Tryz.underlying65 hi hz0 hz1 _ _ _ n rfl rfl (by omega) (by rw [hz2]; omega) (by unfold maxLen; omega) (Nat.le_refl _) ?_; intro w1 hown hgrow)
 have hb1 : Below w0.heap.size w0 w1 := (Below.refl _ _).grown hgrow (Nat.le_refl _) (fun k hk => by simp at hk)
 have HO : Hid (RSubR w0 w0.heap.size n xs ys 0 0 [] w1) := ⟨hb1, hown, rfl, Dig.nil _, by omega, by simp [valB]⟩
 clear hown hgrow hb1
 go_loopg [5, 6, 7] n (fun gk sv ov iv wr => ∃ (i ow : Nat) (ss : List Nat), i + gk = n ∧ iv = .int .i64 i ∧ ov = U ow ∧ sv = .slice (some ⟨w0.heap.size, 0, none⟩) i n ∧ Hid (RSubR w0 w0.heap.size n xs ys i ow ss wr))
 case atStart => exact ⟨0, 0, [], by omega, rfl, rfl, rfl, HO⟩
 case round =>
  obtain ⟨i, ow, ss, hig, rfl, rfl, rfl, HR⟩ := hrel;have how := HR.out.car
  cases gk with
  | zero =>
   obtain rfl : i = n := by omega
   have A32 := HR.out.at_;have hv := HR.out.sum
   rw [List.take_of_length_le (l := ys) (by rw [HLY.out]; omega), List.take_of_length_le (l := xs) (by rw [HLX.out]; omega), HX.out.val, HY.out.val] at hv
   have hvl := valB_lt B32_pos HR.out.dig;rw [HR.out.len] at hvl;have hsv : valB B32 ss = a - b := sub_abs hv hvl how (Nat.le_of_lt HLT.out)
   have HNF : Hid (Nf B32 (trimL ss) (a - b)) := by
    have := Nf.trim HR.out.dig;rw [hsv] at this; exact this
   have hle := trimL_length_le ss
   have HLE : Hid ((trimL ss).length ≤ i) := by have := HR.out.len; show _ ≤ _; omega
   have hbx := HR.out.bel
   have hni : ¬ (i : Int) < (i : Int) := by omega
   clear hv hle hvl hsv;go_wp2_with fail
   refine (rnorm_any A32 (by omega)).mono ?_
   rintro e w5 ⟨g5, rfl, hg5, hblk5, hb5⟩;have hd5 := HNF.out.dig;generalize trimL ss = zs at *;go_wp2_with fail
   go_ret
   exact ⟨_, _, zs, rfl, hblk5.at_ hd5 rfl (by have := HLE.out; unfold maxLen; omega), HNF.out, HLE.out, Below.on hb0 (Below.on hbx hb5)⟩
  | succ gg =>
   obtain ⟨x, hx⟩ := exq (xs.getD i 0);obtain ⟨y, hy⟩ := exq (ys.getD i 0)
   have hxb : x < B32 := by rw [hx]; exact HX.out.dig.getD B32_pos i
   have hyb : y < B32 := by rw [hy]; exact HY.out.dig.getD B32_pos i
   have HXE : Hid (x = xs.getD i 0) := hx;have HYE : Hid (y = ys.getD i 0) := hy
   have hin : i < n := by omega
   obtain ⟨g, off, rfl, hc⟩ := h.cells.resolve_left (by omega)
   have hcx0 : w0.cell? ⟨g, off + i, none⟩ = some (V x) := by rw [HXE.out]; exact hc i hin
   have hcx : wr.cell? ⟨g, off + i, none⟩ = some (V x) := (HR.out.bel.cell (p := ⟨g, off + i, none⟩) (World.block_lt_of_cell? w0 _ hcx0)).trans hcx0
   have hxw : IntKind.u64.wrap (x : Int) = (x : Int) := wrap_mod _ _ (by rw [B32_eq] at hxb; omega)
   have hyw : IntKind.u64.wrap (y : Int) = (y : Int) := wrap_mod _ _ (by rw [B32_eq] at hyb; omega)
   rw [B32_eq] at hxb hyb
   have hsp : i + 1 ≤ n := by omega
   clear hc hcx0 hx hy
   by_cases hb : i < m
   ·have him : i < m := hb
    obtain ⟨g2, off2, rfl, hc2⟩ := k.cells.resolve_left (by omega)
    have hcy0 : w0.cell? ⟨g2, off2 + i, none⟩ = some (V y) := by rw [HYE.out]; exact hc2 i him
    have hcy1 : wr.cell? ⟨g2, off2 + i, none⟩ = some (V y) := (HR.out.bel.cell (p := ⟨g2, off2 + i, none⟩) (World.block_lt_of_cell? w0 _ hcy0)).trans hcy0;clear hc2 hcy0;obtain ⟨t, et⟩ := exq (ow + y)
    have f1 : IntKind.u64.wrap ((ow : Int) + (y : Int)) = (t : Int) := wrap_mod _ _ (by omega)
    by_cases hu : x < t
    ·obtain ⟨x2, ex2⟩ := exq (x + 4294967296)
     have f2 : IntKind.u64.wrap ((x : Int) + 4294967296) = (x2 : Int) := wrap_mod _ _ (by omega)
     obtain ⟨lo, elo⟩ := exq (x2 - t)
     have f3 : IntKind.u64.wrap ((x2 : Int) - (t : Int)) = (lo : Int) := wrap_mod _ _ (by omega)
     have hui : (x : Int) < (t : Int) := by omega
     have hlob : lo < B32 := by rw [B32_eq]; omega
     have f6 : IntKind.u32.wrap (lo : Int) = (lo : Int) := wrap32 lo hlob
     have f7 : (lo : Int) % 4294967296 = (lo : Int) := by rw [B32_eq] at hlob; omega
     have HSUM : Hid (lo + ow + y = x + B32 * 1) := by show _ = _; rw [B32_eq]; omega
     have HOA : Hid ((wr.alloc (.cells #[V lo] 92)).ownsRow w0.heap.size 92 1 (.slice (some ⟨w0.heap.size, 0, none⟩) i n) i (cellsV ss)) := HR.out.own.alloc _;clear elo ex2 et hxb hyb
     go_wp2_with (at_builtin; refine wpList_append_fits _ rfl (.tmp 46) (.tmp 51) 65 rfl w0.heap.size 92 i0 1 Tryz.underlying65 hi hz1 w0.heap.size i n (cellsV ss) rfl HOA.out ⟨wr.heap.size, 0, none⟩ 1 1 [V lo] rfl rfl (one_cell wr lo) (by intro u hu; simp at hu; subst hu; rfl) hsp ?_; intro w3 hw3 hgr3)
     have HR3 : Hid (RSubR w0 w0.heap.size n xs ys (i + 1) 1 (ss ++ [lo]) w3) := by
      have hR := HR.out
      refine ⟨(hR.bel.alloc hR.bel.size _).grown hgr3 (by have := hR.bel.size; simp; omega) (fun q hq => by simp at hq; omega), ?_, by simp [hR.len], hR.dig.append (Dig.cons hlob (Dig.nil _)), by omega, rsub_step hR.sum hR.len HXE.out HYE.out HSUM.out⟩
      have e0 : cellsV (ss ++ [lo]) = cellsV ss ++ [V lo] := by unfold cellsV; rw [List.map_append]; rfl
      rw [e0]; exact hw3
     clear hw3 hgr3
     go_roundg gg
     case measure => omega
     case rel => exact ⟨i + 1, 1, ss ++ [lo], by omega, by go_num, rfl, rfl, HR3⟩
    ·obtain ⟨lo, elo⟩ := exq (x - t)
     have f3 : IntKind.u64.wrap ((x : Int) - (t : Int)) = (lo : Int) := wrap_mod _ _ (by omega)
     have hui : ¬ (x : Int) < (t : Int) := by omega
     have hlob : lo < B32 := by rw [B32_eq]; omega
     have f6 : IntKind.u32.wrap (lo : Int) = (lo : Int) := wrap32 lo hlob
     have f7 : (lo : Int) % 4294967296 = (lo : Int) := by rw [B32_eq] at hlob; omega
     have HSUM : Hid (lo + ow + y = x + B32 * 0) := by show _ = _; rw [B32_eq]; omega
     have HOA : Hid ((wr.alloc (.cells #[V lo] 92)).ownsRow w0.heap.size 92 1 (.slice (some ⟨w0.heap.size, 0, none⟩) i n) i (cellsV ss)) := HR.out.own.alloc _;clear elo et hxb hyb
     go_wp2_with (at_builtin; refine wpList_append_fits _ rfl (.tmp 46) (.tmp 51) 65 rfl w0.heap.size 92 i0 1 Tryz.underlying65 hi hz1 w0.heap.size i n (cellsV ss) rfl HOA.out ⟨wr.heap.size, 0, none⟩ 1 1 [V lo] rfl rfl (one_cell wr lo) (by intro u hu; simp at hu; subst hu; rfl) hsp ?_; intro w3 hw3 hgr3)
     have HR3 : Hid (RSubR w0 w0.heap.size n xs ys (i + 1) 0 (ss ++ [lo]) w3) := by
      have hR := HR.out
      refine ⟨(hR.bel.alloc hR.bel.size _).grown hgr3 (by have := hR.bel.size; simp; omega) (fun q hq => by simp at hq; omega), ?_, by simp [hR.len], hR.dig.append (Dig.cons hlob (Dig.nil _)), by omega, rsub_step hR.sum hR.len HXE.out HYE.out HSUM.out⟩
      have e0 : cellsV (ss ++ [lo]) = cellsV ss ++ [V lo] := by unfold cellsV; rw [List.map_append]; rfl
      rw [e0]; exact hw3
     clear hw3 hgr3
     go_roundg gg
     case measure => omega
     case rel => exact ⟨i + 1, 0, ss ++ [lo], by omega, by go_num, rfl, rfl, HR3⟩
   ·have hy0 : y = 0 := by rw [HYE.out, List.getD_eq_getElem?_getD, List.getElem?_eq_none (by rw [HLY.out]; omega)]; rfl
    have HY0 : Hid (y = 0) := hy0;clear hy0
    by_cases hu : x < ow
    ·obtain ⟨x2, ex2⟩ := exq (x + 4294967296)
     have f2 : IntKind.u64.wrap ((x : Int) + 4294967296) = (x2 : Int) := wrap_mod _ _ (by omega)
     obtain ⟨lo, elo⟩ := exq (x2 - ow)
     have f3 : IntKind.u64.wrap ((x2 : Int) - (ow : Int)) = (lo : Int) := wrap_mod _ _ (by omega)
     have hui : (x : Int) < (ow : Int) := by omega
     have hlob : lo < B32 := by rw [B32_eq]; omega
     have f6 : IntKind.u32.wrap (lo : Int) = (lo : Int) := wrap32 lo hlob
     have f7 : (lo : Int) % 4294967296 = (lo : Int) := by rw [B32_eq] at hlob; omega
     have HSUM : Hid (lo + ow + y = x + B32 * 1) := by have h0 := HY0.out; show _ = _; rw [B32_eq]; omega
     have HOA : Hid ((wr.alloc (.cells #[V lo] 92)).ownsRow w0.heap.size 92 1 (.slice (some ⟨w0.heap.size, 0, none⟩) i n) i (cellsV ss)) := HR.out.own.alloc _;clear elo ex2 hxb hyb
     go_wp2_with (at_builtin; refine wpList_append_fits _ rfl (.tmp 46) (.tmp 51) 65 rfl w0.heap.size 92 i0 1 Tryz.underlying65 hi hz1 w0.heap.size i n (cellsV ss) rfl HOA.out ⟨wr.heap.size, 0, none⟩ 1 1 [V lo] rfl rfl (one_cell wr lo) (by intro u hu; simp at hu; subst hu; rfl) hsp ?_; intro w3 hw3 hgr3)
     have HR3 : Hid (RSubR w0 w0.heap.size n xs ys (i + 1) 1 (ss ++ [lo]) w3) := by
      have hR := HR.out
      refine ⟨(hR.bel.alloc hR.bel.size _).grown hgr3 (by have := hR.bel.size; simp; omega) (fun q hq => by simp at hq; omega), ?_, by simp [hR.len], hR.dig.append (Dig.cons hlob (Dig.nil _)), by omega, rsub_step hR.sum hR.len HXE.out HYE.out HSUM.out⟩
      have e0 : cellsV (ss ++ [lo]) = cellsV ss ++ [V lo] := by unfold cellsV; rw [List.map_append]; rfl
      rw [e0]; exact hw3
     clear hw3 hgr3
     go_roundg gg
     case measure => omega
     case rel => exact ⟨i + 1, 1, ss ++ [lo], by omega, by go_num, rfl, rfl, HR3⟩
    ·obtain ⟨lo, elo⟩ := exq (x - ow)
     have f3 : IntKind.u64.wrap ((x : Int) - (ow : Int)) = (lo : Int) := wrap_mod _ _ (by omega)
     have hui : ¬ (x : Int) < (ow : Int) := by omega
     have hlob : lo < B32 := by rw [B32_eq]; omega
     have f6 : IntKind.u32.wrap (lo : Int) = (lo : Int) := wrap32 lo hlob
     have f7 : (lo : Int) % 4294967296 = (lo : Int) := by rw [B32_eq] at hlob; omega
     have HSUM : Hid (lo + ow + y = x + B32 * 0) := by have h0 := HY0.out; show _ = _; rw [B32_eq]; omega
     have HOA : Hid ((wr.alloc (.cells #[V lo] 92)).ownsRow w0.heap.size 92 1 (.slice (some ⟨w0.heap.size, 0, none⟩) i n) i (cellsV ss)) := HR.out.own.alloc _;clear elo hxb hyb
     go_wp2_with (at_builtin; refine wpList_append_fits _ rfl (.tmp 46) (.tmp 51) 65 rfl w0.heap.size 92 i0 1 Tryz.underlying65 hi hz1 w0.heap.size i n (cellsV ss) rfl HOA.out ⟨wr.heap.size, 0, none⟩ 1 1 [V lo] rfl rfl (one_cell wr lo) (by intro u hu; simp at hu; subst hu; rfl) hsp ?_; intro w3 hw3 hgr3)
     have HR3 : Hid (RSubR w0 w0.heap.size n xs ys (i + 1) 0 (ss ++ [lo]) w3) := by
      have hR := HR.out
      refine ⟨(hR.bel.alloc hR.bel.size _).grown hgr3 (by have := hR.bel.size; simp; omega) (fun q hq => by simp at hq; omega), ?_, by simp [hR.len], hR.dig.append (Dig.cons hlob (Dig.nil _)), by omega, rsub_step hR.sum hR.len HXE.out HYE.out HSUM.out⟩
      have e0 : cellsV (ss ++ [lo]) = cellsV ss ++ [V lo] := by unfold cellsV; rw [List.map_append]; rfl
      rw [e0]; exact hw3
     clear hw3 hgr3
     go_roundg gg
     case measure => omega
     case rel => exact ⟨i + 1, 0, ss ++ [lo], by omega, by go_num, rfl, rfl, HR3⟩

theorem lit_at32q (w : World) (x y : Nat) (hx : x < B32) (hy : y < B32) : At32 (w.alloc (.cells #[V x, V y] 92)) (some ⟨w.heap.size, 0, none⟩) 2 2 [x, y] := by
  refine ⟨rfl, Nat.le_refl _, by decide, ?_, .inr ⟨w.heap.size, 0, rfl, ?_⟩⟩
  · intro z hz
    simp at hz
    rcases hz with rfl | rfl <;> assumption
  · intro j hj
    match j, hj with
    | 0, _ => exact World.cell?_alloc_new ..
    | 1, _ => exact World.cell?_alloc_new ..
theorem nf32_nilq : Nf B32 [] 0 := ⟨Dig.nil _, by intro x hx; simp at hx, rfl⟩
theorem rword0 (w : World) : Calls Tryz.prog 63 #[.int .u64 0] w fun e w' => ∃ g, e = .returned (.slice (some ⟨g, 0, none⟩) 0 0) ∧ Below w.heap.size w w' := by
  go_enter Tryz.func63, Tryz.ntmps63
  go_wp2_with fail
  refine (rnorm_any (lit_at32q w 0 0 (by decide) (by decide)) (by omega)).mono ?_
  rw [show trimL [0, 0] = [] from by decide]
  rintro e w1 ⟨g, rfl, hg, hb, hbl⟩;have hbw := Below.on (below1 w _) hbl;clear hb hbl;go_wp2_with fail
  go_ret
  exact ⟨g, rfl, hbw⟩
theorem rsub_any {p q : Option Addr} {n m c d : Nat} {xs ys : List Nat} {a b : Nat} {w : World} (h : At32 w p n c xs) (k : At32 w q m d ys) (hx : Nf B32 xs a) (hy : Nf B32 ys b) (hn : n ≤ 4398046511104) (hle : b ≤ a) :
  Calls Tryz.prog 125 #[.slice p n c, .slice q m d] w fun e w' => ∃ p' m' zs, e = .returned (.slice p' m' m') ∧ At32 w' p' m' m' zs ∧ Nf B32 zs (a - b) ∧ m' ≤ n ∧ Below w.heap.size w w' := by
 rcases Nat.lt_or_ge b a with hlt | hge
 ·exact rsub_gt h k hx hy hn hlt
 ·have HE : Hid (a = b) := Nat.le_antisymm hge hle
  have HA := hdQ h;have HB := hdQ k;have HX := hdQ hx;have HY := hdQ hy;clear h k hx hy hle hge
  go_enter Tryz.func125, Tryz.ntmps125
  go_wp2_with fail
  refine (rcmp_any HA.out HB.out HX.out HY.out).mono ?_
  rintro e w' ⟨rfl, r, rfl⟩;rw [cmpN_eq HE.out];have hb0 : Below w.heap.size w (w.drewN r) := bDrewN (Below.refl _ _) r;generalize w.drewN r = w0 at *;go_wp2_with fail
  refine (rword0 w0).mono ?_
  rintro e w1 ⟨g, rfl, hb1⟩;have hbw := Below.on hb0 hb1;clear hb1 hb0;go_wp2_with fail
  go_ret
  exact ⟨_, 0, [], rfl, At32.empty _ _ 0 (by decide), by rw [HE.out, Nat.sub_self]; exact nf32_nilq, by omega, hbw⟩
structure ZR (w : World) (s : Bool) (p : Option Addr) (m : Nat) (z : Int) : Prop where
 ex : ∃ zs, At32 w p m m zs ∧ Nf B32 zs z.natAbs
 sg : s = decide (z < 0)
theorem ZR.below {w w' : World} {s : Bool} {p : Option Addr} {m : Nat} {z : Int} (h : ZR w s p m z) (hb : Below w.heap.size w w') : ZR w' s p m z := by
  obtain ⟨zs, hA, hN⟩ := h.ex
  exact ⟨⟨zs, hA.below hb, hN⟩, h.sg⟩
theorem ZR.b {w w' : World} {s : Bool} {p : Option Addr} {m : Nat} {z : Int} (h : Hid (ZR w s p m z)) (hb : Below w.heap.size w w') : Hid (ZR w' s p m z) := ZR.below h hb
theorem ZR.cast {w : World} {s : Bool} {p : Option Addr} {m : Nat} {z z' : Int} (h : ZR w s p m z) (e : z = z') : ZR w s p m z' := e ▸ h
theorem ZR.zero {w : World} {s : Bool} {p : Option Addr} {m : Nat} {z : Int} (h : ZR w s p m z) : m = 0 ↔ z = 0 := by
  obtain ⟨zs, hA, hN⟩ := h.ex;have h1 := hN.zero_iff B32_one;have h2 := hA.len
  constructor
  · intro e
    have := h1.1 (List.eq_nil_of_length_eq_zero (by omega))
    omega
  · intro e
    have := h1.2 (by omega)
    rw [← h2, this]; rfl
theorem ZR.iv {w : World} {s : Bool} {p : Option Addr} {m : Nat} {z : Int} (h : ZR w s p m z) : Go.Proofs.YtpdelpakgdanlaaGreatDoor.iv s z.natAbs = z := by rw [h.sg]; exact iv_abs z
def GotR (B : Nat) (w' : World) (v : Value) (z : Int) (L : Nat) : Prop := ∃ s g m, v = .agg #[.bool s, .slice (some ⟨g, 0, none⟩) m m] ∧ B ≤ g ∧ ZR w' s (some ⟨g, 0, none⟩) m z ∧ m ≤ L
theorem ZR.set {w : World} {s : Bool} {g m : Nat} {z : Int} (h : ZR w s (some ⟨g, 0, none⟩) m z) (g2 o2 : Nat) (v : Value) (hne : g ≠ g2) : ZR (w.setCell ⟨g2, o2, none⟩ v) s (some ⟨g, 0, none⟩) m z := by
  obtain ⟨zs, hA, hN⟩ := h.ex
  exact ⟨⟨zs, hA.setOther g2 o2 v hne, hN⟩, h.sg⟩
theorem rmk_any {p : Option Addr} {n c : Nat} {xs : List Nat} {a : Nat} {w : World} (s : Bool) (h : At32 w p n c xs) (hx : Nf B32 xs a) (hn : n ≤ 35184372088832) :
  Calls Tryz.prog 93 #[.bool s, .slice p n c] w fun e w' => ∃ v, e = .returned v ∧ GotR w.heap.size w' v (iv s a) n ∧ Below w.heap.size w w' := by
 refine (mk04 s h hn).mono ?_
 rintro e w1 ⟨g, m, hm, rfl, hg, hA, hb⟩;rw [trimL_of_Top hx.top] at hm hA;have hl := h.len
 refine ⟨_, rfl, ⟨_, g, m, rfl, hg, ⟨⟨xs, hA, by rw [iv_natAbs]; exact hx⟩, ?_⟩, by omega⟩, hb⟩
 rw [iv_lt]
 have : decide (0 < m) = decide (0 < a) := by
  refine decide_eq_decide.2 ?_
  have h1 := hx.zero_iff B32_one
  constructor
  ·intro h0
   rcases Nat.eq_zero_or_pos a with e | e
   ·have := h1.2 e; rw [this] at hm; simp at hm; omega
   ·exact e
  ·intro h0
   rcases Nat.eq_zero_or_pos m with e | e
   ·have := h1.1 (List.eq_nil_of_length_eq_zero (by omega)); omega
   ·exact e
 rw [this]
theorem rflip_any {p : Option Addr} {m : Nat} {w : World} {z : Int} (s : Bool) (h : ZR w s p m z) (hm : m ≤ 100000) :
  Calls Tryz.prog 113 #[.agg #[.bool s, .slice p m m]] w fun e w' => ∃ v, e = .returned v ∧ GotR w.heap.size w' v (-z) m ∧ Below w.heap.size w w' := by
 have HA := hdQ h;have HM : Hid (m ≤ 100000) := hm;clear h hm
 go_enter Tryz.func113, Tryz.ntmps113
 go_wp2_with fail;obtain ⟨W0, hW0⟩ := exq ((w.alloc (.cells #[.bool s, .slice p m m] 100)).alloc (.cells #[.bool false, .slice none 0 0] 100))
 have Xa : Hid (Box W0 (w.heap.size) (.bool s) (.slice p m m)) := by rw [hW0]; constructor <;> go_simp
 have Xr : Hid (Box W0 (w.heap.size + 1) (.bool false) (.slice none 0 0)) := by rw [hW0]; constructor <;> go_simp
 have hb0 := bq2 hW0;rw [← hW0];clear hW0;have hbw := brf w;obtain ⟨gr, hgr⟩ := exq (w.heap.size + 1);have HGr : Hid (w.heap.size ≤ gr) := hgl hgr;rw [← hgr] at Xr
 try rw [← hgr]
 obtain ⟨ga, hga⟩ := exq w.heap.size;have HGa : Hid (w.heap.size ≤ ga) := hgl hga;rw [← hga] at Xa
 try rw [← hga]
 have HGD : Hid (ga ≠ gr ∧ gr ≠ ga) := by rw [hga, hgr]; show _ ∧ _; omega
 clear hga hgr;replace HA := ZR.b HA hb0;replace hbw := bon hbw hb0;clear hb0;obtain ⟨zs, hA, hN⟩ := HA.out.ex;have HRL : Hid (gr < W0.heap.size) := Xr.out.lt
 have hiv : iv (!s) z.natAbs = -z := by rw [iv_not, HA.out.iv]
 refine (rmk_any (!s) hA hN (by have := HM.out; omega)).mono ?_
 rintro e w1 ⟨v, rfl, hv, hb1⟩;rw [hiv] at hv;obtain ⟨s1, g1, m1, rfl, hg1, hz1, hl1⟩ := hv;clear hA hN hiv;have HGE : Hid (W0.heap.size ≤ g1 ∧ w.heap.size ≤ W0.heap.size) := ⟨hg1, hbw.size⟩;replace Xa := Box.b Xa hb1;replace Xr := Box.b Xr hb1;replace HA := ZR.b HA hb1;replace hbw := bon hbw hb1;clear hb1;have ZA := hdQ hz1;have HL : Hid (m1 ≤ m) := hl1;clear hg1 hz1 hl1;obtain ⟨cr0, cr1, fr0, fr1⟩ := Xr.out;have hner := Xr.out.lt;go_wp2_with fail
 refine bodyPost_ret (v := .agg #[.bool s1, .slice (some ⟨g1, 0, none⟩) m1 m1]) (by rw [results_cell1 rfl]; go_simp) rfl ⟨_, rfl, ⟨s1, g1, m1, rfl, ?_, ?_, HL.out⟩, ?_⟩
 ·exact Nat.le_trans HGE.out.2 HGE.out.1
 ·have := HGE.out.1; have := HRL.out
  exact (ZA.out.set _ _ _ (by omega)).set _ _ _ (by omega)
 ·exact bSet (bSet hbw _ _ _ HGr.out) _ _ _ HGr.out
theorem rfrom5 {p : Option Addr} {n c : Nat} {xs : List Nat} {w : World} (s : Bool) (h : At w p n c xs) (hn : n ≤ 17592186044416) :
  Calls Tryz.prog 73 #[ZV s p n c] w fun e w' => ∃ s' p' m', e = .returned (.agg #[.bool s', .slice p' m' m']) ∧ ZR w' s' p' m' (iv s (valB B64 xs)) ∧ m' ≤ 2 * n ∧ Below w.heap.size w w' := by
 refine (from04 s h hn).mono ?_
 rintro e w1 ⟨p1, m1, z1, rfl, hA, hN, hl, hb⟩
 refine ⟨_, p1, m1, rfl, ⟨⟨z1, hA, by rw [iv_natAbs]; exact hN⟩, ?_⟩, hl, hb⟩
 rw [iv_lt]
 have : decide (0 < m1) = decide (0 < valB B64 xs) := by
  refine decide_eq_decide.2 ?_
  have h1 := hN.zero_iff B32_one;have h2 := hA.len
  constructor
  ·intro h0
   rcases Nat.eq_zero_or_pos (valB B64 xs) with e | e
   ·have := h1.2 e; rw [this] at h2; simp at h2; omega
   ·exact e
  ·intro h0
   rcases Nat.eq_zero_or_pos m1 with e | e
   ·have := h1.1 (List.eq_nil_of_length_eq_zero (by omega)); omega
   ·exact e
 rw [this]
theorem DN.set {w : World} {s : Bool} {g m c : Nat} {e z : Int} (h : DN w s (some ⟨g, 0, none⟩) m c e z) (g2 o2 : Nat) (v : Value) (hne : g ≠ g2) : DN (w.setCell ⟨g2, o2, none⟩ v) s (some ⟨g, 0, none⟩) m c e z := by
  obtain ⟨xs, hX⟩ := h.zn.ex
  exact ⟨⟨⟨xs, hX.at_.setOther g2 o2 v hne, hX.nf, hX.le⟩, h.zn.sg⟩, h.fm⟩
theorem isnan_i (x : Int) (w : World) : Calls Tryz.prog 89 #[.int .i64 x] w fun en w' => en = .returned (.bool false) ∧ w' = w := by
  have hb : (x == x) = true := by simp
  have hc : (x != x) = false := by simp
  go_enter Tryz.func89, Tryz.ntmps89
  go_wp2_with fail
  go_ret
  exact ⟨rfl, rfl⟩
end Go.Proofs.YtpdelpakgdanlaaGreatDoor
