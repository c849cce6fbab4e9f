import Derived.Test.YtmlclpjimkjjeaaGreatDoorJ12
namespace Go.Proofs.YtmlclpjimkjjeaaGreatDoor
open Go.RowKit Go.Shelf
set_option maxRecDepth 20000
set_option maxHeartbeats 0
theorem results_c2t1 {fn : Func} {p u t1 : Tmp} {ty ty2 : TypeId} (h : fn.results = #[.cell p ty, .cell u ty2, .tmp t1]) (tmps : Array Value) (P : Program) (w : World) :
  (results fn tmps).run P w = ((asAddr (tmps.getD p undef)).run P w).andThen fun a w₁ => ((loadVar ty a).run P w₁).andThen fun v w₂ => ((asAddr (tmps.getD u undef)).run P w₂).andThen fun b w₃ => ((loadVar ty2 b).run P w₃).andThen fun v2 w₄ => .ok (.tuple #[v, v2, tmps.getD t1 undef]) w₄ := by
 simp only [results, h]
 simp [Sem.run_bind, Result.andThen]
theorem wbits_x {p q : Option Addr} {m c n d : Nat} {w : World} {x y : Int} {P N : Nat} {s t : Bool} (h : ZN w s p m c x) (k : ZN w t q n d y) (hP : 1 ≤ P ∧ P ≤ 70000) (hLL : (N : Int) = P + bitsN y.natAbs - bitsN x.natAbs) (hl : (x * 2 ^ N).natAbs < LIM) :
  Calls Tryz.prog 20 #[ZV s p m c, ZV t q n d, .int .i64 P] w fun en w' => ∃ s1 p1 m1 c1 s2 p2 m2 c2, en = .returned (.tuple #[ZV s1 p1 m1 c1, ZV s2 p2 m2 c2, .int .i64 (N : Int)]) ∧ ZN w' s1 p1 m1 c1 (x * 2 ^ N) ∧ ZN w' s2 p2 m2 c2 y ∧ Below w.heap.size w w' := by
 have H := hdQ h;have K := hdQ k;have hb1 := (lim_bits x.natAbs).1 h.lim;have hb2 := (lim_bits y.natAbs).1 k.lim
 have HL : Hid ((x * 2 ^ N).natAbs < LIM ∧ N ≤ 9223372036854775807) := ⟨hl, by omega⟩
 obtain ⟨bx, hbx⟩ := exq (bitsN x.natAbs);obtain ⟨bY, hbY⟩ := exq (bitsN y.natAbs);rw [← hbx, ← hbY] at hLL;rw [← hbx] at hb1;rw [← hbY] at hb2;have HB : Hid (bitsN x.natAbs = bx ∧ bitsN y.natAbs = bY) := ⟨hbx.symm, hbY.symm⟩
 have f1 : wrap64 ((P : Int) + bY) = P + bY := by simp only [wrap64]; omega
 have f2 : wrap64 ((P : Int) + bY - bx) = (N : Int) := by simp only [wrap64]; omega
 have f3 : IntKind.i64.wrap ((P : Int) + bY) = P + bY := by simp [IntKind.wrap, IntKind.signed, IntKind.bits]; omega
 have f4 : IntKind.i64.wrap ((P : Int) + bY - bx) = (N : Int) := by simp [IntKind.wrap, IntKind.signed, IntKind.bits]; omega
 have f5 : ¬ (N : Int) < 0 := by omega
 have f6 : wrap64 (N : Int) = N := by simp only [wrap64]; omega
 clear h k hP hLL  hl hb1 hb2 hbx hbY
 go_enter Tryz.func20, Tryz.ntmps20
 go_wp2_with fail;obtain ⟨W0, hW0⟩ := exq ((((w.alloc (.cells #[.bool s, .slice p m c] 25)).alloc (.cells #[.bool t, .slice q n d] 25)).alloc (.cells #[.bool false, .slice none 0 0] 25)).alloc (.cells #[.bool false, .slice none 0 0] 25))
 have Xx : Hid (Box W0 (w.heap.size) (.bool s) (.slice p m c)) := by rw [hW0]; constructor <;> go_simp
 have Xy : Hid (Box W0 (w.heap.size + 1) (.bool t) (.slice q n d)) := by rw [hW0]; constructor <;> go_simp
 have Xr : Hid (Box W0 (w.heap.size + 1 + 1) (.bool false) (.slice none 0 0)) := by rw [hW0]; constructor <;> go_simp
 have Xu : Hid (Box W0 (w.heap.size + 1 + 1 + 1) (.bool false) (.slice none 0 0)) := by rw [hW0]; constructor <;> go_simp
 have hb0 : Below w.heap.size w W0 := by rw [hW0]; exact below4 w _ _ _ _
 rw [← hW0];clear hW0;have hbw := brf w;obtain ⟨gu, hgu⟩ := exq (w.heap.size + 1 + 1 + 1);have HGu : Hid (w.heap.size ≤ gu) := hgl hgu;rw [← hgu] at Xu
 try rw [← hgu]
 obtain ⟨gr, hgr⟩ := exq (w.heap.size + 1 + 1);have HGr : Hid (w.heap.size ≤ gr) := hgl hgr;rw [← hgr] at Xr
 try rw [← hgr]
 obtain ⟨gy, hgy⟩ := exq (w.heap.size + 1);have HGy : Hid (w.heap.size ≤ gy) := hgl hgy;rw [← hgy] at Xy
 try rw [← hgy]
 obtain ⟨gx, hgx⟩ := exq w.heap.size;have HGx : Hid (w.heap.size ≤ gx) := hgl hgx;rw [← hgx] at Xx
 try rw [← hgx]
 have HGD : Hid (gx ≠ gy ∧ gx ≠ gr ∧ gx ≠ gu ∧ gy ≠ gx ∧ gy ≠ gr ∧ gy ≠ gu ∧ gr ≠ gx ∧ gr ≠ gy ∧ gr ≠ gu ∧ gu ≠ gx ∧ gu ≠ gy ∧ gu ≠ gr) := by rw [hgx, hgy, hgr, hgu]; show _ ∧ _; omega
 clear hgx hgy hgr hgu;replace hbw := bon hbw hb0;clear hb0;obtain ⟨W1, hW1⟩ := exq W0.drew
 have hbd : Below W0.heap.size W0 W1 := by rw [hW1]; exact bDrew1 (Below.refl _ _)
 replace Xx := Box.b Xx hbd;replace Xy := Box.b Xy hbd;replace Xr := Box.b Xr hbd;replace Xu := Box.b Xu hbd;replace hbw := bon hbw hbd;clear hbd
 have HJ : Hid ((fun W' : World => W'.cell? ⟨gx, 1, none⟩ = some (.slice p m c) ∧ W'.cell? ⟨gy, 1, none⟩ = some (.slice q n d)) W1) := ⟨Xx.out.c1, Xy.out.c1⟩
 refine wp_region_J (fun W' => W'.cell? ⟨gx, 1, none⟩ = some (.slice p m c) ∧ W'.cell? ⟨gy, 1, none⟩ = some (.slice q n d)) (by kernel_rfl) ?_
 rw [← hW1];clear hW1
 refine wpJ_tq 0 rfl HJ.out ?_
 refine wpJ_tq 1 rfl HJ.out ?_
 refine wpJ_tq 2 rfl HJ.out ?_
 refine wpJ_tq 5 rfl HJ.out ?_
 refine wpJ_tq 6 rfl HJ.out ?_
 refine wpJ_on 3 rfl fun KJ hK => ?_
 go_simp;obtain ⟨xs, hX⟩ := (K.out.below hbw).ex
 refine (bits_any hX.at_ (by have := hX.le; omega)).mono ?_
 rintro e2 v3 ⟨rfl, hw⟩;obtain rfl := hw.symm;clear hw;rw [hX.nf.val, HB.out.2];clear hX HJ
 have HJ : Hid ((fun W' : World => W'.cell? ⟨gx, 1, none⟩ = some (.slice p m c) ∧ W'.cell? ⟨gy, 1, none⟩ = some (.slice q n d)) W1) := ⟨Xx.out.c1, Xy.out.c1⟩
 refine hK _ _ HJ.out ?_
 clear hK
 refine wpJ_tq 4 rfl HJ.out ?_
 refine wpJ_on 7 rfl fun KJ hK => ?_
 go_simp;obtain ⟨xs, hX⟩ := (H.out.below hbw).ex
 refine (bits_any hX.at_ (by have := hX.le; omega)).mono ?_
 rintro e2 v3 ⟨rfl, hw⟩;obtain rfl := hw.symm;clear hw;rw [hX.nf.val, HB.out.1];clear hX HJ
 have HJ : Hid ((fun W' : World => W'.cell? ⟨gx, 1, none⟩ = some (.slice p m c) ∧ W'.cell? ⟨gy, 1, none⟩ = some (.slice q n d)) W1) := ⟨Xx.out.c1, Xy.out.c1⟩
 refine hK _ _ HJ.out ?_
 clear hK
 refine wpJ_tq 8 rfl HJ.out ?_
 refine wpJ_tq 9 rfl HJ.out ?_
 refine wpJ_done (by kernel_rfl) ?_ _
 clear HJ;obtain ⟨cx0, cx1, fx0, fx1⟩ := Xx.out;have hnex := Xx.out.lt;obtain ⟨cy0, cy1, fy0, fy1⟩ := Xy.out;have hney := Xy.out.lt;go_wp2_with fail;clear cx0 cx1 fx0 fx1 hnex cy0 cy1 fy0 fy1 hney f1 f2 f3 f4 f5;have HRL : Hid (gx < W1.heap.size ∧ gy < W1.heap.size ∧ gr < W1.heap.size ∧ gu < W1.heap.size ∧ w.heap.size ≤ W1.heap.size) := ⟨Xx.out.lt, Xy.out.lt, Xr.out.lt, Xu.out.lt, hbw.size⟩
 refine (zshl (H.out.below hbw) N HL.out.2).mono ?_
 rintro e2 v5 ⟨ha, hb5⟩
 rcases ha with ⟨_, p5, m5, z5, rfl, ho5, hn5, hm5⟩ | ⟨hl5, rfl⟩
 case inr => (exact absurd HL.out.1 (Nat.not_lt.2 hl5))
 replace Xx := Box.b Xx hb5;replace Xy := Box.b Xy hb5;replace Xr := Box.b Xr hb5;replace Xu := Box.b Xu hb5;replace hbw := bon hbw hb5;clear hb5;have O5 := hdQ ho5;have N5 : Hid (Nf B64 z5 (x * 2 ^ N).natAbs ∧ m5 ≤ 8192) := ⟨hn5, hm5⟩;obtain ⟨s5, hs5⟩ := exq (decide ((x * 2 ^ N) < 0));rw [← hs5];have HS5 : Hid (s5 = decide ((x * 2 ^ N) < 0)) := hs5;clear ho5 hn5 hm5 hs5;obtain ⟨hgd0, hgd1, hgd2, hgd3, hgd4, hgd5, hgd6, hgd7, hgd8, hgd9, hgd10, hgd11⟩ := HGD.out;obtain ⟨cx0, cx1, fx0, fx1⟩ := Xx.out;have hnex := Xx.out.lt;obtain ⟨cy0, cy1, fy0, fy1⟩ := Xy.out;have hney := Xy.out.lt;obtain ⟨cr0, cr1, fr0, fr1⟩ := Xr.out;have hner := Xr.out.lt;obtain ⟨cu0, cu1, fu0, fu1⟩ := Xu.out;have hneu := Xu.out.lt;go_wp2_with fail
 have Xx2 : Hid (Box ((v5.setCell ⟨gx, 0, none⟩ (.bool s5)).setCell ⟨gx, 1, none⟩ (.slice p5 m5 m5)) gx (.bool s5) (.slice p5 m5 m5)) := ⟨by go_simp, by go_simp, by go_simp, by go_simp⟩
 have Xy2 : Hid (Box ((v5.setCell ⟨gx, 0, none⟩ (.bool s5)).setCell ⟨gx, 1, none⟩ (.slice p5 m5 m5)) gy (.bool t) (.slice q n d)) := ⟨by go_simp, by go_simp, by go_simp, by go_simp⟩
 have Xr2 : Hid (Box ((v5.setCell ⟨gx, 0, none⟩ (.bool s5)).setCell ⟨gx, 1, none⟩ (.slice p5 m5 m5)) gr (.bool false) (.slice none 0 0)) := ⟨by go_simp, by go_simp, by go_simp, by go_simp⟩
 have Xu2 : Hid (Box ((v5.setCell ⟨gx, 0, none⟩ (.bool s5)).setCell ⟨gx, 1, none⟩ (.slice p5 m5 m5)) gu (.bool false) (.slice none 0 0)) := ⟨by go_simp, by go_simp, by go_simp, by go_simp⟩
 have O52 : Hid (Own W1.heap.size ((v5.setCell ⟨gx, 0, none⟩ (.bool s5)).setCell ⟨gx, 1, none⟩ (.slice p5 m5 m5)) p5 m5 z5) := own_set2 O5.out HRL.out.1 (Nat.le_refl _) _ _;have hbw2 : Below w.heap.size w ((v5.setCell ⟨gx, 0, none⟩ (.bool s5)).setCell ⟨gx, 1, none⟩ (.slice p5 m5 m5)) := bSet (bSet hbw _ _ _ HGx.out) _ _ _ HGx.out;clear cx0 cx1 fx0 fx1 hnex cy0 cy1 fy0 fy1 hney cr0 cr1 fr0 fr1 hner cu0 cu1 fu0 fu1 hneu Xx Xy Xr Xu O5 hbw hgd0 hgd1 hgd2 hgd3 hgd4 hgd5 hgd6 hgd7 hgd8 hgd9 hgd10 hgd11;generalize ((v5.setCell ⟨gx, 0, none⟩ (.bool s5)).setCell ⟨gx, 1, none⟩ (.slice p5 m5 m5)) = W6 at *;have Xx := Xx2;have Xy := Xy2;have Xr := Xr2;have Xu := Xu2;have O5 := O52;have hbw := hbw2;clear Xx2 Xy2 Xr2 Xu2 O52 hbw2;obtain ⟨W7, hW7⟩ := exq W6.drew
 have hbd : Below W6.heap.size W6 W7 := by rw [hW7]; exact bDrew1 (Below.refl _ _)
 replace Xx := Box.b Xx hbd;replace Xy := Box.b Xy hbd;replace Xr := Box.b Xr hbd;replace Xu := Box.b Xu hbd;replace O5 := Own.b O5 hbd;replace hbw := bon hbw hbd;clear hbd
 have HJ : Hid ((fun W' : World => W'.cell? ⟨gx, 0, none⟩ = some (.bool s5) ∧ W'.cell? ⟨gx, 1, none⟩ = some (.slice p5 m5 m5) ∧ W'.cell? ⟨gy, 0, none⟩ = some (.bool t) ∧ W'.cell? ⟨gy, 1, none⟩ = some (.slice q n d)) W7) := ⟨Xx.out.c0, Xx.out.c1, Xy.out.c0, Xy.out.c1⟩
 refine wp_region_J (fun W' => W'.cell? ⟨gx, 0, none⟩ = some (.bool s5) ∧ W'.cell? ⟨gx, 1, none⟩ = some (.slice p5 m5 m5) ∧ W'.cell? ⟨gy, 0, none⟩ = some (.bool t) ∧ W'.cell? ⟨gy, 1, none⟩ = some (.slice q n d)) (by kernel_rfl) ?_
 rw [← hW7];clear hW7
 refine wpJ_tq 0 rfl HJ.out ?_
 refine wpJ_tq 1 rfl HJ.out ?_
 refine wpJ_tq 2 rfl HJ.out ?_
 obtain ⟨cx0, cx1, fx0, fx1⟩ := Xx.out;have hnex := Xx.out.lt;obtain ⟨cy0, cy1, fy0, fy1⟩ := Xy.out;have hney := Xy.out.lt;obtain ⟨cr0, cr1, fr0, fr1⟩ := Xr.out;have hner := Xr.out.lt;obtain ⟨cu0, cu1, fu0, fu1⟩ := Xu.out;have hneu := Xu.out.lt;obtain ⟨hgd0, hgd1, hgd2, hgd3, hgd4, hgd5, hgd6, hgd7, hgd8, hgd9, hgd10, hgd11⟩ := HGD.out
 refine wpJ_on 3 rfl fun KJ hK => ?_
 go_simp
 have HJ2 : Hid ((fun W' : World => W'.cell? ⟨gx, 0, none⟩ = some (.bool s5) ∧ W'.cell? ⟨gx, 1, none⟩ = some (.slice p5 m5 m5) ∧ W'.cell? ⟨gy, 0, none⟩ = some (.bool t) ∧ W'.cell? ⟨gy, 1, none⟩ = some (.slice q n d)) ((W7.setCell ⟨gr, 0, none⟩ (.bool s5)).setCell ⟨gr, 1, none⟩ (.slice p5 m5 m5))) := ⟨by go_simp, by go_simp, by go_simp, by go_simp⟩
 refine hK _ _ HJ2.out ?_
 clear hK HJ;have HJ := HJ2;clear HJ2
 have Xx2 : Hid (Box ((W7.setCell ⟨gr, 0, none⟩ (.bool s5)).setCell ⟨gr, 1, none⟩ (.slice p5 m5 m5)) gx (.bool s5) (.slice p5 m5 m5)) := ⟨by go_simp, by go_simp, by go_simp, by go_simp⟩
 have Xy2 : Hid (Box ((W7.setCell ⟨gr, 0, none⟩ (.bool s5)).setCell ⟨gr, 1, none⟩ (.slice p5 m5 m5)) gy (.bool t) (.slice q n d)) := ⟨by go_simp, by go_simp, by go_simp, by go_simp⟩
 have Xr2 : Hid (Box ((W7.setCell ⟨gr, 0, none⟩ (.bool s5)).setCell ⟨gr, 1, none⟩ (.slice p5 m5 m5)) gr (.bool s5) (.slice p5 m5 m5)) := ⟨by go_simp, by go_simp, by go_simp, by go_simp⟩
 have Xu2 : Hid (Box ((W7.setCell ⟨gr, 0, none⟩ (.bool s5)).setCell ⟨gr, 1, none⟩ (.slice p5 m5 m5)) gu (.bool false) (.slice none 0 0)) := ⟨by go_simp, by go_simp, by go_simp, by go_simp⟩
 have O52 : Hid (Own W1.heap.size ((W7.setCell ⟨gr, 0, none⟩ (.bool s5)).setCell ⟨gr, 1, none⟩ (.slice p5 m5 m5)) p5 m5 z5) := own_set2 O5.out HRL.out.2.2.1 (Nat.le_refl _) _ _;have hbw2 : Below w.heap.size w ((W7.setCell ⟨gr, 0, none⟩ (.bool s5)).setCell ⟨gr, 1, none⟩ (.slice p5 m5 m5)) := bSet (bSet hbw _ _ _ HGr.out) _ _ _ HGr.out;clear cx0 cx1 fx0 fx1 hnex cy0 cy1 fy0 fy1 hney cr0 cr1 fr0 fr1 hner cu0 cu1 fu0 fu1 hneu Xx Xy Xr Xu O5 hbw hgd0 hgd1 hgd2 hgd3 hgd4 hgd5 hgd6 hgd7 hgd8 hgd9 hgd10 hgd11;generalize ((W7.setCell ⟨gr, 0, none⟩ (.bool s5)).setCell ⟨gr, 1, none⟩ (.slice p5 m5 m5)) = Wp at *;have Xx := Xx2;have Xy := Xy2;have Xr := Xr2;have Xu := Xu2;have O5 := O52;have hbw := hbw2;clear Xx2 Xy2 Xr2 Xu2 O52 hbw2;obtain ⟨cx0, cx1, fx0, fx1⟩ := Xx.out;have hnex := Xx.out.lt;obtain ⟨cy0, cy1, fy0, fy1⟩ := Xy.out;have hney := Xy.out.lt;obtain ⟨cr0, cr1, fr0, fr1⟩ := Xr.out;have hner := Xr.out.lt
 obtain ⟨cu0, cu1, fu0, fu1⟩ := Xu.out;have hneu := Xu.out.lt;obtain ⟨hgd0, hgd1, hgd2, hgd3, hgd4, hgd5, hgd6, hgd7, hgd8, hgd9, hgd10, hgd11⟩ := HGD.out
 refine wpJ_on 4 rfl fun KJ hK => ?_
 go_simp
 have HJ2 : Hid ((fun W' : World => W'.cell? ⟨gx, 0, none⟩ = some (.bool s5) ∧ W'.cell? ⟨gx, 1, none⟩ = some (.slice p5 m5 m5) ∧ W'.cell? ⟨gy, 0, none⟩ = some (.bool t) ∧ W'.cell? ⟨gy, 1, none⟩ = some (.slice q n d)) ((Wp.setCell ⟨gu, 0, none⟩ (.bool t)).setCell ⟨gu, 1, none⟩ (.slice q n d))) := ⟨by go_simp, by go_simp, by go_simp, by go_simp⟩
 refine hK _ _ HJ2.out ?_
 clear hK HJ;have HJ := HJ2;clear HJ2
 have Xx2 : Hid (Box ((Wp.setCell ⟨gu, 0, none⟩ (.bool t)).setCell ⟨gu, 1, none⟩ (.slice q n d)) gx (.bool s5) (.slice p5 m5 m5)) := ⟨by go_simp, by go_simp, by go_simp, by go_simp⟩
 have Xy2 : Hid (Box ((Wp.setCell ⟨gu, 0, none⟩ (.bool t)).setCell ⟨gu, 1, none⟩ (.slice q n d)) gy (.bool t) (.slice q n d)) := ⟨by go_simp, by go_simp, by go_simp, by go_simp⟩
 have Xr2 : Hid (Box ((Wp.setCell ⟨gu, 0, none⟩ (.bool t)).setCell ⟨gu, 1, none⟩ (.slice q n d)) gr (.bool s5) (.slice p5 m5 m5)) := ⟨by go_simp, by go_simp, by go_simp, by go_simp⟩
 have Xu2 : Hid (Box ((Wp.setCell ⟨gu, 0, none⟩ (.bool t)).setCell ⟨gu, 1, none⟩ (.slice q n d)) gu (.bool t) (.slice q n d)) := ⟨by go_simp, by go_simp, by go_simp, by go_simp⟩
 have O52 : Hid (Own W1.heap.size ((Wp.setCell ⟨gu, 0, none⟩ (.bool t)).setCell ⟨gu, 1, none⟩ (.slice q n d)) p5 m5 z5) := own_set2 O5.out HRL.out.2.2.2.1 (Nat.le_refl _) _ _;have hbw2 : Below w.heap.size w ((Wp.setCell ⟨gu, 0, none⟩ (.bool t)).setCell ⟨gu, 1, none⟩ (.slice q n d)) := bSet (bSet hbw _ _ _ HGu.out) _ _ _ HGu.out;clear cx0 cx1 fx0 fx1 hnex cy0 cy1 fy0 fy1 hney cr0 cr1 fr0 fr1 hner cu0 cu1 fu0 fu1 hneu Xx Xy Xr Xu O5 hbw hgd0 hgd1 hgd2 hgd3 hgd4 hgd5 hgd6 hgd7 hgd8 hgd9 hgd10 hgd11;generalize ((Wp.setCell ⟨gu, 0, none⟩ (.bool t)).setCell ⟨gu, 1, none⟩ (.slice q n d)) = Wq at *;have Xx := Xx2;have Xy := Xy2;have Xr := Xr2;have Xu := Xu2;have O5 := O52;have hbw := hbw2;clear Xx2 Xy2 Xr2 Xu2 O52 hbw2
 refine wpJ_tq 5 rfl HJ.out ?_
 refine wpJ_done (by kernel_rfl) ?_ _
 clear HJ;obtain ⟨cr0, cr1, fr0, fr1⟩ := Xr.out;have hner := Xr.out.lt;obtain ⟨cu0, cu1, fu0, fu1⟩ := Xu.out;have hneu := Xu.out.lt;go_wp2_with fail
 refine bodyPost_ret (v := .tuple #[ZV s5 p5 m5 m5, ZV t q n d, .int .i64 (N : Int)]) (by rw [results_c2t1 rfl]; go_simp) rfl ⟨s5, p5, m5, m5, t, q, n, d, rfl, ⟨⟨z5, Num.of O5.out N5.out.1 N5.out.2⟩, HS5.out⟩, K.out.below hbw, hbw⟩
theorem wbits_y {p q : Option Addr} {m c n d : Nat} {w : World} {x y : Int} {P N : Nat} {s t : Bool} (h : ZN w s p m c x) (k : ZN w t q n d y) (hP : 1 ≤ P ∧ P ≤ 70000) (hLL : (-(N : Int)) = P + bitsN y.natAbs - bitsN x.natAbs) (hN : 0 < N) (hl : (y * 2 ^ N).natAbs < LIM) :
  Calls Tryz.prog 20 #[ZV s p m c, ZV t q n d, .int .i64 P] w fun en w' => ∃ s1 p1 m1 c1 s2 p2 m2 c2, en = .returned (.tuple #[ZV s1 p1 m1 c1, ZV s2 p2 m2 c2, .int .i64 (-(N : Int))]) ∧ ZN w' s1 p1 m1 c1 x ∧ ZN w' s2 p2 m2 c2 (y * 2 ^ N) ∧ Below w.heap.size w w' := by
 have H := hdQ h;have K := hdQ k;have hb1 := (lim_bits x.natAbs).1 h.lim;have hb2 := (lim_bits y.natAbs).1 k.lim
 have HL : Hid ((y * 2 ^ N).natAbs < LIM ∧ N ≤ 9223372036854775807) := ⟨hl, by omega⟩
 obtain ⟨bx, hbx⟩ := exq (bitsN x.natAbs);obtain ⟨bY, hbY⟩ := exq (bitsN y.natAbs);rw [← hbx, ← hbY] at hLL;rw [← hbx] at hb1;rw [← hbY] at hb2;have HB : Hid (bitsN x.natAbs = bx ∧ bitsN y.natAbs = bY) := ⟨hbx.symm, hbY.symm⟩
 have f1 : wrap64 ((P : Int) + bY) = P + bY := by simp only [wrap64]; omega
 have f2 : wrap64 ((P : Int) + bY - bx) = (-(N : Int)) := by simp only [wrap64]; omega
 have f3 : IntKind.i64.wrap ((P : Int) + bY) = P + bY := by simp [IntKind.wrap, IntKind.signed, IntKind.bits]; omega
 have f4 : IntKind.i64.wrap ((P : Int) + bY - bx) = (-(N : Int)) := by simp [IntKind.wrap, IntKind.signed, IntKind.bits]; omega
 have f5 : -(N : Int) < 0 := by omega
 have f6 : wrap64 (N : Int) = N := by simp only [wrap64]; omega
 clear h k hP hLL hN hl hb1 hb2 hbx hbY
 go_enter Tryz.func20, Tryz.ntmps20
 go_wp2_with fail;obtain ⟨W0, hW0⟩ := exq ((((w.alloc (.cells #[.bool s, .slice p m c] 25)).alloc (.cells #[.bool t, .slice q n d] 25)).alloc (.cells #[.bool false, .slice none 0 0] 25)).alloc (.cells #[.bool false, .slice none 0 0] 25))
 have Xx : Hid (Box W0 (w.heap.size) (.bool s) (.slice p m c)) := by rw [hW0]; constructor <;> go_simp
 have Xy : Hid (Box W0 (w.heap.size + 1) (.bool t) (.slice q n d)) := by rw [hW0]; constructor <;> go_simp
 have Xr : Hid (Box W0 (w.heap.size + 1 + 1) (.bool false) (.slice none 0 0)) := by rw [hW0]; constructor <;> go_simp
 have Xu : Hid (Box W0 (w.heap.size + 1 + 1 + 1) (.bool false) (.slice none 0 0)) := by rw [hW0]; constructor <;> go_simp
 have hb0 : Below w.heap.size w W0 := by rw [hW0]; exact below4 w _ _ _ _
 rw [← hW0];clear hW0;have hbw := brf w;obtain ⟨gu, hgu⟩ := exq (w.heap.size + 1 + 1 + 1);have HGu : Hid (w.heap.size ≤ gu) := hgl hgu;rw [← hgu] at Xu
 try rw [← hgu]
 obtain ⟨gr, hgr⟩ := exq (w.heap.size + 1 + 1);have HGr : Hid (w.heap.size ≤ gr) := hgl hgr;rw [← hgr] at Xr
 try rw [← hgr]
 obtain ⟨gy, hgy⟩ := exq (w.heap.size + 1);have HGy : Hid (w.heap.size ≤ gy) := hgl hgy;rw [← hgy] at Xy
 try rw [← hgy]
 obtain ⟨gx, hgx⟩ := exq w.heap.size;have HGx : Hid (w.heap.size ≤ gx) := hgl hgx;rw [← hgx] at Xx
 try rw [← hgx]
 have HGD : Hid (gx ≠ gy ∧ gx ≠ gr ∧ gx ≠ gu ∧ gy ≠ gx ∧ gy ≠ gr ∧ gy ≠ gu ∧ gr ≠ gx ∧ gr ≠ gy ∧ gr ≠ gu ∧ gu ≠ gx ∧ gu ≠ gy ∧ gu ≠ gr) := by rw [hgx, hgy, hgr, hgu]; show _ ∧ _; omega
 clear hgx hgy hgr hgu;replace hbw := bon hbw hb0;clear hb0;obtain ⟨W1, hW1⟩ := exq W0.drew
 have hbd : Below W0.heap.size W0 W1 := by rw [hW1]; exact bDrew1 (Below.refl _ _)
 replace Xx := Box.b Xx hbd;replace Xy := Box.b Xy hbd;replace Xr := Box.b Xr hbd;replace Xu := Box.b Xu hbd;replace hbw := bon hbw hbd;clear hbd
 have HJ : Hid ((fun W' : World => W'.cell? ⟨gx, 1, none⟩ = some (.slice p m c) ∧ W'.cell? ⟨gy, 1, none⟩ = some (.slice q n d)) W1) := ⟨Xx.out.c1, Xy.out.c1⟩
 refine wp_region_J (fun W' => W'.cell? ⟨gx, 1, none⟩ = some (.slice p m c) ∧ W'.cell? ⟨gy, 1, none⟩ = some (.slice q n d)) (by kernel_rfl) ?_
 rw [← hW1];clear hW1
 refine wpJ_tq 0 rfl HJ.out ?_
 refine wpJ_tq 1 rfl HJ.out ?_
 refine wpJ_tq 2 rfl HJ.out ?_
 refine wpJ_tq 5 rfl HJ.out ?_
 refine wpJ_tq 6 rfl HJ.out ?_
 refine wpJ_on 3 rfl fun KJ hK => ?_
 go_simp;obtain ⟨xs, hX⟩ := (K.out.below hbw).ex
 refine (bits_any hX.at_ (by have := hX.le; omega)).mono ?_
 rintro e2 v3 ⟨rfl, hw⟩;obtain rfl := hw.symm;clear hw;rw [hX.nf.val, HB.out.2];clear hX HJ
 have HJ : Hid ((fun W' : World => W'.cell? ⟨gx, 1, none⟩ = some (.slice p m c) ∧ W'.cell? ⟨gy, 1, none⟩ = some (.slice q n d)) W1) := ⟨Xx.out.c1, Xy.out.c1⟩
 refine hK _ _ HJ.out ?_
 clear hK
 refine wpJ_tq 4 rfl HJ.out ?_
 refine wpJ_on 7 rfl fun KJ hK => ?_
 go_simp;obtain ⟨xs, hX⟩ := (H.out.below hbw).ex
 refine (bits_any hX.at_ (by have := hX.le; omega)).mono ?_
 rintro e2 v3 ⟨rfl, hw⟩;obtain rfl := hw.symm;clear hw;rw [hX.nf.val, HB.out.1];clear hX HJ
 have HJ : Hid ((fun W' : World => W'.cell? ⟨gx, 1, none⟩ = some (.slice p m c) ∧ W'.cell? ⟨gy, 1, none⟩ = some (.slice q n d)) W1) := ⟨Xx.out.c1, Xy.out.c1⟩
 refine hK _ _ HJ.out ?_
 clear hK
 refine wpJ_tq 8 rfl HJ.out ?_
 refine wpJ_tq 9 rfl HJ.out ?_
 refine wpJ_done (by kernel_rfl) ?_ _
 clear HJ;obtain ⟨cx0, cx1, fx0, fx1⟩ := Xx.out;have hnex := Xx.out.lt;obtain ⟨cy0, cy1, fy0, fy1⟩ := Xy.out;have hney := Xy.out.lt;go_wp2_with fail;clear cx0 cx1 fx0 fx1 hnex cy0 cy1 fy0 fy1 hney f1 f2 f3 f4 f5;have HRL : Hid (gx < W1.heap.size ∧ gy < W1.heap.size ∧ gr < W1.heap.size ∧ gu < W1.heap.size ∧ w.heap.size ≤ W1.heap.size) := ⟨Xx.out.lt, Xy.out.lt, Xr.out.lt, Xu.out.lt, hbw.size⟩
 refine (zshl (K.out.below hbw) N HL.out.2).mono ?_
 rintro e2 v5 ⟨ha, hb5⟩
 rcases ha with ⟨_, p5, m5, z5, rfl, ho5, hn5, hm5⟩ | ⟨hl5, rfl⟩
 case inr => (exact absurd HL.out.1 (Nat.not_lt.2 hl5))
 replace Xx := Box.b Xx hb5;replace Xy := Box.b Xy hb5;replace Xr := Box.b Xr hb5;replace Xu := Box.b Xu hb5;replace hbw := bon hbw hb5;clear hb5;have O5 := hdQ ho5;have N5 : Hid (Nf B64 z5 (y * 2 ^ N).natAbs ∧ m5 ≤ 8192) := ⟨hn5, hm5⟩;obtain ⟨s5, hs5⟩ := exq (decide ((y * 2 ^ N) < 0));rw [← hs5];have HS5 : Hid (s5 = decide ((y * 2 ^ N) < 0)) := hs5;clear ho5 hn5 hm5 hs5;obtain ⟨hgd0, hgd1, hgd2, hgd3, hgd4, hgd5, hgd6, hgd7, hgd8, hgd9, hgd10, hgd11⟩ := HGD.out;obtain ⟨cx0, cx1, fx0, fx1⟩ := Xx.out;have hnex := Xx.out.lt;obtain ⟨cy0, cy1, fy0, fy1⟩ := Xy.out;have hney := Xy.out.lt;obtain ⟨cr0, cr1, fr0, fr1⟩ := Xr.out;have hner := Xr.out.lt;obtain ⟨cu0, cu1, fu0, fu1⟩ := Xu.out;have hneu := Xu.out.lt;go_wp2_with fail
 have Xx2 : Hid (Box ((v5.setCell ⟨gy, 0, none⟩ (.bool s5)).setCell ⟨gy, 1, none⟩ (.slice p5 m5 m5)) gx (.bool s) (.slice p m c)) := ⟨by go_simp, by go_simp, by go_simp, by go_simp⟩
 have Xy2 : Hid (Box ((v5.setCell ⟨gy, 0, none⟩ (.bool s5)).setCell ⟨gy, 1, none⟩ (.slice p5 m5 m5)) gy (.bool s5) (.slice p5 m5 m5)) := ⟨by go_simp, by go_simp, by go_simp, by go_simp⟩
 have Xr2 : Hid (Box ((v5.setCell ⟨gy, 0, none⟩ (.bool s5)).setCell ⟨gy, 1, none⟩ (.slice p5 m5 m5)) gr (.bool false) (.slice none 0 0)) := ⟨by go_simp, by go_simp, by go_simp, by go_simp⟩
 have Xu2 : Hid (Box ((v5.setCell ⟨gy, 0, none⟩ (.bool s5)).setCell ⟨gy, 1, none⟩ (.slice p5 m5 m5)) gu (.bool false) (.slice none 0 0)) := ⟨by go_simp, by go_simp, by go_simp, by go_simp⟩
 have O52 : Hid (Own W1.heap.size ((v5.setCell ⟨gy, 0, none⟩ (.bool s5)).setCell ⟨gy, 1, none⟩ (.slice p5 m5 m5)) p5 m5 z5) := own_set2 O5.out HRL.out.2.1 (Nat.le_refl _) _ _;have hbw2 : Below w.heap.size w ((v5.setCell ⟨gy, 0, none⟩ (.bool s5)).setCell ⟨gy, 1, none⟩ (.slice p5 m5 m5)) := bSet (bSet hbw _ _ _ HGy.out) _ _ _ HGy.out;clear cx0 cx1 fx0 fx1 hnex cy0 cy1 fy0 fy1 hney cr0 cr1 fr0 fr1 hner cu0 cu1 fu0 fu1 hneu Xx Xy Xr Xu O5 hbw hgd0 hgd1 hgd2 hgd3 hgd4 hgd5 hgd6 hgd7 hgd8 hgd9 hgd10 hgd11;generalize ((v5.setCell ⟨gy, 0, none⟩ (.bool s5)).setCell ⟨gy, 1, none⟩ (.slice p5 m5 m5)) = W6 at *;have Xx := Xx2;have Xy := Xy2;have Xr := Xr2;have Xu := Xu2;have O5 := O52;have hbw := hbw2;clear Xx2 Xy2 Xr2 Xu2 O52 hbw2;obtain ⟨W7, hW7⟩ := exq W6.drew
 have hbd : Below W6.heap.size W6 W7 := by rw [hW7]; exact bDrew1 (Below.refl _ _)
 replace Xx := Box.b Xx hbd;replace Xy := Box.b Xy hbd;replace Xr := Box.b Xr hbd;replace Xu := Box.b Xu hbd;replace O5 := Own.b O5 hbd;replace hbw := bon hbw hbd;clear hbd
 have HJ : Hid ((fun W' : World => W'.cell? ⟨gx, 0, none⟩ = some (.bool s) ∧ W'.cell? ⟨gx, 1, none⟩ = some (.slice p m c) ∧ W'.cell? ⟨gy, 0, none⟩ = some (.bool s5) ∧ W'.cell? ⟨gy, 1, none⟩ = some (.slice p5 m5 m5)) W7) := ⟨Xx.out.c0, Xx.out.c1, Xy.out.c0, Xy.out.c1⟩
 refine wp_region_J (fun W' => W'.cell? ⟨gx, 0, none⟩ = some (.bool s) ∧ W'.cell? ⟨gx, 1, none⟩ = some (.slice p m c) ∧ W'.cell? ⟨gy, 0, none⟩ = some (.bool s5) ∧ W'.cell? ⟨gy, 1, none⟩ = some (.slice p5 m5 m5)) (by kernel_rfl) ?_
 rw [← hW7];clear hW7
 refine wpJ_tq 0 rfl HJ.out ?_
 refine wpJ_tq 1 rfl HJ.out ?_
 refine wpJ_tq 2 rfl HJ.out ?_
 obtain ⟨cx0, cx1, fx0, fx1⟩ := Xx.out;have hnex := Xx.out.lt;obtain ⟨cy0, cy1, fy0, fy1⟩ := Xy.out;have hney := Xy.out.lt;obtain ⟨cr0, cr1, fr0, fr1⟩ := Xr.out;have hner := Xr.out.lt;obtain ⟨cu0, cu1, fu0, fu1⟩ := Xu.out;have hneu := Xu.out.lt;obtain ⟨hgd0, hgd1, hgd2, hgd3, hgd4, hgd5, hgd6, hgd7, hgd8, hgd9, hgd10, hgd11⟩ := HGD.out
 refine wpJ_on 3 rfl fun KJ hK => ?_
 go_simp
 have HJ2 : Hid ((fun W' : World => W'.cell? ⟨gx, 0, none⟩ = some (.bool s) ∧ W'.cell? ⟨gx, 1, none⟩ = some (.slice p m c) ∧ W'.cell? ⟨gy, 0, none⟩ = some (.bool s5) ∧ W'.cell? ⟨gy, 1, none⟩ = some (.slice p5 m5 m5)) ((W7.setCell ⟨gr, 0, none⟩ (.bool s)).setCell ⟨gr, 1, none⟩ (.slice p m c))) := ⟨by go_simp, by go_simp, by go_simp, by go_simp⟩
 refine hK _ _ HJ2.out ?_
 clear hK HJ;have HJ := HJ2;clear HJ2
 have Xx2 : Hid (Box ((W7.setCell ⟨gr, 0, none⟩ (.bool s)).setCell ⟨gr, 1, none⟩ (.slice p m c)) gx (.bool s) (.slice p m c)) := ⟨by go_simp, by go_simp, by go_simp, by go_simp⟩
 have Xy2 : Hid (Box ((W7.setCell ⟨gr, 0, none⟩ (.bool s)).setCell ⟨gr, 1, none⟩ (.slice p m c)) gy (.bool s5) (.slice p5 m5 m5)) := ⟨by go_simp, by go_simp, by go_simp, by go_simp⟩
 have Xr2 : Hid (Box ((W7.setCell ⟨gr, 0, none⟩ (.bool s)).setCell ⟨gr, 1, none⟩ (.slice p m c)) gr (.bool s) (.slice p m c)) := ⟨by go_simp, by go_simp, by go_simp, by go_simp⟩
 have Xu2 : Hid (Box ((W7.setCell ⟨gr, 0, none⟩ (.bool s)).setCell ⟨gr, 1, none⟩ (.slice p m c)) gu (.bool false) (.slice none 0 0)) := ⟨by go_simp, by go_simp, by go_simp, by go_simp⟩
 have O52 : Hid (Own W1.heap.size ((W7.setCell ⟨gr, 0, none⟩ (.bool s)).setCell ⟨gr, 1, none⟩ (.slice p m c)) p5 m5 z5) := own_set2 O5.out HRL.out.2.2.1 (Nat.le_refl _) _ _;have hbw2 : Below w.heap.size w ((W7.setCell ⟨gr, 0, none⟩ (.bool s)).setCell ⟨gr, 1, none⟩ (.slice p m c)) := bSet (bSet hbw _ _ _ HGr.out) _ _ _ HGr.out;clear cx0 cx1 fx0 fx1 hnex cy0 cy1 fy0 fy1 hney cr0 cr1 fr0 fr1 hner cu0 cu1 fu0 fu1 hneu Xx Xy Xr Xu O5 hbw hgd0 hgd1 hgd2 hgd3 hgd4 hgd5 hgd6 hgd7 hgd8 hgd9 hgd10 hgd11;generalize ((W7.setCell ⟨gr, 0, none⟩ (.bool s)).setCell ⟨gr, 1, none⟩ (.slice p m c)) = Wp at *;have Xx := Xx2;have Xy := Xy2;have Xr := Xr2;have Xu := Xu2;have O5 := O52;have hbw := hbw2;clear Xx2 Xy2 Xr2 Xu2 O52 hbw2;obtain ⟨cx0, cx1, fx0, fx1⟩ := Xx.out;have hnex := Xx.out.lt;obtain ⟨cy0, cy1, fy0, fy1⟩ := Xy.out;have hney := Xy.out.lt;obtain ⟨cr0, cr1, fr0, fr1⟩ := Xr.out;have hner := Xr.out.lt
 obtain ⟨cu0, cu1, fu0, fu1⟩ := Xu.out;have hneu := Xu.out.lt;obtain ⟨hgd0, hgd1, hgd2, hgd3, hgd4, hgd5, hgd6, hgd7, hgd8, hgd9, hgd10, hgd11⟩ := HGD.out
 refine wpJ_on 4 rfl fun KJ hK => ?_
 go_simp
 have HJ2 : Hid ((fun W' : World => W'.cell? ⟨gx, 0, none⟩ = some (.bool s) ∧ W'.cell? ⟨gx, 1, none⟩ = some (.slice p m c) ∧ W'.cell? ⟨gy, 0, none⟩ = some (.bool s5) ∧ W'.cell? ⟨gy, 1, none⟩ = some (.slice p5 m5 m5)) ((Wp.setCell ⟨gu, 0, none⟩ (.bool s5)).setCell ⟨gu, 1, none⟩ (.slice p5 m5 m5))) := ⟨by go_simp, by go_simp, by go_simp, by go_simp⟩
 refine hK _ _ HJ2.out ?_
 clear hK HJ;have HJ := HJ2;clear HJ2
 have Xx2 : Hid (Box ((Wp.setCell ⟨gu, 0, none⟩ (.bool s5)).setCell ⟨gu, 1, none⟩ (.slice p5 m5 m5)) gx (.bool s) (.slice p m c)) := ⟨by go_simp, by go_simp, by go_simp, by go_simp⟩
 have Xy2 : Hid (Box ((Wp.setCell ⟨gu, 0, none⟩ (.bool s5)).setCell ⟨gu, 1, none⟩ (.slice p5 m5 m5)) gy (.bool s5) (.slice p5 m5 m5)) := ⟨by go_simp, by go_simp, by go_simp, by go_simp⟩
 have Xr2 : Hid (Box ((Wp.setCell ⟨gu, 0, none⟩ (.bool s5)).setCell ⟨gu, 1, none⟩ (.slice p5 m5 m5)) gr (.bool s) (.slice p m c)) := ⟨by go_simp, by go_simp, by go_simp, by go_simp⟩
 have Xu2 : Hid (Box ((Wp.setCell ⟨gu, 0, none⟩ (.bool s5)).setCell ⟨gu, 1, none⟩ (.slice p5 m5 m5)) gu (.bool s5) (.slice p5 m5 m5)) := ⟨by go_simp, by go_simp, by go_simp, by go_simp⟩
 have O52 : Hid (Own W1.heap.size ((Wp.setCell ⟨gu, 0, none⟩ (.bool s5)).setCell ⟨gu, 1, none⟩ (.slice p5 m5 m5)) p5 m5 z5) := own_set2 O5.out HRL.out.2.2.2.1 (Nat.le_refl _) _ _;have hbw2 : Below w.heap.size w ((Wp.setCell ⟨gu, 0, none⟩ (.bool s5)).setCell ⟨gu, 1, none⟩ (.slice p5 m5 m5)) := bSet (bSet hbw _ _ _ HGu.out) _ _ _ HGu.out;clear cx0 cx1 fx0 fx1 hnex cy0 cy1 fy0 fy1 hney cr0 cr1 fr0 fr1 hner cu0 cu1 fu0 fu1 hneu Xx Xy Xr Xu O5 hbw hgd0 hgd1 hgd2 hgd3 hgd4 hgd5 hgd6 hgd7 hgd8 hgd9 hgd10 hgd11;generalize ((Wp.setCell ⟨gu, 0, none⟩ (.bool s5)).setCell ⟨gu, 1, none⟩ (.slice p5 m5 m5)) = Wq at *;have Xx := Xx2;have Xy := Xy2;have Xr := Xr2;have Xu := Xu2;have O5 := O52;have hbw := hbw2;clear Xx2 Xy2 Xr2 Xu2 O52 hbw2
 refine wpJ_tq 5 rfl HJ.out ?_
 refine wpJ_done (by kernel_rfl) ?_ _
 clear HJ;obtain ⟨cr0, cr1, fr0, fr1⟩ := Xr.out;have hner := Xr.out.lt;obtain ⟨cu0, cu1, fu0, fu1⟩ := Xu.out;have hneu := Xu.out.lt;go_wp2_with fail
 refine bodyPost_ret (v := .tuple #[ZV s p m c, ZV s5 p5 m5 m5, .int .i64 (-(N : Int))]) (by rw [results_c2t1 rfl]; go_simp) rfl ⟨s, p, m, c, s5, p5, m5, m5, rfl, H.out.below hbw, ⟨⟨z5, Num.of O5.out N5.out.1 N5.out.2⟩, HS5.out⟩, hbw⟩
end Go.Proofs.YtmlclpjimkjjeaaGreatDoor
