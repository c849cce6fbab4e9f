import Derived.Test.YtpdelpakgdanlaaGreatDoorJ18
import Derived.Test.YtpdelpakgdanlaaGreatDoorJ12
import Derived.Test.YtpdelpakgdanlaaGreatDoorJ17
namespace Go.Proofs.YtpdelpakgdanlaaGreatDoor
open Go.RowKit Go.Shelf
set_option maxRecDepth 20000
set_option maxHeartbeats 0
theorem results_c2t1 {fn : Func} {p u t1 : Tmp} {ty ty2 : TypeId} (h : fn.results = #[.cell p ty, .cell u ty2, .tmp t1]) (tmps : Array Value) (P : Program) (w : World) :
  (results fn tmps).run P w = ((asAddr (tmps.getD p undef)).run P w).andThen fun a w₁ => ((loadVar ty a).run P w₁).andThen fun v w₂ => ((asAddr (tmps.getD u undef)).run P w₂).andThen fun b w₃ => ((loadVar ty2 b).run P w₃).andThen fun v2 w₄ => .ok (.tuple #[v, v2, tmps.getD t1 undef]) w₄ := by
 simp only [results, h]
 simp [Sem.run_bind, Result.andThen]
theorem wbits_x {p q : Option Addr} {m c n d : Nat} {w : World} {x y : Int} {P N : Nat} {s t : Bool} (h : ZN w s p m c x) (k : ZN w t q n d y) (hP : 1 ≤ P ∧ P ≤ 70000) (hLL : (N : Int) = P + bitsN y.natAbs - bitsN x.natAbs) (hl : (x * 2 ^ N).natAbs < LIM) :
  Calls Tryz.prog 85 #[ZV s p m c, ZV t q n d, .int .i64 P] w fun en w' => ∃ s1 p1 m1 c1 s2 p2 m2 c2, en = .returned (.tuple #[ZV s1 p1 m1 c1, ZV s2 p2 m2 c2, .int .i64 (N : Int)]) ∧ ZN w' s1 p1 m1 c1 (x * 2 ^ N) ∧ ZN w' s2 p2 m2 c2 y ∧ Below w.heap.size w w' := by
 have H := hdQ h;have K := hdQ k;have hb1 := (lim_bits x.natAbs).1 h.lim;have hb2 := (lim_bits y.natAbs).1 k.lim
 have HL : Hid ((x * 2 ^ N).natAbs < LIM ∧ N ≤ 9223372036854775807) := ⟨hl, by omega⟩
 obtain ⟨bx, hbx⟩ := exq (bitsN x.natAbs);obtain ⟨bY, hbY⟩ := exq (bitsN y.natAbs);rw [← hbx, ← hbY] at hLL;rw [← hbx] at hb1;rw [← hbY] at hb2;have HB : Hid (bitsN x.natAbs = bx ∧ bitsN y.natAbs = bY) := ⟨hbx.symm, hbY.symm⟩
 have f1 : wrap64 ((P : Int) + bY) = P + bY := by simp only [wrap64]; omega
 have f2 : wrap64 ((P : Int) + bY - bx) = (N : Int) := by simp only [wrap64]; omega
 have f3 : IntKind.i64.wrap ((P : Int) + bY) = P + bY := by simp [IntKind.wrap, IntKind.signed, IntKind.bits]; omega
 have f4 : IntKind.i64.wrap ((P : Int) + bY - bx) = (N : Int) := by simp [IntKind.wrap, IntKind.signed, IntKind.bits]; omega
 have f5 : ¬ (N : Int) < 0 := by omega
 have f6 : wrap64 (N : Int) = N := by simp only [wrap64]; omega
 clear h k hP hLL  hl hb1 hb2 hbx hbY
 go_enter Tryz.func85, Tryz.ntmps85
 go_wp2_with fail;obtain ⟨W0, hW0⟩ := exq ((((w.alloc (.cells #[.bool s, .slice p m c] 24)).alloc (.cells #[.bool t, .slice q n d] 24)).alloc (.cells #[.bool false, .slice none 0 0] 24)).alloc (.cells #[.bool false, .slice none 0 0] 24))
 have Xx : Hid (Box W0 (w.heap.size) (.bool s) (.slice p m c)) := by rw [hW0]; constructor <;> go_simp
 have Xy : Hid (Box W0 (w.heap.size + 1) (.bool t) (.slice q n d)) := by rw [hW0]; constructor <;> go_simp
 have Xr : Hid (Box W0 (w.heap.size + 1 + 1) (.bool false) (.slice none 0 0)) := by rw [hW0]; constructor <;> go_simp
 have Xu : Hid (Box W0 (w.heap.size + 1 + 1 + 1) (.bool false) (.slice none 0 0)) := by rw [hW0]; constructor <;> go_simp
 have hb0 : Below w.heap.size w W0 := by rw [hW0]; exact below4 w _ _ _ _
 rw [← hW0];clear hW0;have hbw := brf w;obtain ⟨gu, hgu⟩ := exq (w.heap.size + 1 + 1 + 1);have HGu : Hid (w.heap.size ≤ gu) := hgl hgu;rw [← hgu] at Xu
 try rw [← hgu]
 obtain ⟨gr, hgr⟩ := exq (w.heap.size + 1 + 1);have HGr : Hid (w.heap.size ≤ gr) := hgl hgr;rw [← hgr] at Xr
 try rw [← hgr]
 obtain ⟨gy, hgy⟩ := exq (w.heap.size + 1);have HGy : Hid (w.heap.size ≤ gy) := hgl hgy;rw [← hgy] at Xy
 try rw [← hgy]
 obtain ⟨gx, hgx⟩ := exq w.heap.size;have HGx : Hid (w.heap.size ≤ gx) := hgl hgx;rw [← hgx] at Xx
 try rw [← hgx]
 have HGD : Hid (gx ≠ gy ∧ gx ≠ gr ∧ gx ≠ gu ∧ gy ≠ gx ∧ gy ≠ gr ∧ gy ≠ gu ∧ gr ≠ gx ∧ gr ≠ gy ∧ gr ≠ gu ∧ gu ≠ gx ∧ gu ≠ gy ∧ gu ≠ gr) := by rw [hgx, hgy, hgr, hgu]; show _ ∧ _; omega
 clear hgx hgy hgr hgu;replace hbw := bon hbw hb0;clear hb0;obtain ⟨W1, hW1⟩ := exq W0.drew
 have hbd : Below W0.heap.size W0 W1 := by rw [hW1]; exact bDrew1 (Below.refl _ _)
 replace Xx := Box.b Xx hbd;replace Xy := Box.b Xy hbd;replace Xr := Box.b Xr hbd;replace Xu := Box.b Xu hbd;replace hbw := bon hbw hbd;clear hbd
 have HJ : Hid ((fun W' : World => W'.cell? ⟨gx, 1, none⟩ = some (.slice p m c) ∧ W'.cell? ⟨gy, 1, none⟩ = some (.slice q n d)) W1) := ⟨Xx.out.c1, Xy.out.c1⟩
 refine wp_region_J (fun W' => W'.cell? ⟨gx, 1, none⟩ = some (.slice p m c) ∧ W'.cell? ⟨gy, 1, none⟩ = some (.slice q n d)) (by kernel_rfl) ?_
 rw [← hW1];clear hW1
 refine wpJ_tq 0 rfl HJ.out ?_
 refine wpJ_tq 1 rfl HJ.out ?_
 refine wpJ_tq 2 rfl HJ.out ?_
 refine wpJ_tq 5 rfl HJ.out ?_
 refine wpJ_tq 6 rfl HJ.out ?_
 refine wpJ_on 3 rfl fun KJ hK => ?_
 go_simp;obtain ⟨xs, hX⟩ := (K.out.below hbw).ex
 refine (bits_any hX.at_ (by have := hX.le; omega)).mono ?_
 rintro e2 v3 ⟨rfl, hw⟩;obtain rfl := hw.symm;clear hw;rw [hX.nf.val, HB.out.2];clear hX HJ
 have HJ : Hid ((fun W' : World => W'.cell? ⟨gx, 1, none⟩ = some (.slice p m c) ∧ W'.cell? ⟨gy, 1, none⟩ = some (.slice q n d)) W1) := ⟨Xx.out.c1, Xy.out.c1⟩
 refine hK _ _ HJ.out ?_
 clear hK
 refine wpJ_tq 4 rfl HJ.out ?_
 refine wpJ_on 7 rfl fun KJ hK => ?_
 go_simp;obtain ⟨xs, hX⟩ := (H.out.below hbw).ex
 refine (bits_any hX.at_ (by have := hX.le; omega)).mono ?_
 rintro e2 v3 ⟨rfl, hw⟩;obtain rfl := hw.symm;clear hw;rw [hX.nf.val, HB.out.1];clear hX HJ
 have HJ : Hid ((fun W' : World => W'.cell? ⟨gx, 1, none⟩ = some (.slice p m c) ∧ W'.cell? ⟨gy, 1, none⟩ = some (.slice q n d)) W1) := ⟨Xx.out.c1, Xy.out.c1⟩
 refine hK _ _ HJ.out ?_
 clear hK
 refine wpJ_tq 8 rfl HJ.out ?_
 refine wpJ_tq 9 rfl HJ.out ?_
 refine wpJ_done (by kernel_rfl) ?_ _
 clear HJ;obtain ⟨cx0, cx1, fx0, fx1⟩ := Xx.out;have hnex := Xx.out.lt;obtain ⟨cy0, cy1, fy0, fy1⟩ := Xy.out;have hney := Xy.out.lt;go_wp2_with fail;clear cx0 cx1 fx0 fx1 hnex cy0 cy1 fy0 fy1 hney f1 f2 f3 f4 f5;have HRL : Hid (gx < W1.heap.size ∧ gy < W1.heap.size ∧ gr < W1.heap.size ∧ gu < W1.heap.size ∧ w.heap.size ≤ W1.heap.size) := ⟨Xx.out.lt, Xy.out.lt, Xr.out.lt, Xu.out.lt, hbw.size⟩
 refine (zshl (H.out.below hbw) N HL.out.2).mono ?_
 rintro e2 v5 ⟨ha, hb5⟩
 rcases ha with ⟨_, p5, m5, z5, rfl, ho5, hn5, hm5⟩ | ⟨hl5, rfl⟩
 case inr => (exact absurd HL.out.1 (Nat.not_lt.2 hl5))
 replace Xx := Box.b Xx hb5;replace Xy := Box.b Xy hb5;replace Xr := Box.b Xr hb5;replace Xu := Box.b Xu hb5;replace hbw := bon hbw hb5;clear hb5;have O5 := hdQ ho5;have N5 : Hid (Nf B64 z5 (x * 2 ^ N).natAbs ∧ m5 ≤ 8192) := ⟨hn5, hm5⟩;obtain ⟨s5, hs5⟩ := exq (decide ((x * 2 ^ N) < 0));rw [← hs5];have HS5 : Hid (s5 = decide ((x * 2 ^ N) < 0)) := hs5;clear ho5 hn5 hm5 hs5;obtain ⟨hgd0, hgd1, hgd2, hgd3, hgd4, hgd5, hgd6, hgd7, hgd8, hgd9, hgd10, hgd11⟩ := HGD.out;obtain ⟨cx0, cx1, fx0, fx1⟩ := Xx.out;have hnex := Xx.out.lt;obtain ⟨cy0, cy1, fy0, fy1⟩ := Xy.out;have hney := Xy.out.lt;obtain ⟨cr0, cr1, fr0, fr1⟩ := Xr.out;have hner := Xr.out.lt;obtain ⟨cu0, cu1, fu0, fu1⟩ := Xu.out;have hneu := Xu.out.lt;go_wp2_with fail
 have Xx2 : Hid (Box ((v5.setCell ⟨gx, 0, none⟩ (.bool s5)).setCell ⟨gx, 1, none⟩ (.slice p5 m5 m5)) gx (.bool s5) (.slice p5 m5 m5)) := ⟨by go_simp, by go_simp, by go_simp, by go_simp⟩
 have Xy2 : Hid (Box ((v5.setCell ⟨gx, 0, none⟩ (.bool s5)).setCell ⟨gx, 1, none⟩ (.slice p5 m5 m5)) gy (.bool t) (.slice q n d)) := ⟨by go_simp, by go_simp, by go_simp, by go_simp⟩
 have Xr2 : Hid (Box ((v5.setCell ⟨gx, 0, none⟩ (.bool s5)).setCell ⟨gx, 1, none⟩ (.slice p5 m5 m5)) gr (.bool false) (.slice none 0 0)) := ⟨by go_simp, by go_simp, by go_simp, by go_simp⟩
 have Xu2 : Hid (Box ((v5.setCell ⟨gx, 0, none⟩ (.bool s5)).setCell ⟨gx, 1, none⟩ (.slice p5 m5 m5)) gu (.bool false) (.slice none 0 0)) := ⟨by go_simp, by go_simp, by go_simp, by go_simp⟩
 have O52 : Hid (Own W1.heap.size ((v5.setCell ⟨gx, 0, none⟩ (.bool s5)).setCell ⟨gx, 1, none⟩ (.slice p5 m5 m5)) p5 m5 z5) := own_set2 O5.out HRL.out.1 (Nat.le_refl _) _ _;have hbw2 : Below w.heap.size w ((v5.setCell ⟨gx, 0, none⟩ (.bool s5)).setCell ⟨gx, 1, none⟩ (.slice p5 m5 m5)) := bSet (bSet hbw _ _ _ HGx.out) _ _ _ HGx.out;clear cx0 cx1 fx0 fx1 hnex cy0 cy1 fy0 fy1 hney cr0 cr1 fr0 fr1 hner cu0 cu1 fu0 fu1 hneu Xx Xy Xr Xu O5 hbw hgd0 hgd1 hgd2 hgd3 hgd4 hgd5 hgd6 hgd7 hgd8 hgd9 hgd10 hgd11;generalize ((v5.setCell ⟨gx, 0, none⟩ (.bool s5)).setCell ⟨gx, 1, none⟩ (.slice p5 m5 m5)) = W6 at *;have Xx := Xx2;have Xy := Xy2;have Xr := Xr2;have Xu := Xu2;have O5 := O52;have hbw := hbw2;clear Xx2 Xy2 Xr2 Xu2 O52 hbw2;obtain ⟨W7, hW7⟩ := exq W6.drew
 have hbd : Below W6.heap.size W6 W7 := by rw [hW7]; exact bDrew1 (Below.refl _ _)
 replace Xx := Box.b Xx hbd;replace Xy := Box.b Xy hbd;replace Xr := Box.b Xr hbd;replace Xu := Box.b Xu hbd;replace O5 := Own.b O5 hbd;replace hbw := bon hbw hbd;clear hbd
 have HJ : Hid ((fun W' : World => W'.cell? ⟨gx, 0, none⟩ = some (.bool s5) ∧ W'.cell? ⟨gx, 1, none⟩ = some (.slice p5 m5 m5) ∧ W'.cell? ⟨gy, 0, none⟩ = some (.bool t) ∧ W'.cell? ⟨gy, 1, none⟩ = some (.slice q n d)) W7) := ⟨Xx.out.c0, Xx.out.c1, Xy.out.c0, Xy.out.c1⟩
 refine wp_region_J (fun W' => W'.cell? ⟨gx, 0, none⟩ = some (.bool s5) ∧ W'.cell? ⟨gx, 1, none⟩ = some (.slice p5 m5 m5) ∧ W'.cell? ⟨gy, 0, none⟩ = some (.bool t) ∧ W'.cell? ⟨gy, 1, none⟩ = some (.slice q n d)) (by kernel_rfl) ?_
 rw [← hW7];clear hW7
 refine wpJ_tq 0 rfl HJ.out ?_
 refine wpJ_tq 1 rfl HJ.out ?_
 refine wpJ_tq 2 rfl HJ.out ?_
 obtain ⟨cx0, cx1, fx0, fx1⟩ := Xx.out;have hnex := Xx.out.lt;obtain ⟨cy0, cy1, fy0, fy1⟩ := Xy.out;have hney := Xy.out.lt;obtain ⟨cr0, cr1, fr0, fr1⟩ := Xr.out;have hner := Xr.out.lt;obtain ⟨cu0, cu1, fu0, fu1⟩ := Xu.out;have hneu := Xu.out.lt;obtain ⟨hgd0, hgd1, hgd2, hgd3, hgd4, hgd5, hgd6, hgd7, hgd8, hgd9, hgd10, hgd11⟩ := HGD.out
 refine wpJ_on 3 rfl fun KJ hK => ?_
 go_simp
 have HJ2 : Hid ((fun W' : World => W'.cell? ⟨gx, 0, none⟩ = some (.bool s5) ∧ W'.cell? ⟨gx, 1, none⟩ = some (.slice p5 m5 m5) ∧ W'.cell? ⟨gy, 0, none⟩ = some (.bool t) ∧ W'.cell? ⟨gy, 1, none⟩ = some (.slice q n d)) ((W7.setCell ⟨gr, 0, none⟩ (.bool s5)).setCell ⟨gr, 1, none⟩ (.slice p5 m5 m5))) := ⟨by go_simp, by go_simp, by go_simp, by go_simp⟩
 refine hK _ _ HJ2.out ?_
 clear hK HJ;have HJ := HJ2;clear HJ2
 have Xx2 : Hid (Box ((W7.setCell ⟨gr, 0, none⟩ (.bool s5)).setCell ⟨gr, 1, none⟩ (.slice p5 m5 m5)) gx (.bool s5) (.slice p5 m5 m5)) := ⟨by go_simp, by go_simp, by go_simp, by go_simp⟩
 have Xy2 : Hid (Box ((W7.setCell ⟨gr, 0, none⟩ (.bool s5)).setCell ⟨gr, 1, none⟩ (.slice p5 m5 m5)) gy (.bool t) (.slice q n d)) := ⟨by go_simp, by go_simp, by go_simp, by go_simp⟩
 have Xr2 : Hid (Box ((W7.setCell ⟨gr, 0, none⟩ (.bool s5)).setCell ⟨gr, 1, none⟩ (.slice p5 m5 m5)) gr (.bool s5) (.slice p5 m5 m5)) := ⟨by go_simp, by go_simp, by go_simp, by go_simp⟩
 have Xu2 : Hid (Box ((W7.setCell ⟨gr, 0, none⟩ (.bool s5)).setCell ⟨gr, 1, none⟩ (.slice p5 m5 m5)) gu (.bool false) (.slice none 0 0)) := ⟨by go_simp, by go_simp, by go_simp, by go_simp⟩
 have O52 : Hid (Own W1.heap.size ((W7.setCell ⟨gr, 0, none⟩ (.bool s5)).setCell ⟨gr, 1, none⟩ (.slice p5 m5 m5)) p5 m5 z5) := own_set2 O5.out HRL.out.2.2.1 (Nat.le_refl _) _ _;have hbw2 : Below w.heap.size w ((W7.setCell ⟨gr, 0, none⟩ (.bool s5)).setCell ⟨gr, 1, none⟩ (.slice p5 m5 m5)) := bSet (bSet hbw _ _ _ HGr.out) _ _ _ HGr.out;clear cx0 cx1 fx0 fx1 hnex cy0 cy1 fy0 fy1 hney cr0 cr1 fr0 fr1 hner cu0 cu1 fu0 fu1 hneu Xx Xy Xr Xu O5 hbw hgd0 hgd1 hgd2 hgd3 hgd4 hgd5 hgd6 hgd7 hgd8 hgd9 hgd10 hgd11;generalize ((W7.setCell ⟨gr, 0, none⟩ (.bool s5)).setCell ⟨gr, 1, none⟩ (.slice p5 m5 m5)) = Wp at *;have Xx := Xx2;have Xy := Xy2;have Xr := Xr2;have Xu := Xu2;have O5 := O52;have hbw := hbw2;clear Xx2 Xy2 Xr2 Xu2 O52 hbw2;obtain ⟨cx0, cx1, fx0, fx1⟩ := Xx.out;have hnex := Xx.out.lt;obtain ⟨cy0, cy1, fy0, fy1⟩ := Xy.out;have hney := Xy.out.lt;obtain ⟨cr0, cr1, fr0, fr1⟩ := Xr.out;have hner := Xr.out.lt
 obtain ⟨cu0, cu1, fu0, fu1⟩ := Xu.out;have hneu := Xu.out.lt;obtain ⟨hgd0, hgd1, hgd2, hgd3, hgd4, hgd5, hgd6, hgd7, hgd8, hgd9, hgd10, hgd11⟩ := HGD.out
 refine wpJ_on 4 rfl fun KJ hK => ?_
 go_simp
 have HJ2 : Hid ((fun W' : World => W'.cell? ⟨gx, 0, none⟩ = some (.bool s5) ∧ W'.cell? ⟨gx, 1, none⟩ = some (.slice p5 m5 m5) ∧ W'.cell? ⟨gy, 0, none⟩ = some (.bool t) ∧ W'.cell? ⟨gy, 1, none⟩ = some (.slice q n d)) ((Wp.setCell ⟨gu, 0, none⟩ (.bool t)).setCell ⟨gu, 1, none⟩ (.slice q n d))) := ⟨by go_simp, by go_simp, by go_simp, by go_simp⟩
 refine hK _ _ HJ2.out ?_
 clear hK HJ;have HJ := HJ2;clear HJ2
 have Xx2 : Hid (Box ((Wp.setCell ⟨gu, 0, none⟩ (.bool t)).setCell ⟨gu, 1, none⟩ (.slice q n d)) gx (.bool s5) (.slice p5 m5 m5)) := ⟨by go_simp, by go_simp, by go_simp, by go_simp⟩
 have Xy2 : Hid (Box ((Wp.setCell ⟨gu, 0, none⟩ (.bool t)).setCell ⟨gu, 1, none⟩ (.slice q n d)) gy (.bool t) (.slice q n d)) := ⟨by go_simp, by go_simp, by go_simp, by go_simp⟩
 have Xr2 : Hid (Box ((Wp.setCell ⟨gu, 0, none⟩ (.bool t)).setCell ⟨gu, 1, none⟩ (.slice q n d)) gr (.bool s5) (.slice p5 m5 m5)) := ⟨by go_simp, by go_simp, by go_simp, by go_simp⟩
 have Xu2 : Hid (Box ((Wp.setCell ⟨gu, 0, none⟩ (.bool t)).setCell ⟨gu, 1, none⟩ (.slice q n d)) gu (.bool t) (.slice q n d)) := ⟨by go_simp, by go_simp, by go_simp, by go_simp⟩
 have O52 : Hid (Own W1.heap.size ((Wp.setCell ⟨gu, 0, none⟩ (.bool t)).setCell ⟨gu, 1, none⟩ (.slice q n d)) p5 m5 z5) := own_set2 O5.out HRL.out.2.2.2.1 (Nat.le_refl _) _ _;have hbw2 : Below w.heap.size w ((Wp.setCell ⟨gu, 0, none⟩ (.bool t)).setCell ⟨gu, 1, none⟩ (.slice q n d)) := bSet (bSet hbw _ _ _ HGu.out) _ _ _ HGu.out;clear cx0 cx1 fx0 fx1 hnex cy0 cy1 fy0 fy1 hney cr0 cr1 fr0 fr1 hner cu0 cu1 fu0 fu1 hneu Xx Xy Xr Xu O5 hbw hgd0 hgd1 hgd2 hgd3 hgd4 hgd5 hgd6 hgd7 hgd8 hgd9 hgd10 hgd11;generalize ((Wp.setCell ⟨gu, 0, none⟩ (.bool t)).setCell ⟨gu, 1, none⟩ (.slice q n d)) = Wq at *;have Xx := Xx2;have Xy := Xy2;have Xr := Xr2;have Xu := Xu2;have O5 := O52;have hbw := hbw2;clear Xx2 Xy2 Xr2 Xu2 O52 hbw2
 refine wpJ_tq 5 rfl HJ.out ?_
 refine wpJ_done (by kernel_rfl) ?_ _
 clear HJ;obtain ⟨cr0, cr1, fr0, fr1⟩ := Xr.out;have hner := Xr.out.lt;obtain ⟨cu0, cu1, fu0, fu1⟩ := Xu.out;have hneu := Xu.out.lt;go_wp2_with fail
 refine bodyPost_ret (v := .tuple #[ZV s5 p5 m5 m5, ZV t q n d, .int .i64 (N : Int)]) (by rw [results_c2t1 rfl]; go_simp) rfl ⟨s5, p5, m5, m5, t, q, n, d, rfl, ⟨⟨z5, Num.of O5.out N5.out.1 N5.out.2⟩, HS5.out⟩, K.out.below hbw, hbw⟩
theorem wbits_y {p q : Option Addr} {m c n d : Nat} {w : World} {x y : Int} {P N : Nat} {s t : Bool} (h : ZN w s p m c x) (k : ZN w t q n d y) (hP : 1 ≤ P ∧ P ≤ 70000) (hLL : (-(N : Int)) = P + bitsN y.natAbs - bitsN x.natAbs) (hN : 0 < N) (hl : (y * 2 ^ N).natAbs < LIM) :
  Calls Tryz.prog 85 #[ZV s p m c, ZV t q n d, .int .i64 P] w fun en w' => ∃ s1 p1 m1 c1 s2 p2 m2 c2, en = .returned (.tuple #[ZV s1 p1 m1 c1, ZV s2 p2 m2 c2, .int .i64 (-(N : Int))]) ∧ ZN w' s1 p1 m1 c1 x ∧ ZN w' s2 p2 m2 c2 (y * 2 ^ N) ∧ Below w.heap.size w w' := by
 have H := hdQ h;have K := hdQ k;have hb1 := (lim_bits x.natAbs).1 h.lim;have hb2 := (lim_bits y.natAbs).1 k.lim
 have HL : Hid ((y * 2 ^ N).natAbs < LIM ∧ N ≤ 9223372036854775807) := ⟨hl, by omega⟩
 obtain ⟨bx, hbx⟩ := exq (bitsN x.natAbs);obtain ⟨bY, hbY⟩ := exq (bitsN y.natAbs);rw [← hbx, ← hbY] at hLL;rw [← hbx] at hb1;rw [← hbY] at hb2;have HB : Hid (bitsN x.natAbs = bx ∧ bitsN y.natAbs = bY) := ⟨hbx.symm, hbY.symm⟩
 have f1 : wrap64 ((P : Int) + bY) = P + bY := by simp only [wrap64]; omega
 have f2 : wrap64 ((P : Int) + bY - bx) = (-(N : Int)) := by simp only [wrap64]; omega
 have f3 : IntKind.i64.wrap ((P : Int) + bY) = P + bY := by simp [IntKind.wrap, IntKind.signed, IntKind.bits]; omega
 have f4 : IntKind.i64.wrap ((P : Int) + bY - bx) = (-(N : Int)) := by simp [IntKind.wrap, IntKind.signed, IntKind.bits]; omega
 have f5 : -(N : Int) < 0 := by omega
 have f6 : wrap64 (N : Int) = N := by simp only [wrap64]; omega
 clear h k hP hLL hN hl hb1 hb2 hbx hbY
 go_enter Tryz.func85, Tryz.ntmps85
 go_wp2_with fail;obtain ⟨W0, hW0⟩ := exq ((((w.alloc (.cells #[.bool s, .slice p m c] 24)).alloc (.cells #[.bool t, .slice q n d] 24)).alloc (.cells #[.bool false, .slice none 0 0] 24)).alloc (.cells #[.bool false, .slice none 0 0] 24))
 have Xx : Hid (Box W0 (w.heap.size) (.bool s) (.slice p m c)) := by rw [hW0]; constructor <;> go_simp
 have Xy : Hid (Box W0 (w.heap.size + 1) (.bool t) (.slice q n d)) := by rw [hW0]; constructor <;> go_simp
 have Xr : Hid (Box W0 (w.heap.size + 1 + 1) (.bool false) (.slice none 0 0)) := by rw [hW0]; constructor <;> go_simp
 have Xu : Hid (Box W0 (w.heap.size + 1 + 1 + 1) (.bool false) (.slice none 0 0)) := by rw [hW0]; constructor <;> go_simp
 have hb0 : Below w.heap.size w W0 := by rw [hW0]; exact below4 w _ _ _ _
 rw [← hW0];clear hW0;have hbw := brf w;obtain ⟨gu, hgu⟩ := exq (w.heap.size + 1 + 1 + 1);have HGu : Hid (w.heap.size ≤ gu) := hgl hgu;rw [← hgu] at Xu
 try rw [← hgu]
 obtain ⟨gr, hgr⟩ := exq (w.heap.size + 1 + 1);have HGr : Hid (w.heap.size ≤ gr) := hgl hgr;rw [← hgr] at Xr
 try rw [← hgr]
 obtain ⟨gy, hgy⟩ := exq (w.heap.size + 1);have HGy : Hid (w.heap.size ≤ gy) := hgl hgy;rw [← hgy] at Xy
 try rw [← hgy]
 obtain ⟨gx, hgx⟩ := exq w.heap.size;have HGx : Hid (w.heap.size ≤ gx) := hgl hgx;rw [← hgx] at Xx
 try rw [← hgx]
 have HGD : Hid (gx ≠ gy ∧ gx ≠ gr ∧ gx ≠ gu ∧ gy ≠ gx ∧ gy ≠ gr ∧ gy ≠ gu ∧ gr ≠ gx ∧ gr ≠ gy ∧ gr ≠ gu ∧ gu ≠ gx ∧ gu ≠ gy ∧ gu ≠ gr) := by rw [hgx, hgy, hgr, hgu]; show _ ∧ _; omega
 clear hgx hgy hgr hgu;replace hbw := bon hbw hb0;clear hb0;obtain ⟨W1, hW1⟩ := exq W0.drew
 have hbd : Below W0.heap.size W0 W1 := by rw [hW1]; exact bDrew1 (Below.refl _ _)
 replace Xx := Box.b Xx hbd;replace Xy := Box.b Xy hbd;replace Xr := Box.b Xr hbd;replace Xu := Box.b Xu hbd;replace hbw := bon hbw hbd;clear hbd
 have HJ : Hid ((fun W' : World => W'.cell? ⟨gx, 1, none⟩ = some (.slice p m c) ∧ W'.cell? ⟨gy, 1, none⟩ = some (.slice q n d)) W1) := ⟨Xx.out.c1, Xy.out.c1⟩
 refine wp_region_J (fun W' => W'.cell? ⟨gx, 1, none⟩ = some (.slice p m c) ∧ W'.cell? ⟨gy, 1, none⟩ = some (.slice q n d)) (by kernel_rfl) ?_
 rw [← hW1];clear hW1
 refine wpJ_tq 0 rfl HJ.out ?_
 refine wpJ_tq 1 rfl HJ.out ?_
 refine wpJ_tq 2 rfl HJ.out ?_
 refine wpJ_tq 5 rfl HJ.out ?_
 refine wpJ_tq 6 rfl HJ.out ?_
 refine wpJ_on 3 rfl fun KJ hK => ?_
 go_simp;obtain ⟨xs, hX⟩ := (K.out.below hbw).ex
 refine (bits_any hX.at_ (by have := hX.le; omega)).mono ?_
 rintro e2 v3 ⟨rfl, hw⟩;obtain rfl := hw.symm;clear hw;rw [hX.nf.val, HB.out.2];clear hX HJ
 have HJ : Hid ((fun W' : World => W'.cell? ⟨gx, 1, none⟩ = some (.slice p m c) ∧ W'.cell? ⟨gy, 1, none⟩ = some (.slice q n d)) W1) := ⟨Xx.out.c1, Xy.out.c1⟩
 refine hK _ _ HJ.out ?_
 clear hK
 refine wpJ_tq 4 rfl HJ.out ?_
 refine wpJ_on 7 rfl fun KJ hK => ?_
 go_simp;obtain ⟨xs, hX⟩ := (H.out.below hbw).ex
 refine (bits_any hX.at_ (by have := hX.le; omega)).mono ?_
 rintro e2 v3 ⟨rfl, hw⟩;obtain rfl := hw.symm;clear hw;rw [hX.nf.val, HB.out.1];clear hX HJ
 have HJ : Hid ((fun W' : World => W'.cell? ⟨gx, 1, none⟩ = some (.slice p m c) ∧ W'.cell? ⟨gy, 1, none⟩ = some (.slice q n d)) W1) := ⟨Xx.out.c1, Xy.out.c1⟩
 refine hK _ _ HJ.out ?_
 clear hK
 refine wpJ_tq 8 rfl HJ.out ?_
 refine wpJ_tq 9 rfl HJ.out ?_
 refine wpJ_done (by kernel_rfl) ?_ _
 clear HJ;obtain ⟨cx0, cx1, fx0, fx1⟩ := Xx.out;have hnex := Xx.out.lt;obtain ⟨cy0, cy1, fy0, fy1⟩ := Xy.out;have hney := Xy.out.lt;go_wp2_with fail;clear cx0 cx1 fx0 fx1 hnex cy0 cy1 fy0 fy1 hney f1 f2 f3 f4 f5;have HRL : Hid (gx < W1.heap.size ∧ gy < W1.heap.size ∧ gr < W1.heap.size ∧ gu < W1.heap.size ∧ w.heap.size ≤ W1.heap.size) := ⟨Xx.out.lt, Xy.out.lt, Xr.out.lt, Xu.out.lt, hbw.size⟩
 refine (zshl (K.out.below hbw) N HL.out.2).mono ?_
 rintro e2 v5 ⟨ha, hb5⟩
 rcases ha with ⟨_, p5, m5, z5, rfl, ho5, hn5, hm5⟩ | ⟨hl5, rfl⟩
 case inr => (exact absurd HL.out.1 (Nat.not_lt.2 hl5))
 replace Xx := Box.b Xx hb5;replace Xy := Box.b Xy hb5;replace Xr := Box.b Xr hb5;replace Xu := Box.b Xu hb5;replace hbw := bon hbw hb5;clear hb5;have O5 := hdQ ho5;have N5 : Hid (Nf B64 z5 (y * 2 ^ N).natAbs ∧ m5 ≤ 8192) := ⟨hn5, hm5⟩;obtain ⟨s5, hs5⟩ := exq (decide ((y * 2 ^ N) < 0));rw [← hs5];have HS5 : Hid (s5 = decide ((y * 2 ^ N) < 0)) := hs5;clear ho5 hn5 hm5 hs5;obtain ⟨hgd0, hgd1, hgd2, hgd3, hgd4, hgd5, hgd6, hgd7, hgd8, hgd9, hgd10, hgd11⟩ := HGD.out;obtain ⟨cx0, cx1, fx0, fx1⟩ := Xx.out;have hnex := Xx.out.lt;obtain ⟨cy0, cy1, fy0, fy1⟩ := Xy.out;have hney := Xy.out.lt;obtain ⟨cr0, cr1, fr0, fr1⟩ := Xr.out;have hner := Xr.out.lt;obtain ⟨cu0, cu1, fu0, fu1⟩ := Xu.out;have hneu := Xu.out.lt;go_wp2_with fail
 have Xx2 : Hid (Box ((v5.setCell ⟨gy, 0, none⟩ (.bool s5)).setCell ⟨gy, 1, none⟩ (.slice p5 m5 m5)) gx (.bool s) (.slice p m c)) := ⟨by go_simp, by go_simp, by go_simp, by go_simp⟩
 have Xy2 : Hid (Box ((v5.setCell ⟨gy, 0, none⟩ (.bool s5)).setCell ⟨gy, 1, none⟩ (.slice p5 m5 m5)) gy (.bool s5) (.slice p5 m5 m5)) := ⟨by go_simp, by go_simp, by go_simp, by go_simp⟩
 have Xr2 : Hid (Box ((v5.setCell ⟨gy, 0, none⟩ (.bool s5)).setCell ⟨gy, 1, none⟩ (.slice p5 m5 m5)) gr (.bool false) (.slice none 0 0)) := ⟨by go_simp, by go_simp, by go_simp, by go_simp⟩
 have Xu2 : Hid (Box ((v5.setCell ⟨gy, 0, none⟩ (.bool s5)).setCell ⟨gy, 1, none⟩ (.slice p5 m5 m5)) gu (.bool false) (.slice none 0 0)) := ⟨by go_simp, by go_simp, by go_simp, by go_simp⟩
 have O52 : Hid (Own W1.heap.size ((v5.setCell ⟨gy, 0, none⟩ (.bool s5)).setCell ⟨gy, 1, none⟩ (.slice p5 m5 m5)) p5 m5 z5) := own_set2 O5.out HRL.out.2.1 (Nat.le_refl _) _ _;have hbw2 : Below w.heap.size w ((v5.setCell ⟨gy, 0, none⟩ (.bool s5)).setCell ⟨gy, 1, none⟩ (.slice p5 m5 m5)) := bSet (bSet hbw _ _ _ HGy.out) _ _ _ HGy.out;clear cx0 cx1 fx0 fx1 hnex cy0 cy1 fy0 fy1 hney cr0 cr1 fr0 fr1 hner cu0 cu1 fu0 fu1 hneu Xx Xy Xr Xu O5 hbw hgd0 hgd1 hgd2 hgd3 hgd4 hgd5 hgd6 hgd7 hgd8 hgd9 hgd10 hgd11;generalize ((v5.setCell ⟨gy, 0, none⟩ (.bool s5)).setCell ⟨gy, 1, none⟩ (.slice p5 m5 m5)) = W6 at *;have Xx := Xx2;have Xy := Xy2;have Xr := Xr2;have Xu := Xu2;have O5 := O52;have hbw := hbw2;clear Xx2 Xy2 Xr2 Xu2 O52 hbw2;obtain ⟨W7, hW7⟩ := exq W6.drew
 have hbd : Below W6.heap.size W6 W7 := by rw [hW7]; exact bDrew1 (Below.refl _ _)
 replace Xx := Box.b Xx hbd;replace Xy := Box.b Xy hbd;replace Xr := Box.b Xr hbd;replace Xu := Box.b Xu hbd;replace O5 := Own.b O5 hbd;replace hbw := bon hbw hbd;clear hbd
 have HJ : Hid ((fun W' : World => W'.cell? ⟨gx, 0, none⟩ = some (.bool s) ∧ W'.cell? ⟨gx, 1, none⟩ = some (.slice p m c) ∧ W'.cell? ⟨gy, 0, none⟩ = some (.bool s5) ∧ W'.cell? ⟨gy, 1, none⟩ = some (.slice p5 m5 m5)) W7) := ⟨Xx.out.c0, Xx.out.c1, Xy.out.c0, Xy.out.c1⟩
 refine wp_region_J (fun W' => W'.cell? ⟨gx, 0, none⟩ = some (.bool s) ∧ W'.cell? ⟨gx, 1, none⟩ = some (.slice p m c) ∧ W'.cell? ⟨gy, 0, none⟩ = some (.bool s5) ∧ W'.cell? ⟨gy, 1, none⟩ = some (.slice p5 m5 m5)) (by kernel_rfl) ?_
 rw [← hW7];clear hW7
 refine wpJ_tq 0 rfl HJ.out ?_
 refine wpJ_tq 1 rfl HJ.out ?_
 refine wpJ_tq 2 rfl HJ.out ?_
 obtain ⟨cx0, cx1, fx0, fx1⟩ := Xx.out;have hnex := Xx.out.lt;obtain ⟨cy0, cy1, fy0, fy1⟩ := Xy.out;have hney := Xy.out.lt;obtain ⟨cr0, cr1, fr0, fr1⟩ := Xr.out;have hner := Xr.out.lt;obtain ⟨cu0, cu1, fu0, fu1⟩ := Xu.out;have hneu := Xu.out.lt;obtain ⟨hgd0, hgd1, hgd2, hgd3, hgd4, hgd5, hgd6, hgd7, hgd8, hgd9, hgd10, hgd11⟩ := HGD.out
 refine wpJ_on 3 rfl fun KJ hK => ?_
 go_simp
 have HJ2 : Hid ((fun W' : World => W'.cell? ⟨gx, 0, none⟩ = some (.bool s) ∧ W'.cell? ⟨gx, 1, none⟩ = some (.slice p m c) ∧ W'.cell? ⟨gy, 0, none⟩ = some (.bool s5) ∧ W'.cell? ⟨gy, 1, none⟩ = some (.slice p5 m5 m5)) ((W7.setCell ⟨gr, 0, none⟩ (.bool s)).setCell ⟨gr, 1, none⟩ (.slice p m c))) := ⟨by go_simp, by go_simp, by go_simp, by go_simp⟩
 refine hK _ _ HJ2.out ?_
 clear hK HJ;have HJ := HJ2;clear HJ2
 have Xx2 : Hid (Box ((W7.setCell ⟨gr, 0, none⟩ (.bool s)).setCell ⟨gr, 1, none⟩ (.slice p m c)) gx (.bool s) (.slice p m c)) := ⟨by go_simp, by go_simp, by go_simp, by go_simp⟩
 have Xy2 : Hid (Box ((W7.setCell ⟨gr, 0, none⟩ (.bool s)).setCell ⟨gr, 1, none⟩ (.slice p m c)) gy (.bool s5) (.slice p5 m5 m5)) := ⟨by go_simp, by go_simp, by go_simp, by go_simp⟩
 have Xr2 : Hid (Box ((W7.setCell ⟨gr, 0, none⟩ (.bool s)).setCell ⟨gr, 1, none⟩ (.slice p m c)) gr (.bool s) (.slice p m c)) := ⟨by go_simp, by go_simp, by go_simp, by go_simp⟩
 have Xu2 : Hid (Box ((W7.setCell ⟨gr, 0, none⟩ (.bool s)).setCell ⟨gr, 1, none⟩ (.slice p m c)) gu (.bool false) (.slice none 0 0)) := ⟨by go_simp, by go_simp, by go_simp, by go_simp⟩
 have O52 : Hid (Own W1.heap.size ((W7.setCell ⟨gr, 0, none⟩ (.bool s)).setCell ⟨gr, 1, none⟩ (.slice p m c)) p5 m5 z5) := own_set2 O5.out HRL.out.2.2.1 (Nat.le_refl _) _ _;have hbw2 : Below w.heap.size w ((W7.setCell ⟨gr, 0, none⟩ (.bool s)).setCell ⟨gr, 1, none⟩ (.slice p m c)) := bSet (bSet hbw _ _ _ HGr.out) _ _ _ HGr.out;clear cx0 cx1 fx0 fx1 hnex cy0 cy1 fy0 fy1 hney cr0 cr1 fr0 fr1 hner cu0 cu1 fu0 fu1 hneu Xx Xy Xr Xu O5 hbw hgd0 hgd1 hgd2 hgd3 hgd4 hgd5 hgd6 hgd7 hgd8 hgd9 hgd10 hgd11;generalize ((W7.setCell ⟨gr, 0, none⟩ (.bool s)).setCell ⟨gr, 1, none⟩ (.slice p m c)) = Wp at *;have Xx := Xx2;have Xy := Xy2;have Xr := Xr2;have Xu := Xu2;have O5 := O52;have hbw := hbw2;clear Xx2 Xy2 Xr2 Xu2 O52 hbw2;obtain ⟨cx0, cx1, fx0, fx1⟩ := Xx.out;have hnex := Xx.out.lt;obtain ⟨cy0, cy1, fy0, fy1⟩ := Xy.out;have hney := Xy.out.lt;obtain ⟨cr0, cr1, fr0, fr1⟩ := Xr.out;have hner := Xr.out.lt
 obtain ⟨cu0, cu1, fu0, fu1⟩ := Xu.out;have hneu := Xu.out.lt;obtain ⟨hgd0, hgd1, hgd2, hgd3, hgd4, hgd5, hgd6, hgd7, hgd8, hgd9, hgd10, hgd11⟩ := HGD.out
 refine wpJ_on 4 rfl fun KJ hK => ?_
 go_simp
 have HJ2 : Hid ((fun W' : World => W'.cell? ⟨gx, 0, none⟩ = some (.bool s) ∧ W'.cell? ⟨gx, 1, none⟩ = some (.slice p m c) ∧ W'.cell? ⟨gy, 0, none⟩ = some (.bool s5) ∧ W'.cell? ⟨gy, 1, none⟩ = some (.slice p5 m5 m5)) ((Wp.setCell ⟨gu, 0, none⟩ (.bool s5)).setCell ⟨gu, 1, none⟩ (.slice p5 m5 m5))) := ⟨by go_simp, by go_simp, by go_simp, by go_simp⟩
 refine hK _ _ HJ2.out ?_
 clear hK HJ;have HJ := HJ2;clear HJ2
 have Xx2 : Hid (Box ((Wp.setCell ⟨gu, 0, none⟩ (.bool s5)).setCell ⟨gu, 1, none⟩ (.slice p5 m5 m5)) gx (.bool s) (.slice p m c)) := ⟨by go_simp, by go_simp, by go_simp, by go_simp⟩
 have Xy2 : Hid (Box ((Wp.setCell ⟨gu, 0, none⟩ (.bool s5)).setCell ⟨gu, 1, none⟩ (.slice p5 m5 m5)) gy (.bool s5) (.slice p5 m5 m5)) := ⟨by go_simp, by go_simp, by go_simp, by go_simp⟩
 have Xr2 : Hid (Box ((Wp.setCell ⟨gu, 0, none⟩ (.bool s5)).setCell ⟨gu, 1, none⟩ (.slice p5 m5 m5)) gr (.bool s) (.slice p m c)) := ⟨by go_simp, by go_simp, by go_simp, by go_simp⟩
 have Xu2 : Hid (Box ((Wp.setCell ⟨gu, 0, none⟩ (.bool s5)).setCell ⟨gu, 1, none⟩ (.slice p5 m5 m5)) gu (.bool s5) (.slice p5 m5 m5)) := ⟨by go_simp, by go_simp, by go_simp, by go_simp⟩
 have O52 : Hid (Own W1.heap.size ((Wp.setCell ⟨gu, 0, none⟩ (.bool s5)).setCell ⟨gu, 1, none⟩ (.slice p5 m5 m5)) p5 m5 z5) := own_set2 O5.out HRL.out.2.2.2.1 (Nat.le_refl _) _ _;have hbw2 : Below w.heap.size w ((Wp.setCell ⟨gu, 0, none⟩ (.bool s5)).setCell ⟨gu, 1, none⟩ (.slice p5 m5 m5)) := bSet (bSet hbw _ _ _ HGu.out) _ _ _ HGu.out;clear cx0 cx1 fx0 fx1 hnex cy0 cy1 fy0 fy1 hney cr0 cr1 fr0 fr1 hner cu0 cu1 fu0 fu1 hneu Xx Xy Xr Xu O5 hbw hgd0 hgd1 hgd2 hgd3 hgd4 hgd5 hgd6 hgd7 hgd8 hgd9 hgd10 hgd11;generalize ((Wp.setCell ⟨gu, 0, none⟩ (.bool s5)).setCell ⟨gu, 1, none⟩ (.slice p5 m5 m5)) = Wq at *;have Xx := Xx2;have Xy := Xy2;have Xr := Xr2;have Xu := Xu2;have O5 := O52;have hbw := hbw2;clear Xx2 Xy2 Xr2 Xu2 O52 hbw2
 refine wpJ_tq 5 rfl HJ.out ?_
 refine wpJ_done (by kernel_rfl) ?_ _
 clear HJ;obtain ⟨cr0, cr1, fr0, fr1⟩ := Xr.out;have hner := Xr.out.lt;obtain ⟨cu0, cu1, fu0, fu1⟩ := Xu.out;have hneu := Xu.out.lt;go_wp2_with fail
 refine bodyPost_ret (v := .tuple #[ZV s p m c, ZV s5 p5 m5 m5, .int .i64 (-(N : Int))]) (by rw [results_c2t1 rfl]; go_simp) rfl ⟨s, p, m, c, s5, p5, m5, m5, rfl, H.out.below hbw, ⟨⟨z5, Num.of O5.out N5.out.1 N5.out.2⟩, HS5.out⟩, hbw⟩
def qI (up : Bool) (X Y : Int) : Int := if up then ce (decide (X < 0) != decide (Y < 0)) X.natAbs Y.natAbs else fl (decide (X < 0) != decide (Y < 0)) X.natAbs Y.natAbs
theorem half_bits {w : World} {s : Bool} {p : Option Addr} {m c : Nat} {z : Int} (h : ZN w s p m c z) (hm : m ≤ 4096) : bitsN z.natAbs ≤ 262144 := by
  obtain ⟨ys, hY⟩ := h.ex
  have h1 := (hY.nf.len_le B64_one (k := 4096)).1 (by rw [hY.at_.len]; exact hm)
  obtain ⟨k, hk⟩ := exq 4096;rw [← hk, B64_pow] at h1
  by_cases h0 : z.natAbs = 0
  · rw [h0, bitsN_zero]; omega
  have h2 := bitsN_le z.natAbs h0
  have h3 := (Nat.pow_lt_pow_iff_right (by omega : 1 < 2)).1 (Nat.lt_of_le_of_lt h2 h1)
  omega
theorem shl_lim {x : Int} {N : Nat} (h : x ≠ 0 → bitsN x.natAbs + N ≤ 524288) : (x * 2 ^ N).natAbs < LIM := by
  by_cases h0 : x = 0
  · rw [h0, Int.zero_mul]
    exact lt_LIM (L := 0) (by decide) (by omega)
  · rw [Int.natAbs_mul, pow_cast, Int.natAbs_natCast, lim_bits, Nat.mul_comm, bitsN_shl _ _ (by omega)]
    have := h h0
    omega
structure WB (x y : Int) (P : Nat) (X Y L : Int) : Prop where
 l : L = P + bitsN y.natAbs - bitsN x.natAbs
 xv : X = x * 2 ^ L.toNat
 yv : Y = y * 2 ^ (-L).toNat
theorem wbits {p q : Option Addr} {m c n d : Nat} {w : World} {x y X Y L : Int} {P : Nat} {s t : Bool} (h : ZN w s p m c x) (k : ZN w t q n d y) (hP : 1 ≤ P ∧ P ≤ 70000) (hm : m ≤ 4096) (hn : n ≤ 4096) (hy : y ≠ 0) (hw : WB x y P X Y L) :
  Calls Tryz.prog 85 #[ZV s p m c, ZV t q n d, .int .i64 P] w fun en w' => ∃ s1 p1 m1 c1 s2 p2 m2 c2, en = .returned (.tuple #[ZV s1 p1 m1 c1, ZV s2 p2 m2 c2, .int .i64 L]) ∧ ZN w' s1 p1 m1 c1 X ∧ ZN w' s2 p2 m2 c2 Y ∧ Below w.heap.size w w' := by
 have b1 := half_bits h hm;have b2 := half_bits k hn
 have b3 := bitsN_pos (a := y.natAbs) (by omega)
 obtain ⟨h1, h2, h3⟩ := hw
 rcases Int.lt_or_le L 0 with h0 | h0
 ·obtain ⟨N, hN⟩ : ∃ N : Nat, N = (-L).toNat := ⟨_, rfl⟩
  rw [show L.toNat = 0 from by omega] at h2
  rw [← hN] at h3
  have h4 := wbits_y h k (N := N) hP (by omega) (by omega) (shl_lim fun _ => by omega)
  rw [show L = -(N : Int) from by omega, h2, h3]
  simpa using h4
 ·obtain ⟨N, hN⟩ : ∃ N : Nat, N = L.toNat := ⟨_, rfl⟩
  rw [show (-L).toNat = 0 from by omega] at h3
  rw [← hN] at h2
  have h4 := wbits_x h k (N := N) hP (by omega) (shl_lim fun h9 => by omega)
  rw [show L = (N : Int) from by omega, h2, h3]
  simpa using h4
theorem quo_od {p q : Option Addr} {m c n d : Nat} {w : World} {e f : Int} {s t : Bool} {x y X Y L Z : Int} {P K9 : Nat} (h : DN w s p m c e x) (k : DN w t q n d f y) (hy : y ≠ 0) (hm : m ≤ 4096) (hn : n ≤ 4096) (hP : 1 ≤ P ∧ P ≤ 70000) (hw : WB x y P X Y L) (hZ : Z = qI false X Y) (hK : K9 = bitsN Z.natAbs - P) (hT : Tab w) :
  Calls Tryz.prog 60 #[WVd, DV s p m c e, DV t q n d f, .int .i64 P] w fun en w' => MakeP w.heap.size w' en (rd false Z (2 ^ K9)) (e - f - L + K9) ∧ Below w.heap.size w w' := by
 have H := hdQ h;have K := hdQ k;have HZ : Hid (y ≠ 0) := hy;have HM : Hid (m ≤ 4096 ∧ n ≤ 4096) := ⟨hm, hn⟩;have HP : Hid (1 ≤ P ∧ P ≤ 70000) := hP;have HW := hdQ hw;have HK := hdQ hK;have TB : Hid (Tab w) := hT
 have HY0 : Hid (Y ≠ 0) := by
  rw [hw.yv]
  exact Int.mul_ne_zero hy (by rw [pow_cast]; exact pow_pos_int _)
 have b1 := half_bits h.zn hm;have b2 := half_bits k.zn hn;have hl := hw.l
 have he : -1048576 ≤ e ∧ e ≤ 1048576 := by rcases h.fm with ⟨_, h5⟩ | ⟨_, h5⟩ <;> omega
 have hf : -1048576 ≤ f ∧ f ≤ 1048576 := by rcases k.fm with ⟨_, h5⟩ | ⟨_, h5⟩ <;> omega
 have g1 : ¬ (P : Int) < 1 := by omega
 have g2 : ¬ (70000 : Int) < P := by omega
 have g3 : ¬ (4096 : Int) < max (m : Int) n := by omega
 have u1 : wrap64 (e - f) = e - f := by simp only [wrap64]; omega
 have u2 : wrap64 (e - f - L) = e - f - L := by simp only [wrap64]; omega
 have u3 : IntKind.i64.wrap (e - f) = e - f := by simp [IntKind.wrap, IntKind.signed, IntKind.bits]; omega
 have u4 : IntKind.i64.wrap (e - f - L) = e - f - L := by simp [IntKind.wrap, IntKind.signed, IntKind.bits]; omega
 have HU : Hid (wrap64 (e - f) = e - f ∧ wrap64 (e - f - L) = e - f - L ∧ IntKind.i64.wrap (e - f) = e - f ∧ IntKind.i64.wrap (e - f - L) = e - f - L) := ⟨u1, u2, u3, u4⟩
 have HE : Hid (-2621440 ≤ e - f - L ∧ e - f - L ≤ 2621440) := ⟨by omega, by omega⟩
 have HQ : Hid (fl (decide (X < 0) != decide (Y < 0)) X.natAbs Y.natAbs = Z) := hZ.symm;clear h k hy hm hn hP hw hZ hK hT b1 b2 hl he hf u1 u2 u3 u4
 go_enter Tryz.func60, Tryz.ntmps60
 go_wp2_with fail;obtain ⟨W0, hW0⟩ := exq ((((w.alloc (.cells #[.func (.func 80) #[] #[], .func (.func 84) #[] #[]] 89)).alloc (.cells #[.bool s, .slice p m c, .int .i64 e] 26)).alloc (.cells #[.bool t, .slice q n d, .int .i64 f] 26)).alloc (.cells #[.bool false, .slice none 0 0, .int .i64 0] 26))
 have Xy : Hid (Box W0 (w.heap.size) (.func (.func 80) #[] #[]) (.func (.func 84) #[] #[])) := by rw [hW0]; constructor <;> go_simp
 have Xa : Hid (B3q W0 (w.heap.size + 1) (.bool s) (.slice p m c) (.int .i64 e)) := by rw [hW0]; constructor <;> go_simp
 have Xb : Hid (B3q W0 (w.heap.size + 1 + 1) (.bool t) (.slice q n d) (.int .i64 f)) := by rw [hW0]; constructor <;> go_simp
 have Xr : Hid (B3q W0 (w.heap.size + 1 + 1 + 1) (.bool false) (.slice none 0 0) (.int .i64 0)) := by rw [hW0]; constructor <;> go_simp
 have hb0 : Below w.heap.size w W0 := by rw [hW0]; exact below4 w _ _ _ _
 rw [← hW0];clear hW0;have hbw := brf w;obtain ⟨gr, hgr⟩ := exq (w.heap.size + 1 + 1 + 1);have HGr : Hid (w.heap.size ≤ gr) := hgl hgr;rw [← hgr] at Xr
 try rw [← hgr]
 obtain ⟨gb, hgb⟩ := exq (w.heap.size + 1 + 1);have HGb : Hid (w.heap.size ≤ gb) := hgl hgb;rw [← hgb] at Xb
 try rw [← hgb]
 obtain ⟨ga, hga⟩ := exq (w.heap.size + 1);have HGa : Hid (w.heap.size ≤ ga) := hgl hga;rw [← hga] at Xa
 try rw [← hga]
 obtain ⟨gy, hgy⟩ := exq w.heap.size;have HGy : Hid (w.heap.size ≤ gy) := hgl hgy;rw [← hgy] at Xy
 try rw [← hgy]
 have HGD : Hid (gy ≠ ga ∧ gy ≠ gb ∧ gy ≠ gr ∧ ga ≠ gy ∧ ga ≠ gb ∧ ga ≠ gr ∧ gb ≠ gy ∧ gb ≠ ga ∧ gb ≠ gr ∧ gr ≠ gy ∧ gr ≠ ga ∧ gr ≠ gb) := by rw [hgy, hga, hgb, hgr]; show _ ∧ _; omega
 clear hgy hga hgb hgr;replace hbw := bon hbw hb0;clear hb0
 refine (dform_t (H.out.below hbw)).mono ?_
 rintro e v1 ⟨rfl, hb1⟩;replace Xy := Box.b Xy hb1;replace Xa := B3q.b Xa hb1;replace Xb := B3q.b Xb hb1;replace Xr := B3q.b Xr hb1;replace hbw := bon hbw hb1;clear hb1;obtain ⟨cb0, cb1, cb2, fb0, fb1, fb2⟩ := Xb.out;have hneb : gb < v1.heap.size := blt cb0;go_wp2_with fail;clear cb0 cb1 cb2 fb0 fb1 fb2 hneb
 refine (dform_t (K.out.below hbw)).mono ?_
 rintro e v2 ⟨rfl, hb2⟩;replace Xy := Box.b Xy hb2;replace Xa := B3q.b Xa hb2;replace Xb := B3q.b Xb hb2;replace Xr := B3q.b Xr hb2;replace hbw := bon hbw hb2;clear hb2;obtain ⟨cb0, cb1, cb2, fb0, fb1, fb2⟩ := Xb.out;have hneb : gb < v2.heap.size := blt cb0;go_wp2_with fail;clear cb0 cb1 cb2 fb0 fb1 fb2 hneb
 refine (zsign (K.out.zn.below hbw)).mono ?_
 rintro e v3 ⟨rfl, hb3⟩;obtain ⟨sg, hsg⟩ := exq (sgnI y);rw [← hsg]
 have hs0 : (sg == 0) = false := by rw [hsg]; have := HZ.out; unfold sgnI; split <;> (try split) <;> simp <;> omega
 clear hsg;replace Xy := Box.b Xy hb3;replace Xa := B3q.b Xa hb3;replace Xb := B3q.b Xb hb3;replace Xr := B3q.b Xr hb3;replace hbw := bon hbw hb3;clear hb3;obtain ⟨ca0, ca1, ca2, fa0, fa1, fa2⟩ := Xa.out;have hnea : ga < v3.heap.size := blt ca0;obtain ⟨cb0, cb1, cb2, fb0, fb1, fb2⟩ := Xb.out;have hneb : gb < v3.heap.size := blt cb0;go_wp2_with fail;clear ca0 ca1 ca2 fa0 fa1 fa2 hnea cb0 cb1 cb2 fb0 fb1 fb2 hneb hs0 g1 g2 g3
 refine (wbits (H.out.zn.below hbw) (K.out.zn.below hbw) HP.out HM.out.1 HM.out.2 HZ.out HW.out).mono ?_
 rintro e2 v5 ⟨s5, p5, m5, c5, s6, p6, m6, c6, rfl, hz5, hz6, hb5⟩;replace Xy := Box.b Xy hb5;replace Xa := B3q.b Xa hb5;replace Xb := B3q.b Xb hb5;replace Xr := B3q.b Xr hb5;replace hbw := bon hbw hb5;clear hb5;have Z5 := hdQ hz5;have Z6 := hdQ hz6;clear hz5 hz6;obtain ⟨cy0, cy1, fy0, fy1⟩ := Xy.out;have hney := Xy.out.lt;go_wp2_with fail;clear cy0 cy1 fy0 fy1 hney
 rw [show v5.heap.size + 1 = (v5.alloc (.cells #[.bool s5, .slice p5 m5 c5] 24)).heap.size from by simp]
 have XX0 : Hid (Box (v5.alloc (.cells #[.bool s5, .slice p5 m5 c5] 24)) v5.heap.size (.bool s5) (.slice p5 m5 c5)) := Box.new v5 _ _ _;have hbn : Below v5.heap.size v5 (v5.alloc (.cells #[.bool s5, .slice p5 m5 c5] 24)) := below1 v5 _;generalize v5.alloc (.cells #[.bool s5, .slice p5 m5 c5] 24) = Wx at *;have HGX : Hid (w.heap.size ≤ v5.heap.size) := hbw.size;replace Xy := Box.b Xy hbn;replace Xa := B3q.b Xa hbn;replace Xb := B3q.b Xb hbn;replace Xr := B3q.b Xr hbn;replace Z5 := ZN.b Z5 hbn;replace Z6 := ZN.b Z6 hbn;replace hbw := bon hbw hbn;clear hbn;generalize v5.heap.size = gX at *;have XX := XX0;clear XX0;have XY0 : Hid (Box (Wx.alloc (.cells #[.bool s6, .slice p6 m6 c6] 24)) Wx.heap.size (.bool s6) (.slice p6 m6 c6)) := Box.new Wx _ _ _;have hbn : Below Wx.heap.size Wx (Wx.alloc (.cells #[.bool s6, .slice p6 m6 c6] 24)) := below1 Wx _;generalize Wx.alloc (.cells #[.bool s6, .slice p6 m6 c6] 24) = Wy at *
 have HGY : Hid (w.heap.size ≤ Wx.heap.size) := hbw.size;replace Xy := Box.b Xy hbn;replace Xa := B3q.b Xa hbn;replace Xb := B3q.b Xb hbn;replace Xr := B3q.b Xr hbn;replace XX := Box.b XX hbn;replace Z5 := ZN.b Z5 hbn;replace Z6 := ZN.b Z6 hbn;replace hbw := bon hbw hbn;clear hbn;generalize Wx.heap.size = gY at *;have XY := XY0;clear XY0
 refine (zfdiv Z5.out Z6.out HY0.out).mono ?_
 rintro e v7 ⟨⟨s7, p7, m7, rfl, hz⟩, hb7⟩;replace Xy := Box.b Xy hb7;replace Xa := B3q.b Xa hb7;replace Xb := B3q.b Xb hb7;replace Xr := B3q.b Xr hb7;replace XX := Box.b XX hb7;replace XY := Box.b XY hb7;replace Z5 := ZN.b Z5 hb7;replace Z6 := ZN.b Z6 hb7;replace hbw := bon hbw hb7;clear hb7;have hz := hz.cast (z' := Z) (HQ.out);have Z7 := hdQ hz;clear hz XX XY Z5 Z6;have u1 := HU.out.1;have u2 := HU.out.2.1;have u3 := HU.out.2.2.1;have u4 := HU.out.2.2.2;obtain ⟨cy0, cy1, fy0, fy1⟩ := Xy.out;have hney := Xy.out.lt;obtain ⟨ca0, ca1, ca2, fa0, fa1, fa2⟩ := Xa.out;have hnea : ga < v7.heap.size := blt ca0;obtain ⟨cb0, cb1, cb2, fb0, fb1, fb2⟩ := Xb.out;have hneb : gb < v7.heap.size := blt cb0;go_wp2_with fail;clear cy0 cy1 fy0 fy1 hney ca0 ca1 ca2 fa0 fa1 fa2 hnea cb0 cb1 cb2 fb0 fb1 fb2 hneb u1 u2 u3 u4;have Xq0 : Hid (Box (v7.alloc (.cells #[.bool s7, .slice p7 m7 m7] 24)) v7.heap.size (.bool s7) (.slice p7 m7 m7)) := Box.new v7 _ _ _
 have hbn : Below v7.heap.size v7 (v7.alloc (.cells #[.bool s7, .slice p7 m7 m7] 24)) := below1 v7 _;generalize v7.alloc (.cells #[.bool s7, .slice p7 m7 m7] 24) = Wq at *;have HGq : Hid (w.heap.size ≤ v7.heap.size) := hbw.size;replace Xy := Box.b Xy hbn;replace Xa := B3q.b Xa hbn;replace Xb := B3q.b Xb hbn;replace Xr := B3q.b Xr hbn;replace Z7 := ZN.b Z7 hbn;replace hbw := bon hbw hbn;clear hbn;generalize v7.heap.size = gq at *;have Xq := Xq0;clear Xq0;have HRL : Hid (gr < Wq.heap.size ∧ w.heap.size ≤ Wq.heap.size) := ⟨Xr.out.lt, hbw.size⟩
 refine (cut_d Z7.out HE.out HP.out HK.out (TB.out.below hbw)).mono ?_
 rintro e2 v6 ⟨hv, hb6⟩;obtain ⟨s6, p6, m6, eo, er, rfl, hmp⟩ := hv.open;clear hv;replace Xy := Box.b Xy hb6;replace Xa := B3q.b Xa hb6;replace Xb := B3q.b Xb hb6;replace Xr := B3q.b Xr hb6;replace Xq := Box.b Xq hb6;replace Z7 := ZN.b Z7 hb6;replace hbw := bon hbw hb6;clear hb6;have M6 := hdQ hmp;clear hmp;obtain ⟨cr0, cr1, cr2, fr0, fr1, fr2⟩ := Xr.out;have hner : gr < v6.heap.size := blt cr0;go_wp2_with fail
 refine bodyPost_ret (v := .tuple #[DV s6 p6 m6 m6 eo, .int .i64 er]) (by rw [results_cell_tmp rfl]; go_simp) rfl ⟨(M6.out.set HRL.out.1 HRL.out.2 _ _ _).close, ?_⟩
 exact bSet (bSet (bSet hbw _ _ _ HGr.out) _ _ _ HGr.out) _ _ _ HGr.out
theorem qf_od {p q : Option Addr} {m c n d : Nat} {w : World} {e f : Int} {s t : Bool} {x y X Y L Z : Int} {P K9 : Nat} (h : DN w s p m c e x) (k : DN w t q n d f y) (hy : y ≠ 0) (hm : m ≤ 4096) (hn : n ≤ 4096) (hP : 1 ≤ P ∧ P ≤ 70000) (hw : WB x y P X Y L) (hZ : Z = qI false X Y) (hK : K9 = bitsN Z.natAbs - P) (hT : Tab w) :
  Calls Tryz.prog 35 #[DV s p m c e, DV t q n d f, .int .i64 P] w fun en w' => MakeP w.heap.size w' en (rd false Z (2 ^ K9)) (e - f - L + K9) ∧ Below w.heap.size w w' := by
 have H := hdQ h;have K := hdQ k;have HA : Hid (y ≠ 0 ∧ m ≤ 4096 ∧ n ≤ 4096 ∧ (1 ≤ P ∧ P ≤ 70000) ∧ WB x y P X Y L ∧ Z = qI false X Y ∧ K9 = bitsN Z.natAbs - P) := ⟨hy, hm, hn, hP, hw, hZ, hK⟩;have TB : Hid (Tab w) := hT;clear h k hy hm hn hP hw hZ hK hT
 go_enter Tryz.func35, Tryz.ntmps35
 go_wp2_with fail;obtain ⟨W0, hW0⟩ := exq (((w.alloc (.cells #[.bool s, .slice p m c, .int .i64 e] 26)).alloc (.cells #[.bool t, .slice q n d, .int .i64 f] 26)).alloc (.cells #[.bool false, .slice none 0 0, .int .i64 0] 26))
 have Xa : Hid (B3q W0 (w.heap.size) (.bool s) (.slice p m c) (.int .i64 e)) := by rw [hW0]; constructor <;> go_simp
 have Xb : Hid (B3q W0 (w.heap.size + 1) (.bool t) (.slice q n d) (.int .i64 f)) := by rw [hW0]; constructor <;> go_simp
 have Xr : Hid (B3q W0 (w.heap.size + 1 + 1) (.bool false) (.slice none 0 0) (.int .i64 0)) := by rw [hW0]; constructor <;> go_simp
 have hb0 := bq3 hW0;rw [← hW0];clear hW0;have hbw := brf w;obtain ⟨gr, hgr⟩ := exq (w.heap.size + 1 + 1);have HGr : Hid (w.heap.size ≤ gr) := hgl hgr;rw [← hgr] at Xr
 try rw [← hgr]
 obtain ⟨gb, hgb⟩ := exq (w.heap.size + 1);have HGb : Hid (w.heap.size ≤ gb) := hgl hgb;rw [← hgb] at Xb
 try rw [← hgb]
 obtain ⟨ga, hga⟩ := exq w.heap.size;have HGa : Hid (w.heap.size ≤ ga) := hgl hga;rw [← hga] at Xa
 try rw [← hga]
 have HGD : Hid (ga ≠ gb ∧ ga ≠ gr ∧ gb ≠ ga ∧ gb ≠ gr ∧ gr ≠ ga ∧ gr ≠ gb) := by rw [hga, hgb, hgr]; show _ ∧ _; omega
 clear hga hgb hgr;replace hbw := bon hbw hb0;clear hb0;obtain ⟨W1, hW1⟩ := exq W0.drew
 have hbd : Below W0.heap.size W0 W1 := by rw [hW1]; exact bDrew1 (Below.refl _ _)
 replace Xa := B3q.b Xa hbd;replace Xb := B3q.b Xb hbd;replace Xr := B3q.b Xr hbd;replace hbw := bon hbw hbd;clear hbd
 have HJ : Hid ((fun W' : World => W'.cell? ⟨ga, 0, none⟩ = some (.bool s) ∧ W'.cell? ⟨ga, 1, none⟩ = some (.slice p m c) ∧ W'.cell? ⟨ga, 2, none⟩ = some (.int .i64 e) ∧ W'.cell? ⟨gb, 0, none⟩ = some (.bool t) ∧ W'.cell? ⟨gb, 1, none⟩ = some (.slice q n d) ∧ W'.cell? ⟨gb, 2, none⟩ = some (.int .i64 f)) W1) := ⟨Xa.out.c0, Xa.out.c1, Xa.out.c2, Xb.out.c0, Xb.out.c1, Xb.out.c2⟩
 refine wp_region_J (fun W' => W'.cell? ⟨ga, 0, none⟩ = some (.bool s) ∧ W'.cell? ⟨ga, 1, none⟩ = some (.slice p m c) ∧ W'.cell? ⟨ga, 2, none⟩ = some (.int .i64 e) ∧ W'.cell? ⟨gb, 0, none⟩ = some (.bool t) ∧ W'.cell? ⟨gb, 1, none⟩ = some (.slice q n d) ∧ W'.cell? ⟨gb, 2, none⟩ = some (.int .i64 f)) (by kernel_rfl) ?_
 rw [← hW1];clear hW1
 refine wpJ_tq 1 rfl HJ.out ?_
 refine wpJ_tq 2 rfl HJ.out ?_
 refine wpJ_tq 3 rfl HJ.out ?_
 refine wpJ_on 0 rfl fun KJ hK => ?_
 go_simp
 refine (way_d _).mono ?_
 rintro e v1 ⟨rfl, hb1⟩;replace Xa := B3q.b Xa hb1;replace Xb := B3q.b Xb hb1;replace Xr := B3q.b Xr hb1;replace hbw := bon hbw hb1;clear hb1
 refine hK _ _ ⟨Xa.out.c0, Xa.out.c1, Xa.out.c2, Xb.out.c0, Xb.out.c1, Xb.out.c2⟩ ?_
 clear hK
 refine wpJ_on 4 rfl fun KJ hK => ?_
 go_simp;have HRL : Hid (gr < v1.heap.size ∧ w.heap.size ≤ v1.heap.size) := ⟨Xr.out.lt, hbw.size⟩
 refine (quo_od (H.out.below hbw) (K.out.below hbw) HA.out.1 HA.out.2.1 HA.out.2.2.1 HA.out.2.2.2.1 HA.out.2.2.2.2.1 HA.out.2.2.2.2.2.1 HA.out.2.2.2.2.2.2 (TB.out.below hbw)).mono ?_
 rintro e2 v6 ⟨hv, hb6⟩;obtain ⟨s6, p6, m6, eo, er, rfl, hmp⟩ := hv.open;clear hv;replace Xa := B3q.b Xa hb6;replace Xb := B3q.b Xb hb6;replace Xr := B3q.b Xr hb6;replace hbw := bon hbw hb6;clear hb6;have M6 := hdQ hmp;clear hmp HJ
 have HJ : Hid ((fun W' : World => W'.cell? ⟨ga, 0, none⟩ = some (.bool s) ∧ W'.cell? ⟨ga, 1, none⟩ = some (.slice p m c) ∧ W'.cell? ⟨ga, 2, none⟩ = some (.int .i64 e) ∧ W'.cell? ⟨gb, 0, none⟩ = some (.bool t) ∧ W'.cell? ⟨gb, 1, none⟩ = some (.slice q n d) ∧ W'.cell? ⟨gb, 2, none⟩ = some (.int .i64 f)) v6) := ⟨Xa.out.c0, Xa.out.c1, Xa.out.c2, Xb.out.c0, Xb.out.c1, Xb.out.c2⟩
 refine hK _ _ HJ.out ?_
 clear hK
 refine wpJ_tq 5 rfl HJ.out ?_
 refine wpJ_tq 6 rfl HJ.out ?_
 obtain ⟨cr0, cr1, cr2, fr0, fr1, fr2⟩ := Xr.out;have hner : gr < v6.heap.size := blt cr0;obtain ⟨ca0, ca1, ca2, fa0, fa1, fa2⟩ := Xa.out;have hnea : ga < v6.heap.size := blt ca0;obtain ⟨cb0, cb1, cb2, fb0, fb1, fb2⟩ := Xb.out;have hneb : gb < v6.heap.size := blt cb0;obtain ⟨hgd0, hgd1, hgd2, hgd3, hgd4, hgd5⟩ := HGD.out
 refine wpJ_on 7 rfl fun KJ hK => ?_
 go_simp
 have HJ2 : Hid ((fun W' : World => W'.cell? ⟨ga, 0, none⟩ = some (.bool s) ∧ W'.cell? ⟨ga, 1, none⟩ = some (.slice p m c) ∧ W'.cell? ⟨ga, 2, none⟩ = some (.int .i64 e) ∧ W'.cell? ⟨gb, 0, none⟩ = some (.bool t) ∧ W'.cell? ⟨gb, 1, none⟩ = some (.slice q n d) ∧ W'.cell? ⟨gb, 2, none⟩ = some (.int .i64 f)) (((v6.setCell ⟨gr, 0, none⟩ (.bool s6)).setCell ⟨gr, 1, none⟩ (.slice p6 m6 m6)).setCell ⟨gr, 2, none⟩ (.int .i64 eo))) := ⟨by go_simp, by go_simp, by go_simp, by go_simp, by go_simp, by go_simp⟩
 refine hK _ _ HJ2.out ?_
 clear hK HJ;have HJ := HJ2;clear HJ2
 refine wpJ_tq 8 rfl HJ.out ?_
 refine wpJ_done (by kernel_rfl) ?_ _
 clear HJ;go_wp2_with fail
 refine bodyPost_ret (v := .tuple #[DV s6 p6 m6 m6 eo, .int .i64 er]) (by rw [results_cell_tmp rfl]; go_simp) rfl ⟨(M6.out.set HRL.out.1 HRL.out.2 _ _ _).close, ?_⟩
 exact bSet (bSet (bSet hbw _ _ _ HGr.out) _ _ _ HGr.out) _ _ _ HGr.out
theorem quo_ou {p q : Option Addr} {m c n d : Nat} {w : World} {e f : Int} {s t : Bool} {x y X Y L Z : Int} {P K9 : Nat} (h : DN w s p m c e x) (k : DN w t q n d f y) (hy : y ≠ 0) (hm : m ≤ 4096) (hn : n ≤ 4096) (hP : 1 ≤ P ∧ P ≤ 70000) (hw : WB x y P X Y L) (hZ : Z = qI true X Y) (hK : K9 = bitsN Z.natAbs - P) (hT : Tab w) :
  Calls Tryz.prog 60 #[WVu, DV s p m c e, DV t q n d f, .int .i64 P] w fun en w' => MakeP w.heap.size w' en (rd true Z (2 ^ K9)) (e - f - L + K9) ∧ Below w.heap.size w w' := by
 have H := hdQ h;have K := hdQ k;have HZ : Hid (y ≠ 0) := hy;have HM : Hid (m ≤ 4096 ∧ n ≤ 4096) := ⟨hm, hn⟩;have HP : Hid (1 ≤ P ∧ P ≤ 70000) := hP;have HW := hdQ hw;have HK := hdQ hK;have TB : Hid (Tab w) := hT
 have HY0 : Hid (Y ≠ 0) := by
  rw [hw.yv]
  exact Int.mul_ne_zero hy (by rw [pow_cast]; exact pow_pos_int _)
 have b1 := half_bits h.zn hm;have b2 := half_bits k.zn hn;have hl := hw.l
 have he : -1048576 ≤ e ∧ e ≤ 1048576 := by rcases h.fm with ⟨_, h5⟩ | ⟨_, h5⟩ <;> omega
 have hf : -1048576 ≤ f ∧ f ≤ 1048576 := by rcases k.fm with ⟨_, h5⟩ | ⟨_, h5⟩ <;> omega
 have g1 : ¬ (P : Int) < 1 := by omega
 have g2 : ¬ (70000 : Int) < P := by omega
 have g3 : ¬ (4096 : Int) < max (m : Int) n := by omega
 have u1 : wrap64 (e - f) = e - f := by simp only [wrap64]; omega
 have u2 : wrap64 (e - f - L) = e - f - L := by simp only [wrap64]; omega
 have u3 : IntKind.i64.wrap (e - f) = e - f := by simp [IntKind.wrap, IntKind.signed, IntKind.bits]; omega
 have u4 : IntKind.i64.wrap (e - f - L) = e - f - L := by simp [IntKind.wrap, IntKind.signed, IntKind.bits]; omega
 have HU : Hid (wrap64 (e - f) = e - f ∧ wrap64 (e - f - L) = e - f - L ∧ IntKind.i64.wrap (e - f) = e - f ∧ IntKind.i64.wrap (e - f - L) = e - f - L) := ⟨u1, u2, u3, u4⟩
 have HE : Hid (-2621440 ≤ e - f - L ∧ e - f - L ≤ 2621440) := ⟨by omega, by omega⟩
 have HQ : Hid (ce (decide (X < 0) != decide (Y < 0)) X.natAbs Y.natAbs = Z) := hZ.symm;clear h k hy hm hn hP hw hZ hK hT b1 b2 hl he hf u1 u2 u3 u4
 go_enter Tryz.func60, Tryz.ntmps60
 go_wp2_with fail;obtain ⟨W0, hW0⟩ := exq ((((w.alloc (.cells #[.func (.func 87) #[] #[], .func (.func 88) #[] #[]] 89)).alloc (.cells #[.bool s, .slice p m c, .int .i64 e] 26)).alloc (.cells #[.bool t, .slice q n d, .int .i64 f] 26)).alloc (.cells #[.bool false, .slice none 0 0, .int .i64 0] 26))
 have Xy : Hid (Box W0 (w.heap.size) (.func (.func 87) #[] #[]) (.func (.func 88) #[] #[])) := by rw [hW0]; constructor <;> go_simp
 have Xa : Hid (B3q W0 (w.heap.size + 1) (.bool s) (.slice p m c) (.int .i64 e)) := by rw [hW0]; constructor <;> go_simp
 have Xb : Hid (B3q W0 (w.heap.size + 1 + 1) (.bool t) (.slice q n d) (.int .i64 f)) := by rw [hW0]; constructor <;> go_simp
 have Xr : Hid (B3q W0 (w.heap.size + 1 + 1 + 1) (.bool false) (.slice none 0 0) (.int .i64 0)) := by rw [hW0]; constructor <;> go_simp
 have hb0 : Below w.heap.size w W0 := by rw [hW0]; exact below4 w _ _ _ _
 rw [← hW0];clear hW0;have hbw := brf w;obtain ⟨gr, hgr⟩ := exq (w.heap.size + 1 + 1 + 1);have HGr : Hid (w.heap.size ≤ gr) := hgl hgr;rw [← hgr] at Xr
 try rw [← hgr]
 obtain ⟨gb, hgb⟩ := exq (w.heap.size + 1 + 1);have HGb : Hid (w.heap.size ≤ gb) := hgl hgb;rw [← hgb] at Xb
 try rw [← hgb]
 obtain ⟨ga, hga⟩ := exq (w.heap.size + 1);have HGa : Hid (w.heap.size ≤ ga) := hgl hga;rw [← hga] at Xa
 try rw [← hga]
 obtain ⟨gy, hgy⟩ := exq w.heap.size;have HGy : Hid (w.heap.size ≤ gy) := hgl hgy;rw [← hgy] at Xy
 try rw [← hgy]
 have HGD : Hid (gy ≠ ga ∧ gy ≠ gb ∧ gy ≠ gr ∧ ga ≠ gy ∧ ga ≠ gb ∧ ga ≠ gr ∧ gb ≠ gy ∧ gb ≠ ga ∧ gb ≠ gr ∧ gr ≠ gy ∧ gr ≠ ga ∧ gr ≠ gb) := by rw [hgy, hga, hgb, hgr]; show _ ∧ _; omega
 clear hgy hga hgb hgr;replace hbw := bon hbw hb0;clear hb0
 refine (dform_t (H.out.below hbw)).mono ?_
 rintro e v1 ⟨rfl, hb1⟩;replace Xy := Box.b Xy hb1;replace Xa := B3q.b Xa hb1;replace Xb := B3q.b Xb hb1;replace Xr := B3q.b Xr hb1;replace hbw := bon hbw hb1;clear hb1;obtain ⟨cb0, cb1, cb2, fb0, fb1, fb2⟩ := Xb.out;have hneb : gb < v1.heap.size := blt cb0;go_wp2_with fail;clear cb0 cb1 cb2 fb0 fb1 fb2 hneb
 refine (dform_t (K.out.below hbw)).mono ?_
 rintro e v2 ⟨rfl, hb2⟩;replace Xy := Box.b Xy hb2;replace Xa := B3q.b Xa hb2;replace Xb := B3q.b Xb hb2;replace Xr := B3q.b Xr hb2;replace hbw := bon hbw hb2;clear hb2;obtain ⟨cb0, cb1, cb2, fb0, fb1, fb2⟩ := Xb.out;have hneb : gb < v2.heap.size := blt cb0;go_wp2_with fail;clear cb0 cb1 cb2 fb0 fb1 fb2 hneb
 refine (zsign (K.out.zn.below hbw)).mono ?_
 rintro e v3 ⟨rfl, hb3⟩;obtain ⟨sg, hsg⟩ := exq (sgnI y);rw [← hsg]
 have hs0 : (sg == 0) = false := by rw [hsg]; have := HZ.out; unfold sgnI; split <;> (try split) <;> simp <;> omega
 clear hsg;replace Xy := Box.b Xy hb3;replace Xa := B3q.b Xa hb3;replace Xb := B3q.b Xb hb3;replace Xr := B3q.b Xr hb3;replace hbw := bon hbw hb3;clear hb3;obtain ⟨ca0, ca1, ca2, fa0, fa1, fa2⟩ := Xa.out;have hnea : ga < v3.heap.size := blt ca0;obtain ⟨cb0, cb1, cb2, fb0, fb1, fb2⟩ := Xb.out;have hneb : gb < v3.heap.size := blt cb0;go_wp2_with fail;clear ca0 ca1 ca2 fa0 fa1 fa2 hnea cb0 cb1 cb2 fb0 fb1 fb2 hneb hs0 g1 g2 g3
 refine (wbits (H.out.zn.below hbw) (K.out.zn.below hbw) HP.out HM.out.1 HM.out.2 HZ.out HW.out).mono ?_
 rintro e2 v5 ⟨s5, p5, m5, c5, s6, p6, m6, c6, rfl, hz5, hz6, hb5⟩;replace Xy := Box.b Xy hb5;replace Xa := B3q.b Xa hb5;replace Xb := B3q.b Xb hb5;replace Xr := B3q.b Xr hb5;replace hbw := bon hbw hb5;clear hb5;have Z5 := hdQ hz5;have Z6 := hdQ hz6;clear hz5 hz6;obtain ⟨cy0, cy1, fy0, fy1⟩ := Xy.out;have hney := Xy.out.lt;go_wp2_with fail;clear cy0 cy1 fy0 fy1 hney
 rw [show v5.heap.size + 1 = (v5.alloc (.cells #[.bool s5, .slice p5 m5 c5] 24)).heap.size from by simp]
 have XX0 : Hid (Box (v5.alloc (.cells #[.bool s5, .slice p5 m5 c5] 24)) v5.heap.size (.bool s5) (.slice p5 m5 c5)) := Box.new v5 _ _ _;have hbn : Below v5.heap.size v5 (v5.alloc (.cells #[.bool s5, .slice p5 m5 c5] 24)) := below1 v5 _;generalize v5.alloc (.cells #[.bool s5, .slice p5 m5 c5] 24) = Wx at *;have HGX : Hid (w.heap.size ≤ v5.heap.size) := hbw.size;replace Xy := Box.b Xy hbn;replace Xa := B3q.b Xa hbn;replace Xb := B3q.b Xb hbn;replace Xr := B3q.b Xr hbn;replace Z5 := ZN.b Z5 hbn;replace Z6 := ZN.b Z6 hbn;replace hbw := bon hbw hbn;clear hbn;generalize v5.heap.size = gX at *;have XX := XX0;clear XX0;have XY0 : Hid (Box (Wx.alloc (.cells #[.bool s6, .slice p6 m6 c6] 24)) Wx.heap.size (.bool s6) (.slice p6 m6 c6)) := Box.new Wx _ _ _;have hbn : Below Wx.heap.size Wx (Wx.alloc (.cells #[.bool s6, .slice p6 m6 c6] 24)) := below1 Wx _;generalize Wx.alloc (.cells #[.bool s6, .slice p6 m6 c6] 24) = Wy at *
 have HGY : Hid (w.heap.size ≤ Wx.heap.size) := hbw.size;replace Xy := Box.b Xy hbn;replace Xa := B3q.b Xa hbn;replace Xb := B3q.b Xb hbn;replace Xr := B3q.b Xr hbn;replace XX := Box.b XX hbn;replace Z5 := ZN.b Z5 hbn;replace Z6 := ZN.b Z6 hbn;replace hbw := bon hbw hbn;clear hbn;generalize Wx.heap.size = gY at *;have XY := XY0;clear XY0
 refine (zcdiv Z5.out Z6.out HY0.out).mono ?_
 rintro e v7 ⟨⟨s7, p7, m7, rfl, hz⟩, hb7⟩;replace Xy := Box.b Xy hb7;replace Xa := B3q.b Xa hb7;replace Xb := B3q.b Xb hb7;replace Xr := B3q.b Xr hb7;replace XX := Box.b XX hb7;replace XY := Box.b XY hb7;replace Z5 := ZN.b Z5 hb7;replace Z6 := ZN.b Z6 hb7;replace hbw := bon hbw hb7;clear hb7;have hz := hz.cast (z' := Z) (HQ.out);have Z7 := hdQ hz;clear hz XX XY Z5 Z6;have u1 := HU.out.1;have u2 := HU.out.2.1;have u3 := HU.out.2.2.1;have u4 := HU.out.2.2.2;obtain ⟨cy0, cy1, fy0, fy1⟩ := Xy.out;have hney := Xy.out.lt;obtain ⟨ca0, ca1, ca2, fa0, fa1, fa2⟩ := Xa.out;have hnea : ga < v7.heap.size := blt ca0;obtain ⟨cb0, cb1, cb2, fb0, fb1, fb2⟩ := Xb.out;have hneb : gb < v7.heap.size := blt cb0;go_wp2_with fail;clear cy0 cy1 fy0 fy1 hney ca0 ca1 ca2 fa0 fa1 fa2 hnea cb0 cb1 cb2 fb0 fb1 fb2 hneb u1 u2 u3 u4;have Xq0 : Hid (Box (v7.alloc (.cells #[.bool s7, .slice p7 m7 m7] 24)) v7.heap.size (.bool s7) (.slice p7 m7 m7)) := Box.new v7 _ _ _
 have hbn : Below v7.heap.size v7 (v7.alloc (.cells #[.bool s7, .slice p7 m7 m7] 24)) := below1 v7 _;generalize v7.alloc (.cells #[.bool s7, .slice p7 m7 m7] 24) = Wq at *;have HGq : Hid (w.heap.size ≤ v7.heap.size) := hbw.size;replace Xy := Box.b Xy hbn;replace Xa := B3q.b Xa hbn;replace Xb := B3q.b Xb hbn;replace Xr := B3q.b Xr hbn;replace Z7 := ZN.b Z7 hbn;replace hbw := bon hbw hbn;clear hbn;generalize v7.heap.size = gq at *;have Xq := Xq0;clear Xq0;have HRL : Hid (gr < Wq.heap.size ∧ w.heap.size ≤ Wq.heap.size) := ⟨Xr.out.lt, hbw.size⟩
 refine (cut_u Z7.out HE.out HP.out HK.out (TB.out.below hbw)).mono ?_
 rintro e2 v6 ⟨hv, hb6⟩;obtain ⟨s6, p6, m6, eo, er, rfl, hmp⟩ := hv.open;clear hv;replace Xy := Box.b Xy hb6;replace Xa := B3q.b Xa hb6;replace Xb := B3q.b Xb hb6;replace Xr := B3q.b Xr hb6;replace Xq := Box.b Xq hb6;replace Z7 := ZN.b Z7 hb6;replace hbw := bon hbw hb6;clear hb6;have M6 := hdQ hmp;clear hmp;obtain ⟨cr0, cr1, cr2, fr0, fr1, fr2⟩ := Xr.out;have hner : gr < v6.heap.size := blt cr0;go_wp2_with fail
 refine bodyPost_ret (v := .tuple #[DV s6 p6 m6 m6 eo, .int .i64 er]) (by rw [results_cell_tmp rfl]; go_simp) rfl ⟨(M6.out.set HRL.out.1 HRL.out.2 _ _ _).close, ?_⟩
 exact bSet (bSet (bSet hbw _ _ _ HGr.out) _ _ _ HGr.out) _ _ _ HGr.out
theorem qf_ou {p q : Option Addr} {m c n d : Nat} {w : World} {e f : Int} {s t : Bool} {x y X Y L Z : Int} {P K9 : Nat} (h : DN w s p m c e x) (k : DN w t q n d f y) (hy : y ≠ 0) (hm : m ≤ 4096) (hn : n ≤ 4096) (hP : 1 ≤ P ∧ P ≤ 70000) (hw : WB x y P X Y L) (hZ : Z = qI true X Y) (hK : K9 = bitsN Z.natAbs - P) (hT : Tab w) :
  Calls Tryz.prog 36 #[DV s p m c e, DV t q n d f, .int .i64 P] w fun en w' => MakeP w.heap.size w' en (rd true Z (2 ^ K9)) (e - f - L + K9) ∧ Below w.heap.size w w' := by
 have H := hdQ h;have K := hdQ k;have HA : Hid (y ≠ 0 ∧ m ≤ 4096 ∧ n ≤ 4096 ∧ (1 ≤ P ∧ P ≤ 70000) ∧ WB x y P X Y L ∧ Z = qI true X Y ∧ K9 = bitsN Z.natAbs - P) := ⟨hy, hm, hn, hP, hw, hZ, hK⟩;have TB : Hid (Tab w) := hT;clear h k hy hm hn hP hw hZ hK hT
 go_enter Tryz.func36, Tryz.ntmps36
 go_wp2_with fail;obtain ⟨W0, hW0⟩ := exq (((w.alloc (.cells #[.bool s, .slice p m c, .int .i64 e] 26)).alloc (.cells #[.bool t, .slice q n d, .int .i64 f] 26)).alloc (.cells #[.bool false, .slice none 0 0, .int .i64 0] 26))
 have Xa : Hid (B3q W0 (w.heap.size) (.bool s) (.slice p m c) (.int .i64 e)) := by rw [hW0]; constructor <;> go_simp
 have Xb : Hid (B3q W0 (w.heap.size + 1) (.bool t) (.slice q n d) (.int .i64 f)) := by rw [hW0]; constructor <;> go_simp
 have Xr : Hid (B3q W0 (w.heap.size + 1 + 1) (.bool false) (.slice none 0 0) (.int .i64 0)) := by rw [hW0]; constructor <;> go_simp
 have hb0 := bq3 hW0;rw [← hW0];clear hW0;have hbw := brf w;obtain ⟨gr, hgr⟩ := exq (w.heap.size + 1 + 1);have HGr : Hid (w.heap.size ≤ gr) := hgl hgr;rw [← hgr] at Xr
 try rw [← hgr]
 obtain ⟨gb, hgb⟩ := exq (w.heap.size + 1);have HGb : Hid (w.heap.size ≤ gb) := hgl hgb;rw [← hgb] at Xb
 try rw [← hgb]
 obtain ⟨ga, hga⟩ := exq w.heap.size;have HGa : Hid (w.heap.size ≤ ga) := hgl hga;rw [← hga] at Xa
 try rw [← hga]
 have HGD : Hid (ga ≠ gb ∧ ga ≠ gr ∧ gb ≠ ga ∧ gb ≠ gr ∧ gr ≠ ga ∧ gr ≠ gb) := by rw [hga, hgb, hgr]; show _ ∧ _; omega
 clear hga hgb hgr;replace hbw := bon hbw hb0;clear hb0;obtain ⟨W1, hW1⟩ := exq W0.drew
 have hbd : Below W0.heap.size W0 W1 := by rw [hW1]; exact bDrew1 (Below.refl _ _)
 replace Xa := B3q.b Xa hbd;replace Xb := B3q.b Xb hbd;replace Xr := B3q.b Xr hbd;replace hbw := bon hbw hbd;clear hbd
 have HJ : Hid ((fun W' : World => W'.cell? ⟨ga, 0, none⟩ = some (.bool s) ∧ W'.cell? ⟨ga, 1, none⟩ = some (.slice p m c) ∧ W'.cell? ⟨ga, 2, none⟩ = some (.int .i64 e) ∧ W'.cell? ⟨gb, 0, none⟩ = some (.bool t) ∧ W'.cell? ⟨gb, 1, none⟩ = some (.slice q n d) ∧ W'.cell? ⟨gb, 2, none⟩ = some (.int .i64 f)) W1) := ⟨Xa.out.c0, Xa.out.c1, Xa.out.c2, Xb.out.c0, Xb.out.c1, Xb.out.c2⟩
 refine wp_region_J (fun W' => W'.cell? ⟨ga, 0, none⟩ = some (.bool s) ∧ W'.cell? ⟨ga, 1, none⟩ = some (.slice p m c) ∧ W'.cell? ⟨ga, 2, none⟩ = some (.int .i64 e) ∧ W'.cell? ⟨gb, 0, none⟩ = some (.bool t) ∧ W'.cell? ⟨gb, 1, none⟩ = some (.slice q n d) ∧ W'.cell? ⟨gb, 2, none⟩ = some (.int .i64 f)) (by kernel_rfl) ?_
 rw [← hW1];clear hW1
 refine wpJ_tq 1 rfl HJ.out ?_
 refine wpJ_tq 2 rfl HJ.out ?_
 refine wpJ_tq 3 rfl HJ.out ?_
 refine wpJ_on 0 rfl fun KJ hK => ?_
 go_simp
 refine (way_u _).mono ?_
 rintro e v1 ⟨rfl, hb1⟩;replace Xa := B3q.b Xa hb1;replace Xb := B3q.b Xb hb1;replace Xr := B3q.b Xr hb1;replace hbw := bon hbw hb1;clear hb1
 refine hK _ _ ⟨Xa.out.c0, Xa.out.c1, Xa.out.c2, Xb.out.c0, Xb.out.c1, Xb.out.c2⟩ ?_
 clear hK
 refine wpJ_on 4 rfl fun KJ hK => ?_
 go_simp;have HRL : Hid (gr < v1.heap.size ∧ w.heap.size ≤ v1.heap.size) := ⟨Xr.out.lt, hbw.size⟩
 refine (quo_ou (H.out.below hbw) (K.out.below hbw) HA.out.1 HA.out.2.1 HA.out.2.2.1 HA.out.2.2.2.1 HA.out.2.2.2.2.1 HA.out.2.2.2.2.2.1 HA.out.2.2.2.2.2.2 (TB.out.below hbw)).mono ?_
 rintro e2 v6 ⟨hv, hb6⟩;obtain ⟨s6, p6, m6, eo, er, rfl, hmp⟩ := hv.open;clear hv;replace Xa := B3q.b Xa hb6;replace Xb := B3q.b Xb hb6;replace Xr := B3q.b Xr hb6;replace hbw := bon hbw hb6;clear hb6;have M6 := hdQ hmp;clear hmp HJ
 have HJ : Hid ((fun W' : World => W'.cell? ⟨ga, 0, none⟩ = some (.bool s) ∧ W'.cell? ⟨ga, 1, none⟩ = some (.slice p m c) ∧ W'.cell? ⟨ga, 2, none⟩ = some (.int .i64 e) ∧ W'.cell? ⟨gb, 0, none⟩ = some (.bool t) ∧ W'.cell? ⟨gb, 1, none⟩ = some (.slice q n d) ∧ W'.cell? ⟨gb, 2, none⟩ = some (.int .i64 f)) v6) := ⟨Xa.out.c0, Xa.out.c1, Xa.out.c2, Xb.out.c0, Xb.out.c1, Xb.out.c2⟩
 refine hK _ _ HJ.out ?_
 clear hK
 refine wpJ_tq 5 rfl HJ.out ?_
 refine wpJ_tq 6 rfl HJ.out ?_
 obtain ⟨cr0, cr1, cr2, fr0, fr1, fr2⟩ := Xr.out;have hner : gr < v6.heap.size := blt cr0;obtain ⟨ca0, ca1, ca2, fa0, fa1, fa2⟩ := Xa.out;have hnea : ga < v6.heap.size := blt ca0;obtain ⟨cb0, cb1, cb2, fb0, fb1, fb2⟩ := Xb.out;have hneb : gb < v6.heap.size := blt cb0;obtain ⟨hgd0, hgd1, hgd2, hgd3, hgd4, hgd5⟩ := HGD.out
 refine wpJ_on 7 rfl fun KJ hK => ?_
 go_simp
 have HJ2 : Hid ((fun W' : World => W'.cell? ⟨ga, 0, none⟩ = some (.bool s) ∧ W'.cell? ⟨ga, 1, none⟩ = some (.slice p m c) ∧ W'.cell? ⟨ga, 2, none⟩ = some (.int .i64 e) ∧ W'.cell? ⟨gb, 0, none⟩ = some (.bool t) ∧ W'.cell? ⟨gb, 1, none⟩ = some (.slice q n d) ∧ W'.cell? ⟨gb, 2, none⟩ = some (.int .i64 f)) (((v6.setCell ⟨gr, 0, none⟩ (.bool s6)).setCell ⟨gr, 1, none⟩ (.slice p6 m6 m6)).setCell ⟨gr, 2, none⟩ (.int .i64 eo))) := ⟨by go_simp, by go_simp, by go_simp, by go_simp, by go_simp, by go_simp⟩
 refine hK _ _ HJ2.out ?_
 clear hK HJ;have HJ := HJ2;clear HJ2
 refine wpJ_tq 8 rfl HJ.out ?_
 refine wpJ_done (by kernel_rfl) ?_ _
 clear HJ;go_wp2_with fail
 refine bodyPost_ret (v := .tuple #[DV s6 p6 m6 m6 eo, .int .i64 er]) (by rw [results_cell_tmp rfl]; go_simp) rfl ⟨(M6.out.set HRL.out.1 HRL.out.2 _ _ _).close, ?_⟩
 exact bSet (bSet (bSet hbw _ _ _ HGr.out) _ _ _ HGr.out) _ _ _ HGr.out
theorem B3q.off {W : World} {g : Nat} {v0 v1 v2 : Value} (h : B3q W g v0 v1 v2) {k : Nat} (hne : g ≠ k) (o : Nat) (x : Value) : B3q (W.setCell ⟨k, o, none⟩ x) g v0 v1 v2 := by
  have hne2 : k ≠ g := fun h => hne h.symm
  obtain ⟨c0, c1, c2, f0, f1, f2⟩ := h
  constructor <;> go_simp
theorem B3q.off3 {W : World} {g : Nat} {v0 v1 v2 : Value} (h : B3q W g v0 v1 v2) {k : Nat} (hne : g ≠ k) (x0 x1 x2 : Value) : B3q (((W.setCell ⟨k, 0, none⟩ x0).setCell ⟨k, 1, none⟩ x1).setCell ⟨k, 2, none⟩ x2) g v0 v1 v2 :=
 ((h.off hne 0 x0).off hne 1 x1).off hne 2 x2
theorem B3q.put3 {W : World} {k : Nat} {v0 v1 v2 : Value} (h : B3q W k v0 v1 v2) (x0 x1 x2 : Value) : B3q (((W.setCell ⟨k, 0, none⟩ x0).setCell ⟨k, 1, none⟩ x1).setCell ⟨k, 2, none⟩ x2) k x0 x1 x2 := by
  obtain ⟨c0, c1, c2, f0, f1, f2⟩ := h;have hlt : k < W.heap.size := blt c0
  constructor <;> go_simp
theorem B3q.off6 {W : World} {g : Nat} {v0 v1 v2 : Value} (h : B3q W g v0 v1 v2) {k : Nat} (hne : g ≠ k) (x0 x1 x2 x3 x4 x5 : Value) : B3q ((((((W.setCell ⟨k, 0, none⟩ x0).setCell ⟨k, 1, none⟩ x1).setCell ⟨k, 2, none⟩ x2).setCell ⟨k, 3, none⟩ x3).setCell ⟨k, 4, none⟩ x4).setCell ⟨k, 5, none⟩ x5) g v0 v1 v2 :=
 (((((h.off hne 0 x0).off hne 1 x1).off hne 2 x2).off hne 3 x3).off hne 4 x4).off hne 5 x5
theorem B6q.off3 {W : World} {g : Nat} {v0 v1 v2 v3 v4 v5 : Value} (h : B6q W g v0 v1 v2 v3 v4 v5) {k : Nat} (hne : g ≠ k) (x0 x1 x2 : Value) : B6q (((W.setCell ⟨k, 0, none⟩ x0).setCell ⟨k, 1, none⟩ x1).setCell ⟨k, 2, none⟩ x2) g v0 v1 v2 v3 v4 v5 :=
 ((h.off hne 0 x0).off hne 1 x1).off hne 2 x2
theorem ssign_p {d1 d2 : Dq} {w : World} (h1 : d1.ok w) (h2 : d2.s = false) (h3 : 0 < d1.z) :
  Calls Tryz.prog 33 #[SQ d1 d2] w fun en w' => en = .returned (.int .i64 1) ∧ Below w.heap.size w w' := by
 have A1 : Hid (d1.ok w) := h1
 have HS : Hid (sgnI d1.z = 1) := by have := sgn3 d1.z; show _ = _; omega
 clear h1 h3
 go_enter Tryz.func33, Tryz.ntmps33
 go_wp2_with fail;obtain ⟨W0, hW0⟩ := exq (w.alloc (.cells #[.bool d1.s, .slice d1.p d1.m d1.c, .int .i64 d1.e, .bool false, .slice d2.p d2.m d2.c, .int .i64 d2.e] 28))
 have Xs : Hid (B6q W0 (w.heap.size) (.bool d1.s) (.slice d1.p d1.m d1.c) (.int .i64 d1.e) (.bool false) (.slice d2.p d2.m d2.c) (.int .i64 d2.e)) := by rw [hW0]; constructor <;> go_simp
 have hb0 := bq1 hW0;rw [← hW0];clear hW0;have hbw := brf w;obtain ⟨gs, hgs⟩ := exq w.heap.size
 have HGs : Hid (w.heap.size ≤ gs) := by rw [hgs]; show _ ≤ _; omega
 rw [← hgs] at Xs
 try rw [← hgs]
 clear hgs;replace hbw := bon hbw hb0;clear hb0
 refine (zsign (A1.out.zn.below hbw)).mono ?_
 rintro e v1 ⟨rfl, hb1⟩;rw [HS.out];replace Xs := B6q.b Xs hb1;replace hbw := bon hbw hb1;clear hb1;go_wp2_with fail
 go_ret
 exact ⟨rfl, hbw⟩
theorem squo_p {d1 d2 d3 d4 : Dq} {w : World} {P : Nat} (h1 : d1.ok w) (h2 : d2.ok w) (h3 : d3.ok w) (h4 : d4.ok w) (hc1 : d1.v ≤ d2.v) (hc2 : d3.v ≤ d4.v) (hP : 1 ≤ P ∧ P ≤ 70000) {zl el zh eh : Int} (hs1 : d1.s = false) (hs2 : d2.s = false) (hs4 : d4.s = false) (hz : 0 < d3.z) (hq1 : ∀ W : World, Below w.heap.size w W → Calls Tryz.prog 35 #[DV d1.s d1.p d1.m d1.c d1.e, DV d4.s d4.p d4.m d4.c d4.e, .int .i64 P] W fun en w' => MakeP W.heap.size w' en zl el ∧ Below W.heap.size W w') (hq2 : ∀ W : World, Below w.heap.size w W → Calls Tryz.prog 36 #[DV d2.s d2.p d2.m d2.c d2.e, DV d3.s d3.p d3.m d3.c d3.e, .int .i64 P] W fun en w' => MakeP W.heap.size w' en zh eh ∧ Below W.heap.size W w') (hT : Tab w) :
    Calls Tryz.prog 15 #[SQ d1 d2, SQ d3 d4, .int .i64 P] w fun en w' => OutR w.heap.size w' en zl el zh eh ∧ Below w.heap.size w w' := by
  have A1 : Hid (d1.ok w) := h1;have A2 : Hid (d2.ok w) := h2;have A3 : Hid (d3.ok w) := h3;have A4 : Hid (d4.ok w) := h4;have HC : Hid (d1.v ≤ d2.v ∧ d3.v ≤ d4.v) := ⟨hc1, hc2⟩;have HP : Hid (1 ≤ P ∧ P ≤ 70000) := hP;have TB : Hid (Tab w) := hT;clear h1 h2 h3 h4 hc1 hc2 hP hT
  have H1 : Hid (∀ W : World, Below w.heap.size w W → Calls Tryz.prog 35 #[DV d1.s d1.p d1.m d1.c d1.e, DV d4.s d4.p d4.m d4.c d4.e, .int .i64 P] W fun en w' => MakeP W.heap.size w' en zl el ∧ Below W.heap.size W w') := hq1
  have H2 : Hid (∀ W : World, Below w.heap.size w W → Calls Tryz.prog 36 #[DV d2.s d2.p d2.m d2.c d2.e, DV d3.s d3.p d3.m d3.c d3.e, .int .i64 P] W fun en w' => MakeP W.heap.size w' en zh eh ∧ Below W.heap.size W w') := hq2
  have HZ : Hid (0 < d3.z ∧ d4.s = false) := ⟨hz, hs4⟩;have HS : Hid (d1.s = false ∧ d2.s = false) := ⟨hs1, hs2⟩;clear hq1 hq2 hz hs1 hs2 hs4
  go_enter Tryz.func15, Tryz.ntmps15
  go_wp2_with fail;obtain ⟨W0, hW0⟩ := exq ((((w.alloc (.cells #[.bool d1.s, .slice d1.p d1.m d1.c, .int .i64 d1.e, .bool d2.s, .slice d2.p d2.m d2.c, .int .i64 d2.e] 28)).alloc (.cells #[.bool d3.s, .slice d3.p d3.m d3.c, .int .i64 d3.e, .bool d4.s, .slice d4.p d4.m d4.c, .int .i64 d4.e] 28)).alloc (.cells #[.bool false, .slice none 0 0, .int .i64 0, .bool false, .slice none 0 0, .int .i64 0] 28)).alloc (.cells #[.bool d1.s, .slice d1.p d1.m d1.c, .int .i64 d1.e, .bool d2.s, .slice d2.p d2.m d2.c, .int .i64 d2.e, .bool d3.s, .slice d3.p d3.m d3.c, .int .i64 d3.e, .bool d4.s, .slice d4.p d4.m d4.c, .int .i64 d4.e] 28))
  have Xa : Hid (B6q W0 (w.heap.size) (.bool d1.s) (.slice d1.p d1.m d1.c) (.int .i64 d1.e) (.bool d2.s) (.slice d2.p d2.m d2.c) (.int .i64 d2.e)) := by rw [hW0]; constructor <;> go_simp
  have Xb : Hid (B6q W0 (w.heap.size + 1) (.bool d3.s) (.slice d3.p d3.m d3.c) (.int .i64 d3.e) (.bool d4.s) (.slice d4.p d4.m d4.c) (.int .i64 d4.e)) := by rw [hW0]; constructor <;> go_simp
  have Xr : Hid (B6q W0 (w.heap.size + 1 + 1) (.bool false) (.slice none 0 0) (.int .i64 0) (.bool false) (.slice none 0 0) (.int .i64 0)) := by rw [hW0]; constructor <;> go_simp
  have Xl : Hid (B12q W0 (w.heap.size + 1 + 1 + 1) (.bool d1.s) (.slice d1.p d1.m d1.c) (.int .i64 d1.e) (.bool d2.s) (.slice d2.p d2.m d2.c) (.int .i64 d2.e) (.bool d3.s) (.slice d3.p d3.m d3.c) (.int .i64 d3.e) (.bool d4.s) (.slice d4.p d4.m d4.c) (.int .i64 d4.e)) := by rw [hW0]; constructor <;> go_simp
  have hb0 : Below w.heap.size w W0 := by rw [hW0]; exact below4 w _ _ _ _
  rw [← hW0];clear hW0;have hbw := brf w;obtain ⟨gl, hgl⟩ := exq (w.heap.size + 1 + 1 + 1)
  have HGl : Hid (w.heap.size ≤ gl) := by rw [hgl]; show _ ≤ _; omega
  rw [← hgl] at Xl
  try rw [← hgl]
  obtain ⟨gr, hgr⟩ := exq (w.heap.size + 1 + 1)
  have HGr : Hid (w.heap.size ≤ gr) := by rw [hgr]; show _ ≤ _; omega
  rw [← hgr] at Xr
  try rw [← hgr]
  obtain ⟨gb, hgb⟩ := exq (w.heap.size + 1)
  have HGb : Hid (w.heap.size ≤ gb) := by rw [hgb]; show _ ≤ _; omega
  rw [← hgb] at Xb
  try rw [← hgb]
  obtain ⟨ga, hga⟩ := exq w.heap.size
  have HGa : Hid (w.heap.size ≤ ga) := by rw [hga]; show _ ≤ _; omega
  rw [← hga] at Xa
  try rw [← hga]
  have HGD : Hid (ga ≠ gb ∧ ga ≠ gr ∧ ga ≠ gl ∧ gb ≠ ga ∧ gb ≠ gr ∧ gb ≠ gl ∧ gr ≠ ga ∧ gr ≠ gb ∧ gr ≠ gl ∧ gl ≠ ga ∧ gl ≠ gb ∧ gl ≠ gr) := by rw [hga, hgb, hgr, hgl]; show _ ∧ _; omega
  clear hga hgb hgr hgl;replace hbw := bon hbw hb0;clear hb0
  refine (swrong2 (DN.below A1.out hbw) (DN.below A2.out hbw) (DN.below A3.out hbw) (DN.below A4.out hbw) HC.out.1 HC.out.2 (by have := HP.out; omega) ⟨Xl.out.c0, Xl.out.c1, Xl.out.c2, Xl.out.c3, Xl.out.c4, Xl.out.c5, Xl.out.c6, Xl.out.c7, Xl.out.c8, Xl.out.c9, Xl.out.c10, Xl.out.c11⟩).mono ?_
  rintro e v1 ⟨rfl, hb1⟩;replace Xa := B6q.b Xa hb1;replace Xb := B6q.b Xb hb1;replace Xr := B6q.b Xr hb1;replace Xl := B12q.b Xl hb1;replace hbw := bon hbw hb1;clear hb1;obtain ⟨cb0, cb1, cb2, cb3, cb4, cb5, fb0, fb1, fb2, fb3, fb4, fb5⟩ := Xb.out;have hneb : gb < v1.heap.size := blt cb0;go_wp2_with fail;clear cb0 cb1 cb2 cb3 cb4 cb5 fb0 fb1 fb2 fb3 fb4 fb5 hneb Xl
  refine (ssign_p (d1 := d3) (d2 := d4) (DN.below A3.out hbw) HZ.out.2 HZ.out.1).mono ?_
  rintro e v2 ⟨rfl, hb2⟩;replace Xa := B6q.b Xa hb2;replace Xb := B6q.b Xb hb2;replace Xr := B6q.b Xr hb2;replace hbw := bon hbw hb2;clear hb2;have hs1 : d1.s = false := HS.out.1;have hs2 : d2.s = false := HS.out.2;obtain ⟨ca0, ca1, ca2, ca3, ca4, ca5, fa0, fa1, fa2, fa3, fa4, fa5⟩ := Xa.out;have hnea : ga < v2.heap.size := blt ca0;obtain ⟨cb0, cb1, cb2, cb3, cb4, cb5, fb0, fb1, fb2, fb3, fb4, fb5⟩ := Xb.out;have hneb : gb < v2.heap.size := blt cb0;go_wp2_with fail;clear ca0 ca1 ca2 ca3 ca4 ca5 fa0 fa1 fa2 fa3 fa4 fa5 hnea cb0 cb1 cb2 cb3 cb4 cb5 fb0 fb1 fb2 fb3 fb4 fb5 hneb;obtain ⟨W5, hW5⟩ := exq v2.drew
  have hbd : Below v2.heap.size v2 W5 := by rw [hW5]; exact bDrew1 (Below.refl _ _)
  replace Xa := B6q.b Xa hbd;replace Xb := B6q.b Xb hbd;replace Xr := B6q.b Xr hbd;replace hbw := bon hbw hbd;clear hbd
  have HJ : Hid ((fun W' : World => W'.cell? ⟨gb, 0, none⟩ = some (.bool d3.s) ∧ W'.cell? ⟨gb, 1, none⟩ = some (.slice d3.p d3.m d3.c) ∧ W'.cell? ⟨gb, 2, none⟩ = some (.int .i64 d3.e) ∧ W'.cell? ⟨gb, 3, none⟩ = some (.bool d4.s) ∧ W'.cell? ⟨gb, 4, none⟩ = some (.slice d4.p d4.m d4.c) ∧ W'.cell? ⟨gb, 5, none⟩ = some (.int .i64 d4.e)) W5) := ⟨Xb.out.c0, Xb.out.c1, Xb.out.c2, Xb.out.c3, Xb.out.c4, Xb.out.c5⟩
  refine wp_region_J (fun W' => W'.cell? ⟨gb, 0, none⟩ = some (.bool d3.s) ∧ W'.cell? ⟨gb, 1, none⟩ = some (.slice d3.p d3.m d3.c) ∧ W'.cell? ⟨gb, 2, none⟩ = some (.int .i64 d3.e) ∧ W'.cell? ⟨gb, 3, none⟩ = some (.bool d4.s) ∧ W'.cell? ⟨gb, 4, none⟩ = some (.slice d4.p d4.m d4.c) ∧ W'.cell? ⟨gb, 5, none⟩ = some (.int .i64 d4.e)) (by kernel_rfl) ?_
  rw [← hW5];clear hW5
  refine wpJ_tq 0 rfl HJ.out ?_
  refine wpJ_tq 1 rfl HJ.out ?_
  refine wpJ_tq 2 rfl HJ.out ?_
  refine wpJ_tq 3 rfl HJ.out ?_
  refine wpJ_cutA (fun a0 a' W' => ∃ gu gv, a' = ((a0.put (some 9) (.pointer (some ⟨gu, 0, none⟩))).put (some 10) (.pointer (some ⟨gv, 0, none⟩))) ∧ B3q W' gu (.bool d4.s) (.slice d4.p d4.m d4.c) (.int .i64 d4.e) ∧ B3q W' gv (.bool d3.s) (.slice d3.p d3.m d3.c) (.int .i64 d3.e) ∧ B6q W' ga (.bool d1.s) (.slice d1.p d1.m d1.c) (.int .i64 d1.e) (.bool d2.s) (.slice d2.p d2.m d2.c) (.int .i64 d2.e) ∧ B6q W' gr (.bool false) (.slice none 0 0) (.int .i64 0) (.bool false) (.slice none 0 0) (.int .i64 0) ∧ gu ≠ gr ∧ gv ≠ gr ∧ Below w.heap.size w W') ?_ ?_
  · rintro a' Wc ⟨gu, gv, rfl, xu, xv, xa, xr, hnu, hnv, hbc⟩
    clear hbw HJ Xa Xb Xr;have Xu := hdQ xu;have Xv := hdQ xv;have Xa := hdQ xa;have Xr := hdQ xr;have hbw := hbc;have HNU : Hid (gu ≠ gr ∧ gv ≠ gr) := ⟨hnu, hnv⟩;clear xu xv xa xr hbc hnu hnv;obtain ⟨ca0, ca1, ca2, ca3, ca4, ca5, fa0, fa1, fa2, fa3, fa4, fa5⟩ := Xa.out;have hnea : ga < Wc.heap.size := blt ca0;obtain ⟨cu0, cu1, cu2, fu0, fu1, fu2⟩ := Xu.out;have hneu : gu < Wc.heap.size := blt cu0;obtain ⟨cv0, cv1, cv2, fv0, fv1, fv2⟩ := Xv.out;have hnev : gv < Wc.heap.size := blt cv0;rw [hs1] at ca0;rw [hs2] at ca3;go_wp2_with fail;clear ca0 ca1 ca2 ca3 ca4 ca5 fa0 fa1 fa2 fa3 fa4 fa5 hnea cu0 cu1 cu2 fu0 fu1 fu2 hneu cv0 cv1 cv2 fv0 fv1 fv2 hnev hs1 hs2;obtain ⟨W6, hW6⟩ := exq Wc.drew
    have hbd : Below Wc.heap.size Wc W6 := by rw [hW6]; exact bDrew1 (Below.refl _ _)
    replace Xu := B3q.b Xu hbd;replace Xv := B3q.b Xv hbd;replace Xa := B6q.b Xa hbd;replace Xr := B6q.b Xr hbd;replace hbw := bon hbw hbd;clear hbd
    have HJ : Hid ((fun W' : World => W'.cell? ⟨ga, 0, none⟩ = some (.bool d1.s) ∧ W'.cell? ⟨ga, 1, none⟩ = some (.slice d1.p d1.m d1.c) ∧ W'.cell? ⟨ga, 2, none⟩ = some (.int .i64 d1.e) ∧ W'.cell? ⟨ga, 3, none⟩ = some (.bool d2.s) ∧ W'.cell? ⟨ga, 4, none⟩ = some (.slice d2.p d2.m d2.c) ∧ W'.cell? ⟨ga, 5, none⟩ = some (.int .i64 d2.e) ∧ W'.cell? ⟨gu, 0, none⟩ = some (.bool d4.s) ∧ W'.cell? ⟨gu, 1, none⟩ = some (.slice d4.p d4.m d4.c) ∧ W'.cell? ⟨gu, 2, none⟩ = some (.int .i64 d4.e) ∧ W'.cell? ⟨gv, 0, none⟩ = some (.bool d3.s) ∧ W'.cell? ⟨gv, 1, none⟩ = some (.slice d3.p d3.m d3.c) ∧ W'.cell? ⟨gv, 2, none⟩ = some (.int .i64 d3.e)) W6) := ⟨Xa.out.c0, Xa.out.c1, Xa.out.c2, Xa.out.c3, Xa.out.c4, Xa.out.c5, Xu.out.c0, Xu.out.c1, Xu.out.c2, Xv.out.c0, Xv.out.c1, Xv.out.c2⟩
    refine wp_region_J (fun W' => W'.cell? ⟨ga, 0, none⟩ = some (.bool d1.s) ∧ W'.cell? ⟨ga, 1, none⟩ = some (.slice d1.p d1.m d1.c) ∧ W'.cell? ⟨ga, 2, none⟩ = some (.int .i64 d1.e) ∧ W'.cell? ⟨ga, 3, none⟩ = some (.bool d2.s) ∧ W'.cell? ⟨ga, 4, none⟩ = some (.slice d2.p d2.m d2.c) ∧ W'.cell? ⟨ga, 5, none⟩ = some (.int .i64 d2.e) ∧ W'.cell? ⟨gu, 0, none⟩ = some (.bool d4.s) ∧ W'.cell? ⟨gu, 1, none⟩ = some (.slice d4.p d4.m d4.c) ∧ W'.cell? ⟨gu, 2, none⟩ = some (.int .i64 d4.e) ∧ W'.cell? ⟨gv, 0, none⟩ = some (.bool d3.s) ∧ W'.cell? ⟨gv, 1, none⟩ = some (.slice d3.p d3.m d3.c) ∧ W'.cell? ⟨gv, 2, none⟩ = some (.int .i64 d3.e)) (by kernel_rfl) ?_
    rw [← hW6];clear hW6
    refine wpJ_tq 0 rfl HJ.out ?_
    refine wpJ_tq 1 rfl HJ.out ?_
    refine wpJ_tq 2 rfl HJ.out ?_
    refine wpJ_tq 3 rfl HJ.out ?_
    refine wpJ_tq 8 rfl HJ.out ?_
    go_simp
    refine wpJ_tq 9 rfl HJ.out ?_
    refine wpJ_tq 10 rfl HJ.out ?_
    refine wpJ_tq 11 rfl HJ.out ?_
    refine wpJ_on 4 rfl fun KJ hK => ?_
    go_simp
    refine (H1.out _ hbw).mono ?_
    rintro e9 v12 ⟨hv, hb12⟩;obtain ⟨s12, p12, m12, o12, r12, rfl, hmp12⟩ := hv.open;have hmp12 := (hmp12.mpd).mono (B' := gr + 1) Xr.out.lt;clear hv;replace Xu := B3q.b Xu hb12;replace Xv := B3q.b Xv hb12;replace Xa := B6q.b Xa hb12;replace Xr := B6q.b Xr hb12;replace hbw := bon hbw hb12;clear hb12;have M12 := hdQ hmp12;clear hmp12 HJ
    have HJ : Hid ((fun W' : World => W'.cell? ⟨ga, 0, none⟩ = some (.bool d1.s) ∧ W'.cell? ⟨ga, 1, none⟩ = some (.slice d1.p d1.m d1.c) ∧ W'.cell? ⟨ga, 2, none⟩ = some (.int .i64 d1.e) ∧ W'.cell? ⟨ga, 3, none⟩ = some (.bool d2.s) ∧ W'.cell? ⟨ga, 4, none⟩ = some (.slice d2.p d2.m d2.c) ∧ W'.cell? ⟨ga, 5, none⟩ = some (.int .i64 d2.e) ∧ W'.cell? ⟨gu, 0, none⟩ = some (.bool d4.s) ∧ W'.cell? ⟨gu, 1, none⟩ = some (.slice d4.p d4.m d4.c) ∧ W'.cell? ⟨gu, 2, none⟩ = some (.int .i64 d4.e) ∧ W'.cell? ⟨gv, 0, none⟩ = some (.bool d3.s) ∧ W'.cell? ⟨gv, 1, none⟩ = some (.slice d3.p d3.m d3.c) ∧ W'.cell? ⟨gv, 2, none⟩ = some (.int .i64 d3.e)) v12) := ⟨Xa.out.c0, Xa.out.c1, Xa.out.c2, Xa.out.c3, Xa.out.c4, Xa.out.c5, Xu.out.c0, Xu.out.c1, Xu.out.c2, Xv.out.c0, Xv.out.c1, Xv.out.c2⟩
    refine hK _ _ HJ.out ?_
    clear hK
    refine wpJ_tq 5 rfl HJ.out ?_
    refine wpJ_tq 6 rfl HJ.out ?_
    refine wpJ_on 7 rfl fun KJ hK => ?_
    go_simp
    refine (stold_g).mono ?_
    rintro e v13 ⟨rfl, hb13⟩;replace Xu := B3q.b Xu hb13;replace Xv := B3q.b Xv hb13;replace Xa := B6q.b Xa hb13;replace Xr := B6q.b Xr hb13;replace M12 := MPd.b M12 hb13;replace hbw := bon hbw hb13;clear hb13
    refine hK _ _ ⟨Xa.out.c0, Xa.out.c1, Xa.out.c2, Xa.out.c3, Xa.out.c4, Xa.out.c5, Xu.out.c0, Xu.out.c1, Xu.out.c2, Xv.out.c0, Xv.out.c1, Xv.out.c2⟩ ?_
    clear hK
    refine wpJ_on 12 rfl fun KJ hK => ?_
    go_simp
    refine (H2.out _ hbw).mono ?_
    rintro e9 v14 ⟨hv, hb14⟩;obtain ⟨s14, p14, m14, o14, r14, rfl, hmp14⟩ := hv.open;have hmp14 := (hmp14.mpd).mono (B' := gr + 1) Xr.out.lt;clear hv;replace Xu := B3q.b Xu hb14;replace Xv := B3q.b Xv hb14;replace Xa := B6q.b Xa hb14;replace Xr := B6q.b Xr hb14;replace M12 := MPd.b M12 hb14;replace hbw := bon hbw hb14;clear hb14;have M14 := hdQ hmp14;clear hmp14 HJ
    have HJ : Hid ((fun W' : World => W'.cell? ⟨ga, 0, none⟩ = some (.bool d1.s) ∧ W'.cell? ⟨ga, 1, none⟩ = some (.slice d1.p d1.m d1.c) ∧ W'.cell? ⟨ga, 2, none⟩ = some (.int .i64 d1.e) ∧ W'.cell? ⟨ga, 3, none⟩ = some (.bool d2.s) ∧ W'.cell? ⟨ga, 4, none⟩ = some (.slice d2.p d2.m d2.c) ∧ W'.cell? ⟨ga, 5, none⟩ = some (.int .i64 d2.e) ∧ W'.cell? ⟨gu, 0, none⟩ = some (.bool d4.s) ∧ W'.cell? ⟨gu, 1, none⟩ = some (.slice d4.p d4.m d4.c) ∧ W'.cell? ⟨gu, 2, none⟩ = some (.int .i64 d4.e) ∧ W'.cell? ⟨gv, 0, none⟩ = some (.bool d3.s) ∧ W'.cell? ⟨gv, 1, none⟩ = some (.slice d3.p d3.m d3.c) ∧ W'.cell? ⟨gv, 2, none⟩ = some (.int .i64 d3.e)) v14) := ⟨Xa.out.c0, Xa.out.c1, Xa.out.c2, Xa.out.c3, Xa.out.c4, Xa.out.c5, Xu.out.c0, Xu.out.c1, Xu.out.c2, Xv.out.c0, Xv.out.c1, Xv.out.c2⟩
    refine hK _ _ HJ.out ?_
    clear hK
    refine wpJ_tq 13 rfl HJ.out ?_
    refine wpJ_tq 14 rfl HJ.out ?_
    refine wpJ_on 15 rfl fun KJ hK => ?_
    go_simp
    refine (stold_g).mono ?_
    rintro e v15 ⟨rfl, hb15⟩;replace Xu := B3q.b Xu hb15;replace Xv := B3q.b Xv hb15;replace Xa := B6q.b Xa hb15;replace Xr := B6q.b Xr hb15;replace M12 := MPd.b M12 hb15;replace M14 := MPd.b M14 hb15;replace hbw := bon hbw hb15;clear hb15
    refine hK _ _ ⟨Xa.out.c0, Xa.out.c1, Xa.out.c2, Xa.out.c3, Xa.out.c4, Xa.out.c5, Xu.out.c0, Xu.out.c1, Xu.out.c2, Xv.out.c0, Xv.out.c1, Xv.out.c2⟩ ?_
    clear hK
    refine wpJ_on 16 rfl fun KJ hK => ?_
    go_simp
    refine (sbetw_g M12.out.er M14.out.er).mono ?_
    rintro e9 v16 ⟨⟨s16, p16, m16, e16, t16, q16, n16, f16, r16, rfl, hbt⟩, hb16⟩;have HBT := hdQ hbt;clear hbt;replace Xu := B3q.b Xu hb16;replace Xv := B3q.b Xv hb16;replace Xa := B6q.b Xa hb16;replace Xr := B6q.b Xr hb16;replace M12 := MPd.b M12 hb16;replace M14 := MPd.b M14 hb16;replace hbw := bon hbw hb16;clear hb16 HJ
    have HJ : Hid ((fun W' : World => W'.cell? ⟨ga, 0, none⟩ = some (.bool d1.s) ∧ W'.cell? ⟨ga, 1, none⟩ = some (.slice d1.p d1.m d1.c) ∧ W'.cell? ⟨ga, 2, none⟩ = some (.int .i64 d1.e) ∧ W'.cell? ⟨ga, 3, none⟩ = some (.bool d2.s) ∧ W'.cell? ⟨ga, 4, none⟩ = some (.slice d2.p d2.m d2.c) ∧ W'.cell? ⟨ga, 5, none⟩ = some (.int .i64 d2.e) ∧ W'.cell? ⟨gu, 0, none⟩ = some (.bool d4.s) ∧ W'.cell? ⟨gu, 1, none⟩ = some (.slice d4.p d4.m d4.c) ∧ W'.cell? ⟨gu, 2, none⟩ = some (.int .i64 d4.e) ∧ W'.cell? ⟨gv, 0, none⟩ = some (.bool d3.s) ∧ W'.cell? ⟨gv, 1, none⟩ = some (.slice d3.p d3.m d3.c) ∧ W'.cell? ⟨gv, 2, none⟩ = some (.int .i64 d3.e)) v16) := ⟨Xa.out.c0, Xa.out.c1, Xa.out.c2, Xa.out.c3, Xa.out.c4, Xa.out.c5, Xu.out.c0, Xu.out.c1, Xu.out.c2, Xv.out.c0, Xv.out.c1, Xv.out.c2⟩
    refine hK _ _ HJ.out ?_
    clear hK
    refine wpJ_tq 17 rfl HJ.out ?_
    refine wpJ_tq 18 rfl HJ.out ?_
    obtain ⟨cr0, cr1, cr2, cr3, cr4, cr5, fr0, fr1, fr2, fr3, fr4, fr5⟩ := Xr.out;have hner : gr < v16.heap.size := blt cr0
    refine wpJ_on 19 rfl fun KJ hK => ?_
    go_simp;have Xa2 : Hid (B6q ((((((v16.setCell ⟨gr, 0, none⟩ (.bool s16)).setCell ⟨gr, 1, none⟩ (.slice p16 m16 m16)).setCell ⟨gr, 2, none⟩ (.int .i64 e16)).setCell ⟨gr, 3, none⟩ (.bool t16)).setCell ⟨gr, 4, none⟩ (.slice q16 n16 n16)).setCell ⟨gr, 5, none⟩ (.int .i64 f16)) ga (.bool d1.s) (.slice d1.p d1.m d1.c) (.int .i64 d1.e) (.bool d2.s) (.slice d2.p d2.m d2.c) (.int .i64 d2.e)) := Xa.out.off6 HGD.out.2.1 (.bool s16) (.slice p16 m16 m16) (.int .i64 e16) (.bool t16) (.slice q16 n16 n16) (.int .i64 f16);have Xu2 : Hid (B3q ((((((v16.setCell ⟨gr, 0, none⟩ (.bool s16)).setCell ⟨gr, 1, none⟩ (.slice p16 m16 m16)).setCell ⟨gr, 2, none⟩ (.int .i64 e16)).setCell ⟨gr, 3, none⟩ (.bool t16)).setCell ⟨gr, 4, none⟩ (.slice q16 n16 n16)).setCell ⟨gr, 5, none⟩ (.int .i64 f16)) gu (.bool d4.s) (.slice d4.p d4.m d4.c) (.int .i64 d4.e)) := Xu.out.off6 HNU.out.1 (.bool s16) (.slice p16 m16 m16) (.int .i64 e16) (.bool t16) (.slice q16 n16 n16) (.int .i64 f16)
    have Xv2 : Hid (B3q ((((((v16.setCell ⟨gr, 0, none⟩ (.bool s16)).setCell ⟨gr, 1, none⟩ (.slice p16 m16 m16)).setCell ⟨gr, 2, none⟩ (.int .i64 e16)).setCell ⟨gr, 3, none⟩ (.bool t16)).setCell ⟨gr, 4, none⟩ (.slice q16 n16 n16)).setCell ⟨gr, 5, none⟩ (.int .i64 f16)) gv (.bool d3.s) (.slice d3.p d3.m d3.c) (.int .i64 d3.e)) := Xv.out.off6 HNU.out.2 (.bool s16) (.slice p16 m16 m16) (.int .i64 e16) (.bool t16) (.slice q16 n16 n16) (.int .i64 f16)
    have HJ2 : Hid ((fun W' : World => W'.cell? ⟨ga, 0, none⟩ = some (.bool d1.s) ∧ W'.cell? ⟨ga, 1, none⟩ = some (.slice d1.p d1.m d1.c) ∧ W'.cell? ⟨ga, 2, none⟩ = some (.int .i64 d1.e) ∧ W'.cell? ⟨ga, 3, none⟩ = some (.bool d2.s) ∧ W'.cell? ⟨ga, 4, none⟩ = some (.slice d2.p d2.m d2.c) ∧ W'.cell? ⟨ga, 5, none⟩ = some (.int .i64 d2.e) ∧ W'.cell? ⟨gu, 0, none⟩ = some (.bool d4.s) ∧ W'.cell? ⟨gu, 1, none⟩ = some (.slice d4.p d4.m d4.c) ∧ W'.cell? ⟨gu, 2, none⟩ = some (.int .i64 d4.e) ∧ W'.cell? ⟨gv, 0, none⟩ = some (.bool d3.s) ∧ W'.cell? ⟨gv, 1, none⟩ = some (.slice d3.p d3.m d3.c) ∧ W'.cell? ⟨gv, 2, none⟩ = some (.int .i64 d3.e)) ((((((v16.setCell ⟨gr, 0, none⟩ (.bool s16)).setCell ⟨gr, 1, none⟩ (.slice p16 m16 m16)).setCell ⟨gr, 2, none⟩ (.int .i64 e16)).setCell ⟨gr, 3, none⟩ (.bool t16)).setCell ⟨gr, 4, none⟩ (.slice q16 n16 n16)).setCell ⟨gr, 5, none⟩ (.int .i64 f16))) := ⟨Xa2.out.c0, Xa2.out.c1, Xa2.out.c2, Xa2.out.c3, Xa2.out.c4, Xa2.out.c5, Xu2.out.c0, Xu2.out.c1, Xu2.out.c2, Xv2.out.c0, Xv2.out.c1, Xv2.out.c2⟩
    refine hK _ _ HJ2.out ?_
    clear hK HJ;have HJ := HJ2;clear HJ2 Xa2 Xu2 Xv2
    refine wpJ_tq 20 rfl HJ.out ?_
    refine wpJ_done (by kernel_rfl) ?_ _
    clear HJ;go_wp2_with fail
    refine bodyPost_ret (v := .tuple #[SV s16 p16 m16 m16 e16 t16 q16 n16 n16 f16, .int .i64 r16]) (by rw [results_cell_tmp rfl]; go_simp) rfl ⟨?_, ?_⟩
    · exact HBT.out.out (M12.out.set6 (Nat.lt_succ_self _) (Nat.le_succ_of_le HGr.out) _ _ _ _ _ _) (M14.out.set6 (Nat.lt_succ_self _) (Nat.le_succ_of_le HGr.out) _ _ _ _ _ _)
    · exact (bSet (bSet (bSet (bSet (bSet (bSet hbw _ _ _ HGr.out) _ _ _ HGr.out) _ _ _ HGr.out) _ _ _ HGr.out) _ _ _ HGr.out) _ _ _ HGr.out)
  · refine wpJ_two (i := 4) (k := 5) (by kernel_rfl) rfl rfl (by kernel_rfl) (by kernel_rfl) (fun KJ hK => ?_) (fun KJ hK => ?_)
    · go_simp
      have HDau : Hid (ga ≠ W5.heap.size) := Nat.ne_of_lt Xa.out.lt;have HDbu : Hid (gb ≠ W5.heap.size) := Nat.ne_of_lt Xb.out.lt;have HDru : Hid (gr ≠ W5.heap.size) := Nat.ne_of_lt Xr.out.lt;have Xu0 : Hid (B3q (W5.alloc (.cells #[.bool false, .slice none 0 0, .int .i64 0] 26)) W5.heap.size (.bool false) (.slice none 0 0) (.int .i64 0)) := B3q.new W5 _ _ _ _;have hbn : Below W5.heap.size W5 (W5.alloc (.cells #[.bool false, .slice none 0 0, .int .i64 0] 26)) := below1 W5 _;generalize W5.alloc (.cells #[.bool false, .slice none 0 0, .int .i64 0] 26) = Wu at *;have HGu : Hid (w.heap.size ≤ W5.heap.size) := hbw.size;replace Xa := B6q.b Xa hbn;replace Xb := B6q.b Xb hbn;replace Xr := B6q.b Xr hbn;replace hbw := bon hbw hbn;clear hbn;generalize W5.heap.size = gu at *;have Xu := Xu0;clear Xu0
      refine hK _ _ ⟨Xb.out.c0, Xb.out.c1, Xb.out.c2, Xb.out.c3, Xb.out.c4, Xb.out.c5⟩ ?_
      clear hK
      refine wpJ_on 5 rfl fun KJ hK => ?_
      go_simp;have HDav : Hid (ga ≠ Wu.heap.size) := Nat.ne_of_lt Xa.out.lt;have HDbv : Hid (gb ≠ Wu.heap.size) := Nat.ne_of_lt Xb.out.lt;have HDrv : Hid (gr ≠ Wu.heap.size) := Nat.ne_of_lt Xr.out.lt;have HDuv : Hid (gu ≠ Wu.heap.size) := Nat.ne_of_lt Xu.out.lt;have Xv0 : Hid (B3q (Wu.alloc (.cells #[.bool false, .slice none 0 0, .int .i64 0] 26)) Wu.heap.size (.bool false) (.slice none 0 0) (.int .i64 0)) := B3q.new Wu _ _ _ _;have hbn : Below Wu.heap.size Wu (Wu.alloc (.cells #[.bool false, .slice none 0 0, .int .i64 0] 26)) := below1 Wu _;generalize Wu.alloc (.cells #[.bool false, .slice none 0 0, .int .i64 0] 26) = Wv at *;have HGv : Hid (w.heap.size ≤ Wu.heap.size) := hbw.size;replace Xa := B6q.b Xa hbn;replace Xb := B6q.b Xb hbn;replace Xr := B6q.b Xr hbn;replace Xu := B3q.b Xu hbn;replace hbw := bon hbw hbn;clear hbn;generalize Wu.heap.size = gv at *;have Xv := Xv0;clear Xv0
      refine hK _ _ ⟨Xb.out.c0, Xb.out.c1, Xb.out.c2, Xb.out.c3, Xb.out.c4, Xb.out.c5⟩ ?_
      clear hK;obtain ⟨cu0, cu1, cu2, fu0, fu1, fu2⟩ := Xu.out;have hneu : gu < Wv.heap.size := blt cu0
      refine wpJ_on 6 rfl fun KJ hK => ?_
      go_simp;have Xu2 : Hid (B3q (((Wv.setCell ⟨gu, 0, none⟩ (.bool d4.s)).setCell ⟨gu, 1, none⟩ (.slice d4.p d4.m d4.c)).setCell ⟨gu, 2, none⟩ (.int .i64 d4.e)) gu (.bool d4.s) (.slice d4.p d4.m d4.c) (.int .i64 d4.e)) := Xu.out.put3 (.bool d4.s) (.slice d4.p d4.m d4.c) (.int .i64 d4.e);have Xa2 : Hid (B6q (((Wv.setCell ⟨gu, 0, none⟩ (.bool d4.s)).setCell ⟨gu, 1, none⟩ (.slice d4.p d4.m d4.c)).setCell ⟨gu, 2, none⟩ (.int .i64 d4.e)) ga (.bool d1.s) (.slice d1.p d1.m d1.c) (.int .i64 d1.e) (.bool d2.s) (.slice d2.p d2.m d2.c) (.int .i64 d2.e)) := Xa.out.off3 HDau.out (.bool d4.s) (.slice d4.p d4.m d4.c) (.int .i64 d4.e);have Xb2 : Hid (B6q (((Wv.setCell ⟨gu, 0, none⟩ (.bool d4.s)).setCell ⟨gu, 1, none⟩ (.slice d4.p d4.m d4.c)).setCell ⟨gu, 2, none⟩ (.int .i64 d4.e)) gb (.bool d3.s) (.slice d3.p d3.m d3.c) (.int .i64 d3.e) (.bool d4.s) (.slice d4.p d4.m d4.c) (.int .i64 d4.e)) := Xb.out.off3 HDbu.out (.bool d4.s) (.slice d4.p d4.m d4.c) (.int .i64 d4.e)
      have Xr2 : Hid (B6q (((Wv.setCell ⟨gu, 0, none⟩ (.bool d4.s)).setCell ⟨gu, 1, none⟩ (.slice d4.p d4.m d4.c)).setCell ⟨gu, 2, none⟩ (.int .i64 d4.e)) gr (.bool false) (.slice none 0 0) (.int .i64 0) (.bool false) (.slice none 0 0) (.int .i64 0)) := Xr.out.off3 HDru.out (.bool d4.s) (.slice d4.p d4.m d4.c) (.int .i64 d4.e)
      have Xv2 : Hid (B3q (((Wv.setCell ⟨gu, 0, none⟩ (.bool d4.s)).setCell ⟨gu, 1, none⟩ (.slice d4.p d4.m d4.c)).setCell ⟨gu, 2, none⟩ (.int .i64 d4.e)) gv (.bool false) (.slice none 0 0) (.int .i64 0)) := Xv.out.off3 (fun h => HDuv.out h.symm) (.bool d4.s) (.slice d4.p d4.m d4.c) (.int .i64 d4.e)
      have hbw2 : Below w.heap.size w (((Wv.setCell ⟨gu, 0, none⟩ (.bool d4.s)).setCell ⟨gu, 1, none⟩ (.slice d4.p d4.m d4.c)).setCell ⟨gu, 2, none⟩ (.int .i64 d4.e)) := (bSet (bSet (bSet hbw _ _ _ HGu.out) _ _ _ HGu.out) _ _ _ HGu.out)
      have HJ2 : Hid ((fun W' : World => W'.cell? ⟨gb, 0, none⟩ = some (.bool d3.s) ∧ W'.cell? ⟨gb, 1, none⟩ = some (.slice d3.p d3.m d3.c) ∧ W'.cell? ⟨gb, 2, none⟩ = some (.int .i64 d3.e) ∧ W'.cell? ⟨gb, 3, none⟩ = some (.bool d4.s) ∧ W'.cell? ⟨gb, 4, none⟩ = some (.slice d4.p d4.m d4.c) ∧ W'.cell? ⟨gb, 5, none⟩ = some (.int .i64 d4.e)) (((Wv.setCell ⟨gu, 0, none⟩ (.bool d4.s)).setCell ⟨gu, 1, none⟩ (.slice d4.p d4.m d4.c)).setCell ⟨gu, 2, none⟩ (.int .i64 d4.e))) := ⟨Xb2.out.c0, Xb2.out.c1, Xb2.out.c2, Xb2.out.c3, Xb2.out.c4, Xb2.out.c5⟩
      refine hK _ _ HJ2.out ?_
      clear hK HJ;have HJ := HJ2;clear cu0 cu1 cu2 fu0 fu1 fu2 hneu HJ2 hbw Xu Xa Xb Xr Xv;have Xu := Xu2;have Xa := Xa2;have Xb := Xb2;have Xr := Xr2;have Xv := Xv2;have hbw := hbw2;clear hbw2 Xu2 Xa2 Xb2 Xr2 Xv2;generalize (((Wv.setCell ⟨gu, 0, none⟩ (.bool d4.s)).setCell ⟨gu, 1, none⟩ (.slice d4.p d4.m d4.c)).setCell ⟨gu, 2, none⟩ (.int .i64 d4.e)) = Wx at *;obtain ⟨cv0, cv1, cv2, fv0, fv1, fv2⟩ := Xv.out;have hnev : gv < Wx.heap.size := blt cv0
      refine wpJ_on 7 rfl fun KJ hK => ?_
      go_simp;have Xv2 : Hid (B3q (((Wx.setCell ⟨gv, 0, none⟩ (.bool d3.s)).setCell ⟨gv, 1, none⟩ (.slice d3.p d3.m d3.c)).setCell ⟨gv, 2, none⟩ (.int .i64 d3.e)) gv (.bool d3.s) (.slice d3.p d3.m d3.c) (.int .i64 d3.e)) := Xv.out.put3 (.bool d3.s) (.slice d3.p d3.m d3.c) (.int .i64 d3.e);have Xa2 : Hid (B6q (((Wx.setCell ⟨gv, 0, none⟩ (.bool d3.s)).setCell ⟨gv, 1, none⟩ (.slice d3.p d3.m d3.c)).setCell ⟨gv, 2, none⟩ (.int .i64 d3.e)) ga (.bool d1.s) (.slice d1.p d1.m d1.c) (.int .i64 d1.e) (.bool d2.s) (.slice d2.p d2.m d2.c) (.int .i64 d2.e)) := Xa.out.off3 HDav.out (.bool d3.s) (.slice d3.p d3.m d3.c) (.int .i64 d3.e);have Xb2 : Hid (B6q (((Wx.setCell ⟨gv, 0, none⟩ (.bool d3.s)).setCell ⟨gv, 1, none⟩ (.slice d3.p d3.m d3.c)).setCell ⟨gv, 2, none⟩ (.int .i64 d3.e)) gb (.bool d3.s) (.slice d3.p d3.m d3.c) (.int .i64 d3.e) (.bool d4.s) (.slice d4.p d4.m d4.c) (.int .i64 d4.e)) := Xb.out.off3 HDbv.out (.bool d3.s) (.slice d3.p d3.m d3.c) (.int .i64 d3.e)
      have Xr2 : Hid (B6q (((Wx.setCell ⟨gv, 0, none⟩ (.bool d3.s)).setCell ⟨gv, 1, none⟩ (.slice d3.p d3.m d3.c)).setCell ⟨gv, 2, none⟩ (.int .i64 d3.e)) gr (.bool false) (.slice none 0 0) (.int .i64 0) (.bool false) (.slice none 0 0) (.int .i64 0)) := Xr.out.off3 HDrv.out (.bool d3.s) (.slice d3.p d3.m d3.c) (.int .i64 d3.e);have Xu2 : Hid (B3q (((Wx.setCell ⟨gv, 0, none⟩ (.bool d3.s)).setCell ⟨gv, 1, none⟩ (.slice d3.p d3.m d3.c)).setCell ⟨gv, 2, none⟩ (.int .i64 d3.e)) gu (.bool d4.s) (.slice d4.p d4.m d4.c) (.int .i64 d4.e)) := Xu.out.off3 HDuv.out (.bool d3.s) (.slice d3.p d3.m d3.c) (.int .i64 d3.e);have hbw2 : Below w.heap.size w (((Wx.setCell ⟨gv, 0, none⟩ (.bool d3.s)).setCell ⟨gv, 1, none⟩ (.slice d3.p d3.m d3.c)).setCell ⟨gv, 2, none⟩ (.int .i64 d3.e)) := (bSet (bSet (bSet hbw _ _ _ HGv.out) _ _ _ HGv.out) _ _ _ HGv.out)
      have HJ2 : Hid ((fun W' : World => W'.cell? ⟨gb, 0, none⟩ = some (.bool d3.s) ∧ W'.cell? ⟨gb, 1, none⟩ = some (.slice d3.p d3.m d3.c) ∧ W'.cell? ⟨gb, 2, none⟩ = some (.int .i64 d3.e) ∧ W'.cell? ⟨gb, 3, none⟩ = some (.bool d4.s) ∧ W'.cell? ⟨gb, 4, none⟩ = some (.slice d4.p d4.m d4.c) ∧ W'.cell? ⟨gb, 5, none⟩ = some (.int .i64 d4.e)) (((Wx.setCell ⟨gv, 0, none⟩ (.bool d3.s)).setCell ⟨gv, 1, none⟩ (.slice d3.p d3.m d3.c)).setCell ⟨gv, 2, none⟩ (.int .i64 d3.e))) := ⟨Xb2.out.c0, Xb2.out.c1, Xb2.out.c2, Xb2.out.c3, Xb2.out.c4, Xb2.out.c5⟩
      refine hK _ _ HJ2.out ?_
      clear hK HJ;have HJ := HJ2;clear cv0 cv1 cv2 fv0 fv1 fv2 hnev HJ2 hbw Xv Xa Xb Xr Xu;have Xv := Xv2;have Xa := Xa2;have Xb := Xb2;have Xr := Xr2;have Xu := Xu2;have hbw := hbw2;clear hbw2 Xv2 Xa2 Xb2 Xr2 Xu2;generalize (((Wx.setCell ⟨gv, 0, none⟩ (.bool d3.s)).setCell ⟨gv, 1, none⟩ (.slice d3.p d3.m d3.c)).setCell ⟨gv, 2, none⟩ (.int .i64 d3.e)) = Wy at *
      refine wpJ_done (by kernel_rfl) ?_ _
      exact ⟨rfl, gu, gv, by kernel_rfl, Xu.out, Xv.out, Xa.out, Xr.out, fun h => HDru.out h.symm, fun h => HDrv.out h.symm, hbw⟩
    · go_simp
      have HDav : Hid (ga ≠ W5.heap.size) := Nat.ne_of_lt Xa.out.lt;have HDbv : Hid (gb ≠ W5.heap.size) := Nat.ne_of_lt Xb.out.lt;have HDrv : Hid (gr ≠ W5.heap.size) := Nat.ne_of_lt Xr.out.lt;have Xv0 : Hid (B3q (W5.alloc (.cells #[.bool false, .slice none 0 0, .int .i64 0] 26)) W5.heap.size (.bool false) (.slice none 0 0) (.int .i64 0)) := B3q.new W5 _ _ _ _;have hbn : Below W5.heap.size W5 (W5.alloc (.cells #[.bool false, .slice none 0 0, .int .i64 0] 26)) := below1 W5 _;generalize W5.alloc (.cells #[.bool false, .slice none 0 0, .int .i64 0] 26) = Wv at *;have HGv : Hid (w.heap.size ≤ W5.heap.size) := hbw.size;replace Xa := B6q.b Xa hbn;replace Xb := B6q.b Xb hbn;replace Xr := B6q.b Xr hbn;replace hbw := bon hbw hbn;clear hbn;generalize W5.heap.size = gv at *;have Xv := Xv0;clear Xv0
      refine hK _ _ ⟨Xb.out.c0, Xb.out.c1, Xb.out.c2, Xb.out.c3, Xb.out.c4, Xb.out.c5⟩ ?_
      clear hK
      refine wpJ_on 4 rfl fun KJ hK => ?_
      go_simp;have HDau : Hid (ga ≠ Wv.heap.size) := Nat.ne_of_lt Xa.out.lt;have HDbu : Hid (gb ≠ Wv.heap.size) := Nat.ne_of_lt Xb.out.lt;have HDru : Hid (gr ≠ Wv.heap.size) := Nat.ne_of_lt Xr.out.lt;have HDvu : Hid (gv ≠ Wv.heap.size) := Nat.ne_of_lt Xv.out.lt;have Xu0 : Hid (B3q (Wv.alloc (.cells #[.bool false, .slice none 0 0, .int .i64 0] 26)) Wv.heap.size (.bool false) (.slice none 0 0) (.int .i64 0)) := B3q.new Wv _ _ _ _;have hbn : Below Wv.heap.size Wv (Wv.alloc (.cells #[.bool false, .slice none 0 0, .int .i64 0] 26)) := below1 Wv _;generalize Wv.alloc (.cells #[.bool false, .slice none 0 0, .int .i64 0] 26) = Wu at *;have HGu : Hid (w.heap.size ≤ Wv.heap.size) := hbw.size;replace Xa := B6q.b Xa hbn;replace Xb := B6q.b Xb hbn;replace Xr := B6q.b Xr hbn;replace Xv := B3q.b Xv hbn;replace hbw := bon hbw hbn;clear hbn;generalize Wv.heap.size = gu at *;have Xu := Xu0;clear Xu0
      refine hK _ _ ⟨Xb.out.c0, Xb.out.c1, Xb.out.c2, Xb.out.c3, Xb.out.c4, Xb.out.c5⟩ ?_
      clear hK;obtain ⟨cu0, cu1, cu2, fu0, fu1, fu2⟩ := Xu.out;have hneu : gu < Wu.heap.size := blt cu0
      refine wpJ_on 6 rfl fun KJ hK => ?_
      go_simp;have Xu2 : Hid (B3q (((Wu.setCell ⟨gu, 0, none⟩ (.bool d4.s)).setCell ⟨gu, 1, none⟩ (.slice d4.p d4.m d4.c)).setCell ⟨gu, 2, none⟩ (.int .i64 d4.e)) gu (.bool d4.s) (.slice d4.p d4.m d4.c) (.int .i64 d4.e)) := Xu.out.put3 (.bool d4.s) (.slice d4.p d4.m d4.c) (.int .i64 d4.e);have Xa2 : Hid (B6q (((Wu.setCell ⟨gu, 0, none⟩ (.bool d4.s)).setCell ⟨gu, 1, none⟩ (.slice d4.p d4.m d4.c)).setCell ⟨gu, 2, none⟩ (.int .i64 d4.e)) ga (.bool d1.s) (.slice d1.p d1.m d1.c) (.int .i64 d1.e) (.bool d2.s) (.slice d2.p d2.m d2.c) (.int .i64 d2.e)) := Xa.out.off3 HDau.out (.bool d4.s) (.slice d4.p d4.m d4.c) (.int .i64 d4.e);have Xb2 : Hid (B6q (((Wu.setCell ⟨gu, 0, none⟩ (.bool d4.s)).setCell ⟨gu, 1, none⟩ (.slice d4.p d4.m d4.c)).setCell ⟨gu, 2, none⟩ (.int .i64 d4.e)) gb (.bool d3.s) (.slice d3.p d3.m d3.c) (.int .i64 d3.e) (.bool d4.s) (.slice d4.p d4.m d4.c) (.int .i64 d4.e)) := Xb.out.off3 HDbu.out (.bool d4.s) (.slice d4.p d4.m d4.c) (.int .i64 d4.e)
      have Xr2 : Hid (B6q (((Wu.setCell ⟨gu, 0, none⟩ (.bool d4.s)).setCell ⟨gu, 1, none⟩ (.slice d4.p d4.m d4.c)).setCell ⟨gu, 2, none⟩ (.int .i64 d4.e)) gr (.bool false) (.slice none 0 0) (.int .i64 0) (.bool false) (.slice none 0 0) (.int .i64 0)) := Xr.out.off3 HDru.out (.bool d4.s) (.slice d4.p d4.m d4.c) (.int .i64 d4.e);have Xv2 : Hid (B3q (((Wu.setCell ⟨gu, 0, none⟩ (.bool d4.s)).setCell ⟨gu, 1, none⟩ (.slice d4.p d4.m d4.c)).setCell ⟨gu, 2, none⟩ (.int .i64 d4.e)) gv (.bool false) (.slice none 0 0) (.int .i64 0)) := Xv.out.off3 HDvu.out (.bool d4.s) (.slice d4.p d4.m d4.c) (.int .i64 d4.e);have hbw2 : Below w.heap.size w (((Wu.setCell ⟨gu, 0, none⟩ (.bool d4.s)).setCell ⟨gu, 1, none⟩ (.slice d4.p d4.m d4.c)).setCell ⟨gu, 2, none⟩ (.int .i64 d4.e)) := (bSet (bSet (bSet hbw _ _ _ HGu.out) _ _ _ HGu.out) _ _ _ HGu.out)
      have HJ2 : Hid ((fun W' : World => W'.cell? ⟨gb, 0, none⟩ = some (.bool d3.s) ∧ W'.cell? ⟨gb, 1, none⟩ = some (.slice d3.p d3.m d3.c) ∧ W'.cell? ⟨gb, 2, none⟩ = some (.int .i64 d3.e) ∧ W'.cell? ⟨gb, 3, none⟩ = some (.bool d4.s) ∧ W'.cell? ⟨gb, 4, none⟩ = some (.slice d4.p d4.m d4.c) ∧ W'.cell? ⟨gb, 5, none⟩ = some (.int .i64 d4.e)) (((Wu.setCell ⟨gu, 0, none⟩ (.bool d4.s)).setCell ⟨gu, 1, none⟩ (.slice d4.p d4.m d4.c)).setCell ⟨gu, 2, none⟩ (.int .i64 d4.e))) := ⟨Xb2.out.c0, Xb2.out.c1, Xb2.out.c2, Xb2.out.c3, Xb2.out.c4, Xb2.out.c5⟩
      refine hK _ _ HJ2.out ?_
      clear hK HJ;have HJ := HJ2;clear cu0 cu1 cu2 fu0 fu1 fu2 hneu HJ2 hbw Xu Xa Xb Xr Xv;have Xu := Xu2;have Xa := Xa2;have Xb := Xb2;have Xr := Xr2;have Xv := Xv2;have hbw := hbw2;clear hbw2 Xu2 Xa2 Xb2 Xr2 Xv2;generalize (((Wu.setCell ⟨gu, 0, none⟩ (.bool d4.s)).setCell ⟨gu, 1, none⟩ (.slice d4.p d4.m d4.c)).setCell ⟨gu, 2, none⟩ (.int .i64 d4.e)) = Wx at *;obtain ⟨cv0, cv1, cv2, fv0, fv1, fv2⟩ := Xv.out;have hnev : gv < Wx.heap.size := blt cv0
      refine wpJ_on 7 rfl fun KJ hK => ?_
      go_simp;have Xv2 : Hid (B3q (((Wx.setCell ⟨gv, 0, none⟩ (.bool d3.s)).setCell ⟨gv, 1, none⟩ (.slice d3.p d3.m d3.c)).setCell ⟨gv, 2, none⟩ (.int .i64 d3.e)) gv (.bool d3.s) (.slice d3.p d3.m d3.c) (.int .i64 d3.e)) := Xv.out.put3 (.bool d3.s) (.slice d3.p d3.m d3.c) (.int .i64 d3.e);have Xa2 : Hid (B6q (((Wx.setCell ⟨gv, 0, none⟩ (.bool d3.s)).setCell ⟨gv, 1, none⟩ (.slice d3.p d3.m d3.c)).setCell ⟨gv, 2, none⟩ (.int .i64 d3.e)) ga (.bool d1.s) (.slice d1.p d1.m d1.c) (.int .i64 d1.e) (.bool d2.s) (.slice d2.p d2.m d2.c) (.int .i64 d2.e)) := Xa.out.off3 HDav.out (.bool d3.s) (.slice d3.p d3.m d3.c) (.int .i64 d3.e);have Xb2 : Hid (B6q (((Wx.setCell ⟨gv, 0, none⟩ (.bool d3.s)).setCell ⟨gv, 1, none⟩ (.slice d3.p d3.m d3.c)).setCell ⟨gv, 2, none⟩ (.int .i64 d3.e)) gb (.bool d3.s) (.slice d3.p d3.m d3.c) (.int .i64 d3.e) (.bool d4.s) (.slice d4.p d4.m d4.c) (.int .i64 d4.e)) := Xb.out.off3 HDbv.out (.bool d3.s) (.slice d3.p d3.m d3.c) (.int .i64 d3.e)
      have Xr2 : Hid (B6q (((Wx.setCell ⟨gv, 0, none⟩ (.bool d3.s)).setCell ⟨gv, 1, none⟩ (.slice d3.p d3.m d3.c)).setCell ⟨gv, 2, none⟩ (.int .i64 d3.e)) gr (.bool false) (.slice none 0 0) (.int .i64 0) (.bool false) (.slice none 0 0) (.int .i64 0)) := Xr.out.off3 HDrv.out (.bool d3.s) (.slice d3.p d3.m d3.c) (.int .i64 d3.e)
      have Xu2 : Hid (B3q (((Wx.setCell ⟨gv, 0, none⟩ (.bool d3.s)).setCell ⟨gv, 1, none⟩ (.slice d3.p d3.m d3.c)).setCell ⟨gv, 2, none⟩ (.int .i64 d3.e)) gu (.bool d4.s) (.slice d4.p d4.m d4.c) (.int .i64 d4.e)) := Xu.out.off3 (fun h => HDvu.out h.symm) (.bool d3.s) (.slice d3.p d3.m d3.c) (.int .i64 d3.e)
      have hbw2 : Below w.heap.size w (((Wx.setCell ⟨gv, 0, none⟩ (.bool d3.s)).setCell ⟨gv, 1, none⟩ (.slice d3.p d3.m d3.c)).setCell ⟨gv, 2, none⟩ (.int .i64 d3.e)) := (bSet (bSet (bSet hbw _ _ _ HGv.out) _ _ _ HGv.out) _ _ _ HGv.out)
      have HJ2 : Hid ((fun W' : World => W'.cell? ⟨gb, 0, none⟩ = some (.bool d3.s) ∧ W'.cell? ⟨gb, 1, none⟩ = some (.slice d3.p d3.m d3.c) ∧ W'.cell? ⟨gb, 2, none⟩ = some (.int .i64 d3.e) ∧ W'.cell? ⟨gb, 3, none⟩ = some (.bool d4.s) ∧ W'.cell? ⟨gb, 4, none⟩ = some (.slice d4.p d4.m d4.c) ∧ W'.cell? ⟨gb, 5, none⟩ = some (.int .i64 d4.e)) (((Wx.setCell ⟨gv, 0, none⟩ (.bool d3.s)).setCell ⟨gv, 1, none⟩ (.slice d3.p d3.m d3.c)).setCell ⟨gv, 2, none⟩ (.int .i64 d3.e))) := ⟨Xb2.out.c0, Xb2.out.c1, Xb2.out.c2, Xb2.out.c3, Xb2.out.c4, Xb2.out.c5⟩
      refine hK _ _ HJ2.out ?_
      clear hK HJ;have HJ := HJ2;clear cv0 cv1 cv2 fv0 fv1 fv2 hnev HJ2 hbw Xv Xa Xb Xr Xu;have Xv := Xv2;have Xa := Xa2;have Xb := Xb2;have Xr := Xr2;have Xu := Xu2;have hbw := hbw2;clear hbw2 Xv2 Xa2 Xb2 Xr2 Xu2;generalize (((Wx.setCell ⟨gv, 0, none⟩ (.bool d3.s)).setCell ⟨gv, 1, none⟩ (.slice d3.p d3.m d3.c)).setCell ⟨gv, 2, none⟩ (.int .i64 d3.e)) = Wy at *
      refine wpJ_done (by kernel_rfl) ?_ _
      exact ⟨rfl, gu, gv, by kernel_rfl, Xu.out, Xv.out, Xa.out, Xr.out, fun h => HDru.out h.symm, fun h => HDrv.out h.symm, hbw⟩
theorem smeet_e1 {p1 p2 p3 p4 : Option Addr} {m1 m2 m3 m4 c1 c2 c3 c4 : Nat} {w : World} {e1 e2 e3 e4 : Int} {s1 s2 s3 s4 : Bool} {x1 x2 x3 x4 : List Nat} (h1 : At w p1 m1 c1 x1) (h2 : At w p2 m2 c2 x2) (h3 : At w p3 m3 c3 x3) (h4 : At w p4 m4 c4 x4) (hF : FormS s1 x1 e1 s2 x2 e2 = false) :
  Calls Tryz.prog 5 #[SV s1 p1 m1 c1 e1 s2 p2 m2 c2 e2, SV s3 p3 m3 c3 e3 s4 p4 m4 c4 e4] w fun en w' => en = .returned (.tuple #[SV false none 0 0 0 false none 0 0 0, .bool false, .int .i64 2]) ∧ Below w.heap.size w w' := by
 have A1 := hdQ h1;have A2 := hdQ h2;have A3 := hdQ h3;have A4 := hdQ h4;clear h1 h2 h3 h4;have HF := hdQ hF;clear hF
 go_enter Tryz.func5, Tryz.ntmps5
 go_wp2_with fail;obtain ⟨W0, hW0⟩ := exq (((w.alloc (.cells #[.bool s1, .slice p1 m1 c1, .int .i64 e1, .bool s2, .slice p2 m2 c2, .int .i64 e2] 28)).alloc (.cells #[.bool s3, .slice p3 m3 c3, .int .i64 e3, .bool s4, .slice p4 m4 c4, .int .i64 e4] 28)).alloc (.cells #[.bool false, .slice none 0 0, .int .i64 0, .bool false, .slice none 0 0, .int .i64 0] 28))
 have Xa : Hid (B6q W0 (w.heap.size) (.bool s1) (.slice p1 m1 c1) (.int .i64 e1) (.bool s2) (.slice p2 m2 c2) (.int .i64 e2)) := by rw [hW0]; constructor <;> go_simp
 have Xb : Hid (B6q W0 (w.heap.size + 1) (.bool s3) (.slice p3 m3 c3) (.int .i64 e3) (.bool s4) (.slice p4 m4 c4) (.int .i64 e4)) := by rw [hW0]; constructor <;> go_simp
 have Xr : Hid (B6q W0 (w.heap.size + 1 + 1) (.bool false) (.slice none 0 0) (.int .i64 0) (.bool false) (.slice none 0 0) (.int .i64 0)) := by rw [hW0]; constructor <;> go_simp
 have hb0 := bq3 hW0;rw [← hW0];clear hW0;have hbw := brf w;obtain ⟨gr, hgr⟩ := exq (w.heap.size + 1 + 1);have HGr : Hid (w.heap.size ≤ gr) := hgl hgr;rw [← hgr] at Xr
 try rw [← hgr]
 obtain ⟨gb, hgb⟩ := exq (w.heap.size + 1);have HGb : Hid (w.heap.size ≤ gb) := hgl hgb;rw [← hgb] at Xb
 try rw [← hgb]
 obtain ⟨ga, hga⟩ := exq w.heap.size;have HGa : Hid (w.heap.size ≤ ga) := hgl hga;rw [← hga] at Xa
 try rw [← hga]
 have HGD : Hid (ga ≠ gb ∧ ga ≠ gr ∧ gb ≠ ga ∧ gb ≠ gr ∧ gr ≠ ga ∧ gr ≠ gb) := by rw [hga, hgb, hgr]; show _ ∧ _; omega
 clear hga hgb hgr;replace hbw := bon hbw hb0;clear hb0
 refine (sform_any (A1.out.below hbw) (A2.out.below hbw)).mono ?_
 rintro e v1 ⟨rfl, hb1⟩;rw [HF.out];replace Xa := B6q.b Xa hb1;replace Xb := B6q.b Xb hb1;replace Xr := B6q.b Xr hb1;replace hbw := bon hbw hb1;clear hb1;obtain ⟨cr0, cr1, cr2, cr3, cr4, cr5, fr0, fr1, fr2, fr3, fr4, fr5⟩ := Xr.out;have hner : gr < v1.heap.size := blt cr0;go_wp2_with fail
 refine bodyPost_ret (v := .tuple #[SV false none 0 0 0 false none 0 0 0, .bool false, .int .i64 2]) (by rw [results_ctt rfl]; go_simp) rfl ⟨rfl, ?_⟩
 exact (bSet (bSet (bSet (bSet (bSet (bSet hbw _ _ _ HGr.out) _ _ _ HGr.out) _ _ _ HGr.out) _ _ _ HGr.out) _ _ _ HGr.out) _ _ _ HGr.out)
theorem smeet_e2 {p1 p2 p3 p4 : Option Addr} {m1 m2 m3 m4 c1 c2 c3 c4 : Nat} {w : World} {e1 e2 e3 e4 : Int} {s1 s2 s3 s4 : Bool} {x1 x2 x3 x4 : List Nat} (h1 : At w p1 m1 c1 x1) (h2 : At w p2 m2 c2 x2) (h3 : At w p3 m3 c3 x3) (h4 : At w p4 m4 c4 x4) (hF : FormS s1 x1 e1 s2 x2 e2 = true) (hG : FormS s3 x3 e3 s4 x4 e4 = false) :
  Calls Tryz.prog 5 #[SV s1 p1 m1 c1 e1 s2 p2 m2 c2 e2, SV s3 p3 m3 c3 e3 s4 p4 m4 c4 e4] w fun en w' => en = .returned (.tuple #[SV false none 0 0 0 false none 0 0 0, .bool false, .int .i64 2]) ∧ Below w.heap.size w w' := by
 have A1 := hdQ h1;have A2 := hdQ h2;have A3 := hdQ h3;have A4 := hdQ h4;clear h1 h2 h3 h4;have HF := hdQ hF;have HG := hdQ hG;clear hG hF
 go_enter Tryz.func5, Tryz.ntmps5
 go_wp2_with fail;obtain ⟨W0, hW0⟩ := exq (((w.alloc (.cells #[.bool s1, .slice p1 m1 c1, .int .i64 e1, .bool s2, .slice p2 m2 c2, .int .i64 e2] 28)).alloc (.cells #[.bool s3, .slice p3 m3 c3, .int .i64 e3, .bool s4, .slice p4 m4 c4, .int .i64 e4] 28)).alloc (.cells #[.bool false, .slice none 0 0, .int .i64 0, .bool false, .slice none 0 0, .int .i64 0] 28))
 have Xa : Hid (B6q W0 (w.heap.size) (.bool s1) (.slice p1 m1 c1) (.int .i64 e1) (.bool s2) (.slice p2 m2 c2) (.int .i64 e2)) := by rw [hW0]; constructor <;> go_simp
 have Xb : Hid (B6q W0 (w.heap.size + 1) (.bool s3) (.slice p3 m3 c3) (.int .i64 e3) (.bool s4) (.slice p4 m4 c4) (.int .i64 e4)) := by rw [hW0]; constructor <;> go_simp
 have Xr : Hid (B6q W0 (w.heap.size + 1 + 1) (.bool false) (.slice none 0 0) (.int .i64 0) (.bool false) (.slice none 0 0) (.int .i64 0)) := by rw [hW0]; constructor <;> go_simp
 have hb0 := bq3 hW0;rw [← hW0];clear hW0;have hbw := brf w;obtain ⟨gr, hgr⟩ := exq (w.heap.size + 1 + 1);have HGr : Hid (w.heap.size ≤ gr) := hgl hgr;rw [← hgr] at Xr
 try rw [← hgr]
 obtain ⟨gb, hgb⟩ := exq (w.heap.size + 1);have HGb : Hid (w.heap.size ≤ gb) := hgl hgb;rw [← hgb] at Xb
 try rw [← hgb]
 obtain ⟨ga, hga⟩ := exq w.heap.size;have HGa : Hid (w.heap.size ≤ ga) := hgl hga;rw [← hga] at Xa
 try rw [← hga]
 have HGD : Hid (ga ≠ gb ∧ ga ≠ gr ∧ gb ≠ ga ∧ gb ≠ gr ∧ gr ≠ ga ∧ gr ≠ gb) := by rw [hga, hgb, hgr]; show _ ∧ _; omega
 clear hga hgb hgr;replace hbw := bon hbw hb0;clear hb0
 refine (sform_any (A1.out.below hbw) (A2.out.below hbw)).mono ?_
 rintro e v1 ⟨rfl, hb1⟩;rw [HF.out];replace Xa := B6q.b Xa hb1;replace Xb := B6q.b Xb hb1;replace Xr := B6q.b Xr hb1;replace hbw := bon hbw hb1;clear hb1;obtain ⟨cb0, cb1, cb2, cb3, cb4, cb5, fb0, fb1, fb2, fb3, fb4, fb5⟩ := Xb.out;have hneb : gb < v1.heap.size := blt cb0;go_wp2_with fail;clear cb0 cb1 cb2 cb3 cb4 cb5 fb0 fb1 fb2 fb3 fb4 fb5 hneb
 refine (sform_any (A3.out.below hbw) (A4.out.below hbw)).mono ?_
 rintro e v2 ⟨rfl, hb2⟩;rw [HG.out];replace Xa := B6q.b Xa hb2;replace Xb := B6q.b Xb hb2;replace Xr := B6q.b Xr hb2;replace hbw := bon hbw hb2;clear hb2;obtain ⟨cr0, cr1, cr2, cr3, cr4, cr5, fr0, fr1, fr2, fr3, fr4, fr5⟩ := Xr.out;have hner : gr < v2.heap.size := blt cr0;go_wp2_with fail
 refine bodyPost_ret (v := .tuple #[SV false none 0 0 0 false none 0 0 0, .bool false, .int .i64 2]) (by rw [results_ctt rfl]; go_simp) rfl ⟨rfl, ?_⟩
 exact (bSet (bSet (bSet (bSet (bSet (bSet hbw _ _ _ HGr.out) _ _ _ HGr.out) _ _ _ HGr.out) _ _ _ HGr.out) _ _ _ HGr.out) _ _ _ HGr.out)
theorem shull_e1 {p1 p2 p3 p4 : Option Addr} {m1 m2 m3 m4 c1 c2 c3 c4 : Nat} {w : World} {e1 e2 e3 e4 : Int} {s1 s2 s3 s4 : Bool} {x1 x2 x3 x4 : List Nat} (h1 : At w p1 m1 c1 x1) (h2 : At w p2 m2 c2 x2) (h3 : At w p3 m3 c3 x3) (h4 : At w p4 m4 c4 x4) (hF : FormS s1 x1 e1 s2 x2 e2 = false) :
  Calls Tryz.prog 7 #[SV s1 p1 m1 c1 e1 s2 p2 m2 c2 e2, SV s3 p3 m3 c3 e3 s4 p4 m4 c4 e4] w fun en w' => en = .returned (.tuple #[SV false none 0 0 0 false none 0 0 0, .int .i64 2]) ∧ Below w.heap.size w w' := by
 have A1 := hdQ h1;have A2 := hdQ h2;have A3 := hdQ h3;have A4 := hdQ h4;clear h1 h2 h3 h4;have HF := hdQ hF;clear hF
 go_enter Tryz.func7, Tryz.ntmps7
 go_wp2_with fail;obtain ⟨W0, hW0⟩ := exq (((w.alloc (.cells #[.bool s1, .slice p1 m1 c1, .int .i64 e1, .bool s2, .slice p2 m2 c2, .int .i64 e2] 28)).alloc (.cells #[.bool s3, .slice p3 m3 c3, .int .i64 e3, .bool s4, .slice p4 m4 c4, .int .i64 e4] 28)).alloc (.cells #[.bool false, .slice none 0 0, .int .i64 0, .bool false, .slice none 0 0, .int .i64 0] 28))
 have Xa : Hid (B6q W0 (w.heap.size) (.bool s1) (.slice p1 m1 c1) (.int .i64 e1) (.bool s2) (.slice p2 m2 c2) (.int .i64 e2)) := by rw [hW0]; constructor <;> go_simp
 have Xb : Hid (B6q W0 (w.heap.size + 1) (.bool s3) (.slice p3 m3 c3) (.int .i64 e3) (.bool s4) (.slice p4 m4 c4) (.int .i64 e4)) := by rw [hW0]; constructor <;> go_simp
 have Xr : Hid (B6q W0 (w.heap.size + 1 + 1) (.bool false) (.slice none 0 0) (.int .i64 0) (.bool false) (.slice none 0 0) (.int .i64 0)) := by rw [hW0]; constructor <;> go_simp
 have hb0 := bq3 hW0;rw [← hW0];clear hW0;have hbw := brf w;obtain ⟨gr, hgr⟩ := exq (w.heap.size + 1 + 1);have HGr : Hid (w.heap.size ≤ gr) := hgl hgr;rw [← hgr] at Xr
 try rw [← hgr]
 obtain ⟨gb, hgb⟩ := exq (w.heap.size + 1);have HGb : Hid (w.heap.size ≤ gb) := hgl hgb;rw [← hgb] at Xb
 try rw [← hgb]
 obtain ⟨ga, hga⟩ := exq w.heap.size;have HGa : Hid (w.heap.size ≤ ga) := hgl hga;rw [← hga] at Xa
 try rw [← hga]
 have HGD : Hid (ga ≠ gb ∧ ga ≠ gr ∧ gb ≠ ga ∧ gb ≠ gr ∧ gr ≠ ga ∧ gr ≠ gb) := by rw [hga, hgb, hgr]; show _ ∧ _; omega
 clear hga hgb hgr;replace hbw := bon hbw hb0;clear hb0
 refine (sform_any (A1.out.below hbw) (A2.out.below hbw)).mono ?_
 rintro e v1 ⟨rfl, hb1⟩;rw [HF.out];replace Xa := B6q.b Xa hb1;replace Xb := B6q.b Xb hb1;replace Xr := B6q.b Xr hb1;replace hbw := bon hbw hb1;clear hb1;obtain ⟨cr0, cr1, cr2, cr3, cr4, cr5, fr0, fr1, fr2, fr3, fr4, fr5⟩ := Xr.out;have hner : gr < v1.heap.size := blt cr0;go_wp2_with fail
 refine bodyPost_ret (v := .tuple #[SV false none 0 0 0 false none 0 0 0, .int .i64 2]) (by rw [results_cell_tmp rfl]; go_simp) rfl ⟨rfl, ?_⟩
 exact (bSet (bSet (bSet (bSet (bSet (bSet hbw _ _ _ HGr.out) _ _ _ HGr.out) _ _ _ HGr.out) _ _ _ HGr.out) _ _ _ HGr.out) _ _ _ HGr.out)
theorem shull_e2 {p1 p2 p3 p4 : Option Addr} {m1 m2 m3 m4 c1 c2 c3 c4 : Nat} {w : World} {e1 e2 e3 e4 : Int} {s1 s2 s3 s4 : Bool} {x1 x2 x3 x4 : List Nat} (h1 : At w p1 m1 c1 x1) (h2 : At w p2 m2 c2 x2) (h3 : At w p3 m3 c3 x3) (h4 : At w p4 m4 c4 x4) (hF : FormS s1 x1 e1 s2 x2 e2 = true) (hG : FormS s3 x3 e3 s4 x4 e4 = false) :
  Calls Tryz.prog 7 #[SV s1 p1 m1 c1 e1 s2 p2 m2 c2 e2, SV s3 p3 m3 c3 e3 s4 p4 m4 c4 e4] w fun en w' => en = .returned (.tuple #[SV false none 0 0 0 false none 0 0 0, .int .i64 2]) ∧ Below w.heap.size w w' := by
 have A1 := hdQ h1;have A2 := hdQ h2;have A3 := hdQ h3;have A4 := hdQ h4;clear h1 h2 h3 h4;have HF := hdQ hF;have HG := hdQ hG;clear hG hF
 go_enter Tryz.func7, Tryz.ntmps7
 go_wp2_with fail;obtain ⟨W0, hW0⟩ := exq (((w.alloc (.cells #[.bool s1, .slice p1 m1 c1, .int .i64 e1, .bool s2, .slice p2 m2 c2, .int .i64 e2] 28)).alloc (.cells #[.bool s3, .slice p3 m3 c3, .int .i64 e3, .bool s4, .slice p4 m4 c4, .int .i64 e4] 28)).alloc (.cells #[.bool false, .slice none 0 0, .int .i64 0, .bool false, .slice none 0 0, .int .i64 0] 28))
 have Xa : Hid (B6q W0 (w.heap.size) (.bool s1) (.slice p1 m1 c1) (.int .i64 e1) (.bool s2) (.slice p2 m2 c2) (.int .i64 e2)) := by rw [hW0]; constructor <;> go_simp
 have Xb : Hid (B6q W0 (w.heap.size + 1) (.bool s3) (.slice p3 m3 c3) (.int .i64 e3) (.bool s4) (.slice p4 m4 c4) (.int .i64 e4)) := by rw [hW0]; constructor <;> go_simp
 have Xr : Hid (B6q W0 (w.heap.size + 1 + 1) (.bool false) (.slice none 0 0) (.int .i64 0) (.bool false) (.slice none 0 0) (.int .i64 0)) := by rw [hW0]; constructor <;> go_simp
 have hb0 := bq3 hW0;rw [← hW0];clear hW0;have hbw := brf w;obtain ⟨gr, hgr⟩ := exq (w.heap.size + 1 + 1);have HGr : Hid (w.heap.size ≤ gr) := hgl hgr;rw [← hgr] at Xr
 try rw [← hgr]
 obtain ⟨gb, hgb⟩ := exq (w.heap.size + 1);have HGb : Hid (w.heap.size ≤ gb) := hgl hgb;rw [← hgb] at Xb
 try rw [← hgb]
 obtain ⟨ga, hga⟩ := exq w.heap.size;have HGa : Hid (w.heap.size ≤ ga) := hgl hga;rw [← hga] at Xa
 try rw [← hga]
 have HGD : Hid (ga ≠ gb ∧ ga ≠ gr ∧ gb ≠ ga ∧ gb ≠ gr ∧ gr ≠ ga ∧ gr ≠ gb) := by rw [hga, hgb, hgr]; show _ ∧ _; omega
 clear hga hgb hgr;replace hbw := bon hbw hb0;clear hb0
 refine (sform_any (A1.out.below hbw) (A2.out.below hbw)).mono ?_
 rintro e v1 ⟨rfl, hb1⟩;rw [HF.out];replace Xa := B6q.b Xa hb1;replace Xb := B6q.b Xb hb1;replace Xr := B6q.b Xr hb1;replace hbw := bon hbw hb1;clear hb1;obtain ⟨cb0, cb1, cb2, cb3, cb4, cb5, fb0, fb1, fb2, fb3, fb4, fb5⟩ := Xb.out;have hneb : gb < v1.heap.size := blt cb0;go_wp2_with fail;clear cb0 cb1 cb2 cb3 cb4 cb5 fb0 fb1 fb2 fb3 fb4 fb5 hneb
 refine (sform_any (A3.out.below hbw) (A4.out.below hbw)).mono ?_
 rintro e v2 ⟨rfl, hb2⟩;rw [HG.out];replace Xa := B6q.b Xa hb2;replace Xb := B6q.b Xb hb2;replace Xr := B6q.b Xr hb2;replace hbw := bon hbw hb2;clear hb2;obtain ⟨cr0, cr1, cr2, cr3, cr4, cr5, fr0, fr1, fr2, fr3, fr4, fr5⟩ := Xr.out;have hner : gr < v2.heap.size := blt cr0;go_wp2_with fail
 refine bodyPost_ret (v := .tuple #[SV false none 0 0 0 false none 0 0 0, .int .i64 2]) (by rw [results_cell_tmp rfl]; go_simp) rfl ⟨rfl, ?_⟩
 exact (bSet (bSet (bSet (bSet (bSet (bSet hbw _ _ _ HGr.out) _ _ _ HGr.out) _ _ _ HGr.out) _ _ _ HGr.out) _ _ _ HGr.out) _ _ _ HGr.out)
end Go.Proofs.YtpdelpakgdanlaaGreatDoor
