import Derived.Test.YtmlclpjimkjjeaaGreatDoorJ15
import Derived.Test.YtmlclpjimkjjeaaGreatDoorJ17
import Derived.Test.YtmlclpjimkjjeaaGreatDoorJ12
import Derived.Test.YtmlclpjimkjjeaaGreatDoorSmall
import Derived.Test.YtmlclpjimkjjeaaGreatDoorJ11
namespace Go.Proofs.YtmlclpjimkjjeaaGreatDoor
open Go.RowKit Go.Shelf
set_option maxRecDepth 20000
set_option maxHeartbeats 0
structure B10q (W : World) (g : Nat) (v0 v1 v2 v3 v4 v5 v6 v7 v8 v9 : Value) : Prop where
 c0 : W.cell? ⟨g, 0, none⟩ = some v0
 c1 : W.cell? ⟨g, 1, none⟩ = some v1
 c2 : W.cell? ⟨g, 2, none⟩ = some v2
 c3 : W.cell? ⟨g, 3, none⟩ = some v3
 c4 : W.cell? ⟨g, 4, none⟩ = some v4
 c5 : W.cell? ⟨g, 5, none⟩ = some v5
 c6 : W.cell? ⟨g, 6, none⟩ = some v6
 c7 : W.cell? ⟨g, 7, none⟩ = some v7
 c8 : W.cell? ⟨g, 8, none⟩ = some v8
 c9 : W.cell? ⟨g, 9, none⟩ = some v9
 f0 : W.frozen? ⟨g, 0, none⟩ = false
 f1 : W.frozen? ⟨g, 1, none⟩ = false
 f2 : W.frozen? ⟨g, 2, none⟩ = false
 f3 : W.frozen? ⟨g, 3, none⟩ = false
 f4 : W.frozen? ⟨g, 4, none⟩ = false
 f5 : W.frozen? ⟨g, 5, none⟩ = false
 f6 : W.frozen? ⟨g, 6, none⟩ = false
 f7 : W.frozen? ⟨g, 7, none⟩ = false
 f8 : W.frozen? ⟨g, 8, none⟩ = false
 f9 : W.frozen? ⟨g, 9, none⟩ = false
theorem B10q.lt {w : World} {g : Nat} {v0 v1 v2 v3 v4 v5 v6 v7 v8 v9 : Value} (h : B10q w g v0 v1 v2 v3 v4 v5 v6 v7 v8 v9) : g < w.heap.size := World.block_lt_of_cell? w _ h.c0
theorem B10q.below {W W' : World} {g : Nat} {v0 v1 v2 v3 v4 v5 v6 v7 v8 v9 : Value} (h : B10q W g v0 v1 v2 v3 v4 v5 v6 v7 v8 v9) (hb : Below W.heap.size W W') : B10q W' g v0 v1 v2 v3 v4 v5 v6 v7 v8 v9 := by
  have hl : g < W.heap.size := World.block_lt_of_cell? W _ h.c0
  exact ⟨(hb.cell (p := ⟨g, 0, none⟩) hl).trans h.c0, (hb.cell (p := ⟨g, 1, none⟩) hl).trans h.c1, (hb.cell (p := ⟨g, 2, none⟩) hl).trans h.c2, (hb.cell (p := ⟨g, 3, none⟩) hl).trans h.c3, (hb.cell (p := ⟨g, 4, none⟩) hl).trans h.c4, (hb.cell (p := ⟨g, 5, none⟩) hl).trans h.c5, (hb.cell (p := ⟨g, 6, none⟩) hl).trans h.c6, (hb.cell (p := ⟨g, 7, none⟩) hl).trans h.c7, (hb.cell (p := ⟨g, 8, none⟩) hl).trans h.c8, (hb.cell (p := ⟨g, 9, none⟩) hl).trans h.c9, (hb.frozen (p := ⟨g, 0, none⟩) hl).trans h.f0, (hb.frozen (p := ⟨g, 1, none⟩) hl).trans h.f1, (hb.frozen (p := ⟨g, 2, none⟩) hl).trans h.f2, (hb.frozen (p := ⟨g, 3, none⟩) hl).trans h.f3, (hb.frozen (p := ⟨g, 4, none⟩) hl).trans h.f4, (hb.frozen (p := ⟨g, 5, none⟩) hl).trans h.f5, (hb.frozen (p := ⟨g, 6, none⟩) hl).trans h.f6, (hb.frozen (p := ⟨g, 7, none⟩) hl).trans h.f7, (hb.frozen (p := ⟨g, 8, none⟩) hl).trans h.f8, (hb.frozen (p := ⟨g, 9, none⟩) hl).trans h.f9⟩
theorem B10q.b {W W' : World} {g : Nat} {v0 v1 v2 v3 v4 v5 v6 v7 v8 v9 : Value} (h : Hid (B10q W g v0 v1 v2 v3 v4 v5 v6 v7 v8 v9)) (hb : Below W.heap.size W W') : Hid (B10q W' g v0 v1 v2 v3 v4 v5 v6 v7 v8 v9) := B10q.below h hb
theorem B10q.new (w : World) (ty : TypeId) (v0 v1 v2 v3 v4 v5 v6 v7 v8 v9 : Value) : B10q (w.alloc (.cells #[v0, v1, v2, v3, v4, v5, v6, v7, v8, v9] ty)) w.heap.size v0 v1 v2 v3 v4 v5 v6 v7 v8 v9 := ⟨by go_simp, by go_simp, by go_simp, by go_simp, by go_simp, by go_simp, by go_simp, by go_simp, by go_simp, by go_simp, by go_simp, by go_simp, by go_simp, by go_simp, by go_simp, by go_simp, by go_simp, by go_simp, by go_simp, by go_simp⟩
theorem B10q.set10 {w : World} {r : Nat} {u0 u1 u2 u3 u4 u5 u6 u7 u8 u9 : Value} {v0 v1 v2 v3 v4 v5 v6 v7 v8 v9 : Value} (h : B10q w r u0 u1 u2 u3 u4 u5 u6 u7 u8 u9) : B10q ((((((((((w.setCell ⟨r, 0, none⟩ v0).setCell ⟨r, 1, none⟩ v1).setCell ⟨r, 2, none⟩ v2).setCell ⟨r, 3, none⟩ v3).setCell ⟨r, 4, none⟩ v4).setCell ⟨r, 5, none⟩ v5).setCell ⟨r, 6, none⟩ v6).setCell ⟨r, 7, none⟩ v7).setCell ⟨r, 8, none⟩ v8).setCell ⟨r, 9, none⟩ v9) r v0 v1 v2 v3 v4 v5 v6 v7 v8 v9 := by
  obtain ⟨c0, c1, c2, c3, c4, c5, c6, c7, c8, c9, f0, f1, f2, f3, f4, f5, f6, f7, f8, f9⟩ := h
  constructor <;> go_simp
theorem At.set10 {w : World} {g r n c : Nat} {xs : List Nat} {v0 v1 v2 v3 v4 v5 v6 v7 v8 v9 : Value} (h : At w (some ⟨g, 0, none⟩) n c xs) (hne : g ≠ r) : At ((((((((((w.setCell ⟨r, 0, none⟩ v0).setCell ⟨r, 1, none⟩ v1).setCell ⟨r, 2, none⟩ v2).setCell ⟨r, 3, none⟩ v3).setCell ⟨r, 4, none⟩ v4).setCell ⟨r, 5, none⟩ v5).setCell ⟨r, 6, none⟩ v6).setCell ⟨r, 7, none⟩ v7).setCell ⟨r, 8, none⟩ v8).setCell ⟨r, 9, none⟩ v9) (some ⟨g, 0, none⟩) n c xs := ((((((((((h.setOther _ _ _ hne).setOther _ _ _ hne).setOther _ _ _ hne).setOther _ _ _ hne).setOther _ _ _ hne).setOther _ _ _ hne).setOther _ _ _ hne).setOther _ _ _ hne).setOther _ _ _ hne).setOther _ _ _ hne)
theorem below_set10 {B r : Nat} {w w' : World} {v0 v1 v2 v3 v4 v5 v6 v7 v8 v9 : Value} (h : Below B w w') (hr : B ≤ r) : Below B w ((((((((((w'.setCell ⟨r, 0, none⟩ v0).setCell ⟨r, 1, none⟩ v1).setCell ⟨r, 2, none⟩ v2).setCell ⟨r, 3, none⟩ v3).setCell ⟨r, 4, none⟩ v4).setCell ⟨r, 5, none⟩ v5).setCell ⟨r, 6, none⟩ v6).setCell ⟨r, 7, none⟩ v7).setCell ⟨r, 8, none⟩ v8).setCell ⟨r, 9, none⟩ v9) := (bSet (bSet (bSet (bSet (bSet (bSet (bSet (bSet (bSet (bSet h _ _ _ hr) _ _ _ hr) _ _ _ hr) _ _ _ hr) _ _ _ hr) _ _ _ hr) _ _ _ hr) _ _ _ hr) _ _ _ hr) _ _ _ hr)
theorem loadVar_B10 {w : World} {g : Nat} {v0 v1 v2 v3 v4 v5 v6 v7 v8 v9 : Value} (h : B10q w g v0 v1 v2 v3 v4 v5 v6 v7 v8 v9) : (loadVar 45 ⟨g, 0, none⟩).run Tryz.prog w = .ok (.agg #[v0, v1, v2, v3, v4, v5, v6, v7, v8, v9]) w := by
  have hl : (loadCells ⟨g, 0, none⟩ 10).run Tryz.prog w = .ok #[v0, v1, v2, v3, v4, v5, v6, v7, v8, v9] w :=
    run_loadCells_list (P := Tryz.prog) w ⟨g, 0, none⟩ [v0, v1, v2, v3, v4, v5, v6, v7, v8, v9] (fun j v hv => by
      have hadd : (⟨g, 0, none⟩ : Addr).add j = ⟨g, j, none⟩ := by unfold Addr.add; split <;> simp_all
      rw [hadd]
      exact match j, hv with
      | 0, hv => by
        obtain rfl : v0 = v := by simpa using hv
        exact h.c0
      | 1, hv => by
        obtain rfl : v1 = v := by simpa using hv
        exact h.c1
      | 2, hv => by
        obtain rfl : v2 = v := by simpa using hv
        exact h.c2
      | 3, hv => by
        obtain rfl : v3 = v := by simpa using hv
        exact h.c3
      | 4, hv => by
        obtain rfl : v4 = v := by simpa using hv
        exact h.c4
      | 5, hv => by
        obtain rfl : v5 = v := by simpa using hv
        exact h.c5
      | 6, hv => by
        obtain rfl : v6 = v := by simpa using hv
        exact h.c6
      | 7, hv => by
        obtain rfl : v7 = v := by simpa using hv
        exact h.c7
      | 8, hv => by
        obtain rfl : v8 = v := by simpa using hv
        exact h.c8
      | 9, hv => by
        obtain rfl : v9 = v := by simpa using hv
        exact h.c9
      | k + 10, hv => by simp at hv)
  have hi : (Tryz.prog.info? 45).map (·.size) = some 10 := by kernel_rfl
  cases hq : Tryz.prog.info? 45 with
  | none => simp [hq] at hi
  | some i =>
    have hs : i.size = 10 := by simpa [hq] using hi
    have hagg : (isAgg 45).run Tryz.prog w = .ok true w := by
      unfold isAgg;rw [Sem.run_bind, run_underlying Tryz.underlying45 w]
      rfl
    simp [loadVar, Sem.run_bind, hagg, sizeOf, typeInfo, hq, hs, hl]
theorem twinD {p : Option Addr} {m c : Nat} {xs : List Nat} {w : World} {e : Int} (s : Bool) (h : At w p m c xs) (hm : m ≤ 17592186044416) :
  Calls Tryz.prog 54 #[DV s p m c e] w fun en w' => ∃ g, en = .returned (DV s (some ⟨g, 0, none⟩) m m e) ∧ w.heap.size ≤ g ∧ At w' (some ⟨g, 0, none⟩) m m xs ∧ Below w.heap.size w w' := by
 have H := hdQ h;have HM : Hid (m ≤ 17592186044416) := hm;clear h hm
 go_enter Tryz.func54, Tryz.ntmps54
 go_wp2_with fail;obtain ⟨W0, hW0⟩ := exq ((w.alloc (.cells #[.bool s, .slice p m c, .int .i64 e] 27)).alloc (.cells #[.bool false, .slice none 0 0, .int .i64 0] 27))
 have Xd : Hid (B3q W0 (w.heap.size) (.bool s) (.slice p m c) (.int .i64 e)) := by rw [hW0]; constructor <;> go_simp
 have Xr : Hid (B3q W0 (w.heap.size + 1) (.bool false) (.slice none 0 0) (.int .i64 0)) := by rw [hW0]; constructor <;> go_simp
 have hb0 := bq2 hW0;rw [← hW0];clear hW0;have hbw := brf w;obtain ⟨gr, hgr⟩ := exq (w.heap.size + 1);have HGr : Hid (w.heap.size ≤ gr) := hgl hgr;rw [← hgr] at Xr
 try rw [← hgr]
 obtain ⟨gd, hgd⟩ := exq w.heap.size;have HGd : Hid (w.heap.size ≤ gd) := hgl hgd;rw [← hgd] at Xd
 try rw [← hgd]
 have HGD : Hid (gd ≠ gr ∧ gr ≠ gd) := by rw [hgd, hgr]; show _ ∧ _; omega
 clear hgd hgr;replace H := At.b H hb0;replace hbw := bon hbw hb0;clear hb0;obtain ⟨W1, hW1⟩ := exq W0.drew
 have hbd : Below W0.heap.size W0 W1 := by rw [hW1]; exact bDrew1 (Below.refl _ _)
 replace Xd := B3q.b Xd hbd;replace Xr := B3q.b Xr hbd;replace H := At.b H hbd;replace hbw := bon hbw hbd;clear hbd
 have HJ : Hid ((fun W' : World => W'.cell? ⟨gd, 0, none⟩ = some (.bool s) ∧ W'.cell? ⟨gd, 1, none⟩ = some (.slice p m c) ∧ W'.cell? ⟨gd, 2, none⟩ = some (.int .i64 e)) W1) := ⟨Xd.out.c0, Xd.out.c1, Xd.out.c2⟩
 refine wp_region_J (fun W' => W'.cell? ⟨gd, 0, none⟩ = some (.bool s) ∧ W'.cell? ⟨gd, 1, none⟩ = some (.slice p m c) ∧ W'.cell? ⟨gd, 2, none⟩ = some (.int .i64 e)) (by kernel_rfl) ?_
 rw [← hW1];clear hW1
 refine wpJ_tq 0 rfl HJ.out ?_
 refine wpJ_tq 1 rfl HJ.out ?_
 refine wpJ_tq 2 rfl HJ.out ?_
 refine wpJ_tq 3 rfl HJ.out ?_
 refine wpJ_tq 4 rfl HJ.out ?_
 refine wpJ_tq 5 rfl HJ.out ?_
 refine wpJ_tq 8 rfl HJ.out ?_
 refine wpJ_tq 9 rfl HJ.out ?_
 refine wpJ_on 6 rfl fun KJ hK => ?_
 go_simp
 refine (twin_any H.out (by have := HM.out; omega)).mono ?_
 rintro e2 w2 ⟨g2, rfl, hg2, hblk2, hb2⟩;have HRL : Hid (gr < g2 ∧ w.heap.size ≤ g2) := ⟨Nat.lt_of_lt_of_le Xr.out.lt hg2, Nat.le_trans hbw.size hg2⟩
 have hA2 := hblk2.at_ H.out.dig H.out.len (by have := HM.out; unfold maxLen; omega)
 replace Xd := B3q.b Xd hb2;replace Xr := B3q.b Xr hb2;replace H := At.b H hb2;replace hbw := bon hbw hb2;clear hb2;have A2 := hdQ hA2;clear hg2 hblk2 hA2 HJ
 have HJ : Hid ((fun W' : World => W'.cell? ⟨gd, 0, none⟩ = some (.bool s) ∧ W'.cell? ⟨gd, 1, none⟩ = some (.slice p m c) ∧ W'.cell? ⟨gd, 2, none⟩ = some (.int .i64 e)) w2) := ⟨Xd.out.c0, Xd.out.c1, Xd.out.c2⟩
 refine hK _ _ HJ.out ?_
 clear hK
 refine wpJ_tq 7 rfl HJ.out ?_
 refine wpJ_tq 10 rfl HJ.out ?_
 obtain ⟨cr0, cr1, cr2, fr0, fr1, fr2⟩ := Xr.out;have hner : gr < w2.heap.size := blt cr0;obtain ⟨cd0, cd1, cd2, fd0, fd1, fd2⟩ := Xd.out;have hned : gd < w2.heap.size := blt cd0;obtain ⟨hgd0, hgd1⟩ := HGD.out
 refine wpJ_on 11 rfl fun KJ hK => ?_
 go_simp
 have HJ2 : Hid ((fun W' : World => W'.cell? ⟨gd, 0, none⟩ = some (.bool s) ∧ W'.cell? ⟨gd, 1, none⟩ = some (.slice p m c) ∧ W'.cell? ⟨gd, 2, none⟩ = some (.int .i64 e)) (((w2.setCell ⟨gr, 0, none⟩ (.bool s)).setCell ⟨gr, 1, none⟩ (.slice (some ⟨g2, 0, none⟩) m m)).setCell ⟨gr, 2, none⟩ (.int .i64 e))) := ⟨by go_simp, by go_simp, by go_simp⟩
 refine hK _ _ HJ2.out ?_
 clear hK HJ;have HJ := HJ2;clear HJ2
 refine wpJ_done (by kernel_rfl) ?_ _
 clear HJ;go_wp2_with fail
 refine bodyPost_ret (v := DV s (some ⟨g2, 0, none⟩) m m e) (by rw [results_cell1 rfl]; go_simp) rfl ⟨g2, rfl, HRL.out.2, ?_, ?_⟩
 ·have := HRL.out.1
  exact ((A2.out.setOther _ _ _ (by omega)).setOther _ _ _ (by omega)).setOther _ _ _ (by omega)
 ·exact bSet (bSet (bSet hbw _ _ _ HGr.out) _ _ _ HGr.out) _ _ _ HGr.out
theorem told5e {p q : Option Addr} {m c n d : Nat} {w : World} {z e : Int} {s t : Bool} (er : Int) (h : DN w s p m c e z) (k : DN w t q n d e z) :
  Calls Tryz.prog 7 #[DV s p m c e, .int .i64 er, DV t q n d e, .int .i64 er] w fun en w' => en = .returned (.bool true) ∧ Below w.heap.size w w' := by
 have H := hdQ h;have K := hdQ k
 have hee : (er == er) = true := by simp
 clear h k
 go_enter Tryz.func7, Tryz.ntmps7
 go_wp2_with fail;obtain ⟨W0, hW0⟩ := exq ((w.alloc (.cells #[.bool s, .slice p m c, .int .i64 e] 27)).alloc (.cells #[.bool t, .slice q n d, .int .i64 e] 27))
 have Xa : Hid (B3q W0 (w.heap.size) (.bool s) (.slice p m c) (.int .i64 e)) := by rw [hW0]; constructor <;> go_simp
 have Xb : Hid (B3q W0 (w.heap.size + 1) (.bool t) (.slice q n d) (.int .i64 e)) := by rw [hW0]; constructor <;> go_simp
 have hb0 := bq2 hW0;rw [← hW0];clear hW0;have hbw := brf w;obtain ⟨gb, hgb⟩ := exq (w.heap.size + 1);have HGb : Hid (w.heap.size ≤ gb) := hgl hgb;rw [← hgb] at Xb
 try rw [← hgb]
 obtain ⟨ga, hga⟩ := exq w.heap.size;have HGa : Hid (w.heap.size ≤ ga) := hgl hga;rw [← hga] at Xa
 try rw [← hga]
 have HGD : Hid (ga ≠ gb ∧ gb ≠ ga) := by rw [hga, hgb]; show _ ∧ _; omega
 clear hga hgb;replace hbw := bon hbw hb0;clear hb0
 refine (sameD_t (H.out.below hbw) (K.out.below hbw)).mono ?_
 rintro e v1 ⟨rfl, hb1⟩;replace Xa := B3q.b Xa hb1;replace Xb := B3q.b Xb hb1;replace hbw := bon hbw hb1;clear hb1;go_wp2_with fail
 go_ret
 exact ⟨rfl, hbw⟩
theorem twinO {pa pb pm : Option Addr} {na ca nb cb nm cm : Nat} {xa xb xm : List Nat} {w : World} {kd ea eb nn : Int} (sa sb sm : Bool) (ha : At w pa na ca xa) (hb : At w pb nb cb xb) (hm : At w pm nm cm xm) (hn : na ≤ 17592186044416 ∧ nb ≤ 17592186044416 ∧ nm ≤ 17592186044416) :
  Calls Tryz.prog 30 #[(.agg #[.int .i64 kd, .bool sa, .slice pa na ca, .int .i64 ea, .bool sb, .slice pb nb cb, .int .i64 eb, .bool sm, .slice pm nm cm, .int .i64 nn])] w fun en w' => ∃ qa qb qm, en = .returned (.agg #[.int .i64 kd, .bool sa, .slice qa na na, .int .i64 ea, .bool sb, .slice qb nb nb, .int .i64 eb, .bool sm, .slice qm nm nm, .int .i64 nn]) ∧ At w' qa na na xa ∧ At w' qb nb nb xb ∧ At w' qm nm nm xm ∧ Below w.heap.size w w' := by
 have HA := hdQ ha;have HB := hdQ hb;have HM := hdQ hm;have HN : Hid (na ≤ 17592186044416 ∧ nb ≤ 17592186044416 ∧ nm ≤ 17592186044416) := hn;clear ha hb hm hn
 go_enter Tryz.func30, Tryz.ntmps30
 go_wp2_with fail;obtain ⟨W0, hW0⟩ := exq ((w.alloc (.cells #[.int .i64 kd, .bool sa, .slice pa na ca, .int .i64 ea, .bool sb, .slice pb nb cb, .int .i64 eb, .bool sm, .slice pm nm cm, .int .i64 nn] 45)).alloc (.cells #[.int .i64 0, .bool false, .slice none 0 0, .int .i64 0, .bool false, .slice none 0 0, .int .i64 0, .bool false, .slice none 0 0, .int .i64 0] 45))
 have Xo : Hid (B10q W0 (w.heap.size) (.int .i64 kd) (.bool sa) (.slice pa na ca) (.int .i64 ea) (.bool sb) (.slice pb nb cb) (.int .i64 eb) (.bool sm) (.slice pm nm cm) (.int .i64 nn)) := by rw [hW0]; constructor <;> go_simp
 have Xr : Hid (B10q W0 (w.heap.size + 1) (.int .i64 0) (.bool false) (.slice none 0 0) (.int .i64 0) (.bool false) (.slice none 0 0) (.int .i64 0) (.bool false) (.slice none 0 0) (.int .i64 0)) := by rw [hW0]; constructor <;> go_simp
 have hb0 := bq2 hW0;rw [← hW0];clear hW0;have hbw := brf w;obtain ⟨gr, hgr⟩ := exq (w.heap.size + 1);have HGr : Hid (w.heap.size ≤ gr) := hgl hgr;rw [← hgr] at Xr
 try rw [← hgr]
 obtain ⟨go, hgo⟩ := exq w.heap.size;have HGo : Hid (w.heap.size ≤ go) := hgl hgo;rw [← hgo] at Xo
 try rw [← hgo]
 have HGD : Hid (go ≠ gr ∧ gr ≠ go) := by rw [hgo, hgr]; show _ ∧ _; omega
 clear hgo hgr;replace hbw := bon hbw hb0;clear hb0;obtain ⟨co0, co1, co2, co3, co4, co5, co6, co7, co8, co9, fo0, fo1, fo2, fo3, fo4, fo5, fo6, fo7, fo8, fo9⟩ := Xo.out;have hneo : go < W0.heap.size := blt co0;go_wp2_with fail;clear co0 co1 co2 co3 co4 co5 co6 co7 co8 co9 fo0 fo1 fo2 fo3 fo4 fo5 fo6 fo7 fo8 fo9 hneo
 refine (twinD sa (HA.out.below hbw) HN.out.1).mono ?_
 rintro e2 v1 ⟨g1, rfl, hg1, hA1, hb1⟩;have HD1 : Hid (go < g1 ∧ gr < g1) := ⟨Nat.lt_of_lt_of_le Xo.out.lt hg1, Nat.lt_of_lt_of_le Xr.out.lt hg1⟩;replace Xo := B10q.b Xo hb1;replace Xr := B10q.b Xr hb1;replace hbw := bon hbw hb1;clear hb1;have T1 := hdQ hA1;clear hA1 hg1;obtain ⟨hgd0, hgd1⟩ := HGD.out;obtain ⟨co0, co1, co2, co3, co4, co5, co6, co7, co8, co9, fo0, fo1, fo2, fo3, fo4, fo5, fo6, fo7, fo8, fo9⟩ := Xo.out;have hneo : go < v1.heap.size := blt co0;obtain ⟨cr0, cr1, cr2, cr3, cr4, cr5, cr6, cr7, cr8, cr9, fr0, fr1, fr2, fr3, fr4, fr5, fr6, fr7, fr8, fr9⟩ := Xr.out;have hner : gr < v1.heap.size := blt cr0;go_wp2_with fail
 have Xo2 : Hid (B10q (((v1.setCell ⟨go, 1, none⟩ (.bool sa)).setCell ⟨go, 2, none⟩ (.slice (some ⟨g1, 0, none⟩) na na)).setCell ⟨go, 3, none⟩ (.int .i64 ea)) go (.int .i64 kd) (.bool sa) (.slice (some ⟨g1, 0, none⟩) na na) (.int .i64 ea) (.bool sb) (.slice pb nb cb) (.int .i64 eb) (.bool sm) (.slice pm nm cm) (.int .i64 nn)) := ⟨by go_simp, by go_simp, by go_simp, by go_simp, by go_simp, by go_simp, by go_simp, by go_simp, by go_simp, by go_simp, by go_simp, by go_simp, by go_simp, by go_simp, by go_simp, by go_simp, by go_simp, by go_simp, by go_simp, by go_simp⟩
 have Xr2 : Hid (B10q (((v1.setCell ⟨go, 1, none⟩ (.bool sa)).setCell ⟨go, 2, none⟩ (.slice (some ⟨g1, 0, none⟩) na na)).setCell ⟨go, 3, none⟩ (.int .i64 ea)) gr (.int .i64 0) (.bool false) (.slice none 0 0) (.int .i64 0) (.bool false) (.slice none 0 0) (.int .i64 0) (.bool false) (.slice none 0 0) (.int .i64 0)) := ⟨by go_simp, by go_simp, by go_simp, by go_simp, by go_simp, by go_simp, by go_simp, by go_simp, by go_simp, by go_simp, by go_simp, by go_simp, by go_simp, by go_simp, by go_simp, by go_simp, by go_simp, by go_simp, by go_simp, by go_simp⟩
 have T12 : Hid (At (((v1.setCell ⟨go, 1, none⟩ (.bool sa)).setCell ⟨go, 2, none⟩ (.slice (some ⟨g1, 0, none⟩) na na)).setCell ⟨go, 3, none⟩ (.int .i64 ea)) (some ⟨g1, 0, none⟩) na na xa) := (((T1.out.setOther _ _ _ (by have := HD1.out; omega)).setOther _ _ _ (by have := HD1.out; omega)).setOther _ _ _ (by have := HD1.out; omega))
 have hbw2 : Below w.heap.size w (((v1.setCell ⟨go, 1, none⟩ (.bool sa)).setCell ⟨go, 2, none⟩ (.slice (some ⟨g1, 0, none⟩) na na)).setCell ⟨go, 3, none⟩ (.int .i64 ea)) := bSet (bSet (bSet (hbw) _ _ _ HGo.out) _ _ _ HGo.out) _ _ _ HGo.out;clear co0 co1 co2 co3 co4 co5 co6 co7 co8 co9 fo0 fo1 fo2 fo3 fo4 fo5 fo6 fo7 fo8 fo9 hneo cr0 cr1 cr2 cr3 cr4 cr5 cr6 cr7 cr8 cr9 fr0 fr1 fr2 fr3 fr4 fr5 fr6 fr7 fr8 fr9 hner hgd0 hgd1 Xo Xr hbw T1;generalize (((v1.setCell ⟨go, 1, none⟩ (.bool sa)).setCell ⟨go, 2, none⟩ (.slice (some ⟨g1, 0, none⟩) na na)).setCell ⟨go, 3, none⟩ (.int .i64 ea)) = W2 at *;have Xo := Xo2;have Xr := Xr2;have hbw := hbw2;have T1 := T12;clear Xo2 Xr2 hbw2 T12
 refine (twinD sb (HB.out.below hbw) HN.out.2.1).mono ?_
 rintro e2 v3 ⟨g3, rfl, hg3, hA3, hb3⟩;have HD3 : Hid (go < g3 ∧ gr < g3) := ⟨Nat.lt_of_lt_of_le Xo.out.lt hg3, Nat.lt_of_lt_of_le Xr.out.lt hg3⟩;replace Xo := B10q.b Xo hb3;replace Xr := B10q.b Xr hb3;replace T1 := At.b T1 hb3;replace hbw := bon hbw hb3;clear hb3;have T3 := hdQ hA3;clear hA3 hg3;obtain ⟨hgd0, hgd1⟩ := HGD.out;obtain ⟨co0, co1, co2, co3, co4, co5, co6, co7, co8, co9, fo0, fo1, fo2, fo3, fo4, fo5, fo6, fo7, fo8, fo9⟩ := Xo.out;have hneo : go < v3.heap.size := blt co0;obtain ⟨cr0, cr1, cr2, cr3, cr4, cr5, cr6, cr7, cr8, cr9, fr0, fr1, fr2, fr3, fr4, fr5, fr6, fr7, fr8, fr9⟩ := Xr.out;have hner : gr < v3.heap.size := blt cr0;go_wp2_with fail
 have Xo2 : Hid (B10q (((v3.setCell ⟨go, 4, none⟩ (.bool sb)).setCell ⟨go, 5, none⟩ (.slice (some ⟨g3, 0, none⟩) nb nb)).setCell ⟨go, 6, none⟩ (.int .i64 eb)) go (.int .i64 kd) (.bool sa) (.slice (some ⟨g1, 0, none⟩) na na) (.int .i64 ea) (.bool sb) (.slice (some ⟨g3, 0, none⟩) nb nb) (.int .i64 eb) (.bool sm) (.slice pm nm cm) (.int .i64 nn)) := ⟨by go_simp, by go_simp, by go_simp, by go_simp, by go_simp, by go_simp, by go_simp, by go_simp, by go_simp, by go_simp, by go_simp, by go_simp, by go_simp, by go_simp, by go_simp, by go_simp, by go_simp, by go_simp, by go_simp, by go_simp⟩
 have Xr2 : Hid (B10q (((v3.setCell ⟨go, 4, none⟩ (.bool sb)).setCell ⟨go, 5, none⟩ (.slice (some ⟨g3, 0, none⟩) nb nb)).setCell ⟨go, 6, none⟩ (.int .i64 eb)) gr (.int .i64 0) (.bool false) (.slice none 0 0) (.int .i64 0) (.bool false) (.slice none 0 0) (.int .i64 0) (.bool false) (.slice none 0 0) (.int .i64 0)) := ⟨by go_simp, by go_simp, by go_simp, by go_simp, by go_simp, by go_simp, by go_simp, by go_simp, by go_simp, by go_simp, by go_simp, by go_simp, by go_simp, by go_simp, by go_simp, by go_simp, by go_simp, by go_simp, by go_simp, by go_simp⟩
 have T12 : Hid (At (((v3.setCell ⟨go, 4, none⟩ (.bool sb)).setCell ⟨go, 5, none⟩ (.slice (some ⟨g3, 0, none⟩) nb nb)).setCell ⟨go, 6, none⟩ (.int .i64 eb)) (some ⟨g1, 0, none⟩) na na xa) := (((T1.out.setOther _ _ _ (by have := HD1.out; omega)).setOther _ _ _ (by have := HD1.out; omega)).setOther _ _ _ (by have := HD1.out; omega))
 have T32 : Hid (At (((v3.setCell ⟨go, 4, none⟩ (.bool sb)).setCell ⟨go, 5, none⟩ (.slice (some ⟨g3, 0, none⟩) nb nb)).setCell ⟨go, 6, none⟩ (.int .i64 eb)) (some ⟨g3, 0, none⟩) nb nb xb) := (((T3.out.setOther _ _ _ (by have := HD3.out; omega)).setOther _ _ _ (by have := HD3.out; omega)).setOther _ _ _ (by have := HD3.out; omega))
 have hbw2 : Below w.heap.size w (((v3.setCell ⟨go, 4, none⟩ (.bool sb)).setCell ⟨go, 5, none⟩ (.slice (some ⟨g3, 0, none⟩) nb nb)).setCell ⟨go, 6, none⟩ (.int .i64 eb)) := bSet (bSet (bSet (hbw) _ _ _ HGo.out) _ _ _ HGo.out) _ _ _ HGo.out;clear co0 co1 co2 co3 co4 co5 co6 co7 co8 co9 fo0 fo1 fo2 fo3 fo4 fo5 fo6 fo7 fo8 fo9 hneo cr0 cr1 cr2 cr3 cr4 cr5 cr6 cr7 cr8 cr9 fr0 fr1 fr2 fr3 fr4 fr5 fr6 fr7 fr8 fr9 hner hgd0 hgd1 Xo Xr hbw T1 T3;generalize (((v3.setCell ⟨go, 4, none⟩ (.bool sb)).setCell ⟨go, 5, none⟩ (.slice (some ⟨g3, 0, none⟩) nb nb)).setCell ⟨go, 6, none⟩ (.int .i64 eb)) = W4 at *;have Xo := Xo2;have Xr := Xr2;have hbw := hbw2;have T1 := T12;have T3 := T32;clear Xo2 Xr2 hbw2 T12 T32
 refine (twinD sm (HM.out.below hbw) HN.out.2.2).mono ?_
 rintro e2 v5 ⟨g5, rfl, hg5, hA5, hb5⟩;have HD5 : Hid (go < g5 ∧ gr < g5) := ⟨Nat.lt_of_lt_of_le Xo.out.lt hg5, Nat.lt_of_lt_of_le Xr.out.lt hg5⟩;replace Xo := B10q.b Xo hb5;replace Xr := B10q.b Xr hb5;replace T1 := At.b T1 hb5;replace T3 := At.b T3 hb5;replace hbw := bon hbw hb5;clear hb5;have T5 := hdQ hA5;clear hA5 hg5;obtain ⟨hgd0, hgd1⟩ := HGD.out;obtain ⟨co0, co1, co2, co3, co4, co5, co6, co7, co8, co9, fo0, fo1, fo2, fo3, fo4, fo5, fo6, fo7, fo8, fo9⟩ := Xo.out;have hneo : go < v5.heap.size := blt co0;obtain ⟨cr0, cr1, cr2, cr3, cr4, cr5, cr6, cr7, cr8, cr9, fr0, fr1, fr2, fr3, fr4, fr5, fr6, fr7, fr8, fr9⟩ := Xr.out;have hner : gr < v5.heap.size := blt cr0;go_wp2_with fail
 have Xr2 : Hid (B10q ((v5.setCell ⟨go, 7, none⟩ (.bool sm)).setCell ⟨go, 8, none⟩ (.slice (some ⟨g5, 0, none⟩) nm nm)) gr (.int .i64 0) (.bool false) (.slice none 0 0) (.int .i64 0) (.bool false) (.slice none 0 0) (.int .i64 0) (.bool false) (.slice none 0 0) (.int .i64 0)) := ⟨by go_simp, by go_simp, by go_simp, by go_simp, by go_simp, by go_simp, by go_simp, by go_simp, by go_simp, by go_simp, by go_simp, by go_simp, by go_simp, by go_simp, by go_simp, by go_simp, by go_simp, by go_simp, by go_simp, by go_simp⟩
 have T12 : Hid (At ((v5.setCell ⟨go, 7, none⟩ (.bool sm)).setCell ⟨go, 8, none⟩ (.slice (some ⟨g5, 0, none⟩) nm nm)) (some ⟨g1, 0, none⟩) na na xa) := ((T1.out.setOther _ _ _ (by have := HD1.out; omega)).setOther _ _ _ (by have := HD1.out; omega))
 have T32 : Hid (At ((v5.setCell ⟨go, 7, none⟩ (.bool sm)).setCell ⟨go, 8, none⟩ (.slice (some ⟨g5, 0, none⟩) nm nm)) (some ⟨g3, 0, none⟩) nb nb xb) := ((T3.out.setOther _ _ _ (by have := HD3.out; omega)).setOther _ _ _ (by have := HD3.out; omega))
 have T52 : Hid (At ((v5.setCell ⟨go, 7, none⟩ (.bool sm)).setCell ⟨go, 8, none⟩ (.slice (some ⟨g5, 0, none⟩) nm nm)) (some ⟨g5, 0, none⟩) nm nm xm) := ((T5.out.setOther _ _ _ (by have := HD5.out; omega)).setOther _ _ _ (by have := HD5.out; omega))
 have hbw2 : Below w.heap.size w ((v5.setCell ⟨go, 7, none⟩ (.bool sm)).setCell ⟨go, 8, none⟩ (.slice (some ⟨g5, 0, none⟩) nm nm)) := bSet (bSet hbw _ _ _ HGo.out) _ _ _ HGo.out;clear co0 co1 co2 co3 co4 co5 co6 co7 co8 co9 fo0 fo1 fo2 fo3 fo4 fo5 fo6 fo7 fo8 fo9 hneo cr0 cr1 cr2 cr3 cr4 cr5 cr6 cr7 cr8 cr9 fr0 fr1 fr2 fr3 fr4 fr5 fr6 fr7 fr8 fr9 hner hgd0 hgd1 Xo Xr hbw T1 T3 T5;generalize ((v5.setCell ⟨go, 7, none⟩ (.bool sm)).setCell ⟨go, 8, none⟩ (.slice (some ⟨g5, 0, none⟩) nm nm)) = W6 at *;have Xr := Xr2;have hbw := hbw2;have T1 := T12;have T3 := T32;have T5 := T52;clear Xr2 hbw2 T12 T32 T52;obtain ⟨cr0, cr1, cr2, cr3, cr4, cr5, cr6, cr7, cr8, cr9, fr0, fr1, fr2, fr3, fr4, fr5, fr6, fr7, fr8, fr9⟩ := Xr.out;have hner : gr < W6.heap.size := blt cr0;clear cr0 cr1 cr2 cr3 cr4 cr5 cr6 cr7 cr8 cr9 fr0 fr1 fr2 fr3 fr4 fr5 fr6 fr7 fr8 fr9 hner;have Xr3 : Hid (B10q ((((((((((W6.setCell ⟨gr, 0, none⟩ (.int .i64 kd)).setCell ⟨gr, 1, none⟩ (.bool sa)).setCell ⟨gr, 2, none⟩ (.slice (some ⟨g1, 0, none⟩) na na)).setCell ⟨gr, 3, none⟩ (.int .i64 ea)).setCell ⟨gr, 4, none⟩ (.bool sb)).setCell ⟨gr, 5, none⟩ (.slice (some ⟨g3, 0, none⟩) nb nb)).setCell ⟨gr, 6, none⟩ (.int .i64 eb)).setCell ⟨gr, 7, none⟩ (.bool sm)).setCell ⟨gr, 8, none⟩ (.slice (some ⟨g5, 0, none⟩) nm nm)).setCell ⟨gr, 9, none⟩ (.int .i64 nn)) gr (.int .i64 kd) (.bool sa) (.slice (some ⟨g1, 0, none⟩) na na) (.int .i64 ea) (.bool sb) (.slice (some ⟨g3, 0, none⟩) nb nb) (.int .i64 eb) (.bool sm) (.slice (some ⟨g5, 0, none⟩) nm nm) (.int .i64 nn)) := Xr.out.set10
 have T13 : Hid (At ((((((((((W6.setCell ⟨gr, 0, none⟩ (.int .i64 kd)).setCell ⟨gr, 1, none⟩ (.bool sa)).setCell ⟨gr, 2, none⟩ (.slice (some ⟨g1, 0, none⟩) na na)).setCell ⟨gr, 3, none⟩ (.int .i64 ea)).setCell ⟨gr, 4, none⟩ (.bool sb)).setCell ⟨gr, 5, none⟩ (.slice (some ⟨g3, 0, none⟩) nb nb)).setCell ⟨gr, 6, none⟩ (.int .i64 eb)).setCell ⟨gr, 7, none⟩ (.bool sm)).setCell ⟨gr, 8, none⟩ (.slice (some ⟨g5, 0, none⟩) nm nm)).setCell ⟨gr, 9, none⟩ (.int .i64 nn)) (some ⟨g1, 0, none⟩) na na xa) := T1.out.set10 (by have := HD1.out; omega)
 have T33 : Hid (At ((((((((((W6.setCell ⟨gr, 0, none⟩ (.int .i64 kd)).setCell ⟨gr, 1, none⟩ (.bool sa)).setCell ⟨gr, 2, none⟩ (.slice (some ⟨g1, 0, none⟩) na na)).setCell ⟨gr, 3, none⟩ (.int .i64 ea)).setCell ⟨gr, 4, none⟩ (.bool sb)).setCell ⟨gr, 5, none⟩ (.slice (some ⟨g3, 0, none⟩) nb nb)).setCell ⟨gr, 6, none⟩ (.int .i64 eb)).setCell ⟨gr, 7, none⟩ (.bool sm)).setCell ⟨gr, 8, none⟩ (.slice (some ⟨g5, 0, none⟩) nm nm)).setCell ⟨gr, 9, none⟩ (.int .i64 nn)) (some ⟨g3, 0, none⟩) nb nb xb) := T3.out.set10 (by have := HD3.out; omega)
 have T53 : Hid (At ((((((((((W6.setCell ⟨gr, 0, none⟩ (.int .i64 kd)).setCell ⟨gr, 1, none⟩ (.bool sa)).setCell ⟨gr, 2, none⟩ (.slice (some ⟨g1, 0, none⟩) na na)).setCell ⟨gr, 3, none⟩ (.int .i64 ea)).setCell ⟨gr, 4, none⟩ (.bool sb)).setCell ⟨gr, 5, none⟩ (.slice (some ⟨g3, 0, none⟩) nb nb)).setCell ⟨gr, 6, none⟩ (.int .i64 eb)).setCell ⟨gr, 7, none⟩ (.bool sm)).setCell ⟨gr, 8, none⟩ (.slice (some ⟨g5, 0, none⟩) nm nm)).setCell ⟨gr, 9, none⟩ (.int .i64 nn)) (some ⟨g5, 0, none⟩) nm nm xm) := T5.out.set10 (by have := HD5.out; omega)
 have hbw3 : Below w.heap.size w ((((((((((W6.setCell ⟨gr, 0, none⟩ (.int .i64 kd)).setCell ⟨gr, 1, none⟩ (.bool sa)).setCell ⟨gr, 2, none⟩ (.slice (some ⟨g1, 0, none⟩) na na)).setCell ⟨gr, 3, none⟩ (.int .i64 ea)).setCell ⟨gr, 4, none⟩ (.bool sb)).setCell ⟨gr, 5, none⟩ (.slice (some ⟨g3, 0, none⟩) nb nb)).setCell ⟨gr, 6, none⟩ (.int .i64 eb)).setCell ⟨gr, 7, none⟩ (.bool sm)).setCell ⟨gr, 8, none⟩ (.slice (some ⟨g5, 0, none⟩) nm nm)).setCell ⟨gr, 9, none⟩ (.int .i64 nn)) := below_set10 hbw HGr.out;clear Xr hbw T1 T3 T5;generalize ((((((((((W6.setCell ⟨gr, 0, none⟩ (.int .i64 kd)).setCell ⟨gr, 1, none⟩ (.bool sa)).setCell ⟨gr, 2, none⟩ (.slice (some ⟨g1, 0, none⟩) na na)).setCell ⟨gr, 3, none⟩ (.int .i64 ea)).setCell ⟨gr, 4, none⟩ (.bool sb)).setCell ⟨gr, 5, none⟩ (.slice (some ⟨g3, 0, none⟩) nb nb)).setCell ⟨gr, 6, none⟩ (.int .i64 eb)).setCell ⟨gr, 7, none⟩ (.bool sm)).setCell ⟨gr, 8, none⟩ (.slice (some ⟨g5, 0, none⟩) nm nm)).setCell ⟨gr, 9, none⟩ (.int .i64 nn)) = W8 at *
 refine bodyPost_ret (v := .agg #[.int .i64 kd, .bool sa, .slice (some ⟨g1, 0, none⟩) na na, .int .i64 ea, .bool sb, .slice (some ⟨g3, 0, none⟩) nb nb, .int .i64 eb, .bool sm, .slice (some ⟨g5, 0, none⟩) nm nm, .int .i64 nn]) (by rw [results_cell1 rfl]; exact loadVar_B10 (Xr3.out.below (below1 W8 _))) rfl ⟨some ⟨g1, 0, none⟩, some ⟨g3, 0, none⟩, some ⟨g5, 0, none⟩, rfl, T13.out.below (below1 W8 _), T33.out.below (below1 W8 _), T53.out.below (below1 W8 _), Below.on hbw3 (below1 W8 _)⟩
theorem zr_lim8 {w : World} {s : Bool} {p : Option Addr} {m : Nat} {z : Int} (h : ZR w s p m z) (hL : z.natAbs < LIM) : m ≤ 16384 := by
  obtain ⟨zs, hA, hN⟩ := h.ex;have := (lim32 hN).2 hL;rw [hA.len] at this
  exact this
theorem docformT8 {p : Option Addr} {m c : Nat} {w : World} {z e : Int} {s : Bool} (h : DN w s p m c e z) :
  Calls Tryz.prog 22 #[DV s p m c e] w fun en w' => en = .returned (.bool true) ∧ Below w.heap.size w w' := by
 obtain ⟨xs, hX⟩ := h.zn.ex;have hf := dn_formD h hX
 refine (docformd s hX.at_).mono ?_
 rintro en w' ⟨rfl, hb⟩
 exact ⟨by rw [hf], hb⟩
theorem rd_le8 (up : Bool) (z : Int) (d : Nat) : (rd up z d).natAbs ≤ z.natAbs := by
  cases up
  · rw [rd_f]; exact Int.natAbs_ediv_le_natAbs _ _
  · rw [rd_t, Int.natAbs_neg]; exact Nat.le_trans (Int.natAbs_ediv_le_natAbs _ _) (by rw [Int.natAbs_neg]; exact Nat.le_refl _)
theorem rwhole_d {p : Option Addr} {m : Nat} {w : World} {z : Int} {s : Bool} (h : ZR w s p m z) (hm : m ≤ 16384) (hL : z.natAbs < LIM) (n : Nat) (hn : n ≤ 9223372036854775807) :
  Calls Tryz.prog 138 #[.agg #[.bool s, .slice p m m], .int .i64 n, .bool false] w fun en w' => ∃ s' g m', en = .returned (.agg #[.bool s', .slice (some ⟨g, 0, none⟩) m' m']) ∧ ZR w' s' (some ⟨g, 0, none⟩) m' (rd false z (2 ^ n)) ∧ m' ≤ 16384 ∧ Below w.heap.size w w' := by
 have H := hdQ h;have HM : Hid (m ≤ 16384 ∧ n ≤ 9223372036854775807) := ⟨hm, hn⟩;have HL : Hid (z.natAbs < LIM) := hL;clear h hm hn hL
 go_enter Tryz.func138, Tryz.ntmps138
 go_wp2_with fail;obtain ⟨W0, hW0⟩ := exq ((w.alloc (.cells #[.bool s, .slice p m m] 56)).alloc (.cells #[.bool false, .slice none 0 0] 56))
 have Xm : Hid (Box W0 (w.heap.size) (.bool s) (.slice p m m)) := by rw [hW0]; constructor <;> go_simp
 have Xr : Hid (Box W0 (w.heap.size + 1) (.bool false) (.slice none 0 0)) := by rw [hW0]; constructor <;> go_simp
 have hb0 := bq2 hW0;rw [← hW0];clear hW0;have hbw := brf w;obtain ⟨gr, hgr⟩ := exq (w.heap.size + 1);have HGr : Hid (w.heap.size ≤ gr) := hgl hgr;rw [← hgr] at Xr
 try rw [← hgr]
 obtain ⟨gm, hgm⟩ := exq w.heap.size;have HGm : Hid (w.heap.size ≤ gm) := hgl hgm;rw [← hgm] at Xm
 try rw [← hgm]
 have HGD : Hid (gm ≠ gr ∧ gr ≠ gm) := by rw [hgm, hgr]; show _ ∧ _; omega
 clear hgm hgr;replace hbw := bon hbw hb0;clear hb0;obtain ⟨cm0, cm1, fm0, fm1⟩ := Xm.out;have hnem := Xm.out.lt;go_wp2_with fail;clear cm0 cm1 fm0 fm1 hnem;have HRL : Hid (gr < W0.heap.size) := Xr.out.lt
 refine (rfloorshr04 s (H.out.below hbw) (by have := HM.out; omega) n HM.out.2).mono ?_
 rintro e2 v1 ⟨v, rfl, ⟨s1, g1, m1, rfl, hg1, hz1, hl1⟩, hb1⟩;have HN1 := hdQ hg1;replace Xm := Box.b Xm hb1;replace Xr := Box.b Xr hb1;replace hbw := bon hbw hb1;clear hb1
 have Z1 : Hid (ZR v1 s1 (some ⟨g1, 0, none⟩) m1 (rd false z (2 ^ n))) := hz1.cast (fl_eq _ _ (Nat.pow_pos (by omega)))
 have HL1 : Hid (m1 ≤ 16384) := zr_lim8 Z1.out (Nat.lt_of_le_of_lt (rd_le8 _ _ _) HL.out);clear hz1 hl1 hg1;obtain ⟨cr0, cr1, fr0, fr1⟩ := Xr.out;have hner := Xr.out.lt;go_wp2_with fail
 have hne : g1 ≠ gr := by have h1 := HRL.out; have h2 := HN1.out; omega
 refine bodyPost_ret (v := .agg #[.bool s1, .slice (some ⟨g1, 0, none⟩) m1 m1]) (by rw [results_cell1 rfl]; go_simp) rfl ⟨s1, g1, m1, rfl, (Z1.out.set _ _ _ hne).set _ _ _ hne, HL1.out, ?_⟩
 exact bSet (bSet hbw _ _ _ HGr.out) _ _ _ HGr.out
theorem rwhole_u {p : Option Addr} {m : Nat} {w : World} {z : Int} {s : Bool} (h : ZR w s p m z) (hm : m ≤ 16384) (hL : z.natAbs < LIM) (n : Nat) (hn : n ≤ 9223372036854775807) :
  Calls Tryz.prog 138 #[.agg #[.bool s, .slice p m m], .int .i64 n, .bool true] w fun en w' => ∃ s' g m', en = .returned (.agg #[.bool s', .slice (some ⟨g, 0, none⟩) m' m']) ∧ ZR w' s' (some ⟨g, 0, none⟩) m' (rd true z (2 ^ n)) ∧ m' ≤ 16384 ∧ Below w.heap.size w w' := by
 have H := hdQ h;have HM : Hid (m ≤ 16384 ∧ n ≤ 9223372036854775807) := ⟨hm, hn⟩;have HL : Hid (z.natAbs < LIM) := hL;clear h hm hn hL
 go_enter Tryz.func138, Tryz.ntmps138
 go_wp2_with fail;obtain ⟨W0, hW0⟩ := exq ((w.alloc (.cells #[.bool s, .slice p m m] 56)).alloc (.cells #[.bool false, .slice none 0 0] 56))
 have Xm : Hid (Box W0 (w.heap.size) (.bool s) (.slice p m m)) := by rw [hW0]; constructor <;> go_simp
 have Xr : Hid (Box W0 (w.heap.size + 1) (.bool false) (.slice none 0 0)) := by rw [hW0]; constructor <;> go_simp
 have hb0 := bq2 hW0;rw [← hW0];clear hW0;have hbw := brf w;obtain ⟨gr, hgr⟩ := exq (w.heap.size + 1);have HGr : Hid (w.heap.size ≤ gr) := hgl hgr;rw [← hgr] at Xr
 try rw [← hgr]
 obtain ⟨gm, hgm⟩ := exq w.heap.size;have HGm : Hid (w.heap.size ≤ gm) := hgl hgm;rw [← hgm] at Xm
 try rw [← hgm]
 have HGD : Hid (gm ≠ gr ∧ gr ≠ gm) := by rw [hgm, hgr]; show _ ∧ _; omega
 clear hgm hgr;replace hbw := bon hbw hb0;clear hb0;obtain ⟨cm0, cm1, fm0, fm1⟩ := Xm.out;have hnem := Xm.out.lt;go_wp2_with fail;clear cm0 cm1 fm0 fm1 hnem;have HRL : Hid (gr < W0.heap.size) := Xr.out.lt
 refine (rceilshr04 s (H.out.below hbw) (by have := HM.out; omega) n HM.out.2).mono ?_
 rintro e2 v1 ⟨v, rfl, ⟨s1, g1, m1, rfl, hg1, hz1, hl1⟩, hb1⟩;have HN1 := hdQ hg1;replace Xm := Box.b Xm hb1;replace Xr := Box.b Xr hb1;replace hbw := bon hbw hb1;clear hb1
 have Z1 : Hid (ZR v1 s1 (some ⟨g1, 0, none⟩) m1 (rd true z (2 ^ n))) := hz1.cast (ce_eq _ _ (Nat.pow_pos (by omega)))
 have HL1 : Hid (m1 ≤ 16384) := zr_lim8 Z1.out (Nat.lt_of_le_of_lt (rd_le8 _ _ _) HL.out);clear hz1 hl1 hg1;obtain ⟨cr0, cr1, fr0, fr1⟩ := Xr.out;have hner := Xr.out.lt;go_wp2_with fail
 have hne : g1 ≠ gr := by have h1 := HRL.out; have h2 := HN1.out; omega
 refine bodyPost_ret (v := .agg #[.bool s1, .slice (some ⟨g1, 0, none⟩) m1 m1]) (by rw [results_cell1 rfl]; go_simp) rfl ⟨s1, g1, m1, rfl, (Z1.out.set _ _ _ hne).set _ _ _ hne, HL1.out, ?_⟩
 exact bSet (bSet hbw _ _ _ HGr.out) _ _ _ HGr.out
theorem rcut_sd {p : Option Addr} {m : Nat} {w : World} {z e : Int} {P K : Nat} {s : Bool} (h : ZR w s p m z) (hm : m ≤ 16384) (hL : z.natAbs < LIM) (hP : P ≤ 70000) (hK : K = bitsN z.natAbs - P) (h0 : K = 0) :
  Calls Tryz.prog 137 #[.agg #[.bool s, .slice p m m], .int .i64 e, .int .i64 P, .bool false] w fun en w' => ∃ zo eo er, SaidD w.heap.size w' en zo eo er ∧ MkR (rd false z (2 ^ K)) (e + (K : Int)) zo eo er ∧ Below w.heap.size w w' := by
 have H := hdQ h;have HM : Hid (m ≤ 16384 ∧ z.natAbs < LIM) := ⟨hm, hL⟩;have hb := (lim_bits z.natAbs).1 hL;obtain ⟨B, hB⟩ := exq (bitsN z.natAbs);rw [← hB] at hb hK;have HB : Hid (bitsN z.natAbs = B) := hB.symm
 have f1 : (B : Int) - (P : Int) ≤ 0 := by omega
 have f2 : wrap64 ((B : Int) - (P : Int)) = (B : Int) - (P : Int) := by simp only [wrap64]; omega
 have HK0 : Hid (K = 0) := h0;clear h hm hL hP hK hb hB h0
 go_enter Tryz.func137, Tryz.ntmps137
 go_wp2_with fail;obtain ⟨W0, hW0⟩ := exq ((w.alloc (.cells #[.bool s, .slice p m m] 56)).alloc (.cells #[.bool false, .slice none 0 0, .int .i64 0] 27))
 have Xm : Hid (Box W0 (w.heap.size) (.bool s) (.slice p m m)) := by rw [hW0]; constructor <;> go_simp
 have Xr : Hid (B3q W0 (w.heap.size + 1) (.bool false) (.slice none 0 0) (.int .i64 0)) := by rw [hW0]; constructor <;> go_simp
 have hb0 := bq2 hW0;rw [← hW0];clear hW0;have hbw := brf w;obtain ⟨gr, hgr⟩ := exq (w.heap.size + 1);have HGr : Hid (w.heap.size ≤ gr) := hgl hgr;rw [← hgr] at Xr
 try rw [← hgr]
 obtain ⟨gm, hgm⟩ := exq w.heap.size;have HGm : Hid (w.heap.size ≤ gm) := hgl hgm;rw [← hgm] at Xm
 try rw [← hgm]
 have HGD : Hid (gm ≠ gr ∧ gr ≠ gm) := by rw [hgm, hgr]; show _ ∧ _; omega
 clear hgm hgr;replace hbw := bon hbw hb0;clear hb0;obtain ⟨cm0, cm1, fm0, fm1⟩ := Xm.out;have hnem := Xm.out.lt;go_wp2_with fail;clear cm0 cm1 fm0 fm1 hnem;obtain ⟨zs, hA, hN⟩ := (H.out.below hbw).ex
 refine (rbits_any hA hN (by have := HM.out.1; omega)).mono ?_
 rintro e2 v1 ⟨rfl, hw⟩;obtain rfl := hw.symm;clear hw hA hN;rw [HB.out];obtain ⟨cm0, cm1, fm0, fm1⟩ := Xm.out;have hnem := Xm.out.lt;go_wp2_with fail;clear cm0 cm1 fm0 fm1 hnem
 have hR : ∀ a b c, MkR z e a b c → MkR (rd false z (2 ^ K)) (e + (K : Int)) a b c := by intro a b c h; rw [HK0.out, Nat.pow_zero, rd_one]; simpa using h
 have HRR : Hid (∀ a b c, MkR z e a b c → MkR (rd false z (2 ^ K)) (e + (K : Int)) a b c) := hR
 clear hR;have HRL : Hid (gr < W0.heap.size ∧ w.heap.size ≤ W0.heap.size) := ⟨Xr.out.lt, hbw.size⟩
 refine (told_a s (H.out.below hbw) HM.out.1).mono ?_
 rintro e2 v6 ⟨zo, eo, er, ⟨s6, p6, m6, c6, rfl, hq6⟩, hr6, hb6⟩;replace Xm := Box.b Xm hb6;replace Xr := B3q.b Xr hb6;replace hbw := bon hbw hb6;clear hb6;have Q6 := hdQ hq6;have R6 := hdQ hr6;clear hq6 hr6;obtain ⟨cr0, cr1, cr2, fr0, fr1, fr2⟩ := Xr.out;have hner : gr < v6.heap.size := blt cr0;go_wp2_with fail
 refine bodyPost_ret (v := .tuple #[DV s6 p6 m6 c6 eo, .int .i64 er]) (by rw [results_cell_tmp rfl]; go_simp) rfl ⟨zo, eo, er, ⟨s6, p6, m6, c6, rfl, Q6.out.set3 HRL.out.1 HRL.out.2 _ _ _⟩, HRR.out _ _ _ R6.out, ?_⟩
 exact bSet (bSet (bSet hbw _ _ _ HGr.out) _ _ _ HGr.out) _ _ _ HGr.out
theorem rcut_nd {p : Option Addr} {m : Nat} {w : World} {z e : Int} {P K : Nat} {s : Bool} (h : ZR w s p m z) (hm : m ≤ 16384) (hL : z.natAbs < LIM) (he : -4194304 ≤ e ∧ e ≤ 4194304) (hP : P ≤ 70000) (hK : K = bitsN z.natAbs - P) (h0 : K ≠ 0) :
  Calls Tryz.prog 137 #[.agg #[.bool s, .slice p m m], .int .i64 e, .int .i64 P, .bool false] w fun en w' => ∃ zo eo er, SaidD w.heap.size w' en zo eo er ∧ MkR (rd false z (2 ^ K)) (e + (K : Int)) zo eo er ∧ Below w.heap.size w w' := by
 have H := hdQ h;have HM : Hid (m ≤ 16384 ∧ z.natAbs < LIM) := ⟨hm, hL⟩;have hb := (lim_bits z.natAbs).1 hL;obtain ⟨B, hB⟩ := exq (bitsN z.natAbs);rw [← hB] at hb hK;have HB : Hid (bitsN z.natAbs = B) := hB.symm
 have f1 : ¬ (K : Int) ≤ 0 := by omega
 have f2 : wrap64 ((B : Int) - (P : Int)) = (K : Int) := by simp only [wrap64]; omega
 have f3 : wrap64 (e + (K : Int)) = e + (K : Int) := by simp only [wrap64]; omega
 have HK0 : Hid (K ≤ 9223372036854775807) := by show _ ≤ _; omega
 clear h hm hL he hP hK hb hB h0
 go_enter Tryz.func137, Tryz.ntmps137
 go_wp2_with fail;obtain ⟨W0, hW0⟩ := exq ((w.alloc (.cells #[.bool s, .slice p m m] 56)).alloc (.cells #[.bool false, .slice none 0 0, .int .i64 0] 27))
 have Xm : Hid (Box W0 (w.heap.size) (.bool s) (.slice p m m)) := by rw [hW0]; constructor <;> go_simp
 have Xr : Hid (B3q W0 (w.heap.size + 1) (.bool false) (.slice none 0 0) (.int .i64 0)) := by rw [hW0]; constructor <;> go_simp
 have hb0 := bq2 hW0;rw [← hW0];clear hW0;have hbw := brf w;obtain ⟨gr, hgr⟩ := exq (w.heap.size + 1);have HGr : Hid (w.heap.size ≤ gr) := hgl hgr;rw [← hgr] at Xr
 try rw [← hgr]
 obtain ⟨gm, hgm⟩ := exq w.heap.size;have HGm : Hid (w.heap.size ≤ gm) := hgl hgm;rw [← hgm] at Xm
 try rw [← hgm]
 have HGD : Hid (gm ≠ gr ∧ gr ≠ gm) := by rw [hgm, hgr]; show _ ∧ _; omega
 clear hgm hgr;replace hbw := bon hbw hb0;clear hb0;obtain ⟨cm0, cm1, fm0, fm1⟩ := Xm.out;have hnem := Xm.out.lt;go_wp2_with fail;clear cm0 cm1 fm0 fm1 hnem;obtain ⟨zs, hA, hN⟩ := (H.out.below hbw).ex
 refine (rbits_any hA hN (by have := HM.out.1; omega)).mono ?_
 rintro e2 v1 ⟨rfl, hw⟩;obtain rfl := hw.symm;clear hw hA hN;rw [HB.out];obtain ⟨cm0, cm1, fm0, fm1⟩ := Xm.out;have hnem := Xm.out.lt;go_wp2_with fail;clear cm0 cm1 fm0 fm1 hnem
 refine (rwhole_d (H.out.below hbw) HM.out.1 HM.out.2 K HK0.out).mono ?_
 rintro e2 v2 ⟨s2, g2, m2, rfl, hz2, hl2, hb2⟩;replace Xm := Box.b Xm hb2;replace Xr := B3q.b Xr hb2;replace hbw := bon hbw hb2;clear hb2;have Z2 := hdQ hz2;have HL2 : Hid (m2 ≤ 16384) := hl2;clear hz2 hl2;go_wp2_with fail;have HRL : Hid (gr < v2.heap.size ∧ w.heap.size ≤ v2.heap.size) := ⟨Xr.out.lt, hbw.size⟩
 refine (told_a s2 Z2.out HL2.out).mono ?_
 rintro e2 v6 ⟨zo, eo, er, ⟨s6, p6, m6, c6, rfl, hq6⟩, hr6, hb6⟩;replace Xm := Box.b Xm hb6;replace Xr := B3q.b Xr hb6;replace Z2 := ZR.b Z2 hb6;replace hbw := bon hbw hb6;clear hb6;have Q6 := hdQ hq6;have R6 := hdQ hr6;clear hq6 hr6;obtain ⟨cr0, cr1, cr2, fr0, fr1, fr2⟩ := Xr.out;have hner : gr < v6.heap.size := blt cr0;go_wp2_with fail
 refine bodyPost_ret (v := .tuple #[DV s6 p6 m6 c6 eo, .int .i64 er]) (by rw [results_cell_tmp rfl]; go_simp) rfl ⟨zo, eo, er, ⟨s6, p6, m6, c6, rfl, Q6.out.set3 HRL.out.1 HRL.out.2 _ _ _⟩, R6.out, ?_⟩
 exact bSet (bSet (bSet hbw _ _ _ HGr.out) _ _ _ HGr.out) _ _ _ HGr.out
theorem rcut_su {p : Option Addr} {m : Nat} {w : World} {z e : Int} {P K : Nat} {s : Bool} (h : ZR w s p m z) (hm : m ≤ 16384) (hL : z.natAbs < LIM) (hP : P ≤ 70000) (hK : K = bitsN z.natAbs - P) (h0 : K = 0) :
  Calls Tryz.prog 137 #[.agg #[.bool s, .slice p m m], .int .i64 e, .int .i64 P, .bool true] w fun en w' => ∃ zo eo er, SaidD w.heap.size w' en zo eo er ∧ MkR (rd true z (2 ^ K)) (e + (K : Int)) zo eo er ∧ Below w.heap.size w w' := by
 have H := hdQ h;have HM : Hid (m ≤ 16384 ∧ z.natAbs < LIM) := ⟨hm, hL⟩;have hb := (lim_bits z.natAbs).1 hL;obtain ⟨B, hB⟩ := exq (bitsN z.natAbs);rw [← hB] at hb hK;have HB : Hid (bitsN z.natAbs = B) := hB.symm
 have f1 : (B : Int) - (P : Int) ≤ 0 := by omega
 have f2 : wrap64 ((B : Int) - (P : Int)) = (B : Int) - (P : Int) := by simp only [wrap64]; omega
 have HK0 : Hid (K = 0) := h0;clear h hm hL hP hK hb hB h0
 go_enter Tryz.func137, Tryz.ntmps137
 go_wp2_with fail;obtain ⟨W0, hW0⟩ := exq ((w.alloc (.cells #[.bool s, .slice p m m] 56)).alloc (.cells #[.bool false, .slice none 0 0, .int .i64 0] 27))
 have Xm : Hid (Box W0 (w.heap.size) (.bool s) (.slice p m m)) := by rw [hW0]; constructor <;> go_simp
 have Xr : Hid (B3q W0 (w.heap.size + 1) (.bool false) (.slice none 0 0) (.int .i64 0)) := by rw [hW0]; constructor <;> go_simp
 have hb0 := bq2 hW0;rw [← hW0];clear hW0;have hbw := brf w;obtain ⟨gr, hgr⟩ := exq (w.heap.size + 1);have HGr : Hid (w.heap.size ≤ gr) := hgl hgr;rw [← hgr] at Xr
 try rw [← hgr]
 obtain ⟨gm, hgm⟩ := exq w.heap.size;have HGm : Hid (w.heap.size ≤ gm) := hgl hgm;rw [← hgm] at Xm
 try rw [← hgm]
 have HGD : Hid (gm ≠ gr ∧ gr ≠ gm) := by rw [hgm, hgr]; show _ ∧ _; omega
 clear hgm hgr;replace hbw := bon hbw hb0;clear hb0;obtain ⟨cm0, cm1, fm0, fm1⟩ := Xm.out;have hnem := Xm.out.lt;go_wp2_with fail;clear cm0 cm1 fm0 fm1 hnem;obtain ⟨zs, hA, hN⟩ := (H.out.below hbw).ex
 refine (rbits_any hA hN (by have := HM.out.1; omega)).mono ?_
 rintro e2 v1 ⟨rfl, hw⟩;obtain rfl := hw.symm;clear hw hA hN;rw [HB.out];obtain ⟨cm0, cm1, fm0, fm1⟩ := Xm.out;have hnem := Xm.out.lt;go_wp2_with fail;clear cm0 cm1 fm0 fm1 hnem
 have hR : ∀ a b c, MkR z e a b c → MkR (rd true z (2 ^ K)) (e + (K : Int)) a b c := by intro a b c h; rw [HK0.out, Nat.pow_zero, rd_one]; simpa using h
 have HRR : Hid (∀ a b c, MkR z e a b c → MkR (rd true z (2 ^ K)) (e + (K : Int)) a b c) := hR
 clear hR;have HRL : Hid (gr < W0.heap.size ∧ w.heap.size ≤ W0.heap.size) := ⟨Xr.out.lt, hbw.size⟩
 refine (told_a s (H.out.below hbw) HM.out.1).mono ?_
 rintro e2 v6 ⟨zo, eo, er, ⟨s6, p6, m6, c6, rfl, hq6⟩, hr6, hb6⟩;replace Xm := Box.b Xm hb6;replace Xr := B3q.b Xr hb6;replace hbw := bon hbw hb6;clear hb6;have Q6 := hdQ hq6;have R6 := hdQ hr6;clear hq6 hr6;obtain ⟨cr0, cr1, cr2, fr0, fr1, fr2⟩ := Xr.out;have hner : gr < v6.heap.size := blt cr0;go_wp2_with fail
 refine bodyPost_ret (v := .tuple #[DV s6 p6 m6 c6 eo, .int .i64 er]) (by rw [results_cell_tmp rfl]; go_simp) rfl ⟨zo, eo, er, ⟨s6, p6, m6, c6, rfl, Q6.out.set3 HRL.out.1 HRL.out.2 _ _ _⟩, HRR.out _ _ _ R6.out, ?_⟩
 exact bSet (bSet (bSet hbw _ _ _ HGr.out) _ _ _ HGr.out) _ _ _ HGr.out
theorem rcut_nu {p : Option Addr} {m : Nat} {w : World} {z e : Int} {P K : Nat} {s : Bool} (h : ZR w s p m z) (hm : m ≤ 16384) (hL : z.natAbs < LIM) (he : -4194304 ≤ e ∧ e ≤ 4194304) (hP : P ≤ 70000) (hK : K = bitsN z.natAbs - P) (h0 : K ≠ 0) :
  Calls Tryz.prog 137 #[.agg #[.bool s, .slice p m m], .int .i64 e, .int .i64 P, .bool true] w fun en w' => ∃ zo eo er, SaidD w.heap.size w' en zo eo er ∧ MkR (rd true z (2 ^ K)) (e + (K : Int)) zo eo er ∧ Below w.heap.size w w' := by
 have H := hdQ h;have HM : Hid (m ≤ 16384 ∧ z.natAbs < LIM) := ⟨hm, hL⟩;have hb := (lim_bits z.natAbs).1 hL;obtain ⟨B, hB⟩ := exq (bitsN z.natAbs);rw [← hB] at hb hK;have HB : Hid (bitsN z.natAbs = B) := hB.symm
 have f1 : ¬ (K : Int) ≤ 0 := by omega
 have f2 : wrap64 ((B : Int) - (P : Int)) = (K : Int) := by simp only [wrap64]; omega
 have f3 : wrap64 (e + (K : Int)) = e + (K : Int) := by simp only [wrap64]; omega
 have HK0 : Hid (K ≤ 9223372036854775807) := by show _ ≤ _; omega
 clear h hm hL he hP hK hb hB h0
 go_enter Tryz.func137, Tryz.ntmps137
 go_wp2_with fail;obtain ⟨W0, hW0⟩ := exq ((w.alloc (.cells #[.bool s, .slice p m m] 56)).alloc (.cells #[.bool false, .slice none 0 0, .int .i64 0] 27))
 have Xm : Hid (Box W0 (w.heap.size) (.bool s) (.slice p m m)) := by rw [hW0]; constructor <;> go_simp
 have Xr : Hid (B3q W0 (w.heap.size + 1) (.bool false) (.slice none 0 0) (.int .i64 0)) := by rw [hW0]; constructor <;> go_simp
 have hb0 := bq2 hW0;rw [← hW0];clear hW0;have hbw := brf w;obtain ⟨gr, hgr⟩ := exq (w.heap.size + 1);have HGr : Hid (w.heap.size ≤ gr) := hgl hgr;rw [← hgr] at Xr
 try rw [← hgr]
 obtain ⟨gm, hgm⟩ := exq w.heap.size;have HGm : Hid (w.heap.size ≤ gm) := hgl hgm;rw [← hgm] at Xm
 try rw [← hgm]
 have HGD : Hid (gm ≠ gr ∧ gr ≠ gm) := by rw [hgm, hgr]; show _ ∧ _; omega
 clear hgm hgr;replace hbw := bon hbw hb0;clear hb0;obtain ⟨cm0, cm1, fm0, fm1⟩ := Xm.out;have hnem := Xm.out.lt;go_wp2_with fail;clear cm0 cm1 fm0 fm1 hnem;obtain ⟨zs, hA, hN⟩ := (H.out.below hbw).ex
 refine (rbits_any hA hN (by have := HM.out.1; omega)).mono ?_
 rintro e2 v1 ⟨rfl, hw⟩;obtain rfl := hw.symm;clear hw hA hN;rw [HB.out];obtain ⟨cm0, cm1, fm0, fm1⟩ := Xm.out;have hnem := Xm.out.lt;go_wp2_with fail;clear cm0 cm1 fm0 fm1 hnem
 refine (rwhole_u (H.out.below hbw) HM.out.1 HM.out.2 K HK0.out).mono ?_
 rintro e2 v2 ⟨s2, g2, m2, rfl, hz2, hl2, hb2⟩;replace Xm := Box.b Xm hb2;replace Xr := B3q.b Xr hb2;replace hbw := bon hbw hb2;clear hb2;have Z2 := hdQ hz2;have HL2 : Hid (m2 ≤ 16384) := hl2;clear hz2 hl2;go_wp2_with fail;have HRL : Hid (gr < v2.heap.size ∧ w.heap.size ≤ v2.heap.size) := ⟨Xr.out.lt, hbw.size⟩
 refine (told_a s2 Z2.out HL2.out).mono ?_
 rintro e2 v6 ⟨zo, eo, er, ⟨s6, p6, m6, c6, rfl, hq6⟩, hr6, hb6⟩;replace Xm := Box.b Xm hb6;replace Xr := B3q.b Xr hb6;replace Z2 := ZR.b Z2 hb6;replace hbw := bon hbw hb6;clear hb6;have Q6 := hdQ hq6;have R6 := hdQ hr6;clear hq6 hr6;obtain ⟨cr0, cr1, cr2, fr0, fr1, fr2⟩ := Xr.out;have hner : gr < v6.heap.size := blt cr0;go_wp2_with fail
 refine bodyPost_ret (v := .tuple #[DV s6 p6 m6 c6 eo, .int .i64 er]) (by rw [results_cell_tmp rfl]; go_simp) rfl ⟨zo, eo, er, ⟨s6, p6, m6, c6, rfl, Q6.out.set3 HRL.out.1 HRL.out.2 _ _ _⟩, R6.out, ?_⟩
 exact bSet (bSet (bSet hbw _ _ _ HGr.out) _ _ _ HGr.out) _ _ _ HGr.out
theorem rcut_d {p : Option Addr} {m : Nat} {w : World} {z e : Int} {P K : Nat} {s : Bool} (h : ZR w s p m z) (hm : m ≤ 16384) (hL : z.natAbs < LIM) (he : -4194304 ≤ e ∧ e ≤ 4194304) (hP : P ≤ 70000) (hK : K = bitsN z.natAbs - P) :
  Calls Tryz.prog 137 #[.agg #[.bool s, .slice p m m], .int .i64 e, .int .i64 P, .bool false] w fun en w' => ∃ zo eo er, SaidD w.heap.size w' en zo eo er ∧ MkR (rd false z (2 ^ K)) (e + (K : Int)) zo eo er ∧ Below w.heap.size w w' := by
 by_cases h0 : K = 0
 ·exact rcut_sd h hm hL hP hK h0
 ·exact rcut_nd h hm hL he hP hK h0
theorem rcut_u {p : Option Addr} {m : Nat} {w : World} {z e : Int} {P K : Nat} {s : Bool} (h : ZR w s p m z) (hm : m ≤ 16384) (hL : z.natAbs < LIM) (he : -4194304 ≤ e ∧ e ≤ 4194304) (hP : P ≤ 70000) (hK : K = bitsN z.natAbs - P) :
  Calls Tryz.prog 137 #[.agg #[.bool s, .slice p m m], .int .i64 e, .int .i64 P, .bool true] w fun en w' => ∃ zo eo er, SaidD w.heap.size w' en zo eo er ∧ MkR (rd true z (2 ^ K)) (e + (K : Int)) zo eo er ∧ Below w.heap.size w w' := by
 by_cases h0 : K = 0
 ·exact rcut_su h hm hL hP hK h0
 ·exact rcut_nu h hm hL he hP hK h0
theorem rFd_flip {x y : Int} (hy : y < 0) : rFd (-x) (-y) = rFd x y := by
  unfold rFd
  rw [decide_eq_true hy, decide_eq_false (p := -y < 0) (by omega), Int.natAbs_neg, Int.natAbs_neg]
  by_cases h : x = 0
  · subst h; simp [fl, iv]
  · rw [show decide (-x < 0) = !decide (x < 0) from by by_cases h1 : x < 0 <;> simp [h1] <;> omega]
    simp
theorem rCd_flip {x y : Int} : -(rFd (-x) y) = rCd x y := by
  unfold rFd rCd
  by_cases h : x = 0
  · subst h; simp [fl, ce, iv]
  · rw [show decide (-x < 0) = !decide (x < 0) from by by_cases h1 : x < 0 <;> simp [h1] <;> omega, Int.natAbs_neg, show ((!decide (x < 0)) != decide (y < 0)) = !(decide (x < 0) != decide (y < 0)) from by cases decide (x < 0) <;> cases decide (y < 0) <;> rfl, fl_not, Int.neg_neg]
theorem rfloordiv04_p {p q : Option Addr} {m n : Nat} {w : World} {x y : Int} (s : Bool) (h : ZR w s p m x) (k : ZR w false q n y) (hm : m ≤ 16384) (hn : n ≤ 16384) (hy : 0 < y) :
  Calls Tryz.prog 139 #[.agg #[.bool s, .slice p m m], .agg #[.bool false, .slice q n n]] w fun e w' => ∃ v, e = .returned v ∧ GotR w.heap.size w' v (rFd x y) (20001) ∧ Below w.heap.size w w' := by
 have HA : Hid (ZR w s p m x ∧ ZR w false q n y) := ⟨h, k⟩;have HM : Hid (m ≤ 16384 ∧ n ≤ 16384 ∧ 0 < y) := ⟨hm, hn, hy⟩;clear h k hm hn hy
 go_enter Tryz.func139, Tryz.ntmps139
 go_wp2_with fail;obtain ⟨W0, hW0⟩ := exq (((w.alloc (.cells #[.bool s, .slice p m m] 56)).alloc (.cells #[.bool false, .slice q n n] 56)).alloc (.cells #[.bool false, .slice none 0 0] 56))
 have Xa : Hid (Box W0 (w.heap.size) (.bool s) (.slice p m m)) := by rw [hW0]; constructor <;> go_simp
 have Xb : Hid (Box W0 (w.heap.size + 1) (.bool false) (.slice q n n)) := by rw [hW0]; constructor <;> go_simp
 have Xr : Hid (Box W0 (w.heap.size + 1 + 1) (.bool false) (.slice none 0 0)) := by rw [hW0]; constructor <;> go_simp
 have hb0 := bq3 hW0;rw [← hW0];clear hW0;have hbw := brf w;obtain ⟨gr, hgr⟩ := exq (w.heap.size + 1 + 1);have HGr : Hid (w.heap.size ≤ gr) := hgl hgr;rw [← hgr] at Xr
 try rw [← hgr]
 obtain ⟨gb, hgb⟩ := exq (w.heap.size + 1);have HGb : Hid (w.heap.size ≤ gb) := hgl hgb;rw [← hgb] at Xb
 try rw [← hgb]
 obtain ⟨ga, hga⟩ := exq w.heap.size;have HGa : Hid (w.heap.size ≤ ga) := hgl hga;rw [← hga] at Xa
 try rw [← hga]
 have HGD : Hid (ga ≠ gb ∧ ga ≠ gr ∧ gb ≠ ga ∧ gb ≠ gr ∧ gr ≠ ga ∧ gr ≠ gb) := by rw [hga, hgb, hgr]; show _ ∧ _; omega
 clear hga hgb hgr;replace hbw := bon hbw hb0;clear hb0;obtain ⟨ca0, ca1, fa0, fa1⟩ := Xa.out;have hnea := Xa.out.lt;obtain ⟨cb0, cb1, fb0, fb1⟩ := Xb.out;have hneb := Xb.out.lt;go_wp2_with fail;clear ca0 ca1 fa0 fa1 hnea cb0 cb1 fb0 fb1 hneb
 refine (rfloor04 s (HA.out.1.below hbw) (HA.out.2.below hbw) HM.out.1 (Nat.le_trans HM.out.2.1 (by decide)) (by have := HM.out.2.2; omega)).mono ?_
 rintro e v1 ⟨s1, g1, m1, s2, g2, m2, rfl, hg1, hg2, hz1, hz2, hl1, hl2, hb1⟩;have HR1 : Hid (gr < g1 ∧ w.heap.size ≤ g1) := ⟨Nat.lt_of_lt_of_le Xr.out.lt hg1, Nat.le_trans hbw.size hg1⟩;replace Xa := Box.b Xa hb1;replace Xb := Box.b Xb hb1;replace Xr := Box.b Xr hb1;replace hbw := bon hbw hb1;clear hb1;have Z1 := hdQ hz1;have HL1 : Hid (m1 ≤ 20001) := Nat.le_succ_of_le hl1;clear hz1 hz2 hl1 hl2 hg1 hg2;have HDR0 : Hid (gr ≠ v1.heap.size) := Nat.ne_of_lt Xr.out.lt;have hq1 := HDR0.out
 have hq2 : v1.heap.size ≠ gr := fun h => hq1 h.symm
 obtain ⟨cr0, cr1, fr0, fr1⟩ := Xr.out;have hner := Xr.out.lt;go_wp2_with fail
 refine bodyPost_ret (v := .agg #[.bool s1, .slice (some ⟨g1, 0, none⟩) m1 m1]) (by rw [results_cell1 rfl]; go_simp) rfl ⟨_, rfl, ⟨s1, g1, m1, rfl, HR1.out.2, ?_, HL1.out⟩, ?_⟩
 ·clear hq1 hq2
  have := HR1.out.1
  exact ((Z1.out.set _ _ _ (by omega)).set _ _ _ (by omega)).below (below2 _ _ _)
 ·exact Below.on (bSet (bSet hbw _ _ _ HGr.out) _ _ _ HGr.out) (below2 _ _ _)
theorem rfloordiv04_n {p q : Option Addr} {m n : Nat} {w : World} {x y : Int} (s : Bool) (h : ZR w s p m x) (k : ZR w true q n y) (hm : m ≤ 16384) (hn : n ≤ 16384) (hy : y < 0) :
  Calls Tryz.prog 139 #[.agg #[.bool s, .slice p m m], .agg #[.bool true, .slice q n n]] w fun e w' => ∃ v, e = .returned v ∧ GotR w.heap.size w' v (rFd x y) (20001) ∧ Below w.heap.size w w' := by
 rw [← rFd_flip hy];have HA : Hid (ZR w s p m x ∧ ZR w true q n y) := ⟨h, k⟩;have HM : Hid (m ≤ 16384 ∧ n ≤ 16384 ∧ y < 0) := ⟨hm, hn, hy⟩;clear h k hm hn hy
 go_enter Tryz.func139, Tryz.ntmps139
 go_wp2_with fail;obtain ⟨W0, hW0⟩ := exq (((w.alloc (.cells #[.bool s, .slice p m m] 56)).alloc (.cells #[.bool true, .slice q n n] 56)).alloc (.cells #[.bool false, .slice none 0 0] 56))
 have Xa : Hid (Box W0 (w.heap.size) (.bool s) (.slice p m m)) := by rw [hW0]; constructor <;> go_simp
 have Xb : Hid (Box W0 (w.heap.size + 1) (.bool true) (.slice q n n)) := by rw [hW0]; constructor <;> go_simp
 have Xr : Hid (Box W0 (w.heap.size + 1 + 1) (.bool false) (.slice none 0 0)) := by rw [hW0]; constructor <;> go_simp
 have hb0 := bq3 hW0;rw [← hW0];clear hW0;have hbw := brf w;obtain ⟨gr, hgr⟩ := exq (w.heap.size + 1 + 1);have HGr : Hid (w.heap.size ≤ gr) := hgl hgr;rw [← hgr] at Xr
 try rw [← hgr]
 obtain ⟨gb, hgb⟩ := exq (w.heap.size + 1);have HGb : Hid (w.heap.size ≤ gb) := hgl hgb;rw [← hgb] at Xb
 try rw [← hgb]
 obtain ⟨ga, hga⟩ := exq w.heap.size;have HGa : Hid (w.heap.size ≤ ga) := hgl hga;rw [← hga] at Xa
 try rw [← hga]
 have HGD : Hid (ga ≠ gb ∧ ga ≠ gr ∧ gb ≠ ga ∧ gb ≠ gr ∧ gr ≠ ga ∧ gr ≠ gb) := by rw [hga, hgb, hgr]; show _ ∧ _; omega
 clear hga hgb hgr;replace hbw := bon hbw hb0;clear hb0;obtain ⟨W1, hW1⟩ := exq W0.drew
 have hbd : Below W0.heap.size W0 W1 := by rw [hW1]; exact bDrew1 (Below.refl _ _)
 replace Xa := Box.b Xa hbd;replace Xb := Box.b Xb hbd;replace Xr := Box.b Xr hbd;replace hbw := bon hbw hbd;clear hbd
 refine wp_region_J (fun _ => True) (by kernel_rfl) ?_
 rw [← hW1];clear hW1
 refine wpJ_cutA (fun a0 a' W' => ∃ s3 g3 m3 s4 g4 m4, a' = (((a0.put (some 9) (.agg #[.bool s, .slice p m m])).put (some 10) (.agg #[.bool s3, .slice (some ⟨g3, 0, none⟩) m3 m3])).put (some 11) (.agg #[.bool true, .slice q n n])).put (some 12) (.agg #[.bool s4, .slice (some ⟨g4, 0, none⟩) m4 m4]) ∧ Box W' ga (.bool s3) (.slice (some ⟨g3, 0, none⟩) m3 m3) ∧ Box W' gb (.bool s4) (.slice (some ⟨g4, 0, none⟩) m4 m4) ∧ Box W' gr (.bool false) (.slice none 0 0) ∧ ZR W' s3 (some ⟨g3, 0, none⟩) m3 (-x) ∧ ZR W' s4 (some ⟨g4, 0, none⟩) m4 (-y) ∧ m3 ≤ 16384 ∧ m4 ≤ 16384 ∧ Below w.heap.size w W') ?_ ?_
 ·rintro a' Wc ⟨s3, g3, m3, s4, g4, m4, rfl, xa, xb, xr, z3, z4, l3, l4, hbc⟩
  have hs4 : s4 = false := by rw [z4.sg]; exact decide_eq_false (by have := HM.out.2.2; omega)
  subst hs4;have Ca := hdQ xa;have Cb := hdQ xb;have Cr := hdQ xr;have Z3 := hdQ z3;have Z4 := hdQ z4;have HL3 : Hid (m3 ≤ 16384 ∧ m4 ≤ 16384) := ⟨l3, l4⟩;clear Xa Xb Xr hbw xa xb xr z3 z4 l3 l4;have Xa := Ca;have Xb := Cb;have Xr := Cr;have hbw := hbc;clear Ca Cb Cr hbc;obtain ⟨ca0, ca1, fa0, fa1⟩ := Xa.out;have hnea := Xa.out.lt;obtain ⟨cb0, cb1, fb0, fb1⟩ := Xb.out;have hneb := Xb.out.lt;go_wp2_with fail;clear ca0 ca1 fa0 fa1 hnea cb0 cb1 fb0 fb1 hneb
  refine (rfloor04 s3 Z3.out Z4.out HL3.out.1 (Nat.le_trans HL3.out.2 (by decide)) (by have := HM.out.2.2; omega)).mono ?_
  rintro e v1 ⟨s1, g1, m1, s2, g2, m2, rfl, hg1, hg2, hz1, hz2, hl1, hl2, hb1⟩;have HR1 : Hid (gr < g1 ∧ w.heap.size ≤ g1) := ⟨Nat.lt_of_lt_of_le Xr.out.lt hg1, Nat.le_trans hbw.size hg1⟩;replace Xa := Box.b Xa hb1;replace Xb := Box.b Xb hb1;replace Xr := Box.b Xr hb1;replace Z3 := ZR.b Z3 hb1;replace Z4 := ZR.b Z4 hb1;replace hbw := bon hbw hb1;clear hb1;have Z1 := hdQ hz1;have HL1 : Hid (m1 ≤ 20001) := Nat.le_succ_of_le hl1;clear hz1 hz2 hl1 hl2 hg1 hg2;have HDR0 : Hid (gr ≠ v1.heap.size) := Nat.ne_of_lt Xr.out.lt;have hq1 := HDR0.out
  have hq2 : v1.heap.size ≠ gr := fun h => hq1 h.symm
  obtain ⟨cr0, cr1, fr0, fr1⟩ := Xr.out;have hner := Xr.out.lt;go_wp2_with fail
  refine bodyPost_ret (v := .agg #[.bool s1, .slice (some ⟨g1, 0, none⟩) m1 m1]) (by rw [results_cell1 rfl]; go_simp) rfl ⟨_, rfl, ⟨s1, g1, m1, rfl, HR1.out.2, ?_, HL1.out⟩, ?_⟩
  ·clear hq1 hq2
   have := HR1.out.1
   exact ((Z1.out.set _ _ _ (by omega)).set _ _ _ (by omega)).below (below2 _ _ _)
  ·exact Below.on (bSet (bSet hbw _ _ _ HGr.out) _ _ _ HGr.out) (below2 _ _ _)
 ·skip
  refine wpJ_two (i := 0) (k := 2) (by kernel_rfl) rfl rfl (by kernel_rfl) (by kernel_rfl) (fun KJ hK => ?_) (fun KJ hK => ?_)
  ·skip
   obtain ⟨ca0, ca1, fa0, fa1⟩ := Xa.out;have hnea := Xa.out.lt;go_simp
   refine hK _ _ trivial ?_
   clear hK ca0 ca1 fa0 fa1 hnea
   refine wpJ_two (i := 1) (k := 2) (by kernel_rfl) rfl rfl (by kernel_rfl) (by kernel_rfl) (fun KJ hK => ?_) (fun KJ hK => ?_)
   ·skip
    go_simp
    refine (rflip_any s (HA.out.1.below hbw) (by have := HM.out; omega)).mono ?_
    rintro e v3 ⟨v, rfl, hv, hb3⟩;obtain ⟨s3, g3, m3, rfl, hg3, hz3, hl3⟩ := hv;have HG3 : Hid (ga < g3 ∧ gb < g3) := ⟨Nat.lt_of_lt_of_le Xa.out.lt hg3, Nat.lt_of_lt_of_le Xb.out.lt hg3⟩;replace Xa := Box.b Xa hb3;replace Xb := Box.b Xb hb3;replace Xr := Box.b Xr hb3;replace hbw := bon hbw hb3;clear hb3;have Z3 := hdQ hz3
    have HL3 : Hid (m3 ≤ 16384) := by have := HM.out; show m3 ≤ _; omega
    clear hz3 hl3 hg3
    refine hK _ _ trivial ?_
    clear hK;obtain ⟨cb0, cb1, fb0, fb1⟩ := Xb.out;have hneb := Xb.out.lt
    refine wpJ_on 2 rfl fun KJ hK => ?_
    go_simp
    refine hK _ _ trivial ?_
    clear hK cb0 cb1 fb0 fb1 hneb
    refine wpJ_on 3 rfl fun KJ hK => ?_
    go_simp
    refine (rflip_any true (HA.out.2.below hbw) (by have := HM.out; omega)).mono ?_
    rintro e v4 ⟨v, rfl, hv, hb4⟩;obtain ⟨s4, g4, m4, rfl, hg4, hz4, hl4⟩ := hv;have HG4 : Hid (ga < g4 ∧ gb < g4) := ⟨Nat.lt_of_lt_of_le Xa.out.lt hg4, Nat.lt_of_lt_of_le Xb.out.lt hg4⟩;replace Xa := Box.b Xa hb4;replace Xb := Box.b Xb hb4;replace Xr := Box.b Xr hb4;replace Z3 := ZR.b Z3 hb4;replace hbw := bon hbw hb4;clear hb4;have Z4 := hdQ hz4
    have HL4 : Hid (m4 ≤ 16384) := by have := HM.out; show m4 ≤ _; omega
    clear hz4 hl4 hg4
    refine hK _ _ trivial ?_
    clear hK;obtain ⟨ca0, ca1, fa0, fa1⟩ := Xa.out;have hnea := Xa.out.lt;obtain ⟨cb0, cb1, fb0, fb1⟩ := Xb.out;have hneb := Xb.out.lt;obtain ⟨cr0, cr1, fr0, fr1⟩ := Xr.out;have hner := Xr.out.lt;obtain ⟨hgd0, hgd1, hgd2, hgd3, hgd4, hgd5⟩ := HGD.out
    refine wpJ_on 4 rfl fun KJ hK => ?_
    go_simp
    have Xa2 : Hid (Box ((v4.setCell ⟨ga, 0, none⟩ (.bool s3)).setCell ⟨ga, 1, none⟩ (.slice (some ⟨g3, 0, none⟩) m3 m3)) ga (.bool s3) (.slice (some ⟨g3, 0, none⟩) m3 m3)) := ⟨by go_simp, by go_simp, by go_simp, by go_simp⟩
    have Xb2 : Hid (Box ((v4.setCell ⟨ga, 0, none⟩ (.bool s3)).setCell ⟨ga, 1, none⟩ (.slice (some ⟨g3, 0, none⟩) m3 m3)) gb (.bool true) (.slice q n n)) := ⟨by go_simp, by go_simp, by go_simp, by go_simp⟩
    have Xr2 : Hid (Box ((v4.setCell ⟨ga, 0, none⟩ (.bool s3)).setCell ⟨ga, 1, none⟩ (.slice (some ⟨g3, 0, none⟩) m3 m3)) gr (.bool false) (.slice none 0 0)) := ⟨by go_simp, by go_simp, by go_simp, by go_simp⟩
    clear hgd0 hgd1 hgd2 hgd3 hgd4 hgd5;have Z32 : Hid (ZR ((v4.setCell ⟨ga, 0, none⟩ (.bool s3)).setCell ⟨ga, 1, none⟩ (.slice (some ⟨g3, 0, none⟩) m3 m3)) s3 (some ⟨g3, 0, none⟩) m3 (-x)) := (Z3.out.set _ _ _ (Nat.ne_of_gt HG3.out.1)).set _ _ _ (Nat.ne_of_gt HG3.out.1);have Z42 : Hid (ZR ((v4.setCell ⟨ga, 0, none⟩ (.bool s3)).setCell ⟨ga, 1, none⟩ (.slice (some ⟨g3, 0, none⟩) m3 m3)) s4 (some ⟨g4, 0, none⟩) m4 (-y)) := (Z4.out.set _ _ _ (Nat.ne_of_gt HG4.out.1)).set _ _ _ (Nat.ne_of_gt HG4.out.1);have hbw2 : Below w.heap.size w ((v4.setCell ⟨ga, 0, none⟩ (.bool s3)).setCell ⟨ga, 1, none⟩ (.slice (some ⟨g3, 0, none⟩) m3 m3)) := bSet (bSet hbw _ _ _ HGa.out) _ _ _ HGa.out
    refine hK _ _ trivial ?_
    clear hK ca0 ca1 fa0 fa1 hnea cb0 cb1 fb0 fb1 hneb cr0 cr1 fr0 fr1 hner hbw Z3 Z4 Xa Xb Xr;generalize ((v4.setCell ⟨ga, 0, none⟩ (.bool s3)).setCell ⟨ga, 1, none⟩ (.slice (some ⟨g3, 0, none⟩) m3 m3)) = Wa at *;have hbw := hbw2;have Z3 := Z32;have Z4 := Z42;have Xa := Xa2;have Xb := Xb2;have Xr := Xr2;clear hbw2 Z32 Z42 Xa2 Xb2 Xr2;obtain ⟨cb0, cb1, fb0, fb1⟩ := Xb.out;have hneb := Xb.out.lt;obtain ⟨ca0, ca1, fa0, fa1⟩ := Xa.out;have hnea := Xa.out.lt;obtain ⟨cr0, cr1, fr0, fr1⟩ := Xr.out;have hner := Xr.out.lt;obtain ⟨hgd0, hgd1, hgd2, hgd3, hgd4, hgd5⟩ := HGD.out
    refine wpJ_on 5 rfl fun KJ hK => ?_
    go_simp
    have Xb2 : Hid (Box ((Wa.setCell ⟨gb, 0, none⟩ (.bool s4)).setCell ⟨gb, 1, none⟩ (.slice (some ⟨g4, 0, none⟩) m4 m4)) gb (.bool s4) (.slice (some ⟨g4, 0, none⟩) m4 m4)) := ⟨by go_simp, by go_simp, by go_simp, by go_simp⟩
    have Xa2 : Hid (Box ((Wa.setCell ⟨gb, 0, none⟩ (.bool s4)).setCell ⟨gb, 1, none⟩ (.slice (some ⟨g4, 0, none⟩) m4 m4)) ga (.bool s3) (.slice (some ⟨g3, 0, none⟩) m3 m3)) := ⟨by go_simp, by go_simp, by go_simp, by go_simp⟩
    have Xr2 : Hid (Box ((Wa.setCell ⟨gb, 0, none⟩ (.bool s4)).setCell ⟨gb, 1, none⟩ (.slice (some ⟨g4, 0, none⟩) m4 m4)) gr (.bool false) (.slice none 0 0)) := ⟨by go_simp, by go_simp, by go_simp, by go_simp⟩
    clear hgd0 hgd1 hgd2 hgd3 hgd4 hgd5;have Z32 : Hid (ZR ((Wa.setCell ⟨gb, 0, none⟩ (.bool s4)).setCell ⟨gb, 1, none⟩ (.slice (some ⟨g4, 0, none⟩) m4 m4)) s3 (some ⟨g3, 0, none⟩) m3 (-x)) := (Z3.out.set _ _ _ (Nat.ne_of_gt HG3.out.2)).set _ _ _ (Nat.ne_of_gt HG3.out.2);have Z42 : Hid (ZR ((Wa.setCell ⟨gb, 0, none⟩ (.bool s4)).setCell ⟨gb, 1, none⟩ (.slice (some ⟨g4, 0, none⟩) m4 m4)) s4 (some ⟨g4, 0, none⟩) m4 (-y)) := (Z4.out.set _ _ _ (Nat.ne_of_gt HG4.out.2)).set _ _ _ (Nat.ne_of_gt HG4.out.2);have hbw2 : Below w.heap.size w ((Wa.setCell ⟨gb, 0, none⟩ (.bool s4)).setCell ⟨gb, 1, none⟩ (.slice (some ⟨g4, 0, none⟩) m4 m4)) := bSet (bSet hbw _ _ _ HGb.out) _ _ _ HGb.out
    refine hK _ _ trivial ?_
    clear hK cb0 cb1 fb0 fb1 hneb ca0 ca1 fa0 fa1 hnea cr0 cr1 fr0 fr1 hner hbw Z3 Z4 Xa Xb Xr;generalize ((Wa.setCell ⟨gb, 0, none⟩ (.bool s4)).setCell ⟨gb, 1, none⟩ (.slice (some ⟨g4, 0, none⟩) m4 m4)) = Wb at *;have hbw := hbw2;have Z3 := Z32;have Z4 := Z42;have Xa := Xa2;have Xb := Xb2;have Xr := Xr2;clear hbw2 Z32 Z42 Xa2 Xb2 Xr2
    refine wpJ_done (by kernel_rfl) ?_ _
    exact ⟨rfl, s3, g3, m3, s4, g4, m4, by kernel_rfl, Xa.out, Xb.out, Xr.out, Z3.out, Z4.out, HL3.out, HL4.out, hbw⟩
   ·skip
    obtain ⟨cb0, cb1, fb0, fb1⟩ := Xb.out;have hneb := Xb.out.lt;go_simp
    refine hK _ _ trivial ?_
    clear hK cb0 cb1 fb0 fb1 hneb
    refine wpJ_on 1 rfl fun KJ hK => ?_
    go_simp
    refine (rflip_any s (HA.out.1.below hbw) (by have := HM.out; omega)).mono ?_
    rintro e v3 ⟨v, rfl, hv, hb3⟩;obtain ⟨s3, g3, m3, rfl, hg3, hz3, hl3⟩ := hv;have HG3 : Hid (ga < g3 ∧ gb < g3) := ⟨Nat.lt_of_lt_of_le Xa.out.lt hg3, Nat.lt_of_lt_of_le Xb.out.lt hg3⟩;replace Xa := Box.b Xa hb3;replace Xb := Box.b Xb hb3;replace Xr := Box.b Xr hb3;replace hbw := bon hbw hb3;clear hb3;have Z3 := hdQ hz3
    have HL3 : Hid (m3 ≤ 16384) := by have := HM.out; show m3 ≤ _; omega
    clear hz3 hl3 hg3
    refine hK _ _ trivial ?_
    clear hK
    refine wpJ_on 3 rfl fun KJ hK => ?_
    go_simp
    refine (rflip_any true (HA.out.2.below hbw) (by have := HM.out; omega)).mono ?_
    rintro e v4 ⟨v, rfl, hv, hb4⟩;obtain ⟨s4, g4, m4, rfl, hg4, hz4, hl4⟩ := hv;have HG4 : Hid (ga < g4 ∧ gb < g4) := ⟨Nat.lt_of_lt_of_le Xa.out.lt hg4, Nat.lt_of_lt_of_le Xb.out.lt hg4⟩;replace Xa := Box.b Xa hb4;replace Xb := Box.b Xb hb4;replace Xr := Box.b Xr hb4;replace Z3 := ZR.b Z3 hb4;replace hbw := bon hbw hb4;clear hb4;have Z4 := hdQ hz4
    have HL4 : Hid (m4 ≤ 16384) := by have := HM.out; show m4 ≤ _; omega
    clear hz4 hl4 hg4
    refine hK _ _ trivial ?_
    clear hK;obtain ⟨ca0, ca1, fa0, fa1⟩ := Xa.out;have hnea := Xa.out.lt;obtain ⟨cb0, cb1, fb0, fb1⟩ := Xb.out;have hneb := Xb.out.lt;obtain ⟨cr0, cr1, fr0, fr1⟩ := Xr.out;have hner := Xr.out.lt;obtain ⟨hgd0, hgd1, hgd2, hgd3, hgd4, hgd5⟩ := HGD.out
    refine wpJ_on 4 rfl fun KJ hK => ?_
    go_simp
    have Xa2 : Hid (Box ((v4.setCell ⟨ga, 0, none⟩ (.bool s3)).setCell ⟨ga, 1, none⟩ (.slice (some ⟨g3, 0, none⟩) m3 m3)) ga (.bool s3) (.slice (some ⟨g3, 0, none⟩) m3 m3)) := ⟨by go_simp, by go_simp, by go_simp, by go_simp⟩
    have Xb2 : Hid (Box ((v4.setCell ⟨ga, 0, none⟩ (.bool s3)).setCell ⟨ga, 1, none⟩ (.slice (some ⟨g3, 0, none⟩) m3 m3)) gb (.bool true) (.slice q n n)) := ⟨by go_simp, by go_simp, by go_simp, by go_simp⟩
    have Xr2 : Hid (Box ((v4.setCell ⟨ga, 0, none⟩ (.bool s3)).setCell ⟨ga, 1, none⟩ (.slice (some ⟨g3, 0, none⟩) m3 m3)) gr (.bool false) (.slice none 0 0)) := ⟨by go_simp, by go_simp, by go_simp, by go_simp⟩
    clear hgd0 hgd1 hgd2 hgd3 hgd4 hgd5;have Z32 : Hid (ZR ((v4.setCell ⟨ga, 0, none⟩ (.bool s3)).setCell ⟨ga, 1, none⟩ (.slice (some ⟨g3, 0, none⟩) m3 m3)) s3 (some ⟨g3, 0, none⟩) m3 (-x)) := (Z3.out.set _ _ _ (Nat.ne_of_gt HG3.out.1)).set _ _ _ (Nat.ne_of_gt HG3.out.1);have Z42 : Hid (ZR ((v4.setCell ⟨ga, 0, none⟩ (.bool s3)).setCell ⟨ga, 1, none⟩ (.slice (some ⟨g3, 0, none⟩) m3 m3)) s4 (some ⟨g4, 0, none⟩) m4 (-y)) := (Z4.out.set _ _ _ (Nat.ne_of_gt HG4.out.1)).set _ _ _ (Nat.ne_of_gt HG4.out.1);have hbw2 : Below w.heap.size w ((v4.setCell ⟨ga, 0, none⟩ (.bool s3)).setCell ⟨ga, 1, none⟩ (.slice (some ⟨g3, 0, none⟩) m3 m3)) := bSet (bSet hbw _ _ _ HGa.out) _ _ _ HGa.out
    refine hK _ _ trivial ?_
    clear hK ca0 ca1 fa0 fa1 hnea cb0 cb1 fb0 fb1 hneb cr0 cr1 fr0 fr1 hner hbw Z3 Z4 Xa Xb Xr;generalize ((v4.setCell ⟨ga, 0, none⟩ (.bool s3)).setCell ⟨ga, 1, none⟩ (.slice (some ⟨g3, 0, none⟩) m3 m3)) = Wa at *;have hbw := hbw2;have Z3 := Z32;have Z4 := Z42;have Xa := Xa2;have Xb := Xb2;have Xr := Xr2;clear hbw2 Z32 Z42 Xa2 Xb2 Xr2;obtain ⟨cb0, cb1, fb0, fb1⟩ := Xb.out;have hneb := Xb.out.lt;obtain ⟨ca0, ca1, fa0, fa1⟩ := Xa.out;have hnea := Xa.out.lt;obtain ⟨cr0, cr1, fr0, fr1⟩ := Xr.out;have hner := Xr.out.lt;obtain ⟨hgd0, hgd1, hgd2, hgd3, hgd4, hgd5⟩ := HGD.out
    refine wpJ_on 5 rfl fun KJ hK => ?_
    go_simp
    have Xb2 : Hid (Box ((Wa.setCell ⟨gb, 0, none⟩ (.bool s4)).setCell ⟨gb, 1, none⟩ (.slice (some ⟨g4, 0, none⟩) m4 m4)) gb (.bool s4) (.slice (some ⟨g4, 0, none⟩) m4 m4)) := ⟨by go_simp, by go_simp, by go_simp, by go_simp⟩
    have Xa2 : Hid (Box ((Wa.setCell ⟨gb, 0, none⟩ (.bool s4)).setCell ⟨gb, 1, none⟩ (.slice (some ⟨g4, 0, none⟩) m4 m4)) ga (.bool s3) (.slice (some ⟨g3, 0, none⟩) m3 m3)) := ⟨by go_simp, by go_simp, by go_simp, by go_simp⟩
    have Xr2 : Hid (Box ((Wa.setCell ⟨gb, 0, none⟩ (.bool s4)).setCell ⟨gb, 1, none⟩ (.slice (some ⟨g4, 0, none⟩) m4 m4)) gr (.bool false) (.slice none 0 0)) := ⟨by go_simp, by go_simp, by go_simp, by go_simp⟩
    clear hgd0 hgd1 hgd2 hgd3 hgd4 hgd5;have Z32 : Hid (ZR ((Wa.setCell ⟨gb, 0, none⟩ (.bool s4)).setCell ⟨gb, 1, none⟩ (.slice (some ⟨g4, 0, none⟩) m4 m4)) s3 (some ⟨g3, 0, none⟩) m3 (-x)) := (Z3.out.set _ _ _ (Nat.ne_of_gt HG3.out.2)).set _ _ _ (Nat.ne_of_gt HG3.out.2);have Z42 : Hid (ZR ((Wa.setCell ⟨gb, 0, none⟩ (.bool s4)).setCell ⟨gb, 1, none⟩ (.slice (some ⟨g4, 0, none⟩) m4 m4)) s4 (some ⟨g4, 0, none⟩) m4 (-y)) := (Z4.out.set _ _ _ (Nat.ne_of_gt HG4.out.2)).set _ _ _ (Nat.ne_of_gt HG4.out.2);have hbw2 : Below w.heap.size w ((Wa.setCell ⟨gb, 0, none⟩ (.bool s4)).setCell ⟨gb, 1, none⟩ (.slice (some ⟨g4, 0, none⟩) m4 m4)) := bSet (bSet hbw _ _ _ HGb.out) _ _ _ HGb.out
    refine hK _ _ trivial ?_
    clear hK cb0 cb1 fb0 fb1 hneb ca0 ca1 fa0 fa1 hnea cr0 cr1 fr0 fr1 hner hbw Z3 Z4 Xa Xb Xr;generalize ((Wa.setCell ⟨gb, 0, none⟩ (.bool s4)).setCell ⟨gb, 1, none⟩ (.slice (some ⟨g4, 0, none⟩) m4 m4)) = Wb at *;have hbw := hbw2;have Z3 := Z32;have Z4 := Z42;have Xa := Xa2;have Xb := Xb2;have Xr := Xr2;clear hbw2 Z32 Z42 Xa2 Xb2 Xr2
    refine wpJ_done (by kernel_rfl) ?_ _
    exact ⟨rfl, s3, g3, m3, s4, g4, m4, by kernel_rfl, Xa.out, Xb.out, Xr.out, Z3.out, Z4.out, HL3.out, HL4.out, hbw⟩
  ·skip
   obtain ⟨cb0, cb1, fb0, fb1⟩ := Xb.out;have hneb := Xb.out.lt;go_simp
   refine hK _ _ trivial ?_
   clear hK cb0 cb1 fb0 fb1 hneb;obtain ⟨ca0, ca1, fa0, fa1⟩ := Xa.out;have hnea := Xa.out.lt
   refine wpJ_on 0 rfl fun KJ hK => ?_
   go_simp
   refine hK _ _ trivial ?_
   clear hK ca0 ca1 fa0 fa1 hnea
   refine wpJ_on 1 rfl fun KJ hK => ?_
   go_simp
   refine (rflip_any s (HA.out.1.below hbw) (by have := HM.out; omega)).mono ?_
   rintro e v3 ⟨v, rfl, hv, hb3⟩;obtain ⟨s3, g3, m3, rfl, hg3, hz3, hl3⟩ := hv;have HG3 : Hid (ga < g3 ∧ gb < g3) := ⟨Nat.lt_of_lt_of_le Xa.out.lt hg3, Nat.lt_of_lt_of_le Xb.out.lt hg3⟩;replace Xa := Box.b Xa hb3;replace Xb := Box.b Xb hb3;replace Xr := Box.b Xr hb3;replace hbw := bon hbw hb3;clear hb3;have Z3 := hdQ hz3
   have HL3 : Hid (m3 ≤ 16384) := by have := HM.out; show m3 ≤ _; omega
   clear hz3 hl3 hg3
   refine hK _ _ trivial ?_
   clear hK
   refine wpJ_on 3 rfl fun KJ hK => ?_
   go_simp
   refine (rflip_any true (HA.out.2.below hbw) (by have := HM.out; omega)).mono ?_
   rintro e v4 ⟨v, rfl, hv, hb4⟩;obtain ⟨s4, g4, m4, rfl, hg4, hz4, hl4⟩ := hv;have HG4 : Hid (ga < g4 ∧ gb < g4) := ⟨Nat.lt_of_lt_of_le Xa.out.lt hg4, Nat.lt_of_lt_of_le Xb.out.lt hg4⟩;replace Xa := Box.b Xa hb4;replace Xb := Box.b Xb hb4;replace Xr := Box.b Xr hb4;replace Z3 := ZR.b Z3 hb4;replace hbw := bon hbw hb4;clear hb4;have Z4 := hdQ hz4
   have HL4 : Hid (m4 ≤ 16384) := by have := HM.out; show m4 ≤ _; omega
   clear hz4 hl4 hg4
   refine hK _ _ trivial ?_
   clear hK;obtain ⟨ca0, ca1, fa0, fa1⟩ := Xa.out;have hnea := Xa.out.lt;obtain ⟨cb0, cb1, fb0, fb1⟩ := Xb.out;have hneb := Xb.out.lt;obtain ⟨cr0, cr1, fr0, fr1⟩ := Xr.out;have hner := Xr.out.lt;obtain ⟨hgd0, hgd1, hgd2, hgd3, hgd4, hgd5⟩ := HGD.out
   refine wpJ_on 4 rfl fun KJ hK => ?_
   go_simp
   have Xa2 : Hid (Box ((v4.setCell ⟨ga, 0, none⟩ (.bool s3)).setCell ⟨ga, 1, none⟩ (.slice (some ⟨g3, 0, none⟩) m3 m3)) ga (.bool s3) (.slice (some ⟨g3, 0, none⟩) m3 m3)) := ⟨by go_simp, by go_simp, by go_simp, by go_simp⟩
   have Xb2 : Hid (Box ((v4.setCell ⟨ga, 0, none⟩ (.bool s3)).setCell ⟨ga, 1, none⟩ (.slice (some ⟨g3, 0, none⟩) m3 m3)) gb (.bool true) (.slice q n n)) := ⟨by go_simp, by go_simp, by go_simp, by go_simp⟩
   have Xr2 : Hid (Box ((v4.setCell ⟨ga, 0, none⟩ (.bool s3)).setCell ⟨ga, 1, none⟩ (.slice (some ⟨g3, 0, none⟩) m3 m3)) gr (.bool false) (.slice none 0 0)) := ⟨by go_simp, by go_simp, by go_simp, by go_simp⟩
   clear hgd0 hgd1 hgd2 hgd3 hgd4 hgd5;have Z32 : Hid (ZR ((v4.setCell ⟨ga, 0, none⟩ (.bool s3)).setCell ⟨ga, 1, none⟩ (.slice (some ⟨g3, 0, none⟩) m3 m3)) s3 (some ⟨g3, 0, none⟩) m3 (-x)) := (Z3.out.set _ _ _ (Nat.ne_of_gt HG3.out.1)).set _ _ _ (Nat.ne_of_gt HG3.out.1);have Z42 : Hid (ZR ((v4.setCell ⟨ga, 0, none⟩ (.bool s3)).setCell ⟨ga, 1, none⟩ (.slice (some ⟨g3, 0, none⟩) m3 m3)) s4 (some ⟨g4, 0, none⟩) m4 (-y)) := (Z4.out.set _ _ _ (Nat.ne_of_gt HG4.out.1)).set _ _ _ (Nat.ne_of_gt HG4.out.1);have hbw2 : Below w.heap.size w ((v4.setCell ⟨ga, 0, none⟩ (.bool s3)).setCell ⟨ga, 1, none⟩ (.slice (some ⟨g3, 0, none⟩) m3 m3)) := bSet (bSet hbw _ _ _ HGa.out) _ _ _ HGa.out
   refine hK _ _ trivial ?_
   clear hK ca0 ca1 fa0 fa1 hnea cb0 cb1 fb0 fb1 hneb cr0 cr1 fr0 fr1 hner hbw Z3 Z4 Xa Xb Xr;generalize ((v4.setCell ⟨ga, 0, none⟩ (.bool s3)).setCell ⟨ga, 1, none⟩ (.slice (some ⟨g3, 0, none⟩) m3 m3)) = Wa at *;have hbw := hbw2;have Z3 := Z32;have Z4 := Z42;have Xa := Xa2;have Xb := Xb2;have Xr := Xr2;clear hbw2 Z32 Z42 Xa2 Xb2 Xr2;obtain ⟨cb0, cb1, fb0, fb1⟩ := Xb.out;have hneb := Xb.out.lt;obtain ⟨ca0, ca1, fa0, fa1⟩ := Xa.out;have hnea := Xa.out.lt;obtain ⟨cr0, cr1, fr0, fr1⟩ := Xr.out;have hner := Xr.out.lt;obtain ⟨hgd0, hgd1, hgd2, hgd3, hgd4, hgd5⟩ := HGD.out
   refine wpJ_on 5 rfl fun KJ hK => ?_
   go_simp
   have Xb2 : Hid (Box ((Wa.setCell ⟨gb, 0, none⟩ (.bool s4)).setCell ⟨gb, 1, none⟩ (.slice (some ⟨g4, 0, none⟩) m4 m4)) gb (.bool s4) (.slice (some ⟨g4, 0, none⟩) m4 m4)) := ⟨by go_simp, by go_simp, by go_simp, by go_simp⟩
   have Xa2 : Hid (Box ((Wa.setCell ⟨gb, 0, none⟩ (.bool s4)).setCell ⟨gb, 1, none⟩ (.slice (some ⟨g4, 0, none⟩) m4 m4)) ga (.bool s3) (.slice (some ⟨g3, 0, none⟩) m3 m3)) := ⟨by go_simp, by go_simp, by go_simp, by go_simp⟩
   have Xr2 : Hid (Box ((Wa.setCell ⟨gb, 0, none⟩ (.bool s4)).setCell ⟨gb, 1, none⟩ (.slice (some ⟨g4, 0, none⟩) m4 m4)) gr (.bool false) (.slice none 0 0)) := ⟨by go_simp, by go_simp, by go_simp, by go_simp⟩
   clear hgd0 hgd1 hgd2 hgd3 hgd4 hgd5;have Z32 : Hid (ZR ((Wa.setCell ⟨gb, 0, none⟩ (.bool s4)).setCell ⟨gb, 1, none⟩ (.slice (some ⟨g4, 0, none⟩) m4 m4)) s3 (some ⟨g3, 0, none⟩) m3 (-x)) := (Z3.out.set _ _ _ (Nat.ne_of_gt HG3.out.2)).set _ _ _ (Nat.ne_of_gt HG3.out.2);have Z42 : Hid (ZR ((Wa.setCell ⟨gb, 0, none⟩ (.bool s4)).setCell ⟨gb, 1, none⟩ (.slice (some ⟨g4, 0, none⟩) m4 m4)) s4 (some ⟨g4, 0, none⟩) m4 (-y)) := (Z4.out.set _ _ _ (Nat.ne_of_gt HG4.out.2)).set _ _ _ (Nat.ne_of_gt HG4.out.2);have hbw2 : Below w.heap.size w ((Wa.setCell ⟨gb, 0, none⟩ (.bool s4)).setCell ⟨gb, 1, none⟩ (.slice (some ⟨g4, 0, none⟩) m4 m4)) := bSet (bSet hbw _ _ _ HGb.out) _ _ _ HGb.out
   refine hK _ _ trivial ?_
   clear hK cb0 cb1 fb0 fb1 hneb ca0 ca1 fa0 fa1 hnea cr0 cr1 fr0 fr1 hner hbw Z3 Z4 Xa Xb Xr;generalize ((Wa.setCell ⟨gb, 0, none⟩ (.bool s4)).setCell ⟨gb, 1, none⟩ (.slice (some ⟨g4, 0, none⟩) m4 m4)) = Wb at *;have hbw := hbw2;have Z3 := Z32;have Z4 := Z42;have Xa := Xa2;have Xb := Xb2;have Xr := Xr2;clear hbw2 Z32 Z42 Xa2 Xb2 Xr2
   refine wpJ_done (by kernel_rfl) ?_ _
   exact ⟨rfl, s3, g3, m3, s4, g4, m4, by kernel_rfl, Xa.out, Xb.out, Xr.out, Z3.out, Z4.out, HL3.out, HL4.out, hbw⟩
theorem rfloordiv04 {p q : Option Addr} {m n : Nat} {w : World} {x y : Int} (s t : Bool) (h : ZR w s p m x) (k : ZR w t q n y) (hm : m ≤ 16384) (hn : n ≤ 16384) (hy : y ≠ 0) :
  Calls Tryz.prog 139 #[.agg #[.bool s, .slice p m m], .agg #[.bool t, .slice q n n]] w fun e w' => ∃ v, e = .returned v ∧ GotR w.heap.size w' v (rFd x y) (20001) ∧ Below w.heap.size w w' := by
 cases t
 ·have := of_decide_eq_false k.sg.symm
  exact rfloordiv04_p s h k hm hn (by omega)
 ·exact rfloordiv04_n s h k hm hn (of_decide_eq_true k.sg.symm)
theorem rceildiv04 {p q : Option Addr} {m n : Nat} {w : World} {x y : Int} (s t : Bool) (h : ZR w s p m x) (k : ZR w t q n y) (hm : m ≤ 16384) (hn : n ≤ 16384) (hy : y ≠ 0) :
  Calls Tryz.prog 140 #[.agg #[.bool s, .slice p m m], .agg #[.bool t, .slice q n n]] w fun e w' => ∃ v, e = .returned v ∧ GotR w.heap.size w' v (rCd x y) (20001) ∧ Below w.heap.size w w' := by
 rw [← rCd_flip];have HA : Hid (ZR w s p m x ∧ ZR w t q n y) := ⟨h, k⟩;have HM : Hid (m ≤ 16384 ∧ n ≤ 16384 ∧ y ≠ 0) := ⟨hm, hn, hy⟩;clear h k hm hn hy
 go_enter Tryz.func140, Tryz.ntmps140
 go_wp2_with fail;obtain ⟨W0, hW0⟩ := exq (((w.alloc (.cells #[.bool s, .slice p m m] 56)).alloc (.cells #[.bool t, .slice q n n] 56)).alloc (.cells #[.bool false, .slice none 0 0] 56))
 have Xa : Hid (Box W0 (w.heap.size) (.bool s) (.slice p m m)) := by rw [hW0]; constructor <;> go_simp
 have Xb : Hid (Box W0 (w.heap.size + 1) (.bool t) (.slice q n n)) := by rw [hW0]; constructor <;> go_simp
 have Xr : Hid (Box W0 (w.heap.size + 1 + 1) (.bool false) (.slice none 0 0)) := by rw [hW0]; constructor <;> go_simp
 have hb0 := bq3 hW0;rw [← hW0];clear hW0;have hbw := brf w;obtain ⟨gr, hgr⟩ := exq (w.heap.size + 1 + 1);have HGr : Hid (w.heap.size ≤ gr) := hgl hgr;rw [← hgr] at Xr
 try rw [← hgr]
 obtain ⟨gb, hgb⟩ := exq (w.heap.size + 1);have HGb : Hid (w.heap.size ≤ gb) := hgl hgb;rw [← hgb] at Xb
 try rw [← hgb]
 obtain ⟨ga, hga⟩ := exq w.heap.size;have HGa : Hid (w.heap.size ≤ ga) := hgl hga;rw [← hga] at Xa
 try rw [← hga]
 have HGD : Hid (ga ≠ gb ∧ ga ≠ gr ∧ gb ≠ ga ∧ gb ≠ gr ∧ gr ≠ ga ∧ gr ≠ gb) := by rw [hga, hgb, hgr]; show _ ∧ _; omega
 clear hga hgb hgr;replace hbw := bon hbw hb0;clear hb0;obtain ⟨W1, hW1⟩ := exq W0.drew
 have hbd : Below W0.heap.size W0 W1 := by rw [hW1]; exact bDrew1 (Below.refl _ _)
 replace Xa := Box.b Xa hbd;replace Xb := Box.b Xb hbd;replace Xr := Box.b Xr hbd;replace hbw := bon hbw hbd;clear hbd
 have HJ : Hid ((fun W' : World => W'.cell? ⟨ga, 0, none⟩ = some (.bool s) ∧ W'.cell? ⟨ga, 1, none⟩ = some (.slice p m m) ∧ W'.cell? ⟨gb, 0, none⟩ = some (.bool t) ∧ W'.cell? ⟨gb, 1, none⟩ = some (.slice q n n)) W1) := ⟨Xa.out.c0, Xa.out.c1, Xb.out.c0, Xb.out.c1⟩
 refine wp_region_J (fun W' => W'.cell? ⟨ga, 0, none⟩ = some (.bool s) ∧ W'.cell? ⟨ga, 1, none⟩ = some (.slice p m m) ∧ W'.cell? ⟨gb, 0, none⟩ = some (.bool t) ∧ W'.cell? ⟨gb, 1, none⟩ = some (.slice q n n)) (by kernel_rfl) ?_
 rw [← hW1];clear hW1
 refine wpJ_tq 0 rfl HJ.out ?_
 refine wpJ_tq 2 rfl HJ.out ?_
 refine wpJ_on 1 rfl fun KJ hK => ?_
 go_simp
 refine (rflip_any s (HA.out.1.below hbw) (by have := HM.out; omega)).mono ?_
 rintro e v3 ⟨v, rfl, hv, hb3⟩;obtain ⟨s3, g3, m3, rfl, hg3, hz3, hl3⟩ := hv;have HN3 := hdQ hg3;have HB3 : Hid (W1.heap.size ≤ v3.heap.size) := hb3.size;replace Xa := Box.b Xa hb3;replace Xb := Box.b Xb hb3;replace Xr := Box.b Xr hb3;replace hbw := bon hbw hb3;clear hb3;have Z3 := hdQ hz3;have HL3 : Hid (m3 ≤ m) := hl3;clear hz3 hl3 hg3
 refine hK _ _ ⟨Xa.out.c0, Xa.out.c1, Xb.out.c0, Xb.out.c1⟩ ?_
 clear hK
 refine wpJ_on 3 rfl fun KJ hK => ?_
 go_simp
 refine (rfloordiv04 s3 t Z3.out (HA.out.2.below hbw) (Nat.le_trans HL3.out HM.out.1) HM.out.2.1 HM.out.2.2).mono ?_
 rintro e v4 ⟨v, rfl, hv, hb4⟩;obtain ⟨s4, g4, m4, rfl, hg4, hz4, hl4⟩ := hv;have HN4 : Hid (v3.heap.size ≤ g4) := hg4;have HB4 : Hid (v3.heap.size ≤ v4.heap.size) := hb4.size;replace Xa := Box.b Xa hb4;replace Xb := Box.b Xb hb4;replace Xr := Box.b Xr hb4;replace Z3 := ZR.b Z3 hb4;replace hbw := bon hbw hb4;clear hb4;have Z4 := hdQ hz4;have HL4 : Hid (m4 ≤ 20001) := hl4;clear hz4 hl4 hg4
 refine hK _ _ ⟨Xa.out.c0, Xa.out.c1, Xb.out.c0, Xb.out.c1⟩ ?_
 clear hK;have HRB : Hid (gr < v4.heap.size ∧ w.heap.size ≤ v4.heap.size) := ⟨Xr.out.lt, hbw.size⟩
 refine wpJ_on 4 rfl fun KJ hK => ?_
 go_simp
 refine (rflip_any s4 Z4.out (by have := HL4.out; omega)).mono ?_
 rintro e v5 ⟨v, rfl, hv, hb5⟩;obtain ⟨s5, g5, m5, rfl, hg5, hz5, hl5⟩ := hv;have HN5 : Hid (v4.heap.size ≤ g5) := hg5;have HB5 : Hid (v4.heap.size ≤ v5.heap.size) := hb5.size;replace Xa := Box.b Xa hb5;replace Xb := Box.b Xb hb5;replace Xr := Box.b Xr hb5;replace Z3 := ZR.b Z3 hb5;replace Z4 := ZR.b Z4 hb5;replace hbw := bon hbw hb5;clear hb5;have Z5 := hdQ hz5;have HL5 : Hid (m5 ≤ m4) := hl5;clear hz5 hl5 hg5
 refine hK _ _ ⟨Xa.out.c0, Xa.out.c1, Xb.out.c0, Xb.out.c1⟩ ?_
 clear hK;obtain ⟨cr0, cr1, fr0, fr1⟩ := Xr.out;have hner := Xr.out.lt;obtain ⟨ca0, ca1, fa0, fa1⟩ := Xa.out;have hnea := Xa.out.lt;obtain ⟨cb0, cb1, fb0, fb1⟩ := Xb.out;have hneb := Xb.out.lt;obtain ⟨hgd0, hgd1, hgd2, hgd3, hgd4, hgd5⟩ := HGD.out
 refine wpJ_on 5 rfl fun KJ hK => ?_
 go_simp
 have HJ2 : Hid ((fun W' : World => W'.cell? ⟨ga, 0, none⟩ = some (.bool s) ∧ W'.cell? ⟨ga, 1, none⟩ = some (.slice p m m) ∧ W'.cell? ⟨gb, 0, none⟩ = some (.bool t) ∧ W'.cell? ⟨gb, 1, none⟩ = some (.slice q n n)) ((v5.setCell ⟨gr, 0, none⟩ (.bool s5)).setCell ⟨gr, 1, none⟩ (.slice (some ⟨g5, 0, none⟩) m5 m5))) := ⟨by go_simp, by go_simp, by go_simp, by go_simp⟩
 refine hK _ _ HJ2.out ?_
 clear hK HJ;have HJ := HJ2;clear HJ2
 refine wpJ_done (by kernel_rfl) ?_ _
 clear HJ;go_wp2_with fail
 refine bodyPost_ret (v := .agg #[.bool s5, .slice (some ⟨g5, 0, none⟩) m5 m5]) (by rw [results_cell1 rfl]; go_simp) rfl ⟨_, rfl, ⟨s5, g5, m5, rfl, Nat.le_trans HRB.out.2 HN5.out, ?_, ?_⟩, ?_⟩
 ·clear hgd0 hgd1 hgd2 hgd3 hgd4 hgd5
  have := HN5.out; have := HRB.out.1
  exact (Z5.out.set _ _ _ (by omega)).set _ _ _ (by omega)
 ·clear hgd0 hgd1 hgd2 hgd3 hgd4 hgd5
  exact Nat.le_trans HL5.out HL4.out
 ·exact bSet (bSet hbw _ _ _ HGr.out) _ _ _ HGr.out
theorem wpJ_nodes5 {P : Program} {md : Region.Mode} {ops : Array Oper} {Q : Exit → Act → World → Prop} {J : World → Prop} {fuel : Nat} {listed : Array Bool} {a : Act} {w : World} (h : ∀ WP : Nat → Array Bool → Act → World → Prop, WP = wpJ P md ops Q J → ∀ L a0, L = listed → a0 = a → WP fuel L a0 w) : wpJ P md ops Q J fuel listed a w := h _ rfl _ _ rfl rfl
theorem wpJ_same5 {P : Program} {md : Region.Mode} {ops : Array Oper} {Q : Exit → Act → World → Prop} {J : World → Prop} {fuel : Nat} {L L' : Array Bool} {a a' : Act} {w : World} (h1 : L = L') (h2 : a = a') (h : wpJ P md ops Q J fuel L a w) : wpJ P md ops Q J fuel L' a' w := by
  subst h1 h2; exact h
theorem Hid.mk5 {p : Prop} (h : p) : Hid p := h
end Go.Proofs.YtmlclpjimkjjeaaGreatDoor
