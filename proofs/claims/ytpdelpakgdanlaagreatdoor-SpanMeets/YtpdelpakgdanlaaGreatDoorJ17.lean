import Derived.Test.YtpdelpakgdanlaaGreatDoorJ15
import Derived.Test.YtpdelpakgdanlaaGreatDoorJ16
import Derived.Test.YtpdelpakgdanlaaGreatDoorSmall
import Derived.Test.YtpdelpakgdanlaaGreatDoorJ8
import Derived.Test.YtpdelpakgdanlaaGreatDoorJ12
import Derived.Test.YtpdelpakgdanlaaGreatDoorJ10
import Derived.LoopN
namespace Go.Proofs.YtpdelpakgdanlaaGreatDoor
open Go.RowKit Go.Shelf
set_option maxRecDepth 20000
set_option maxHeartbeats 0
theorem sscale_f {p q : Option Addr} {m c n d : Nat} {w : World} {e f : Int} {s t : Bool} {x y : Int} (h : DN w s p m c e x) (k : DN w t q n d f y) (hc : dv y f < dv x e) :
  Calls Tryz.prog 40 #[SV s p m c e t q n d f, .int .i64 0] w fun en w' => en = .returned (.tuple #[SV false none 0 0 0 false none 0 0 0, .int .i64 2]) ∧ Below w.heap.size w w' := by
 have A := hdQ h;have B := hdQ k;have HC : Hid (dv y f < dv x e) := hc;clear h k hc
 go_enter Tryz.func40, Tryz.ntmps40
 go_wp2_with fail;obtain ⟨W0, hW0⟩ := exq ((w.alloc (.cells #[.bool s, .slice p m c, .int .i64 e, .bool t, .slice q n d, .int .i64 f] 28)).alloc (.cells #[.bool false, .slice none 0 0, .int .i64 0, .bool false, .slice none 0 0, .int .i64 0] 28))
 have Xs : Hid (B6q W0 (w.heap.size) (.bool s) (.slice p m c) (.int .i64 e) (.bool t) (.slice q n d) (.int .i64 f)) := by rw [hW0]; constructor <;> go_simp
 have Xr : Hid (B6q W0 (w.heap.size + 1) (.bool false) (.slice none 0 0) (.int .i64 0) (.bool false) (.slice none 0 0) (.int .i64 0)) := by rw [hW0]; constructor <;> go_simp
 have hb0 := bq2 hW0;rw [← hW0];clear hW0;have hbw := brf w;obtain ⟨gr, hgr⟩ := exq (w.heap.size + 1);have HGr : Hid (w.heap.size ≤ gr) := hgl hgr;rw [← hgr] at Xr
 try rw [← hgr]
 obtain ⟨gs, hgs⟩ := exq w.heap.size;have HGs : Hid (w.heap.size ≤ gs) := hgl hgs;rw [← hgs] at Xs
 try rw [← hgs]
 have HGD : Hid (gs ≠ gr ∧ gr ≠ gs) := by rw [hgs, hgr]; show _ ∧ _; omega
 clear hgs hgr;replace hbw := bon hbw hb0;clear hb0
 refine (sform_g (A.out.below hbw) (B.out.below hbw) HC.out).mono ?_
 rintro e v1 ⟨rfl, hb1⟩;replace Xs := B6q.b Xs hb1;replace Xr := B6q.b Xr hb1;replace hbw := bon hbw hb1;clear hb1;obtain ⟨cr0, cr1, cr2, cr3, cr4, cr5, fr0, fr1, fr2, fr3, fr4, fr5⟩ := Xr.out;have hner : gr < v1.heap.size := blt cr0;go_wp2_with fail
 refine bodyPost_ret (v := .tuple #[SV false none 0 0 0 false none 0 0 0, .int .i64 2]) (by rw [results_cell_tmp rfl]; go_simp) rfl ⟨rfl, ?_⟩
 exact (bSet (bSet (bSet (bSet (bSet (bSet hbw _ _ _ HGr.out) _ _ _ HGr.out) _ _ _ HGr.out) _ _ _ HGr.out) _ _ _ HGr.out) _ _ _ HGr.out)
theorem smake_f {p q : Option Addr} {m c n d : Nat} {w : World} {e f : Int} {s t : Bool} {x y : Int} (h : DN w s p m c e x) (k : DN w t q n d f y) (hc : dv y f < dv x e) :
  Calls Tryz.prog 18 #[DV s p m c e, DV t q n d f] w fun en w' => en = .returned (.tuple #[SV false none 0 0 0 false none 0 0 0, .int .i64 2]) ∧ Below w.heap.size w w' := by
 have A := hdQ h;have B := hdQ k;have HC : Hid (dv y f < dv x e) := hc;clear h k hc
 go_enter Tryz.func18, Tryz.ntmps18
 go_wp2_with fail;obtain ⟨W0, hW0⟩ := exq (((w.alloc (.cells #[.bool s, .slice p m c, .int .i64 e] 26)).alloc (.cells #[.bool t, .slice q n d, .int .i64 f] 26)).alloc (.cells #[.bool false, .slice none 0 0, .int .i64 0, .bool false, .slice none 0 0, .int .i64 0] 28))
 have Xa : Hid (B3q W0 (w.heap.size) (.bool s) (.slice p m c) (.int .i64 e)) := by rw [hW0]; constructor <;> go_simp
 have Xb : Hid (B3q W0 (w.heap.size + 1) (.bool t) (.slice q n d) (.int .i64 f)) := by rw [hW0]; constructor <;> go_simp
 have Xr : Hid (B6q W0 (w.heap.size + 1 + 1) (.bool false) (.slice none 0 0) (.int .i64 0) (.bool false) (.slice none 0 0) (.int .i64 0)) := by rw [hW0]; constructor <;> go_simp
 have hb0 := bq3 hW0;rw [← hW0];clear hW0;have hbw := brf w;obtain ⟨gr, hgr⟩ := exq (w.heap.size + 1 + 1);have HGr : Hid (w.heap.size ≤ gr) := hgl hgr;rw [← hgr] at Xr
 try rw [← hgr]
 obtain ⟨gb, hgb⟩ := exq (w.heap.size + 1);have HGb : Hid (w.heap.size ≤ gb) := hgl hgb;rw [← hgb] at Xb
 try rw [← hgb]
 obtain ⟨ga, hga⟩ := exq w.heap.size;have HGa : Hid (w.heap.size ≤ ga) := hgl hga;rw [← hga] at Xa
 try rw [← hga]
 have HGD : Hid (ga ≠ gb ∧ ga ≠ gr ∧ gb ≠ ga ∧ gb ≠ gr ∧ gr ≠ ga ∧ gr ≠ gb) := by rw [hga, hgb, hgr]; show _ ∧ _; omega
 clear hga hgb hgr;replace hbw := bon hbw hb0;clear hb0
 refine (sscale_f (A.out.below hbw) (B.out.below hbw) HC.out).mono ?_
 rintro e v1 ⟨rfl, hb1⟩;replace Xa := B3q.b Xa hb1;replace Xb := B3q.b Xb hb1;replace Xr := B6q.b Xr hb1;replace hbw := bon hbw hb1;clear hb1;obtain ⟨cr0, cr1, cr2, cr3, cr4, cr5, fr0, fr1, fr2, fr3, fr4, fr5⟩ := Xr.out;have hner : gr < v1.heap.size := blt cr0;go_wp2_with fail
 refine bodyPost_ret (v := .tuple #[SV false none 0 0 0 false none 0 0 0, .int .i64 2]) (by rw [results_cell_tmp rfl]; go_simp) rfl ⟨rfl, ?_⟩
 exact (bSet (bSet (bSet (bSet (bSet (bSet hbw _ _ _ HGr.out) _ _ _ HGr.out) _ _ _ HGr.out) _ _ _ HGr.out) _ _ _ HGr.out) _ _ _ HGr.out)
theorem B6q.off {W : World} {g : Nat} {v0 v1 v2 v3 v4 v5 : Value} (h : B6q W g v0 v1 v2 v3 v4 v5) {k : Nat} (hne : g ≠ k) (o : Nat) (x : Value) : B6q (W.setCell ⟨k, o, none⟩ x) g v0 v1 v2 v3 v4 v5 := by
  have hne2 : k ≠ g := fun h => hne h.symm
  obtain ⟨c0, c1, c2, c3, c4, c5, f0, f1, f2, f3, f4, f5⟩ := h
  constructor <;> go_simp
theorem B6q.off6 {W : World} {g : Nat} {v0 v1 v2 v3 v4 v5 : Value} (h : B6q W g v0 v1 v2 v3 v4 v5) {k : Nat} (hne : g ≠ k) (x0 x1 x2 x3 x4 x5 : Value) : B6q ((((((W.setCell ⟨k, 0, none⟩ x0).setCell ⟨k, 1, none⟩ x1).setCell ⟨k, 2, none⟩ x2).setCell ⟨k, 3, none⟩ x3).setCell ⟨k, 4, none⟩ x4).setCell ⟨k, 5, none⟩ x5) g v0 v1 v2 v3 v4 v5 :=
 (((((h.off hne 0 x0).off hne 1 x1).off hne 2 x2).off hne 3 x3).off hne 4 x4).off hne 5 x5
theorem B6q.put6 {W : World} {k : Nat} {v0 v1 v2 v3 v4 v5 : Value} (h : B6q W k v0 v1 v2 v3 v4 v5) (x0 x1 x2 x3 x4 x5 : Value) : B6q ((((((W.setCell ⟨k, 0, none⟩ x0).setCell ⟨k, 1, none⟩ x1).setCell ⟨k, 2, none⟩ x2).setCell ⟨k, 3, none⟩ x3).setCell ⟨k, 4, none⟩ x4).setCell ⟨k, 5, none⟩ x5) k x0 x1 x2 x3 x4 x5 := by
  obtain ⟨c0, c1, c2, c3, c4, c5, f0, f1, f2, f3, f4, f5⟩ := h;have hlt : k < W.heap.size := blt c0
  constructor <;> go_simp
theorem DO.set6 {B : Nat} {w : World} {s : Bool} {p : Option Addr} {m : Nat} {e z : Int} (h : DO B w s p m e z) {g b : Nat} (hg : g < B) (hb : b ≤ B) : ∀ v0 v1 v2 v3 v4 v5 : Value, DO b ((((((w.setCell ⟨g, 0, none⟩ v0).setCell ⟨g, 1, none⟩ v1).setCell ⟨g, 2, none⟩ v2).setCell ⟨g, 3, none⟩ v3).setCell ⟨g, 4, none⟩ v4).setCell ⟨g, 5, none⟩ v5) s p m e z :=
 fun v0 v1 v2 v3 v4 v5 => ((((((h.set g 0 v0 hg).set g 1 v1 hg).set g 2 v2 hg).set g 3 v3 hg).set g 4 v4 hg).set g 5 v5 hg).mono hb
theorem DO.new6 {B : Nat} {w : World} {s : Bool} {p : Option Addr} {m : Nat} {e z : Int} (h : DO B w s p m e z) (o : Obj) : ∀ v0 v1 v2 v3 v4 v5 : Value, DO B (((((((w.alloc o).setCell ⟨w.heap.size, 0, none⟩ v0).setCell ⟨w.heap.size, 1, none⟩ v1).setCell ⟨w.heap.size, 2, none⟩ v2).setCell ⟨w.heap.size, 3, none⟩ v3).setCell ⟨w.heap.size, 4, none⟩ v4).setCell ⟨w.heap.size, 5, none⟩ v5) s p m e z :=
 fun v0 v1 v2 v3 v4 v5 => h.below (bSet (bSet (bSet (bSet (bSet (bSet (below1 w o) _ 0 v0 (Nat.le_refl _)) _ 1 v1 (Nat.le_refl _)) _ 2 v2 (Nat.le_refl _)) _ 3 v3 (Nat.le_refl _)) _ 4 v4 (Nat.le_refl _)) _ 5 v5 (Nat.le_refl _))
def MkS (B : Nat) (w : World) (s1 : Bool) (p1 : Option Addr) (m1 : Nat) (e1 : Int) (s2 : Bool) (p2 : Option Addr) (m2 : Nat) (e2 er : Int) (x e y f : Int) : Prop :=
 (er = 0 ∧ e1 = e ∧ e2 = f ∧ DO B w s1 p1 m1 e1 x ∧ DO B w s2 p2 m2 e2 y ∧ dv x e ≤ dv y f) ∨ (er = 2 ∧ s1 = false ∧ p1 = none ∧ m1 = 0 ∧ e1 = 0 ∧ s2 = false ∧ p2 = none ∧ m2 = 0 ∧ e2 = 0 ∧ dv y f < dv x e)
theorem MkS.below {B : Nat} {w w' : World} {s1 : Bool} {p1 : Option Addr} {m1 : Nat} {e1 : Int} {s2 : Bool} {p2 : Option Addr} {m2 : Nat} {e2 er x e y f : Int} (h : MkS B w s1 p1 m1 e1 s2 p2 m2 e2 er x e y f) (hb : Below w.heap.size w w') : MkS B w' s1 p1 m1 e1 s2 p2 m2 e2 er x e y f :=
 h.imp (fun ⟨a, b, c, d, e, g⟩ => ⟨a, b, c, d.below hb, e.below hb, g⟩) id
theorem MkS.mono {B B' : Nat} {w : World} {s1 : Bool} {p1 : Option Addr} {m1 : Nat} {e1 : Int} {s2 : Bool} {p2 : Option Addr} {m2 : Nat} {e2 er x e y f : Int} (h : MkS B w s1 p1 m1 e1 s2 p2 m2 e2 er x e y f) (hb : B' ≤ B) : MkS B' w s1 p1 m1 e1 s2 p2 m2 e2 er x e y f :=
 h.imp (fun ⟨a, b, c, d, e, g⟩ => ⟨a, b, c, d.mono hb, e.mono hb, g⟩) id
theorem MkS.set6 {B b : Nat} {w : World} {s1 : Bool} {p1 : Option Addr} {m1 : Nat} {e1 : Int} {s2 : Bool} {p2 : Option Addr} {m2 : Nat} {e2 er x e y f : Int} (h : MkS B w s1 p1 m1 e1 s2 p2 m2 e2 er x e y f) {g : Nat} (hg : g < B) (hb : b ≤ B) : ∀ v0 v1 v2 v3 v4 v5 : Value, MkS b ((((((w.setCell ⟨g, 0, none⟩ v0).setCell ⟨g, 1, none⟩ v1).setCell ⟨g, 2, none⟩ v2).setCell ⟨g, 3, none⟩ v3).setCell ⟨g, 4, none⟩ v4).setCell ⟨g, 5, none⟩ v5) s1 p1 m1 e1 s2 p2 m2 e2 er x e y f :=
 fun v0 v1 v2 v3 v4 v5 => h.imp (fun ⟨a, b, c, d, e, g⟩ => ⟨a, b, c, d.set6 hg hb v0 v1 v2 v3 v4 v5, e.set6 hg hb v0 v1 v2 v3 v4 v5, g⟩) id
theorem MkS.new6 {B : Nat} {w : World} {s1 : Bool} {p1 : Option Addr} {m1 : Nat} {e1 : Int} {s2 : Bool} {p2 : Option Addr} {m2 : Nat} {e2 er x e y f : Int} (h : MkS B w s1 p1 m1 e1 s2 p2 m2 e2 er x e y f) (o : Obj) : ∀ v0 v1 v2 v3 v4 v5 : Value, MkS B (((((((w.alloc o).setCell ⟨w.heap.size, 0, none⟩ v0).setCell ⟨w.heap.size, 1, none⟩ v1).setCell ⟨w.heap.size, 2, none⟩ v2).setCell ⟨w.heap.size, 3, none⟩ v3).setCell ⟨w.heap.size, 4, none⟩ v4).setCell ⟨w.heap.size, 5, none⟩ v5) s1 p1 m1 e1 s2 p2 m2 e2 er x e y f :=
 fun v0 v1 v2 v3 v4 v5 => h.imp (fun ⟨a, b, c, d, e, g⟩ => ⟨a, b, c, d.new6 o v0 v1 v2 v3 v4 v5, e.new6 o v0 v1 v2 v3 v4 v5, g⟩) id
theorem smake_g {p q : Option Addr} {m c n d : Nat} {w : World} {e f : Int} {s t : Bool} {x y : Int} (h : DN w s p m c e x) (k : DN w t q n d f y) :
  Calls Tryz.prog 18 #[DV s p m c e, DV t q n d f] w fun en w' => (∃ s1 p1 m1 e1 s2 p2 m2 e2 er, en = .returned (.tuple #[SV s1 p1 m1 m1 e1 s2 p2 m2 m2 e2, .int .i64 er]) ∧ MkS w.heap.size w' s1 p1 m1 e1 s2 p2 m2 e2 er x e y f) ∧ Below w.heap.size w w' := by
 by_cases hc : dv x e ≤ dv y f
 ·exact (smake h k hc).mono fun en w' ⟨s1, p1, m1, s2, p2, m2, h1, h2, h3, h4⟩ => ⟨⟨s1, p1, m1, e, s2, p2, m2, f, 0, h1, .inl ⟨rfl, rfl, rfl, h2, h3, hc⟩⟩, h4⟩
 ·exact (smake_f h k (Int.not_le.1 hc)).mono fun en w' ⟨h1, h2⟩ => ⟨⟨false, none, 0, 0, false, none, 0, 0, 2, h1, .inr ⟨rfl, rfl, rfl, rfl, rfl, rfl, rfl, rfl, rfl, Int.not_le.1 hc⟩⟩, h2⟩
def MtG (w : World) (d1 d2 d3 d4 : Dq) (en : Ending) (w' : World) : Prop := ∃ s1 p1 m1 e1 s2 p2 m2 e2 er z1 f1 z2 f2, (en = .returned (.tuple #[SV s1 p1 m1 m1 e1 s2 p2 m2 m2 e2, .bool (er == 0), .int .i64 0]) ∧ MkS w.heap.size w' s1 p1 m1 e1 s2 p2 m2 e2 er z1 f1 z2 f2) ∧ dv z1 f1 = max d1.v d3.v ∧ dv z2 f2 = min d2.v d4.v ∧ Below w.heap.size w w'
theorem smeet_g {d1 d2 d3 d4 : Dq} {w : World} (h1 : d1.ok w) (h2 : d2.ok w) (h3 : d3.ok w) (h4 : d4.ok w) (hc1 : d1.v ≤ d2.v) (hc2 : d3.v ≤ d4.v) :
  Calls Tryz.prog 5 #[SQ d1 d2, SQ d3 d4] w fun en w' => MtG w d1 d2 d3 d4 en w' := by
 have A1 : Hid (d1.ok w) := h1;have A2 : Hid (d2.ok w) := h2;have A3 : Hid (d3.ok w) := h3;have A4 : Hid (d4.ok w) := h4;have HC : Hid (d1.v ≤ d2.v ∧ d3.v ≤ d4.v) := ⟨hc1, hc2⟩;clear h1 h2 h3 h4 hc1 hc2
 go_enter Tryz.func5, Tryz.ntmps5
 go_wp2_with fail;obtain ⟨W0, hW0⟩ := exq (((w.alloc (.cells #[.bool d1.s, .slice d1.p d1.m d1.c, .int .i64 d1.e, .bool d2.s, .slice d2.p d2.m d2.c, .int .i64 d2.e] 28)).alloc (.cells #[.bool d3.s, .slice d3.p d3.m d3.c, .int .i64 d3.e, .bool d4.s, .slice d4.p d4.m d4.c, .int .i64 d4.e] 28)).alloc (.cells #[.bool false, .slice none 0 0, .int .i64 0, .bool false, .slice none 0 0, .int .i64 0] 28))
 have Xa : Hid (B6q W0 (w.heap.size) (.bool d1.s) (.slice d1.p d1.m d1.c) (.int .i64 d1.e) (.bool d2.s) (.slice d2.p d2.m d2.c) (.int .i64 d2.e)) := by rw [hW0]; constructor <;> go_simp
 have Xb : Hid (B6q W0 (w.heap.size + 1) (.bool d3.s) (.slice d3.p d3.m d3.c) (.int .i64 d3.e) (.bool d4.s) (.slice d4.p d4.m d4.c) (.int .i64 d4.e)) := by rw [hW0]; constructor <;> go_simp
 have Xr : Hid (B6q W0 (w.heap.size + 1 + 1) (.bool false) (.slice none 0 0) (.int .i64 0) (.bool false) (.slice none 0 0) (.int .i64 0)) := by rw [hW0]; constructor <;> go_simp
 have hb0 := bq3 hW0;rw [← hW0];clear hW0;have hbw := brf w;obtain ⟨gr, hgr⟩ := exq (w.heap.size + 1 + 1);have HGr : Hid (w.heap.size ≤ gr) := hgl hgr;rw [← hgr] at Xr
 try rw [← hgr]
 obtain ⟨gb, hgb⟩ := exq (w.heap.size + 1);have HGb : Hid (w.heap.size ≤ gb) := hgl hgb;rw [← hgb] at Xb
 try rw [← hgb]
 obtain ⟨ga, hga⟩ := exq w.heap.size;have HGa : Hid (w.heap.size ≤ ga) := hgl hga;rw [← hga] at Xa
 try rw [← hga]
 have HGD : Hid (ga ≠ gb ∧ ga ≠ gr ∧ gb ≠ ga ∧ gb ≠ gr ∧ gr ≠ ga ∧ gr ≠ gb) := by rw [hga, hgb, hgr]; show _ ∧ _; omega
 clear hga hgb hgr;replace hbw := bon hbw hb0;clear hb0
 refine (sform_t (DN.below A1.out hbw) (DN.below A2.out hbw) HC.out.1).mono ?_
 rintro e v1 ⟨rfl, hb1⟩;replace Xa := B6q.b Xa hb1;replace Xb := B6q.b Xb hb1;replace Xr := B6q.b Xr hb1;replace hbw := bon hbw hb1;clear hb1;obtain ⟨cb0, cb1, cb2, cb3, cb4, cb5, fb0, fb1, fb2, fb3, fb4, fb5⟩ := Xb.out;have hneb : gb < v1.heap.size := blt cb0;go_wp2_with fail;clear cb0 cb1 cb2 cb3 cb4 cb5 fb0 fb1 fb2 fb3 fb4 fb5 hneb
 refine (sform_t (DN.below A3.out hbw) (DN.below A4.out hbw) HC.out.2).mono ?_
 rintro e v2 ⟨rfl, hb2⟩;replace Xa := B6q.b Xa hb2;replace Xb := B6q.b Xb hb2;replace Xr := B6q.b Xr hb2;replace hbw := bon hbw hb2;clear hb2;obtain ⟨ca0, ca1, ca2, ca3, ca4, ca5, fa0, fa1, fa2, fa3, fa4, fa5⟩ := Xa.out;have hnea : ga < v2.heap.size := blt ca0;obtain ⟨cb0, cb1, cb2, cb3, cb4, cb5, fb0, fb1, fb2, fb3, fb4, fb5⟩ := Xb.out;have hneb : gb < v2.heap.size := blt cb0;go_wp2_with fail;clear ca0 ca1 ca2 ca3 ca4 ca5 fa0 fa1 fa2 fa3 fa4 fa5 hnea cb0 cb1 cb2 cb3 cb4 cb5 fb0 fb1 fb2 fb3 fb4 fb5 hneb;obtain ⟨W5, hW5⟩ := exq v2.drew
 have hbd : Below v2.heap.size v2 W5 := by rw [hW5]; exact bDrew1 (Below.refl _ _)
 replace Xa := B6q.b Xa hbd;replace Xb := B6q.b Xb hbd;replace Xr := B6q.b Xr hbd;replace hbw := bon hbw hbd;clear hbd
 have HJ : Hid ((fun W' : World => W'.cell? ⟨ga, 0, none⟩ = some (.bool d1.s) ∧ W'.cell? ⟨ga, 1, none⟩ = some (.slice d1.p d1.m d1.c) ∧ W'.cell? ⟨ga, 2, none⟩ = some (.int .i64 d1.e) ∧ W'.cell? ⟨ga, 3, none⟩ = some (.bool d2.s) ∧ W'.cell? ⟨ga, 4, none⟩ = some (.slice d2.p d2.m d2.c) ∧ W'.cell? ⟨ga, 5, none⟩ = some (.int .i64 d2.e) ∧ W'.cell? ⟨gb, 0, none⟩ = some (.bool d3.s) ∧ W'.cell? ⟨gb, 1, none⟩ = some (.slice d3.p d3.m d3.c) ∧ W'.cell? ⟨gb, 2, none⟩ = some (.int .i64 d3.e) ∧ W'.cell? ⟨gb, 3, none⟩ = some (.bool d4.s) ∧ W'.cell? ⟨gb, 4, none⟩ = some (.slice d4.p d4.m d4.c) ∧ W'.cell? ⟨gb, 5, none⟩ = some (.int .i64 d4.e)) W5) := ⟨Xa.out.c0, Xa.out.c1, Xa.out.c2, Xa.out.c3, Xa.out.c4, Xa.out.c5, Xb.out.c0, Xb.out.c1, Xb.out.c2, Xb.out.c3, Xb.out.c4, Xb.out.c5⟩
 refine wp_region_J (fun W' => W'.cell? ⟨ga, 0, none⟩ = some (.bool d1.s) ∧ W'.cell? ⟨ga, 1, none⟩ = some (.slice d1.p d1.m d1.c) ∧ W'.cell? ⟨ga, 2, none⟩ = some (.int .i64 d1.e) ∧ W'.cell? ⟨ga, 3, none⟩ = some (.bool d2.s) ∧ W'.cell? ⟨ga, 4, none⟩ = some (.slice d2.p d2.m d2.c) ∧ W'.cell? ⟨ga, 5, none⟩ = some (.int .i64 d2.e) ∧ W'.cell? ⟨gb, 0, none⟩ = some (.bool d3.s) ∧ W'.cell? ⟨gb, 1, none⟩ = some (.slice d3.p d3.m d3.c) ∧ W'.cell? ⟨gb, 2, none⟩ = some (.int .i64 d3.e) ∧ W'.cell? ⟨gb, 3, none⟩ = some (.bool d4.s) ∧ W'.cell? ⟨gb, 4, none⟩ = some (.slice d4.p d4.m d4.c) ∧ W'.cell? ⟨gb, 5, none⟩ = some (.int .i64 d4.e)) (by kernel_rfl) ?_
 rw [← hW5];clear hW5
 refine wpJ_tq 0 rfl HJ.out ?_
 refine wpJ_tq 1 rfl HJ.out ?_
 refine wpJ_tq 2 rfl HJ.out ?_
 refine wpJ_tq 3 rfl HJ.out ?_
 go_simp
 refine wpJ_tq 6 rfl HJ.out ?_
 refine wpJ_tq 7 rfl HJ.out ?_
 refine wpJ_tq 8 rfl HJ.out ?_
 refine wpJ_tq 9 rfl HJ.out ?_
 go_simp
 obtain ⟨FQ, hFQ⟩ : ∃ F : World → Prop, Hid (∀ W', F W' ↔ (B6q W' ga (.bool d1.s) (.slice d1.p d1.m d1.c) (.int .i64 d1.e) (.bool d2.s) (.slice d2.p d2.m d2.c) (.int .i64 d2.e) ∧ B6q W' gb (.bool d3.s) (.slice d3.p d3.m d3.c) (.int .i64 d3.e) (.bool d4.s) (.slice d4.p d4.m d4.c) (.int .i64 d4.e) ∧ B6q W' gr (.bool false) (.slice none 0 0) (.int .i64 0) (.bool false) (.slice none 0 0) (.int .i64 0) ∧ Below w.heap.size w W')) := ⟨fun W' => B6q W' ga (.bool d1.s) (.slice d1.p d1.m d1.c) (.int .i64 d1.e) (.bool d2.s) (.slice d2.p d2.m d2.c) (.int .i64 d2.e) ∧ B6q W' gb (.bool d3.s) (.slice d3.p d3.m d3.c) (.int .i64 d3.e) (.bool d4.s) (.slice d4.p d4.m d4.c) (.int .i64 d4.e) ∧ B6q W' gr (.bool false) (.slice none 0 0) (.int .i64 0) (.bool false) (.slice none 0 0) (.int .i64 0) ∧ Below w.heap.size w W', fun _ => Iff.rfl⟩
 have HFB : Hid (∀ W' W2, FQ W' → Below W'.heap.size W' W2 → FQ W2) := fun W' W2 h hb => by
  have h1 := (hFQ.out W').1 h
  exact (hFQ.out W2).2 ⟨h1.1.below hb, h1.2.1.below hb, h1.2.2.1.below hb, Below.on h1.2.2.2 hb⟩
 have HFJ : Hid (∀ W', FQ W' → (fun W' : World => W'.cell? ⟨ga, 0, none⟩ = some (.bool d1.s) ∧ W'.cell? ⟨ga, 1, none⟩ = some (.slice d1.p d1.m d1.c) ∧ W'.cell? ⟨ga, 2, none⟩ = some (.int .i64 d1.e) ∧ W'.cell? ⟨ga, 3, none⟩ = some (.bool d2.s) ∧ W'.cell? ⟨ga, 4, none⟩ = some (.slice d2.p d2.m d2.c) ∧ W'.cell? ⟨ga, 5, none⟩ = some (.int .i64 d2.e) ∧ W'.cell? ⟨gb, 0, none⟩ = some (.bool d3.s) ∧ W'.cell? ⟨gb, 1, none⟩ = some (.slice d3.p d3.m d3.c) ∧ W'.cell? ⟨gb, 2, none⟩ = some (.int .i64 d3.e) ∧ W'.cell? ⟨gb, 3, none⟩ = some (.bool d4.s) ∧ W'.cell? ⟨gb, 4, none⟩ = some (.slice d4.p d4.m d4.c) ∧ W'.cell? ⟨gb, 5, none⟩ = some (.int .i64 d4.e)) W') := fun W' h => by
  have h1 := (hFQ.out W').1 h
  exact ⟨h1.1.c0, h1.1.c1, h1.1.c2, h1.1.c3, h1.1.c4, h1.1.c5, h1.2.1.c0, h1.2.1.c1, h1.2.1.c2, h1.2.1.c3, h1.2.1.c4, h1.2.1.c5⟩
 refine wpJ_nodes5 fun WP hWP L0 a0 hL ha => ?_
 have N4_10_5_11_12_16 : ∀ (k4 : Nat) (k10 : Nat) (s5 : Bool) (p5 : Option Addr) (m5 : Nat) (c5 : Nat) (e5 : Int) (z5 : Int) (s11 : Bool) (p11 : Option Addr) (m11 : Nat) (c11 : Nat) (e11 : Int) (z11 : Int) (s1 : Bool) (p1 : Option Addr) (m1 : Nat) (e1 : Int) (s2 : Bool) (p2 : Option Addr) (m2 : Nat) (e2 : Int) (r1 : Int) (k16 : Nat) (W' : World), (FQ W') ∧ (DyL W' (some ⟨k4, 0, none⟩) 1 1 [d3]) ∧ (DyL W' (some ⟨k10, 0, none⟩) 1 1 [d4]) ∧ (IsGrt [d1, d3] (⟨s5, p5, m5, c5, e5, z5⟩ : Dq)) ∧ (IsLst [d2, d4] (⟨s11, p11, m11, c11, e11, z11⟩ : Dq)) ∧ (MkS (gr + 1) W' s1 p1 m1 e1 s2 p2 m2 e2 r1 z5 e5 z11 e11) ∧ (B6q W' k16 (.bool false) (.slice none 0 0) (.int .i64 0) (.bool false) (.slice none 0 0) (.int .i64 0)) ∧ (w.heap.size ≤ k16) ∧ (ga ≠ k16 ∧ gb ≠ k16 ∧ gr ≠ k16) ∧ ((∀ v0 v1 v2 v3 v4 v5 : Value, MkS (gr + 1) ((((((W'.setCell ⟨k16, 0, none⟩ (v0)).setCell ⟨k16, 1, none⟩ (v1)).setCell ⟨k16, 2, none⟩ (v2)).setCell ⟨k16, 3, none⟩ (v3)).setCell ⟨k16, 4, none⟩ (v4)).setCell ⟨k16, 5, none⟩ (v5)) s1 p1 m1 e1 s2 p2 m2 e2 r1 z5 e5 z11 e11)) → WP 2 (((((((((L0.setIfInBounds 4 true).setIfInBounds 10 true).setIfInBounds 5 true).setIfInBounds 11 true).setIfInBounds 12 true).setIfInBounds 13 true).setIfInBounds 14 true).setIfInBounds 15 true).setIfInBounds 16 true) (((((((((a0.put (some 23) (.slice (some ⟨k4, 0, none⟩) 1 1)).put (some 29) (.slice (some ⟨k10, 0, none⟩) 1 1)).put (some 24) (DV s5 p5 m5 c5 e5)).put (some 30) (DV s11 p11 m11 c11 e11)).put (some 31) (.tuple #[SV s1 p1 m1 m1 e1 s2 p2 m2 m2 e2, .int .i64 r1])).put (some 18) (.tuple #[SV s1 p1 m1 m1 e1 s2 p2 m2 m2 e2, .int .i64 r1])).put (some 32) (SV s1 p1 m1 m1 e1 s2 p2 m2 m2 e2)).put (some 33) (.int .i64 r1)).put (some 7) (.pointer (some ⟨k16, 0, none⟩))) W' := by
  rintro k4 k10 s5 p5 m5 c5 e5 z5 s11 p11 m11 c11 e11 z11 s1 p1 m1 e1 s2 p2 m2 e2 r1 k16 W' ⟨fq, l4, l10, i5, i11, d1, x16, h16, n16, j1⟩;subst hWP hL ha;have Hl4 := Hid.mk5 l4;have Hl10 := Hid.mk5 l10;have Hi5 := Hid.mk5 i5;have Hi11 := Hid.mk5 i11;have Hd1 := Hid.mk5 d1;have Hx16 := Hid.mk5 x16;have Hh16 := Hid.mk5 h16;have Hn16 := Hid.mk5 n16;have Hj1 := Hid.mk5 j1;clear l4 l10 i5 i11 d1 x16 h16 n16 j1;obtain ⟨hxa, hxb, hxr, hbw⟩ := (hFQ.out W').1 fq;have Hxa := Hid.mk5 hxa;have Hxb := Hid.mk5 hxb;have Hxr := Hid.mk5 hxr;clear hxa hxb hxr;go_simp;have Xa := Hxa;have Xb := Hxb;have Xr := Hxr;have Xv := Hx16;clear Hxa Hxb Hxr Hx16;have HGv : Hid (w.heap.size ≤ k16) := Hh16.out
  have HJ : Hid ((fun W' : World => W'.cell? ⟨ga, 0, none⟩ = some (.bool d1.s) ∧ W'.cell? ⟨ga, 1, none⟩ = some (.slice d1.p d1.m d1.c) ∧ W'.cell? ⟨ga, 2, none⟩ = some (.int .i64 d1.e) ∧ W'.cell? ⟨ga, 3, none⟩ = some (.bool d2.s) ∧ W'.cell? ⟨ga, 4, none⟩ = some (.slice d2.p d2.m d2.c) ∧ W'.cell? ⟨ga, 5, none⟩ = some (.int .i64 d2.e) ∧ W'.cell? ⟨gb, 0, none⟩ = some (.bool d3.s) ∧ W'.cell? ⟨gb, 1, none⟩ = some (.slice d3.p d3.m d3.c) ∧ W'.cell? ⟨gb, 2, none⟩ = some (.int .i64 d3.e) ∧ W'.cell? ⟨gb, 3, none⟩ = some (.bool d4.s) ∧ W'.cell? ⟨gb, 4, none⟩ = some (.slice d4.p d4.m d4.c) ∧ W'.cell? ⟨gb, 5, none⟩ = some (.int .i64 d4.e)) W') := ⟨Xa.out.c0, Xa.out.c1, Xa.out.c2, Xa.out.c3, Xa.out.c4, Xa.out.c5, Xb.out.c0, Xb.out.c1, Xb.out.c2, Xb.out.c3, Xb.out.c4, Xb.out.c5⟩
  obtain ⟨cv0, cv1, cv2, cv3, cv4, cv5, fv0, fv1, fv2, fv3, fv4, fv5⟩ := Xv.out;have hnev : k16 < W'.heap.size := blt cv0
  refine wpJ_on 17 rfl fun KJ hK => ?_
  go_simp;have Xv2 : Hid (B6q ((((((W'.setCell ⟨k16, 0, none⟩ (.bool s1)).setCell ⟨k16, 1, none⟩ (.slice p1 m1 m1)).setCell ⟨k16, 2, none⟩ (.int .i64 e1)).setCell ⟨k16, 3, none⟩ (.bool s2)).setCell ⟨k16, 4, none⟩ (.slice p2 m2 m2)).setCell ⟨k16, 5, none⟩ (.int .i64 e2)) k16 (.bool s1) (.slice p1 m1 m1) (.int .i64 e1) (.bool s2) (.slice p2 m2 m2) (.int .i64 e2)) := Xv.out.put6 (.bool s1) (.slice p1 m1 m1) (.int .i64 e1) (.bool s2) (.slice p2 m2 m2) (.int .i64 e2);have Xr2 : Hid (B6q ((((((W'.setCell ⟨k16, 0, none⟩ (.bool s1)).setCell ⟨k16, 1, none⟩ (.slice p1 m1 m1)).setCell ⟨k16, 2, none⟩ (.int .i64 e1)).setCell ⟨k16, 3, none⟩ (.bool s2)).setCell ⟨k16, 4, none⟩ (.slice p2 m2 m2)).setCell ⟨k16, 5, none⟩ (.int .i64 e2)) gr (.bool false) (.slice none 0 0) (.int .i64 0) (.bool false) (.slice none 0 0) (.int .i64 0)) := Xr.out.off6 Hn16.out.2.2 (.bool s1) (.slice p1 m1 m1) (.int .i64 e1) (.bool s2) (.slice p2 m2 m2) (.int .i64 e2)
  have Xa2 : Hid (B6q ((((((W'.setCell ⟨k16, 0, none⟩ (.bool s1)).setCell ⟨k16, 1, none⟩ (.slice p1 m1 m1)).setCell ⟨k16, 2, none⟩ (.int .i64 e1)).setCell ⟨k16, 3, none⟩ (.bool s2)).setCell ⟨k16, 4, none⟩ (.slice p2 m2 m2)).setCell ⟨k16, 5, none⟩ (.int .i64 e2)) ga (.bool d1.s) (.slice d1.p d1.m d1.c) (.int .i64 d1.e) (.bool d2.s) (.slice d2.p d2.m d2.c) (.int .i64 d2.e)) := Xa.out.off6 Hn16.out.1 (.bool s1) (.slice p1 m1 m1) (.int .i64 e1) (.bool s2) (.slice p2 m2 m2) (.int .i64 e2);have Xb2 : Hid (B6q ((((((W'.setCell ⟨k16, 0, none⟩ (.bool s1)).setCell ⟨k16, 1, none⟩ (.slice p1 m1 m1)).setCell ⟨k16, 2, none⟩ (.int .i64 e1)).setCell ⟨k16, 3, none⟩ (.bool s2)).setCell ⟨k16, 4, none⟩ (.slice p2 m2 m2)).setCell ⟨k16, 5, none⟩ (.int .i64 e2)) gb (.bool d3.s) (.slice d3.p d3.m d3.c) (.int .i64 d3.e) (.bool d4.s) (.slice d4.p d4.m d4.c) (.int .i64 d4.e)) := Xb.out.off6 Hn16.out.2.1 (.bool s1) (.slice p1 m1 m1) (.int .i64 e1) (.bool s2) (.slice p2 m2 m2) (.int .i64 e2)
  have hbw2 : Below w.heap.size w ((((((W'.setCell ⟨k16, 0, none⟩ (.bool s1)).setCell ⟨k16, 1, none⟩ (.slice p1 m1 m1)).setCell ⟨k16, 2, none⟩ (.int .i64 e1)).setCell ⟨k16, 3, none⟩ (.bool s2)).setCell ⟨k16, 4, none⟩ (.slice p2 m2 m2)).setCell ⟨k16, 5, none⟩ (.int .i64 e2)) := (bSet (bSet (bSet (bSet (bSet (bSet hbw _ _ _ HGv.out) _ _ _ HGv.out) _ _ _ HGv.out) _ _ _ HGv.out) _ _ _ HGv.out) _ _ _ HGv.out)
  have HJ2 : Hid ((fun W' : World => W'.cell? ⟨ga, 0, none⟩ = some (.bool d1.s) ∧ W'.cell? ⟨ga, 1, none⟩ = some (.slice d1.p d1.m d1.c) ∧ W'.cell? ⟨ga, 2, none⟩ = some (.int .i64 d1.e) ∧ W'.cell? ⟨ga, 3, none⟩ = some (.bool d2.s) ∧ W'.cell? ⟨ga, 4, none⟩ = some (.slice d2.p d2.m d2.c) ∧ W'.cell? ⟨ga, 5, none⟩ = some (.int .i64 d2.e) ∧ W'.cell? ⟨gb, 0, none⟩ = some (.bool d3.s) ∧ W'.cell? ⟨gb, 1, none⟩ = some (.slice d3.p d3.m d3.c) ∧ W'.cell? ⟨gb, 2, none⟩ = some (.int .i64 d3.e) ∧ W'.cell? ⟨gb, 3, none⟩ = some (.bool d4.s) ∧ W'.cell? ⟨gb, 4, none⟩ = some (.slice d4.p d4.m d4.c) ∧ W'.cell? ⟨gb, 5, none⟩ = some (.int .i64 d4.e)) ((((((W'.setCell ⟨k16, 0, none⟩ (.bool s1)).setCell ⟨k16, 1, none⟩ (.slice p1 m1 m1)).setCell ⟨k16, 2, none⟩ (.int .i64 e1)).setCell ⟨k16, 3, none⟩ (.bool s2)).setCell ⟨k16, 4, none⟩ (.slice p2 m2 m2)).setCell ⟨k16, 5, none⟩ (.int .i64 e2))) := ⟨Xa2.out.c0, Xa2.out.c1, Xa2.out.c2, Xa2.out.c3, Xa2.out.c4, Xa2.out.c5, Xb2.out.c0, Xb2.out.c1, Xb2.out.c2, Xb2.out.c3, Xb2.out.c4, Xb2.out.c5⟩
  have D1 : Hid (MkS (gr + 1) ((((((W'.setCell ⟨k16, 0, none⟩ (.bool s1)).setCell ⟨k16, 1, none⟩ (.slice p1 m1 m1)).setCell ⟨k16, 2, none⟩ (.int .i64 e1)).setCell ⟨k16, 3, none⟩ (.bool s2)).setCell ⟨k16, 4, none⟩ (.slice p2 m2 m2)).setCell ⟨k16, 5, none⟩ (.int .i64 e2)) s1 p1 m1 e1 s2 p2 m2 e2 r1 z5 e5 z11 e11) := Hj1.out _ _ _ _ _ _
  refine hK _ _ HJ2.out ?_
  clear hK HJ;have HJ := HJ2;clear HJ2 Xa2 Xb2 cv0 cv1 cv2 cv3 cv4 cv5 fv0 fv1 fv2 fv3 fv4 fv5 hnev
  refine wpJ_tq 18 rfl HJ.out ?_
  refine wpJ_done (by kernel_rfl) ?_ _
  clear HJ Xv Xr Xa Xb hbw;have Xv := Xv2;have Xr := Xr2;have hbw := hbw2;clear Xv2 Xr2 hbw2 Hj1 Hd1;generalize ((((((W'.setCell ⟨k16, 0, none⟩ (.bool s1)).setCell ⟨k16, 1, none⟩ (.slice p1 m1 m1)).setCell ⟨k16, 2, none⟩ (.int .i64 e1)).setCell ⟨k16, 3, none⟩ (.bool s2)).setCell ⟨k16, 4, none⟩ (.slice p2 m2 m2)).setCell ⟨k16, 5, none⟩ (.int .i64 e2)) = W9 at *;obtain ⟨cv0, cv1, cv2, cv3, cv4, cv5, fv0, fv1, fv2, fv3, fv4, fv5⟩ := Xv.out;have hnev : k16 < W9.heap.size := blt cv0;obtain ⟨cr0, cr1, cr2, cr3, cr4, cr5, fr0, fr1, fr2, fr3, fr4, fr5⟩ := Xr.out;have hner : gr < W9.heap.size := blt cr0;go_wp2_with fail
  refine bodyPost_ret (v := .tuple #[SV s1 p1 m1 m1 e1 s2 p2 m2 m2 e2, .bool (r1 == 0), .int .i64 0]) (by rw [results_ctt rfl]; go_simp) rfl ⟨s1, p1, m1, e1, s2, p2, m2, e2, r1, z5, e5, z11, e11, ⟨rfl, ?_⟩, Hi5.out.two, Hi11.out.two, ?_⟩
  ·exact D1.out.set6 (Nat.lt_succ_self _) (Nat.le_succ_of_le HGr.out) _ _ _ _ _ _
  ·exact (bSet (bSet (bSet (bSet (bSet (bSet hbw _ _ _ HGr.out) _ _ _ HGr.out) _ _ _ HGr.out) _ _ _ HGr.out) _ _ _ HGr.out) _ _ _ HGr.out)
 have N4_10_5_11_12 : ∀ (k4 : Nat) (k10 : Nat) (s5 : Bool) (p5 : Option Addr) (m5 : Nat) (c5 : Nat) (e5 : Int) (z5 : Int) (s11 : Bool) (p11 : Option Addr) (m11 : Nat) (c11 : Nat) (e11 : Int) (z11 : Int) (s1 : Bool) (p1 : Option Addr) (m1 : Nat) (e1 : Int) (s2 : Bool) (p2 : Option Addr) (m2 : Nat) (e2 : Int) (r1 : Int) (W' : World), (FQ W') ∧ (DyL W' (some ⟨k4, 0, none⟩) 1 1 [d3]) ∧ (DyL W' (some ⟨k10, 0, none⟩) 1 1 [d4]) ∧ (IsGrt [d1, d3] (⟨s5, p5, m5, c5, e5, z5⟩ : Dq)) ∧ (IsLst [d2, d4] (⟨s11, p11, m11, c11, e11, z11⟩ : Dq)) ∧ (MkS (gr + 1) W' s1 p1 m1 e1 s2 p2 m2 e2 r1 z5 e5 z11 e11) → WP 3 ((((((((L0.setIfInBounds 4 true).setIfInBounds 10 true).setIfInBounds 5 true).setIfInBounds 11 true).setIfInBounds 12 true).setIfInBounds 13 true).setIfInBounds 14 true).setIfInBounds 15 true) ((((((((a0.put (some 23) (.slice (some ⟨k4, 0, none⟩) 1 1)).put (some 29) (.slice (some ⟨k10, 0, none⟩) 1 1)).put (some 24) (DV s5 p5 m5 c5 e5)).put (some 30) (DV s11 p11 m11 c11 e11)).put (some 31) (.tuple #[SV s1 p1 m1 m1 e1 s2 p2 m2 m2 e2, .int .i64 r1])).put (some 18) (.tuple #[SV s1 p1 m1 m1 e1 s2 p2 m2 m2 e2, .int .i64 r1])).put (some 32) (SV s1 p1 m1 m1 e1 s2 p2 m2 m2 e2)).put (some 33) (.int .i64 r1)) W' := by
  rintro k4 k10 s5 p5 m5 c5 e5 z5 s11 p11 m11 c11 e11 z11 s1 p1 m1 e1 s2 p2 m2 e2 r1 W' ⟨fq, l4, l10, i5, i11, d1⟩;subst hWP hL ha;have Hl4 := Hid.mk5 l4;have Hl10 := Hid.mk5 l10;have Hi5 := Hid.mk5 i5;have Hi11 := Hid.mk5 i11;have Hd1 := Hid.mk5 d1;clear l4 l10 i5 i11 d1;obtain ⟨hxa, hxb, hxr, hbw⟩ := (hFQ.out W').1 fq;have Hxa := Hid.mk5 hxa;have Hxb := Hid.mk5 hxb;have Hxr := Hid.mk5 hxr;clear hxa hxb hxr;go_simp
  refine wpJ_on 16 rfl fun KJ hK => ?_
  go_simp;have hb := below1 W' (.cells #[.bool false, .slice none 0 0, .int .i64 0, .bool false, .slice none 0 0, .int .i64 0] 28)
  refine hK _ _ (HFJ.out _ (HFB.out _ _ fq hb)) ?_
  exact wpJ_same5 (by kernel_rfl) (by kernel_rfl) (N4_10_5_11_12_16 k4 k10 s5 p5 m5 c5 e5 z5 s11 p11 m11 c11 e11 z11 s1 p1 m1 e1 s2 p2 m2 e2 r1 W'.heap.size _ ⟨(HFB.out _ _ fq hb), (Hl4.out.below hb), (Hl10.out.below hb), Hi5.out, Hi11.out, (Hd1.out.below hb), (B6q.new W' _ _ _ _ _ _ _), hbw.size, ⟨Nat.ne_of_lt Hxa.out.lt, Nat.ne_of_lt Hxb.out.lt, Nat.ne_of_lt Hxr.out.lt⟩, (Hd1.out.new6 _)⟩)
 have N4_10_5_11_16 : ∀ (k4 : Nat) (k10 : Nat) (s5 : Bool) (p5 : Option Addr) (m5 : Nat) (c5 : Nat) (e5 : Int) (z5 : Int) (s11 : Bool) (p11 : Option Addr) (m11 : Nat) (c11 : Nat) (e11 : Int) (z11 : Int) (k16 : Nat) (W' : World), (FQ W') ∧ (DyL W' (some ⟨k4, 0, none⟩) 1 1 [d3]) ∧ (DyL W' (some ⟨k10, 0, none⟩) 1 1 [d4]) ∧ (IsGrt [d1, d3] (⟨s5, p5, m5, c5, e5, z5⟩ : Dq)) ∧ (IsLst [d2, d4] (⟨s11, p11, m11, c11, e11, z11⟩ : Dq)) ∧ (B6q W' k16 (.bool false) (.slice none 0 0) (.int .i64 0) (.bool false) (.slice none 0 0) (.int .i64 0)) ∧ (w.heap.size ≤ k16) ∧ (ga ≠ k16 ∧ gb ≠ k16 ∧ gr ≠ k16) → WP 6 (((((L0.setIfInBounds 4 true).setIfInBounds 10 true).setIfInBounds 5 true).setIfInBounds 11 true).setIfInBounds 16 true) (((((a0.put (some 23) (.slice (some ⟨k4, 0, none⟩) 1 1)).put (some 29) (.slice (some ⟨k10, 0, none⟩) 1 1)).put (some 24) (DV s5 p5 m5 c5 e5)).put (some 30) (DV s11 p11 m11 c11 e11)).put (some 7) (.pointer (some ⟨k16, 0, none⟩))) W' := by
  rintro k4 k10 s5 p5 m5 c5 e5 z5 s11 p11 m11 c11 e11 z11 k16 W' ⟨fq, l4, l10, i5, i11, x16, h16, n16⟩;subst hWP hL ha;have Hl4 := Hid.mk5 l4;have Hl10 := Hid.mk5 l10;have Hi5 := Hid.mk5 i5;have Hi11 := Hid.mk5 i11;have Hx16 := Hid.mk5 x16;have Hh16 := Hid.mk5 h16;have Hn16 := Hid.mk5 n16;clear l4 l10 i5 i11 x16 h16 n16;obtain ⟨_, _, hxr, hbw⟩ := (hFQ.out W').1 fq;have Hxr := Hid.mk5 hxr;clear hxr;go_simp
  refine wpJ_on 12 rfl fun KJ hK => ?_
  go_simp;have HWL : gr + 1 ≤ W'.heap.size := Hxr.out.lt;have HOA : Hid (DN W' s5 p5 m5 c5 e5 z5) := Hi5.out.ok (ok2 (DN.below A1.out hbw) (DN.below A3.out hbw));have HOB : Hid (DN W' s11 p11 m11 c11 e11 z11) := Hi11.out.ok (ok2 (DN.below A2.out hbw) (DN.below A4.out hbw))
  refine (smake_g (x := z5) (y := z11) HOA.out HOB.out).mono ?_
  rintro e W2 ⟨⟨s1, p1, m1, e1, s2, p2, m2, e2, r1, rfl, hmk⟩, hb⟩
  have HJ : Hid ((fun W' : World => W'.cell? ⟨ga, 0, none⟩ = some (.bool d1.s) ∧ W'.cell? ⟨ga, 1, none⟩ = some (.slice d1.p d1.m d1.c) ∧ W'.cell? ⟨ga, 2, none⟩ = some (.int .i64 d1.e) ∧ W'.cell? ⟨ga, 3, none⟩ = some (.bool d2.s) ∧ W'.cell? ⟨ga, 4, none⟩ = some (.slice d2.p d2.m d2.c) ∧ W'.cell? ⟨ga, 5, none⟩ = some (.int .i64 d2.e) ∧ W'.cell? ⟨gb, 0, none⟩ = some (.bool d3.s) ∧ W'.cell? ⟨gb, 1, none⟩ = some (.slice d3.p d3.m d3.c) ∧ W'.cell? ⟨gb, 2, none⟩ = some (.int .i64 d3.e) ∧ W'.cell? ⟨gb, 3, none⟩ = some (.bool d4.s) ∧ W'.cell? ⟨gb, 4, none⟩ = some (.slice d4.p d4.m d4.c) ∧ W'.cell? ⟨gb, 5, none⟩ = some (.int .i64 d4.e)) W2) := (HFJ.out _ (HFB.out _ _ fq hb))
  refine hK _ _ HJ.out ?_
  refine wpJ_tq 13 rfl HJ.out ?_
  refine wpJ_tq 14 rfl HJ.out ?_
  refine wpJ_tq 15 rfl HJ.out ?_
  exact wpJ_same5 (by kernel_rfl) (by kernel_rfl) (N4_10_5_11_12_16 k4 k10 s5 p5 m5 c5 e5 z5 s11 p11 m11 c11 e11 z11 s1 p1 m1 e1 s2 p2 m2 e2 r1 k16 W2 ⟨(HFB.out _ _ fq hb), (Hl4.out.below hb), (Hl10.out.below hb), Hi5.out, Hi11.out, (hmk.mono HWL), (Hx16.out.below hb), Hh16.out, Hn16.out, (hmk.set6 Hx16.out.lt HWL)⟩)
 have N4_10_5_11 : ∀ (k4 : Nat) (k10 : Nat) (s5 : Bool) (p5 : Option Addr) (m5 : Nat) (c5 : Nat) (e5 : Int) (z5 : Int) (s11 : Bool) (p11 : Option Addr) (m11 : Nat) (c11 : Nat) (e11 : Int) (z11 : Int) (W' : World), (FQ W') ∧ (DyL W' (some ⟨k4, 0, none⟩) 1 1 [d3]) ∧ (DyL W' (some ⟨k10, 0, none⟩) 1 1 [d4]) ∧ (IsGrt [d1, d3] (⟨s5, p5, m5, c5, e5, z5⟩ : Dq)) ∧ (IsLst [d2, d4] (⟨s11, p11, m11, c11, e11, z11⟩ : Dq)) → WP 7 ((((L0.setIfInBounds 4 true).setIfInBounds 10 true).setIfInBounds 5 true).setIfInBounds 11 true) ((((a0.put (some 23) (.slice (some ⟨k4, 0, none⟩) 1 1)).put (some 29) (.slice (some ⟨k10, 0, none⟩) 1 1)).put (some 24) (DV s5 p5 m5 c5 e5)).put (some 30) (DV s11 p11 m11 c11 e11)) W' := by
  rintro k4 k10 s5 p5 m5 c5 e5 z5 s11 p11 m11 c11 e11 z11 W' ⟨fq, l4, l10, i5, i11⟩;subst hWP hL ha;have Hl4 := Hid.mk5 l4;have Hl10 := Hid.mk5 l10;have Hi5 := Hid.mk5 i5;have Hi11 := Hid.mk5 i11;clear l4 l10 i5 i11;obtain ⟨hxa, hxb, hxr, hbw⟩ := (hFQ.out W').1 fq;have Hxa := Hid.mk5 hxa;have Hxb := Hid.mk5 hxb;have Hxr := Hid.mk5 hxr;clear hxa hxb hxr;go_simp
  refine wpJ_two (i := 12) (k := 16) (by kernel_rfl) rfl rfl (by kernel_rfl) (by kernel_rfl) (fun KJ hK => ?_) (fun KJ hK => ?_)
  ·go_simp
   have HWL : gr + 1 ≤ W'.heap.size := Hxr.out.lt;have HOA : Hid (DN W' s5 p5 m5 c5 e5 z5) := Hi5.out.ok (ok2 (DN.below A1.out hbw) (DN.below A3.out hbw));have HOB : Hid (DN W' s11 p11 m11 c11 e11 z11) := Hi11.out.ok (ok2 (DN.below A2.out hbw) (DN.below A4.out hbw))
   refine (smake_g (x := z5) (y := z11) HOA.out HOB.out).mono ?_
   rintro e W2 ⟨⟨s1, p1, m1, e1, s2, p2, m2, e2, r1, rfl, hmk⟩, hb⟩
   have HJ : Hid ((fun W' : World => W'.cell? ⟨ga, 0, none⟩ = some (.bool d1.s) ∧ W'.cell? ⟨ga, 1, none⟩ = some (.slice d1.p d1.m d1.c) ∧ W'.cell? ⟨ga, 2, none⟩ = some (.int .i64 d1.e) ∧ W'.cell? ⟨ga, 3, none⟩ = some (.bool d2.s) ∧ W'.cell? ⟨ga, 4, none⟩ = some (.slice d2.p d2.m d2.c) ∧ W'.cell? ⟨ga, 5, none⟩ = some (.int .i64 d2.e) ∧ W'.cell? ⟨gb, 0, none⟩ = some (.bool d3.s) ∧ W'.cell? ⟨gb, 1, none⟩ = some (.slice d3.p d3.m d3.c) ∧ W'.cell? ⟨gb, 2, none⟩ = some (.int .i64 d3.e) ∧ W'.cell? ⟨gb, 3, none⟩ = some (.bool d4.s) ∧ W'.cell? ⟨gb, 4, none⟩ = some (.slice d4.p d4.m d4.c) ∧ W'.cell? ⟨gb, 5, none⟩ = some (.int .i64 d4.e)) W2) := (HFJ.out _ (HFB.out _ _ fq hb))
   refine hK _ _ HJ.out ?_
   refine wpJ_tq 13 rfl HJ.out ?_
   refine wpJ_tq 14 rfl HJ.out ?_
   refine wpJ_tq 15 rfl HJ.out ?_
   exact wpJ_same5 (by kernel_rfl) (by kernel_rfl) (N4_10_5_11_12 k4 k10 s5 p5 m5 c5 e5 z5 s11 p11 m11 c11 e11 z11 s1 p1 m1 e1 s2 p2 m2 e2 r1 W2 ⟨(HFB.out _ _ fq hb), (Hl4.out.below hb), (Hl10.out.below hb), Hi5.out, Hi11.out, (hmk.mono HWL)⟩)
  ·go_simp
   have hb := below1 W' (.cells #[.bool false, .slice none 0 0, .int .i64 0, .bool false, .slice none 0 0, .int .i64 0] 28)
   refine hK _ _ (HFJ.out _ (HFB.out _ _ fq hb)) ?_
   exact wpJ_same5 (by kernel_rfl) (by kernel_rfl) (N4_10_5_11_16 k4 k10 s5 p5 m5 c5 e5 z5 s11 p11 m11 c11 e11 z11 W'.heap.size _ ⟨(HFB.out _ _ fq hb), (Hl4.out.below hb), (Hl10.out.below hb), Hi5.out, Hi11.out, (B6q.new W' _ _ _ _ _ _ _), hbw.size, ⟨Nat.ne_of_lt Hxa.out.lt, Nat.ne_of_lt Hxb.out.lt, Nat.ne_of_lt Hxr.out.lt⟩⟩)
 have N4_10_5_16 : ∀ (k4 : Nat) (k10 : Nat) (s5 : Bool) (p5 : Option Addr) (m5 : Nat) (c5 : Nat) (e5 : Int) (z5 : Int) (k16 : Nat) (W' : World), (FQ W') ∧ (DyL W' (some ⟨k4, 0, none⟩) 1 1 [d3]) ∧ (DyL W' (some ⟨k10, 0, none⟩) 1 1 [d4]) ∧ (IsGrt [d1, d3] (⟨s5, p5, m5, c5, e5, z5⟩ : Dq)) ∧ (B6q W' k16 (.bool false) (.slice none 0 0) (.int .i64 0) (.bool false) (.slice none 0 0) (.int .i64 0)) ∧ (w.heap.size ≤ k16) ∧ (ga ≠ k16 ∧ gb ≠ k16 ∧ gr ≠ k16) → WP 7 ((((L0.setIfInBounds 4 true).setIfInBounds 10 true).setIfInBounds 5 true).setIfInBounds 16 true) ((((a0.put (some 23) (.slice (some ⟨k4, 0, none⟩) 1 1)).put (some 29) (.slice (some ⟨k10, 0, none⟩) 1 1)).put (some 24) (DV s5 p5 m5 c5 e5)).put (some 7) (.pointer (some ⟨k16, 0, none⟩))) W' := by
  rintro k4 k10 s5 p5 m5 c5 e5 z5 k16 W' ⟨fq, l4, l10, i5, x16, h16, n16⟩;subst hWP hL ha;have Hl4 := Hid.mk5 l4;have Hl10 := Hid.mk5 l10;have Hi5 := Hid.mk5 i5;have Hx16 := Hid.mk5 x16;have Hh16 := Hid.mk5 h16;have Hn16 := Hid.mk5 n16;clear l4 l10 i5 x16 h16 n16;obtain ⟨_, _, _, hbw⟩ := (hFQ.out W').1 fq;go_simp
  refine wpJ_on 11 rfl fun KJ hK => ?_
  go_simp
  refine (slst (DN.below A2.out hbw) Hl10.out).mono ?_
  rintro e W2 ⟨⟨s11, p11, m11, c11, e11, z11⟩, rfl, hd, hb⟩
  refine hK _ _ (HFJ.out _ (HFB.out _ _ fq hb)) ?_
  exact wpJ_same5 (by kernel_rfl) (by kernel_rfl) (N4_10_5_11_16 k4 k10 s5 p5 m5 c5 e5 z5 s11 p11 m11 c11 e11 z11 k16 W2 ⟨(HFB.out _ _ fq hb), (Hl4.out.below hb), (Hl10.out.below hb), Hi5.out, hd, (Hx16.out.below hb), Hh16.out, Hn16.out⟩)
 have N4_10_5 : ∀ (k4 : Nat) (k10 : Nat) (s5 : Bool) (p5 : Option Addr) (m5 : Nat) (c5 : Nat) (e5 : Int) (z5 : Int) (W' : World), (FQ W') ∧ (DyL W' (some ⟨k4, 0, none⟩) 1 1 [d3]) ∧ (DyL W' (some ⟨k10, 0, none⟩) 1 1 [d4]) ∧ (IsGrt [d1, d3] (⟨s5, p5, m5, c5, e5, z5⟩ : Dq)) → WP 8 (((L0.setIfInBounds 4 true).setIfInBounds 10 true).setIfInBounds 5 true) (((a0.put (some 23) (.slice (some ⟨k4, 0, none⟩) 1 1)).put (some 29) (.slice (some ⟨k10, 0, none⟩) 1 1)).put (some 24) (DV s5 p5 m5 c5 e5)) W' := by
  rintro k4 k10 s5 p5 m5 c5 e5 z5 W' ⟨fq, l4, l10, i5⟩;subst hWP hL ha;have Hl4 := Hid.mk5 l4;have Hl10 := Hid.mk5 l10;have Hi5 := Hid.mk5 i5;clear l4 l10 i5;obtain ⟨hxa, hxb, hxr, hbw⟩ := (hFQ.out W').1 fq;have Hxa := Hid.mk5 hxa;have Hxb := Hid.mk5 hxb;have Hxr := Hid.mk5 hxr;clear hxa hxb hxr;go_simp
  refine wpJ_two (i := 11) (k := 16) (by kernel_rfl) rfl rfl (by kernel_rfl) (by kernel_rfl) (fun KJ hK => ?_) (fun KJ hK => ?_)
  ·go_simp
   refine (slst (DN.below A2.out hbw) Hl10.out).mono ?_
   rintro e W2 ⟨⟨s11, p11, m11, c11, e11, z11⟩, rfl, hd, hb⟩
   refine hK _ _ (HFJ.out _ (HFB.out _ _ fq hb)) ?_
   exact wpJ_same5 (by kernel_rfl) (by kernel_rfl) (N4_10_5_11 k4 k10 s5 p5 m5 c5 e5 z5 s11 p11 m11 c11 e11 z11 W2 ⟨(HFB.out _ _ fq hb), (Hl4.out.below hb), (Hl10.out.below hb), Hi5.out, hd⟩)
  ·go_simp
   have hb := below1 W' (.cells #[.bool false, .slice none 0 0, .int .i64 0, .bool false, .slice none 0 0, .int .i64 0] 28)
   refine hK _ _ (HFJ.out _ (HFB.out _ _ fq hb)) ?_
   exact wpJ_same5 (by kernel_rfl) (by kernel_rfl) (N4_10_5_16 k4 k10 s5 p5 m5 c5 e5 z5 W'.heap.size _ ⟨(HFB.out _ _ fq hb), (Hl4.out.below hb), (Hl10.out.below hb), Hi5.out, (B6q.new W' _ _ _ _ _ _ _), hbw.size, ⟨Nat.ne_of_lt Hxa.out.lt, Nat.ne_of_lt Hxb.out.lt, Nat.ne_of_lt Hxr.out.lt⟩⟩)
 have N4_10_16 : ∀ (k4 : Nat) (k10 : Nat) (k16 : Nat) (W' : World), (FQ W') ∧ (DyL W' (some ⟨k4, 0, none⟩) 1 1 [d3]) ∧ (DyL W' (some ⟨k10, 0, none⟩) 1 1 [d4]) ∧ (B6q W' k16 (.bool false) (.slice none 0 0) (.int .i64 0) (.bool false) (.slice none 0 0) (.int .i64 0)) ∧ (w.heap.size ≤ k16) ∧ (ga ≠ k16 ∧ gb ≠ k16 ∧ gr ≠ k16) → WP 8 (((L0.setIfInBounds 4 true).setIfInBounds 10 true).setIfInBounds 16 true) (((a0.put (some 23) (.slice (some ⟨k4, 0, none⟩) 1 1)).put (some 29) (.slice (some ⟨k10, 0, none⟩) 1 1)).put (some 7) (.pointer (some ⟨k16, 0, none⟩))) W' := by
  rintro k4 k10 k16 W' ⟨fq, l4, l10, x16, h16, n16⟩;subst hWP hL ha;have Hl4 := Hid.mk5 l4;have Hl10 := Hid.mk5 l10;have Hx16 := Hid.mk5 x16;have Hh16 := Hid.mk5 h16;have Hn16 := Hid.mk5 n16;clear l4 l10 x16 h16 n16;obtain ⟨_, _, _, hbw⟩ := (hFQ.out W').1 fq;go_simp
  refine wpJ_on 5 rfl fun KJ hK => ?_
  go_simp
  refine (sgrt (DN.below A1.out hbw) Hl4.out).mono ?_
  rintro e W2 ⟨⟨s5, p5, m5, c5, e5, z5⟩, rfl, hd, hb⟩
  refine hK _ _ (HFJ.out _ (HFB.out _ _ fq hb)) ?_
  exact wpJ_same5 (by kernel_rfl) (by kernel_rfl) (N4_10_5_16 k4 k10 s5 p5 m5 c5 e5 z5 k16 W2 ⟨(HFB.out _ _ fq hb), (Hl4.out.below hb), (Hl10.out.below hb), hd, (Hx16.out.below hb), Hh16.out, Hn16.out⟩)
 have N4_5_16 : ∀ (k4 : Nat) (s5 : Bool) (p5 : Option Addr) (m5 : Nat) (c5 : Nat) (e5 : Int) (z5 : Int) (k16 : Nat) (W' : World), (FQ W') ∧ (DyL W' (some ⟨k4, 0, none⟩) 1 1 [d3]) ∧ (IsGrt [d1, d3] (⟨s5, p5, m5, c5, e5, z5⟩ : Dq)) ∧ (B6q W' k16 (.bool false) (.slice none 0 0) (.int .i64 0) (.bool false) (.slice none 0 0) (.int .i64 0)) ∧ (w.heap.size ≤ k16) ∧ (ga ≠ k16 ∧ gb ≠ k16 ∧ gr ≠ k16) → WP 8 (((L0.setIfInBounds 4 true).setIfInBounds 5 true).setIfInBounds 16 true) (((a0.put (some 23) (.slice (some ⟨k4, 0, none⟩) 1 1)).put (some 24) (DV s5 p5 m5 c5 e5)).put (some 7) (.pointer (some ⟨k16, 0, none⟩))) W' := by
  rintro k4 s5 p5 m5 c5 e5 z5 k16 W' ⟨fq, l4, i5, x16, h16, n16⟩;subst hWP hL ha;have Hl4 := Hid.mk5 l4;have Hi5 := Hid.mk5 i5;have Hx16 := Hid.mk5 x16;have Hh16 := Hid.mk5 h16;have Hn16 := Hid.mk5 n16;clear l4 i5 x16 h16 n16;obtain ⟨_, _, _, hbw⟩ := (hFQ.out W').1 fq;go_simp
  refine wpJ_on 10 rfl fun KJ hK => ?_
  go_simp;have hb := below1 W' (.cells #[.bool d4.s, .slice d4.p d4.m d4.c, .int .i64 d4.e] 26)
  refine hK _ _ (HFJ.out _ (HFB.out _ _ fq hb)) ?_
  exact wpJ_same5 (by kernel_rfl) (by kernel_rfl) (N4_10_5_16 k4 W'.heap.size s5 p5 m5 c5 e5 z5 k16 _ ⟨(HFB.out _ _ fq hb), (Hl4.out.below hb), (DyL.new W' (DN.below A4.out hbw)), Hi5.out, (Hx16.out.below hb), Hh16.out, Hn16.out⟩)
 have N4_10 : ∀ (k4 : Nat) (k10 : Nat) (W' : World), (FQ W') ∧ (DyL W' (some ⟨k4, 0, none⟩) 1 1 [d3]) ∧ (DyL W' (some ⟨k10, 0, none⟩) 1 1 [d4]) → WP 9 ((L0.setIfInBounds 4 true).setIfInBounds 10 true) ((a0.put (some 23) (.slice (some ⟨k4, 0, none⟩) 1 1)).put (some 29) (.slice (some ⟨k10, 0, none⟩) 1 1)) W' := by
  rintro k4 k10 W' ⟨fq, l4, l10⟩;subst hWP hL ha;have Hl4 := Hid.mk5 l4;have Hl10 := Hid.mk5 l10;clear l4 l10;obtain ⟨hxa, hxb, hxr, hbw⟩ := (hFQ.out W').1 fq;have Hxa := Hid.mk5 hxa;have Hxb := Hid.mk5 hxb;have Hxr := Hid.mk5 hxr;clear hxa hxb hxr;go_simp
  refine wpJ_two (i := 5) (k := 16) (by kernel_rfl) rfl rfl (by kernel_rfl) (by kernel_rfl) (fun KJ hK => ?_) (fun KJ hK => ?_)
  ·go_simp
   refine (sgrt (DN.below A1.out hbw) Hl4.out).mono ?_
   rintro e W2 ⟨⟨s5, p5, m5, c5, e5, z5⟩, rfl, hd, hb⟩
   refine hK _ _ (HFJ.out _ (HFB.out _ _ fq hb)) ?_
   exact wpJ_same5 (by kernel_rfl) (by kernel_rfl) (N4_10_5 k4 k10 s5 p5 m5 c5 e5 z5 W2 ⟨(HFB.out _ _ fq hb), (Hl4.out.below hb), (Hl10.out.below hb), hd⟩)
  ·go_simp
   have hb := below1 W' (.cells #[.bool false, .slice none 0 0, .int .i64 0, .bool false, .slice none 0 0, .int .i64 0] 28)
   refine hK _ _ (HFJ.out _ (HFB.out _ _ fq hb)) ?_
   exact wpJ_same5 (by kernel_rfl) (by kernel_rfl) (N4_10_16 k4 k10 W'.heap.size _ ⟨(HFB.out _ _ fq hb), (Hl4.out.below hb), (Hl10.out.below hb), (B6q.new W' _ _ _ _ _ _ _), hbw.size, ⟨Nat.ne_of_lt Hxa.out.lt, Nat.ne_of_lt Hxb.out.lt, Nat.ne_of_lt Hxr.out.lt⟩⟩)
 have N4_5 : ∀ (k4 : Nat) (s5 : Bool) (p5 : Option Addr) (m5 : Nat) (c5 : Nat) (e5 : Int) (z5 : Int) (W' : World), (FQ W') ∧ (DyL W' (some ⟨k4, 0, none⟩) 1 1 [d3]) ∧ (IsGrt [d1, d3] (⟨s5, p5, m5, c5, e5, z5⟩ : Dq)) → WP 9 ((L0.setIfInBounds 4 true).setIfInBounds 5 true) ((a0.put (some 23) (.slice (some ⟨k4, 0, none⟩) 1 1)).put (some 24) (DV s5 p5 m5 c5 e5)) W' := by
  rintro k4 s5 p5 m5 c5 e5 z5 W' ⟨fq, l4, i5⟩;subst hWP hL ha;have Hl4 := Hid.mk5 l4;have Hi5 := Hid.mk5 i5;clear l4 i5;obtain ⟨hxa, hxb, hxr, hbw⟩ := (hFQ.out W').1 fq;have Hxa := Hid.mk5 hxa;have Hxb := Hid.mk5 hxb;have Hxr := Hid.mk5 hxr;clear hxa hxb hxr;go_simp
  refine wpJ_two (i := 10) (k := 16) (by kernel_rfl) rfl rfl (by kernel_rfl) (by kernel_rfl) (fun KJ hK => ?_) (fun KJ hK => ?_)
  ·go_simp
   have hb := below1 W' (.cells #[.bool d4.s, .slice d4.p d4.m d4.c, .int .i64 d4.e] 26)
   refine hK _ _ (HFJ.out _ (HFB.out _ _ fq hb)) ?_
   exact wpJ_same5 (by kernel_rfl) (by kernel_rfl) (N4_10_5 k4 W'.heap.size s5 p5 m5 c5 e5 z5 _ ⟨(HFB.out _ _ fq hb), (Hl4.out.below hb), (DyL.new W' (DN.below A4.out hbw)), Hi5.out⟩)
  ·go_simp
   have hb := below1 W' (.cells #[.bool false, .slice none 0 0, .int .i64 0, .bool false, .slice none 0 0, .int .i64 0] 28)
   refine hK _ _ (HFJ.out _ (HFB.out _ _ fq hb)) ?_
   exact wpJ_same5 (by kernel_rfl) (by kernel_rfl) (N4_5_16 k4 s5 p5 m5 c5 e5 z5 W'.heap.size _ ⟨(HFB.out _ _ fq hb), (Hl4.out.below hb), Hi5.out, (B6q.new W' _ _ _ _ _ _ _), hbw.size, ⟨Nat.ne_of_lt Hxa.out.lt, Nat.ne_of_lt Hxb.out.lt, Nat.ne_of_lt Hxr.out.lt⟩⟩)
 have N4_16 : ∀ (k4 : Nat) (k16 : Nat) (W' : World), (FQ W') ∧ (DyL W' (some ⟨k4, 0, none⟩) 1 1 [d3]) ∧ (B6q W' k16 (.bool false) (.slice none 0 0) (.int .i64 0) (.bool false) (.slice none 0 0) (.int .i64 0)) ∧ (w.heap.size ≤ k16) ∧ (ga ≠ k16 ∧ gb ≠ k16 ∧ gr ≠ k16) → WP 9 ((L0.setIfInBounds 4 true).setIfInBounds 16 true) ((a0.put (some 23) (.slice (some ⟨k4, 0, none⟩) 1 1)).put (some 7) (.pointer (some ⟨k16, 0, none⟩))) W' := by
  rintro k4 k16 W' ⟨fq, l4, x16, h16, n16⟩;subst hWP hL ha;have Hl4 := Hid.mk5 l4;have Hx16 := Hid.mk5 x16;have Hh16 := Hid.mk5 h16;have Hn16 := Hid.mk5 n16;clear l4 x16 h16 n16;obtain ⟨_, _, _, hbw⟩ := (hFQ.out W').1 fq;go_simp
  refine wpJ_two (i := 5) (k := 10) (by kernel_rfl) rfl rfl (by kernel_rfl) (by kernel_rfl) (fun KJ hK => ?_) (fun KJ hK => ?_)
  ·go_simp
   refine (sgrt (DN.below A1.out hbw) Hl4.out).mono ?_
   rintro e W2 ⟨⟨s5, p5, m5, c5, e5, z5⟩, rfl, hd, hb⟩
   refine hK _ _ (HFJ.out _ (HFB.out _ _ fq hb)) ?_
   exact wpJ_same5 (by kernel_rfl) (by kernel_rfl) (N4_5_16 k4 s5 p5 m5 c5 e5 z5 k16 W2 ⟨(HFB.out _ _ fq hb), (Hl4.out.below hb), hd, (Hx16.out.below hb), Hh16.out, Hn16.out⟩)
  ·go_simp
   have hb := below1 W' (.cells #[.bool d4.s, .slice d4.p d4.m d4.c, .int .i64 d4.e] 26)
   refine hK _ _ (HFJ.out _ (HFB.out _ _ fq hb)) ?_
   exact wpJ_same5 (by kernel_rfl) (by kernel_rfl) (N4_10_16 k4 W'.heap.size k16 _ ⟨(HFB.out _ _ fq hb), (Hl4.out.below hb), (DyL.new W' (DN.below A4.out hbw)), (Hx16.out.below hb), Hh16.out, Hn16.out⟩)
 have N10_16 : ∀ (k10 : Nat) (k16 : Nat) (W' : World), (FQ W') ∧ (DyL W' (some ⟨k10, 0, none⟩) 1 1 [d4]) ∧ (B6q W' k16 (.bool false) (.slice none 0 0) (.int .i64 0) (.bool false) (.slice none 0 0) (.int .i64 0)) ∧ (w.heap.size ≤ k16) ∧ (ga ≠ k16 ∧ gb ≠ k16 ∧ gr ≠ k16) → WP 9 ((L0.setIfInBounds 10 true).setIfInBounds 16 true) ((a0.put (some 29) (.slice (some ⟨k10, 0, none⟩) 1 1)).put (some 7) (.pointer (some ⟨k16, 0, none⟩))) W' := by
  rintro k10 k16 W' ⟨fq, l10, x16, h16, n16⟩;subst hWP hL ha;have Hl10 := Hid.mk5 l10;have Hx16 := Hid.mk5 x16;have Hh16 := Hid.mk5 h16;have Hn16 := Hid.mk5 n16;clear l10 x16 h16 n16;obtain ⟨_, _, _, hbw⟩ := (hFQ.out W').1 fq;go_simp
  refine wpJ_on 4 rfl fun KJ hK => ?_
  go_simp;have hb := below1 W' (.cells #[.bool d3.s, .slice d3.p d3.m d3.c, .int .i64 d3.e] 26)
  refine hK _ _ (HFJ.out _ (HFB.out _ _ fq hb)) ?_
  exact wpJ_same5 (by kernel_rfl) (by kernel_rfl) (N4_10_16 W'.heap.size k10 k16 _ ⟨(HFB.out _ _ fq hb), (DyL.new W' (DN.below A3.out hbw)), (Hl10.out.below hb), (Hx16.out.below hb), Hh16.out, Hn16.out⟩)
 have N4 : ∀ (k4 : Nat) (W' : World), (FQ W') ∧ (DyL W' (some ⟨k4, 0, none⟩) 1 1 [d3]) → WP 10 (L0.setIfInBounds 4 true) (a0.put (some 23) (.slice (some ⟨k4, 0, none⟩) 1 1)) W' := by
  rintro k4 W' ⟨fq, l4⟩;subst hWP hL ha;have Hl4 := Hid.mk5 l4;clear l4;obtain ⟨hxa, hxb, hxr, hbw⟩ := (hFQ.out W').1 fq;have Hxa := Hid.mk5 hxa;have Hxb := Hid.mk5 hxb;have Hxr := Hid.mk5 hxr;clear hxa hxb hxr;go_simp
  refine wpJ_three (i := 5) (k := 10) (l := 16) (by kernel_rfl) rfl rfl rfl (by kernel_rfl) (by kernel_rfl) (by kernel_rfl) (fun KJ hK => ?_) (fun KJ hK => ?_) (fun KJ hK => ?_)
  ·go_simp
   refine (sgrt (DN.below A1.out hbw) Hl4.out).mono ?_
   rintro e W2 ⟨⟨s5, p5, m5, c5, e5, z5⟩, rfl, hd, hb⟩
   refine hK _ _ (HFJ.out _ (HFB.out _ _ fq hb)) ?_
   exact wpJ_same5 (by kernel_rfl) (by kernel_rfl) (N4_5 k4 s5 p5 m5 c5 e5 z5 W2 ⟨(HFB.out _ _ fq hb), (Hl4.out.below hb), hd⟩)
  ·go_simp
   have hb := below1 W' (.cells #[.bool d4.s, .slice d4.p d4.m d4.c, .int .i64 d4.e] 26)
   refine hK _ _ (HFJ.out _ (HFB.out _ _ fq hb)) ?_
   exact wpJ_same5 (by kernel_rfl) (by kernel_rfl) (N4_10 k4 W'.heap.size _ ⟨(HFB.out _ _ fq hb), (Hl4.out.below hb), (DyL.new W' (DN.below A4.out hbw))⟩)
  ·go_simp
   have hb := below1 W' (.cells #[.bool false, .slice none 0 0, .int .i64 0, .bool false, .slice none 0 0, .int .i64 0] 28)
   refine hK _ _ (HFJ.out _ (HFB.out _ _ fq hb)) ?_
   exact wpJ_same5 (by kernel_rfl) (by kernel_rfl) (N4_16 k4 W'.heap.size _ ⟨(HFB.out _ _ fq hb), (Hl4.out.below hb), (B6q.new W' _ _ _ _ _ _ _), hbw.size, ⟨Nat.ne_of_lt Hxa.out.lt, Nat.ne_of_lt Hxb.out.lt, Nat.ne_of_lt Hxr.out.lt⟩⟩)
 have N10 : ∀ (k10 : Nat) (W' : World), (FQ W') ∧ (DyL W' (some ⟨k10, 0, none⟩) 1 1 [d4]) → WP 10 (L0.setIfInBounds 10 true) (a0.put (some 29) (.slice (some ⟨k10, 0, none⟩) 1 1)) W' := by
  rintro k10 W' ⟨fq, l10⟩;subst hWP hL ha;have Hl10 := Hid.mk5 l10;clear l10;obtain ⟨hxa, hxb, hxr, hbw⟩ := (hFQ.out W').1 fq;have Hxa := Hid.mk5 hxa;have Hxb := Hid.mk5 hxb;have Hxr := Hid.mk5 hxr;clear hxa hxb hxr;go_simp
  refine wpJ_two (i := 4) (k := 16) (by kernel_rfl) rfl rfl (by kernel_rfl) (by kernel_rfl) (fun KJ hK => ?_) (fun KJ hK => ?_)
  ·go_simp
   have hb := below1 W' (.cells #[.bool d3.s, .slice d3.p d3.m d3.c, .int .i64 d3.e] 26)
   refine hK _ _ (HFJ.out _ (HFB.out _ _ fq hb)) ?_
   exact wpJ_same5 (by kernel_rfl) (by kernel_rfl) (N4_10 W'.heap.size k10 _ ⟨(HFB.out _ _ fq hb), (DyL.new W' (DN.below A3.out hbw)), (Hl10.out.below hb)⟩)
  ·go_simp
   have hb := below1 W' (.cells #[.bool false, .slice none 0 0, .int .i64 0, .bool false, .slice none 0 0, .int .i64 0] 28)
   refine hK _ _ (HFJ.out _ (HFB.out _ _ fq hb)) ?_
   exact wpJ_same5 (by kernel_rfl) (by kernel_rfl) (N10_16 k10 W'.heap.size _ ⟨(HFB.out _ _ fq hb), (Hl10.out.below hb), (B6q.new W' _ _ _ _ _ _ _), hbw.size, ⟨Nat.ne_of_lt Hxa.out.lt, Nat.ne_of_lt Hxb.out.lt, Nat.ne_of_lt Hxr.out.lt⟩⟩)
 have N16 : ∀ (k16 : Nat) (W' : World), (FQ W') ∧ (B6q W' k16 (.bool false) (.slice none 0 0) (.int .i64 0) (.bool false) (.slice none 0 0) (.int .i64 0)) ∧ (w.heap.size ≤ k16) ∧ (ga ≠ k16 ∧ gb ≠ k16 ∧ gr ≠ k16) → WP 10 (L0.setIfInBounds 16 true) (a0.put (some 7) (.pointer (some ⟨k16, 0, none⟩))) W' := by
  rintro k16 W' ⟨fq, x16, h16, n16⟩;subst hWP hL ha;have Hx16 := Hid.mk5 x16;have Hh16 := Hid.mk5 h16;have Hn16 := Hid.mk5 n16;clear x16 h16 n16;obtain ⟨_, _, _, hbw⟩ := (hFQ.out W').1 fq;go_simp
  refine wpJ_two (i := 4) (k := 10) (by kernel_rfl) rfl rfl (by kernel_rfl) (by kernel_rfl) (fun KJ hK => ?_) (fun KJ hK => ?_)
  ·go_simp
   have hb := below1 W' (.cells #[.bool d3.s, .slice d3.p d3.m d3.c, .int .i64 d3.e] 26)
   refine hK _ _ (HFJ.out _ (HFB.out _ _ fq hb)) ?_
   exact wpJ_same5 (by kernel_rfl) (by kernel_rfl) (N4_16 W'.heap.size k16 _ ⟨(HFB.out _ _ fq hb), (DyL.new W' (DN.below A3.out hbw)), (Hx16.out.below hb), Hh16.out, Hn16.out⟩)
  ·go_simp
   have hb := below1 W' (.cells #[.bool d4.s, .slice d4.p d4.m d4.c, .int .i64 d4.e] 26)
   refine hK _ _ (HFJ.out _ (HFB.out _ _ fq hb)) ?_
   exact wpJ_same5 (by kernel_rfl) (by kernel_rfl) (N10_16 W'.heap.size k16 _ ⟨(HFB.out _ _ fq hb), (DyL.new W' (DN.below A4.out hbw)), (Hx16.out.below hb), Hh16.out, Hn16.out⟩)
 have N_ : ∀ (W' : World), (FQ W') → WP 11 L0 a0 W' := by
  rintro  W' fq;subst hWP hL ha;obtain ⟨hxa, hxb, hxr, hbw⟩ := (hFQ.out W').1 fq;have Hxa := Hid.mk5 hxa;have Hxb := Hid.mk5 hxb;have Hxr := Hid.mk5 hxr;clear hxa hxb hxr;go_simp
  refine wpJ_three (i := 4) (k := 10) (l := 16) (by kernel_rfl) rfl rfl rfl (by kernel_rfl) (by kernel_rfl) (by kernel_rfl) (fun KJ hK => ?_) (fun KJ hK => ?_) (fun KJ hK => ?_)
  ·go_simp
   have hb := below1 W' (.cells #[.bool d3.s, .slice d3.p d3.m d3.c, .int .i64 d3.e] 26)
   refine hK _ _ (HFJ.out _ (HFB.out _ _ fq hb)) ?_
   exact wpJ_same5 (by kernel_rfl) (by kernel_rfl) (N4 W'.heap.size _ ⟨(HFB.out _ _ fq hb), (DyL.new W' (DN.below A3.out hbw))⟩)
  ·go_simp
   have hb := below1 W' (.cells #[.bool d4.s, .slice d4.p d4.m d4.c, .int .i64 d4.e] 26)
   refine hK _ _ (HFJ.out _ (HFB.out _ _ fq hb)) ?_
   exact wpJ_same5 (by kernel_rfl) (by kernel_rfl) (N10 W'.heap.size _ ⟨(HFB.out _ _ fq hb), (DyL.new W' (DN.below A4.out hbw))⟩)
  ·go_simp
   have hb := below1 W' (.cells #[.bool false, .slice none 0 0, .int .i64 0, .bool false, .slice none 0 0, .int .i64 0] 28)
   refine hK _ _ (HFJ.out _ (HFB.out _ _ fq hb)) ?_
   exact wpJ_same5 (by kernel_rfl) (by kernel_rfl) (N16 W'.heap.size _ ⟨(HFB.out _ _ fq hb), (B6q.new W' _ _ _ _ _ _ _), hbw.size, ⟨Nat.ne_of_lt Hxa.out.lt, Nat.ne_of_lt Hxb.out.lt, Nat.ne_of_lt Hxr.out.lt⟩⟩)
 exact N_ W5 ((hFQ.out _).2 ⟨Xa.out, Xb.out, Xr.out, hbw⟩)
theorem cmp_lt0 {a b : Int} : cmpI a b < 0 ↔ a < b := by
  rcases Int.lt_trichotomy a b with h | h | h
  · rw [cmp_l h]; constructor <;> intro _ <;> omega
  · rw [cmp_e h]; constructor <;> intro _ <;> omega
  · rw [cmp_g h]; constructor <;> intro _ <;> omega
def FormS (s : Bool) (xs : List Nat) (e : Int) (t : Bool) (ys : List Nat) (f : Int) : Bool := formD s xs e && (formD t ys f && decide (dv (iv s (valB B64 xs)) e ≤ dv (iv t (valB B64 ys)) f))
theorem rbel6 {p q : Option Addr} {m c n d : Nat} {w : World} {e f : Int} {s t : Bool} {x y : Int} (h : DN w s p m c e x) (k : DN w t q n d f y) :
  Calls Tryz.prog 22 #[DV s p m c e, DV t q n d f] w fun en w' => en = .returned (.bool (decide (dv x e < dv y f))) ∧ Below w.heap.size w w' := by
 have A := hdQ h;have B := hdQ k;clear h k
 go_enter Tryz.func22, Tryz.ntmps22
 go_wp2_with fail;obtain ⟨W0, hW0⟩ := exq ((w.alloc (.cells #[.bool s, .slice p m c, .int .i64 e] 26)).alloc (.cells #[.bool t, .slice q n d, .int .i64 f] 26))
 have Xa : Hid (B3q W0 (w.heap.size) (.bool s) (.slice p m c) (.int .i64 e)) := by rw [hW0]; constructor <;> go_simp
 have Xb : Hid (B3q W0 (w.heap.size + 1) (.bool t) (.slice q n d) (.int .i64 f)) := by rw [hW0]; constructor <;> go_simp
 have hb0 := bq2 hW0;rw [← hW0];clear hW0;have hbw := brf w;obtain ⟨gb, hgb⟩ := exq (w.heap.size + 1);have HGb : Hid (w.heap.size ≤ gb) := hgl hgb;rw [← hgb] at Xb
 try rw [← hgb]
 obtain ⟨ga, hga⟩ := exq w.heap.size;have HGa : Hid (w.heap.size ≤ ga) := hgl hga;rw [← hga] at Xa
 try rw [← hga]
 have HGD : Hid (ga ≠ gb ∧ gb ≠ ga) := by rw [hga, hgb]; show _ ∧ _; omega
 clear hga hgb;replace hbw := bon hbw hb0;clear hb0
 refine (rdc (A.out.below hbw) (B.out.below hbw)).mono ?_
 rintro e v1 ⟨rfl, hb1⟩;replace Xa := B3q.b Xa hb1;replace Xb := B3q.b Xb hb1;replace hbw := bon hbw hb1;clear hb1;go_wp2_with fail
 go_ret
 exact ⟨congrArg (fun b => Ending.returned (.bool b)) (decide_eq_decide.mpr cmp_lt0), hbw⟩
theorem rf6_l {p q : Option Addr} {m c n d : Nat} {w : World} {e f : Int} {s t : Bool} {xs ys : List Nat} (h : At w p m c xs) (k : At w q n d ys) (hf : formD s xs e = false) :
  Calls Tryz.prog 8 #[SV s p m c e t q n d f] w fun en w' => en = .returned (.bool false) ∧ Below w.heap.size w w' := by
 have A := hdQ h;have B := hdQ k;clear h k;have HF : Hid (formD s xs e = false) := hf;clear hf
 go_enter Tryz.func8, Tryz.ntmps8
 go_wp2_with fail;obtain ⟨W0, hW0⟩ := exq (w.alloc (.cells #[.bool s, .slice p m c, .int .i64 e, .bool t, .slice q n d, .int .i64 f] 28))
 have Xs : Hid (B6q W0 (w.heap.size) (.bool s) (.slice p m c) (.int .i64 e) (.bool t) (.slice q n d) (.int .i64 f)) := by rw [hW0]; constructor <;> go_simp
 have hb0 := bq1 hW0;rw [← hW0];clear hW0;have hbw := brf w;obtain ⟨gs, hgs⟩ := exq w.heap.size;have HGs : Hid (w.heap.size ≤ gs) := hgl hgs;rw [← hgs] at Xs
 try rw [← hgs]
 clear hgs;replace hbw := bon hbw hb0;clear hb0
 refine (docformd s (A.out.below hbw)).mono ?_
 rintro e v1 ⟨rfl, hb1⟩;rw [HF.out];replace Xs := B6q.b Xs hb1;replace hbw := bon hbw hb1;clear hb1;obtain ⟨cs0, cs1, cs2, cs3, cs4, cs5, fs0, fs1, fs2, fs3, fs4, fs5⟩ := Xs.out;have hnes : gs < v1.heap.size := blt cs0;go_wp2_with fail;clear cs0 cs1 cs2 cs3 cs4 cs5 fs0 fs1 fs2 fs3 fs4 fs5 hnes
 go_ret
 exact ⟨rfl, hbw⟩
theorem rf6_r {p q : Option Addr} {m c n d : Nat} {w : World} {e f : Int} {s t : Bool} {xs ys : List Nat} (h : At w p m c xs) (k : At w q n d ys) (hf : formD s xs e = true) (hg : formD t ys f = false) :
  Calls Tryz.prog 8 #[SV s p m c e t q n d f] w fun en w' => en = .returned (.bool false) ∧ Below w.heap.size w w' := by
 have A := hdQ h;have B := hdQ k;clear h k;have HF : Hid (formD s xs e = true) := hf;have HG : Hid (formD t ys f = false) := hg;clear hf hg
 go_enter Tryz.func8, Tryz.ntmps8
 go_wp2_with fail;obtain ⟨W0, hW0⟩ := exq (w.alloc (.cells #[.bool s, .slice p m c, .int .i64 e, .bool t, .slice q n d, .int .i64 f] 28))
 have Xs : Hid (B6q W0 (w.heap.size) (.bool s) (.slice p m c) (.int .i64 e) (.bool t) (.slice q n d) (.int .i64 f)) := by rw [hW0]; constructor <;> go_simp
 have hb0 := bq1 hW0;rw [← hW0];clear hW0;have hbw := brf w;obtain ⟨gs, hgs⟩ := exq w.heap.size;have HGs : Hid (w.heap.size ≤ gs) := hgl hgs;rw [← hgs] at Xs
 try rw [← hgs]
 clear hgs;replace hbw := bon hbw hb0;clear hb0
 refine (docformd s (A.out.below hbw)).mono ?_
 rintro e v1 ⟨rfl, hb1⟩;rw [HF.out];replace Xs := B6q.b Xs hb1;replace hbw := bon hbw hb1;clear hb1;obtain ⟨cs0, cs1, cs2, cs3, cs4, cs5, fs0, fs1, fs2, fs3, fs4, fs5⟩ := Xs.out;have hnes : gs < v1.heap.size := blt cs0;go_wp2_with fail;clear cs0 cs1 cs2 cs3 cs4 cs5 fs0 fs1 fs2 fs3 fs4 fs5 hnes
 refine (docformd t (B.out.below hbw)).mono ?_
 rintro e v2 ⟨rfl, hb2⟩;rw [HG.out];replace Xs := B6q.b Xs hb2;replace hbw := bon hbw hb2;clear hb2;obtain ⟨cs0, cs1, cs2, cs3, cs4, cs5, fs0, fs1, fs2, fs3, fs4, fs5⟩ := Xs.out;have hnes : gs < v2.heap.size := blt cs0;go_wp2_with fail;clear cs0 cs1 cs2 cs3 cs4 cs5 fs0 fs1 fs2 fs3 fs4 fs5 hnes
 go_ret
 exact ⟨rfl, hbw⟩
theorem rf6_o {p q : Option Addr} {m c n d : Nat} {w : World} {e f : Int} {s t : Bool} {xs ys : List Nat} (h : At w p m c xs) (k : At w q n d ys) (hf : formD s xs e = true) (hg : formD t ys f = true) :
  Calls Tryz.prog 8 #[SV s p m c e t q n d f] w fun en w' => en = .returned (.bool (decide (dv (iv s (valB B64 xs)) e ≤ dv (iv t (valB B64 ys)) f))) ∧ Below w.heap.size w w' := by
 have A := hdQ h;have B := hdQ k;clear h k;have HF : Hid (formD s xs e = true) := hf;have HG : Hid (formD t ys f = true) := hg;clear hf hg
 go_enter Tryz.func8, Tryz.ntmps8
 go_wp2_with fail;obtain ⟨W0, hW0⟩ := exq (w.alloc (.cells #[.bool s, .slice p m c, .int .i64 e, .bool t, .slice q n d, .int .i64 f] 28))
 have Xs : Hid (B6q W0 (w.heap.size) (.bool s) (.slice p m c) (.int .i64 e) (.bool t) (.slice q n d) (.int .i64 f)) := by rw [hW0]; constructor <;> go_simp
 have hb0 := bq1 hW0;rw [← hW0];clear hW0;have hbw := brf w;obtain ⟨gs, hgs⟩ := exq w.heap.size;have HGs : Hid (w.heap.size ≤ gs) := hgl hgs;rw [← hgs] at Xs
 try rw [← hgs]
 clear hgs;replace hbw := bon hbw hb0;clear hb0
 refine (docformd s (A.out.below hbw)).mono ?_
 rintro e v1 ⟨rfl, hb1⟩;rw [HF.out];replace Xs := B6q.b Xs hb1;replace hbw := bon hbw hb1;clear hb1;obtain ⟨cs0, cs1, cs2, cs3, cs4, cs5, fs0, fs1, fs2, fs3, fs4, fs5⟩ := Xs.out;have hnes : gs < v1.heap.size := blt cs0;go_wp2_with fail;clear cs0 cs1 cs2 cs3 cs4 cs5 fs0 fs1 fs2 fs3 fs4 fs5 hnes
 refine (docformd t (B.out.below hbw)).mono ?_
 rintro e v2 ⟨rfl, hb2⟩;rw [HG.out];replace Xs := B6q.b Xs hb2;replace hbw := bon hbw hb2;clear hb2;obtain ⟨cs0, cs1, cs2, cs3, cs4, cs5, fs0, fs1, fs2, fs3, fs4, fs5⟩ := Xs.out;have hnes : gs < v2.heap.size := blt cs0;go_wp2_with fail;clear cs0 cs1 cs2 cs3 cs4 cs5 fs0 fs1 fs2 fs3 fs4 fs5 hnes
 refine (rbel6 (formD_dn (B.out.below hbw) HG.out) (formD_dn (A.out.below hbw) HF.out)).mono ?_
 rintro e v3 ⟨rfl, hb3⟩;replace Xs := B6q.b Xs hb3;replace hbw := bon hbw hb3;clear hb3;go_wp2_with fail
 go_ret
 exact ⟨congrArg (fun b => Ending.returned (.bool b)) (by rw [← decide_not]; exact decide_eq_decide.mpr Int.not_lt), hbw⟩
theorem rform6 {p q : Option Addr} {m c n d : Nat} {w : World} {e f : Int} {s t : Bool} {xs ys : List Nat} (h : At w p m c xs) (k : At w q n d ys) :
  Calls Tryz.prog 8 #[SV s p m c e t q n d f] w fun en w' => en = .returned (.bool (FormS s xs e t ys f)) ∧ Below w.heap.size w w' := by
 unfold FormS
 cases h1 : formD s xs e with
 | false => simpa using rf6_l h k h1
 | true => cases h2 : formD t ys f with
  | false => simpa using rf6_r h k h1 h2
  | true => simpa using rf6_o h k h1 h2
theorem sform_any {p q : Option Addr} {m c n d : Nat} {w : World} {e f : Int} {s t : Bool} {xs ys : List Nat} (h : At w p m c xs) (k : At w q n d ys) :
  Calls Tryz.prog 17 #[SV s p m c e t q n d f] w fun en w' => en = .returned (.bool (FormS s xs e t ys f)) ∧ Below w.heap.size w w' := by
 unfold FormS
 cases h1 : formD s xs e with
 | false => simpa using sform_l h h1
 | true => cases h2 : formD t ys f with
  | false => simpa using sform_r (formD_dn h h1) k h2
  | true =>
   by_cases h3 : dv (iv s (valB B64 xs)) e ≤ dv (iv t (valB B64 ys)) f
   ·rw [decide_eq_true h3]; exact sform_t (formD_dn h h1) (formD_dn k h2) h3
   ·rw [decide_eq_false h3]; exact sform_g (formD_dn h h1) (formD_dn k h2) (Int.not_le.1 h3)
theorem FormS.dn {p q : Option Addr} {m c n d : Nat} {w : World} {e f : Int} {s t : Bool} {xs ys : List Nat} (h : At w p m c xs) (k : At w q n d ys) (hF : FormS s xs e t ys f = true) : DN w s p m c e (iv s (valB B64 xs)) ∧ DN w t q n d f (iv t (valB B64 ys)) ∧ dv (iv s (valB B64 xs)) e ≤ dv (iv t (valB B64 ys)) f := by
  unfold FormS at hF
  simp only [Bool.and_eq_true, decide_eq_true_eq] at hF
  exact ⟨formD_dn h hF.1, formD_dn k hF.2.1, hF.2.2⟩
theorem FormS.self (s : Bool) (xs : List Nat) (e : Int) : FormS s xs e s xs e = formD s xs e := by
  unfold FormS;rw [decide_eq_true (Int.le_refl _)]
  cases formD s xs e <;> rfl
theorem rsd6 {p q : Option Addr} {m c n d : Nat} {w : World} {e : Int} {s t : Bool} {z : Int} (h : DN w s p m c e z) (k : DN w t q n d e z) :
  Calls Tryz.prog 26 #[DV s p m c e, DV t q n d e] w fun en w' => en = .returned (.bool true) ∧ Below w.heap.size w w' := by
 obtain ⟨xs, hX⟩ := h.zn.ex;obtain ⟨ys, hY⟩ := k.zn.ex;obtain rfl := hX.nf.inj B64_one hY.nf
 obtain rfl : s = t := by rw [h.zn.sg, k.zn.sg]
 have hbb : (s == s) = true := by simp
 have hee : (e == e) = true := by simp
 have A : Hid (At w p m c xs) := hX.at_;have B : Hid (At w q n d xs) := hY.at_;clear h k hX hY
 go_enter Tryz.func26, Tryz.ntmps26
 go_wp2_with fail;obtain ⟨W0, hW0⟩ := exq ((w.alloc (.cells #[.bool s, .slice p m c, .int .i64 e] 26)).alloc (.cells #[.bool s, .slice q n d, .int .i64 e] 26))
 have Xa : Hid (B3q W0 (w.heap.size) (.bool s) (.slice p m c) (.int .i64 e)) := by rw [hW0]; constructor <;> go_simp
 have Xb : Hid (B3q W0 (w.heap.size + 1) (.bool s) (.slice q n d) (.int .i64 e)) := by rw [hW0]; constructor <;> go_simp
 have hb0 := bq2 hW0;rw [← hW0];clear hW0;have hbw := brf w;obtain ⟨gb, hgb⟩ := exq (w.heap.size + 1);have HGb : Hid (w.heap.size ≤ gb) := hgl hgb;rw [← hgb] at Xb
 try rw [← hgb]
 obtain ⟨ga, hga⟩ := exq w.heap.size;have HGa : Hid (w.heap.size ≤ ga) := hgl hga;rw [← hga] at Xa
 try rw [← hga]
 have HGD : Hid (ga ≠ gb ∧ gb ≠ ga) := by rw [hga, hgb]; show _ ∧ _; omega
 clear hga hgb;replace hbw := bon hbw hb0;clear hb0
 refine (same_t (A.out.below hbw) (B.out.below hbw)).mono ?_
 rintro e v1 ⟨rfl, hb1⟩;replace Xa := B3q.b Xa hb1;replace Xb := B3q.b Xb hb1;replace hbw := bon hbw hb1;clear hb1;go_wp2_with fail
 go_ret
 exact ⟨rfl, hbw⟩
theorem rs6 {p1 p2 p3 p4 : Option Addr} {m1 m2 m3 m4 c1 c2 c3 c4 : Nat} {w : World} {e1 e2 : Int} {s1 s2 s3 s4 : Bool} {z1 z2 : Int} (h1 : DN w s1 p1 m1 c1 e1 z1) (h2 : DN w s2 p2 m2 c2 e2 z2) (h3 : DN w s3 p3 m3 c3 e1 z1) (h4 : DN w s4 p4 m4 c4 e2 z2) :
  Calls Tryz.prog 11 #[SV s1 p1 m1 c1 e1 s2 p2 m2 c2 e2, SV s3 p3 m3 c3 e1 s4 p4 m4 c4 e2] w fun en w' => en = .returned (.bool true) ∧ Below w.heap.size w w' := by
 have A1 := hdQ h1;have A2 := hdQ h2;have A3 := hdQ h3;have A4 := hdQ h4;clear h1 h2 h3 h4
 go_enter Tryz.func11, Tryz.ntmps11
 go_wp2_with fail;obtain ⟨W0, hW0⟩ := exq ((w.alloc (.cells #[.bool s1, .slice p1 m1 c1, .int .i64 e1, .bool s2, .slice p2 m2 c2, .int .i64 e2] 28)).alloc (.cells #[.bool s3, .slice p3 m3 c3, .int .i64 e1, .bool s4, .slice p4 m4 c4, .int .i64 e2] 28))
 have Xa : Hid (B6q W0 (w.heap.size) (.bool s1) (.slice p1 m1 c1) (.int .i64 e1) (.bool s2) (.slice p2 m2 c2) (.int .i64 e2)) := by rw [hW0]; constructor <;> go_simp
 have Xb : Hid (B6q W0 (w.heap.size + 1) (.bool s3) (.slice p3 m3 c3) (.int .i64 e1) (.bool s4) (.slice p4 m4 c4) (.int .i64 e2)) := by rw [hW0]; constructor <;> go_simp
 have hb0 := bq2 hW0;rw [← hW0];clear hW0;have hbw := brf w;obtain ⟨gb, hgb⟩ := exq (w.heap.size + 1);have HGb : Hid (w.heap.size ≤ gb) := hgl hgb;rw [← hgb] at Xb
 try rw [← hgb]
 obtain ⟨ga, hga⟩ := exq w.heap.size;have HGa : Hid (w.heap.size ≤ ga) := hgl hga;rw [← hga] at Xa
 try rw [← hga]
 have HGD : Hid (ga ≠ gb ∧ gb ≠ ga) := by rw [hga, hgb]; show _ ∧ _; omega
 clear hga hgb;replace hbw := bon hbw hb0;clear hb0
 refine (rsd6 (A1.out.below hbw) (A3.out.below hbw)).mono ?_
 rintro e v1 ⟨rfl, hb1⟩;replace Xa := B6q.b Xa hb1;replace Xb := B6q.b Xb hb1;replace hbw := bon hbw hb1;clear hb1;obtain ⟨ca0, ca1, ca2, ca3, ca4, ca5, fa0, fa1, fa2, fa3, fa4, fa5⟩ := Xa.out;have hnea : ga < v1.heap.size := blt ca0;obtain ⟨cb0, cb1, cb2, cb3, cb4, cb5, fb0, fb1, fb2, fb3, fb4, fb5⟩ := Xb.out;have hneb : gb < v1.heap.size := blt cb0;go_wp2_with fail;clear ca0 ca1 ca2 ca3 ca4 ca5 fa0 fa1 fa2 fa3 fa4 fa5 hnea cb0 cb1 cb2 cb3 cb4 cb5 fb0 fb1 fb2 fb3 fb4 fb5 hneb
 refine (rsd6 (A2.out.below hbw) (A4.out.below hbw)).mono ?_
 rintro e v2 ⟨rfl, hb2⟩;replace Xa := B6q.b Xa hb2;replace Xb := B6q.b Xb hb2;replace hbw := bon hbw hb2;clear hb2;go_wp2_with fail
 go_ret
 exact ⟨rfl, hbw⟩
theorem lnum6 {p : Option Addr} {m c : Nat} {w : World} {e : Int} {s : Bool} {xs : List Nat} (h : At w p m c xs) (hm : m ≤ 17592186044416) :
  Calls Tryz.prog 10 #[DV s p m c e] w fun en w' => ∃ g, en = .returned (DV s (some ⟨g, 0, none⟩) m m e) ∧ Own w.heap.size w' (some ⟨g, 0, none⟩) m xs ∧ Below w.heap.size w w' := by
 have A := hdQ h;have HM : Hid (m ≤ 17592186044416) := hm;have HL : Hid (xs.length = m ∧ Dig B64 xs) := ⟨h.len, h.dig⟩;clear h hm
 go_enter Tryz.func10, Tryz.ntmps10
 go_wp2_with fail;obtain ⟨W0, hW0⟩ := exq ((w.alloc (.cells #[.bool s, .slice p m c, .int .i64 e] 26)).alloc (.cells #[.bool false, .slice none 0 0, .int .i64 0] 26))
 have Xd : Hid (B3q W0 (w.heap.size) (.bool s) (.slice p m c) (.int .i64 e)) := by rw [hW0]; constructor <;> go_simp
 have Xr : Hid (B3q W0 (w.heap.size + 1) (.bool false) (.slice none 0 0) (.int .i64 0)) := by rw [hW0]; constructor <;> go_simp
 have hb0 := bq2 hW0;rw [← hW0];clear hW0;have hbw := brf w;obtain ⟨gr, hgr⟩ := exq (w.heap.size + 1);have HGr : Hid (w.heap.size ≤ gr) := hgl hgr;rw [← hgr] at Xr
 try rw [← hgr]
 obtain ⟨gd, hgd⟩ := exq w.heap.size;have HGd : Hid (w.heap.size ≤ gd) := hgl hgd;rw [← hgd] at Xd
 try rw [← hgd]
 have HGD : Hid (gd ≠ gr ∧ gr ≠ gd) := by rw [hgd, hgr]; show _ ∧ _; omega
 clear hgd hgr;replace hbw := bon hbw hb0;clear hb0;have HLT : Hid (gd < W0.heap.size ∧ gr < W0.heap.size) := ⟨Xd.out.lt, Xr.out.lt⟩
 refine (twin_any (A.out.below hbw) (by have := HM.out; omega)).mono ?_
 rintro e9 v1 ⟨g1, rfl, hg1, hk1, hb1⟩;have ho1 := hk1.own HL.out.2 hg1;rw [HL.out.1] at ho1;clear hk1 hg1;replace Xd := B3q.b Xd hb1;replace Xr := B3q.b Xr hb1;replace hbw := bon hbw hb1;clear hb1;have O1 := hdQ ho1;clear ho1;obtain ⟨hgd1, hgd2⟩ := HGD.out;obtain ⟨cd0, cd1, cd2, fd0, fd1, fd2⟩ := Xd.out;have hned : gd < v1.heap.size := blt cd0;obtain ⟨cr0, cr1, cr2, fr0, fr1, fr2⟩ := Xr.out;have hner : gr < v1.heap.size := blt cr0;go_wp2_with fail
 refine bodyPost_ret (v := DV s (some ⟨g1, 0, none⟩) m m e) (by rw [results_cell1 rfl]; go_simp) rfl ⟨g1, rfl, ?_, ?_⟩
 ·exact ((((O1.out.setOld _ _ _ HLT.out.1).setOld _ _ _ HLT.out.2).setOld _ _ _ HLT.out.2).setOld _ _ _ HLT.out.2).mono (Nat.le_trans HGd.out (Nat.le_of_lt HLT.out.1))
 ·exact bSet (bSet (bSet (bSet hbw _ _ _ HGd.out) _ _ _ HGr.out) _ _ _ HGr.out) _ _ _ HGr.out
theorem ltwin6 {p q : Option Addr} {m c n d : Nat} {w : World} {e f : Int} {s t : Bool} {xs ys : List Nat} (h : At w p m c xs) (k : At w q n d ys) (hm : m ≤ 17592186044416) (hn : n ≤ 17592186044416) :
  Calls Tryz.prog 6 #[SV s p m c e t q n d f] w fun en w' => ∃ g1 g2, en = .returned (SV s (some ⟨g1, 0, none⟩) m m e t (some ⟨g2, 0, none⟩) n n f) ∧ Own w.heap.size w' (some ⟨g1, 0, none⟩) m xs ∧ Own w.heap.size w' (some ⟨g2, 0, none⟩) n ys ∧ Below w.heap.size w w' := by
 have A := hdQ h;have B := hdQ k;have HM : Hid (m ≤ 17592186044416 ∧ n ≤ 17592186044416) := ⟨hm, hn⟩;clear h k hm hn
 go_enter Tryz.func6, Tryz.ntmps6
 go_wp2_with fail;obtain ⟨W0, hW0⟩ := exq ((w.alloc (.cells #[.bool s, .slice p m c, .int .i64 e, .bool t, .slice q n d, .int .i64 f] 28)).alloc (.cells #[.bool false, .slice none 0 0, .int .i64 0, .bool false, .slice none 0 0, .int .i64 0] 28))
 have Xs : Hid (B6q W0 (w.heap.size) (.bool s) (.slice p m c) (.int .i64 e) (.bool t) (.slice q n d) (.int .i64 f)) := by rw [hW0]; constructor <;> go_simp
 have Xr : Hid (B6q W0 (w.heap.size + 1) (.bool false) (.slice none 0 0) (.int .i64 0) (.bool false) (.slice none 0 0) (.int .i64 0)) := by rw [hW0]; constructor <;> go_simp
 have hb0 := bq2 hW0;rw [← hW0];clear hW0;have hbw := brf w;obtain ⟨gr, hgr⟩ := exq (w.heap.size + 1);have HGr : Hid (w.heap.size ≤ gr) := hgl hgr;rw [← hgr] at Xr
 try rw [← hgr]
 obtain ⟨gs, hgs⟩ := exq w.heap.size;have HGs : Hid (w.heap.size ≤ gs) := hgl hgs;rw [← hgs] at Xs
 try rw [← hgs]
 have HGD : Hid (gs ≠ gr ∧ gr ≠ gs) := by rw [hgs, hgr]; show _ ∧ _; omega
 clear hgs hgr;replace hbw := bon hbw hb0;clear hb0;have HLT : Hid (gr < W0.heap.size ∧ w.heap.size ≤ W0.heap.size) := ⟨Xr.out.lt, hbw.size⟩;obtain ⟨W1, hW1⟩ := exq W0.drew
 have hbd : Below W0.heap.size W0 W1 := by rw [hW1]; exact bDrew1 (Below.refl _ _)
 replace Xs := B6q.b Xs hbd;replace Xr := B6q.b Xr hbd;replace hbw := bon hbw hbd;clear hbd
 have HJ : Hid ((fun W' : World => W'.cell? ⟨gs, 0, none⟩ = some (.bool s) ∧ W'.cell? ⟨gs, 1, none⟩ = some (.slice p m c) ∧ W'.cell? ⟨gs, 2, none⟩ = some (.int .i64 e) ∧ W'.cell? ⟨gs, 3, none⟩ = some (.bool t) ∧ W'.cell? ⟨gs, 4, none⟩ = some (.slice q n d) ∧ W'.cell? ⟨gs, 5, none⟩ = some (.int .i64 f)) W1) := ⟨Xs.out.c0, Xs.out.c1, Xs.out.c2, Xs.out.c3, Xs.out.c4, Xs.out.c5⟩
 refine wp_region_J (fun W' => W'.cell? ⟨gs, 0, none⟩ = some (.bool s) ∧ W'.cell? ⟨gs, 1, none⟩ = some (.slice p m c) ∧ W'.cell? ⟨gs, 2, none⟩ = some (.int .i64 e) ∧ W'.cell? ⟨gs, 3, none⟩ = some (.bool t) ∧ W'.cell? ⟨gs, 4, none⟩ = some (.slice q n d) ∧ W'.cell? ⟨gs, 5, none⟩ = some (.int .i64 f)) (by kernel_rfl) ?_
 rw [← hW1];clear hW1
 refine wpJ_tq 0 rfl HJ.out ?_
 refine wpJ_tq 1 rfl HJ.out ?_
 refine wpJ_tq 3 rfl HJ.out ?_
 refine wpJ_tq 4 rfl HJ.out ?_
 refine wpJ_on 2 rfl fun KJ hK => ?_
 go_simp
 skip
 refine (lnum6 (A.out.below hbw) HM.out.1).mono ?_
 rintro e9 v1 ⟨g1, rfl, ho1, hb1⟩;have ho1 := ho1.mono (B' := gr + 1) Xr.out.lt;replace Xs := B6q.b Xs hb1;replace Xr := B6q.b Xr hb1;replace hbw := bon hbw hb1;clear hb1;have O1 := hdQ ho1;clear ho1
 refine hK _ _ ⟨Xs.out.c0, Xs.out.c1, Xs.out.c2, Xs.out.c3, Xs.out.c4, Xs.out.c5⟩ ?_
 clear hK
 refine wpJ_on 5 rfl fun KJ hK => ?_
 go_simp
 skip
 refine (lnum6 (B.out.below hbw) HM.out.2).mono ?_
 rintro e9 v2 ⟨g2, rfl, ho2, hb2⟩;have ho2 := ho2.mono (B' := gr + 1) Xr.out.lt;replace Xs := B6q.b Xs hb2;replace Xr := B6q.b Xr hb2;replace O1 := Own.b O1 hb2;replace hbw := bon hbw hb2;clear hb2;have O2 := hdQ ho2;clear ho2 HJ
 have HJ : Hid ((fun W' : World => W'.cell? ⟨gs, 0, none⟩ = some (.bool s) ∧ W'.cell? ⟨gs, 1, none⟩ = some (.slice p m c) ∧ W'.cell? ⟨gs, 2, none⟩ = some (.int .i64 e) ∧ W'.cell? ⟨gs, 3, none⟩ = some (.bool t) ∧ W'.cell? ⟨gs, 4, none⟩ = some (.slice q n d) ∧ W'.cell? ⟨gs, 5, none⟩ = some (.int .i64 f)) v2) := ⟨Xs.out.c0, Xs.out.c1, Xs.out.c2, Xs.out.c3, Xs.out.c4, Xs.out.c5⟩
 refine hK _ _ HJ.out ?_
 clear hK
 refine wpJ_tq 6 rfl HJ.out ?_
 obtain ⟨cr0, cr1, cr2, cr3, cr4, cr5, fr0, fr1, fr2, fr3, fr4, fr5⟩ := Xr.out;have hner : gr < v2.heap.size := blt cr0;obtain ⟨cs0, cs1, cs2, cs3, cs4, cs5, fs0, fs1, fs2, fs3, fs4, fs5⟩ := Xs.out;have hnes : gs < v2.heap.size := blt cs0;obtain ⟨hgd0, hgd1⟩ := HGD.out
 refine wpJ_on 7 rfl fun KJ hK => ?_
 go_simp
 have HJ2 : Hid ((fun W' : World => W'.cell? ⟨gs, 0, none⟩ = some (.bool s) ∧ W'.cell? ⟨gs, 1, none⟩ = some (.slice p m c) ∧ W'.cell? ⟨gs, 2, none⟩ = some (.int .i64 e) ∧ W'.cell? ⟨gs, 3, none⟩ = some (.bool t) ∧ W'.cell? ⟨gs, 4, none⟩ = some (.slice q n d) ∧ W'.cell? ⟨gs, 5, none⟩ = some (.int .i64 f)) ((((((v2.setCell ⟨gr, 0, none⟩ (.bool s)).setCell ⟨gr, 1, none⟩ (.slice (some ⟨g1, 0, none⟩) m m)).setCell ⟨gr, 2, none⟩ (.int .i64 e)).setCell ⟨gr, 3, none⟩ (.bool t)).setCell ⟨gr, 4, none⟩ (.slice (some ⟨g2, 0, none⟩) n n)).setCell ⟨gr, 5, none⟩ (.int .i64 f))) := ⟨by go_simp, by go_simp, by go_simp, by go_simp, by go_simp, by go_simp⟩
 refine hK _ _ HJ2.out ?_
 clear hK HJ;have HJ := HJ2;clear HJ2
 refine wpJ_done (by kernel_rfl) ?_ _
 clear HJ;go_wp2_with fail
 refine bodyPost_ret (v := SV s (some ⟨g1, 0, none⟩) m m e t (some ⟨g2, 0, none⟩) n n f) (by rw [results_cell1 rfl]; go_simp) rfl ⟨g1, g2, rfl, ?_, ?_, ?_⟩
 ·exact (((((((O1.out.setOld _ _ _ (Nat.lt_succ_self _)).setOld _ _ _ (Nat.lt_succ_self _)).setOld _ _ _ (Nat.lt_succ_self _)).setOld _ _ _ (Nat.lt_succ_self _)).setOld _ _ _ (Nat.lt_succ_self _)).setOld _ _ _ (Nat.lt_succ_self _)).mono (Nat.le_succ_of_le HGr.out))
 ·exact (((((((O2.out.setOld _ _ _ (Nat.lt_succ_self _)).setOld _ _ _ (Nat.lt_succ_self _)).setOld _ _ _ (Nat.lt_succ_self _)).setOld _ _ _ (Nat.lt_succ_self _)).setOld _ _ _ (Nat.lt_succ_self _)).setOld _ _ _ (Nat.lt_succ_self _)).mono (Nat.le_succ_of_le HGr.out))
 ·exact bSet (bSet (bSet (bSet (bSet (bSet hbw _ _ _ HGr.out) _ _ _ HGr.out) _ _ _ HGr.out) _ _ _ HGr.out) _ _ _ HGr.out) _ _ _ HGr.out
theorem rsmall6 (x : Nat) (hx : x < 9223372036854775808) (w : World) : Calls Tryz.prog 38 #[.int .i64 x] w fun e w' => ∃ g zs, e = .returned (.slice (some ⟨g, 0, none⟩) zs.length zs.length) ∧ zs.length ≤ 2 ∧ At32 w' (some ⟨g, 0, none⟩) zs.length zs.length zs ∧ Nf B32 zs x ∧ Below w.heap.size w w' := by
  have HX : Hid (x < 9223372036854775808) := hx
  have hn : ¬ (x : Int) < 0 := by omega
  have u1 : IntKind.u64.wrap (x : Int) = (x : Int) := by simp [IntKind.wrap, IntKind.signed, IntKind.bits]; omega
  clear hx
  go_enter Tryz.func38, Tryz.ntmps38
  go_wp2_with fail
  refine (rword x (by have := HX.out; unfold B64; omega) w).mono ?_
  rintro e w1 ⟨g, zs, rfl, h1, h2, h3, h4⟩;go_wp2_with fail
  go_ret
  exact ⟨g, zs, rfl, h1, h2, h3, h4⟩
theorem lwhole_p {x : Nat} {w : World} (hx : x ≤ 1000) (ho : x % 2 = 1) :
  Calls Tryz.prog 16 #[.int .i64 ((x : Int))] w fun en w' => ∃ g m c, en = .returned (DV false (some ⟨g, 0, none⟩) m c 0) ∧ w.heap.size ≤ g ∧ DN w' false (some ⟨g, 0, none⟩) m c 0 ((x : Int)) ∧ Below w.heap.size w w' := by
 have HX : Hid (x ≤ 1000 ∧ x % 2 = 1) := ⟨hx, ho⟩
 have hz0 : (((x : Int)) == 0) = false := beq_eq_false_iff_ne.2 (by omega)
 have hz1 : ¬ ((x : Int)) < 0 := by omega
 clear hx ho
 go_enter Tryz.func16, Tryz.ntmps16
 go_wp2_with fail;obtain ⟨W0, hW0⟩ := exq (w.alloc (.cells #[.bool false, .slice none 0 0, .int .i64 0] 26))
 have Xr : Hid (B3q W0 (w.heap.size) (.bool false) (.slice none 0 0) (.int .i64 0)) := by rw [hW0]; constructor <;> go_simp
 have hb0 := bq1 hW0;rw [← hW0];clear hW0;have hbw := brf w;obtain ⟨gr, hgr⟩ := exq w.heap.size;have HGr : Hid (w.heap.size ≤ gr) := hgl hgr;rw [← hgr] at Xr
 try rw [← hgr]
 clear hgr;replace hbw := bon hbw hb0;clear hb0
 refine (rsmall6 x (by have := HX.out; omega) W0).mono ?_
 rintro e9 v1 ⟨g1, zs, rfl, hl1, ha1, hn1, hb1⟩;have N1 : Hid (zs.length ≤ 2 ∧ Nf B32 zs x) := ⟨hl1, hn1⟩;replace Xr := B3q.b Xr hb1;replace hbw := bon hbw hb1;clear hb1;have T1 := hdQ ha1;clear ha1 hl1 hn1;go_wp2_with fail
 refine (rto_any T1.out (by have := N1.out; omega)).mono ?_
 rintro e9 v2 ⟨g2, k2, N2, us, rfl, hg2, ha2, hn2, hb2⟩;have HG2 : Hid (gr < g2 ∧ w.heap.size ≤ g2) := ⟨Nat.lt_of_lt_of_le Xr.out.lt hg2, Nat.le_trans hbw.size hg2⟩;rw [N1.out.2.val] at hn2
 have hd2 : DN v2 false (some ⟨g2, 0, none⟩) k2 N2 0 ((x : Int)) := ⟨⟨⟨us, ⟨ha2, by rw [show ((x : Int)).natAbs = x by omega]; exact hn2, (by have h5 := ha2.len; have h6 := (hn2.len_le B64_one (k := 1)).2 (by have := HX.out.1; rw [Nat.pow_one]; unfold B64; omega); omega)⟩⟩, by have h9 := HX.out; first | (simp; done) | (simp; omega)⟩, .inr ⟨by have := HX.out; omega, by omega, by omega⟩⟩
 clear ha2 hn2 hg2;replace Xr := B3q.b Xr hb2;replace T1 := At32.b T1 hb2;replace hbw := bon hbw hb2;clear hb2;have D2 := hdQ hd2;clear hd2;obtain ⟨cr0, cr1, cr2, fr0, fr1, fr2⟩ := Xr.out;have hner : gr < v2.heap.size := blt cr0;go_wp2_with fail
 refine bodyPost_ret (v := DV false (some ⟨g2, 0, none⟩) k2 N2 0) (by rw [results_cell1 rfl]; go_simp) rfl ⟨g2, k2, N2, rfl, HG2.out.2, ?_, ?_⟩
 ·have hq : k2 = 0 ∨ ∃ g', (some ⟨g2, 0, none⟩ : Option Addr) = some ⟨g', 0, none⟩ ∧ g' ≠ gr := .inr ⟨g2, rfl, Nat.ne_of_gt HG2.out.1⟩
  exact ((D2.out.setOff hq).setOff hq).setOff hq
 ·exact (bSet (bSet (bSet hbw _ _ _ HGr.out) _ _ _ HGr.out) _ _ _ HGr.out)
theorem lwhole_n {x : Nat} {w : World} (hx : x ≤ 1000) (ho : x % 2 = 1) :
  Calls Tryz.prog 16 #[.int .i64 (-(x : Int))] w fun en w' => ∃ g m c, en = .returned (DV true (some ⟨g, 0, none⟩) m c 0) ∧ w.heap.size ≤ g ∧ DN w' true (some ⟨g, 0, none⟩) m c 0 (-(x : Int)) ∧ Below w.heap.size w w' := by
 have HX : Hid (x ≤ 1000 ∧ x % 2 = 1) := ⟨hx, ho⟩
 have hz0 : ((-(x : Int)) == 0) = false := beq_eq_false_iff_ne.2 (by omega)
 have hz1 : (-(x : Int)) < 0 := by omega
 have u1 : wrap64 (x : Int) = (x : Int) := by simp only [wrap64]; omega
 have u2 : IntKind.i64.wrap (x : Int) = (x : Int) := by simp [IntKind.wrap, IntKind.signed, IntKind.bits]; omega
 clear hx ho
 go_enter Tryz.func16, Tryz.ntmps16
 go_wp2_with fail;obtain ⟨W0, hW0⟩ := exq (w.alloc (.cells #[.bool false, .slice none 0 0, .int .i64 0] 26))
 have Xr : Hid (B3q W0 (w.heap.size) (.bool false) (.slice none 0 0) (.int .i64 0)) := by rw [hW0]; constructor <;> go_simp
 have hb0 := bq1 hW0;rw [← hW0];clear hW0;have hbw := brf w;obtain ⟨gr, hgr⟩ := exq w.heap.size;have HGr : Hid (w.heap.size ≤ gr) := hgl hgr;rw [← hgr] at Xr
 try rw [← hgr]
 clear hgr;replace hbw := bon hbw hb0;clear hb0
 refine (rsmall6 x (by have := HX.out; omega) W0).mono ?_
 rintro e9 v1 ⟨g1, zs, rfl, hl1, ha1, hn1, hb1⟩;have N1 : Hid (zs.length ≤ 2 ∧ Nf B32 zs x) := ⟨hl1, hn1⟩;replace Xr := B3q.b Xr hb1;replace hbw := bon hbw hb1;clear hb1;have T1 := hdQ ha1;clear ha1 hl1 hn1;go_wp2_with fail
 refine (rto_any T1.out (by have := N1.out; omega)).mono ?_
 rintro e9 v2 ⟨g2, k2, N2, us, rfl, hg2, ha2, hn2, hb2⟩;have HG2 : Hid (gr < g2 ∧ w.heap.size ≤ g2) := ⟨Nat.lt_of_lt_of_le Xr.out.lt hg2, Nat.le_trans hbw.size hg2⟩;rw [N1.out.2.val] at hn2
 have hd2 : DN v2 true (some ⟨g2, 0, none⟩) k2 N2 0 (-(x : Int)) := ⟨⟨⟨us, ⟨ha2, by rw [show (-(x : Int)).natAbs = x by omega]; exact hn2, (by have h5 := ha2.len; have h6 := (hn2.len_le B64_one (k := 1)).2 (by have := HX.out.1; rw [Nat.pow_one]; unfold B64; omega); omega)⟩⟩, by have h9 := HX.out; first | (simp; done) | (simp; omega)⟩, .inr ⟨by have := HX.out; omega, by omega, by omega⟩⟩
 clear ha2 hn2 hg2;replace Xr := B3q.b Xr hb2;replace T1 := At32.b T1 hb2;replace hbw := bon hbw hb2;clear hb2;have D2 := hdQ hd2;clear hd2;obtain ⟨cr0, cr1, cr2, fr0, fr1, fr2⟩ := Xr.out;have hner : gr < v2.heap.size := blt cr0;go_wp2_with fail
 refine bodyPost_ret (v := DV true (some ⟨g2, 0, none⟩) k2 N2 0) (by rw [results_cell1 rfl]; go_simp) rfl ⟨g2, k2, N2, rfl, HG2.out.2, ?_, ?_⟩
 ·have hq : k2 = 0 ∨ ∃ g', (some ⟨g2, 0, none⟩ : Option Addr) = some ⟨g', 0, none⟩ ∧ g' ≠ gr := .inr ⟨g2, rfl, Nat.ne_of_gt HG2.out.1⟩
  exact ((D2.out.setOff hq).setOff hq).setOff hq
 ·exact (bSet (bSet (bSet hbw _ _ _ HGr.out) _ _ _ HGr.out) _ _ _ HGr.out)
def WhR (w : World) (i : Int) : Prop := ∀ W : World, Below w.heap.size w W → Calls Tryz.prog 16 #[.int .i64 i] W fun en w' => ∃ s g m c, en = .returned (DV s (some ⟨g, 0, none⟩) m c 0) ∧ W.heap.size ≤ g ∧ DN w' s (some ⟨g, 0, none⟩) m c 0 i ∧ Below W.heap.size W w'
theorem whr_p {w : World} (x : Nat) (hx : x ≤ 1000) (ho : x % 2 = 1) : WhR w (x : Int) := fun _ _ => (lwhole_p hx ho).mono fun _ _ ⟨g, m, c, h⟩ => ⟨_, g, m, c, h⟩
theorem whr_n {w : World} (x : Nat) (hx : x ≤ 1000) (ho : x % 2 = 1) : WhR w (-(x : Int)) := fun _ _ => (lwhole_n hx ho).mono fun _ _ ⟨g, m, c, h⟩ => ⟨_, g, m, c, h⟩
theorem lfrom6 {w : World} {i j : Int} (h1 : WhR w i) (h2 : WhR w j) :
  Calls Tryz.prog 13 #[.int .i64 i, .int .i64 j] w fun en w' => ∃ s g m c t k n d, en = .returned (SV s (some ⟨g, 0, none⟩) m c 0 t (some ⟨k, 0, none⟩) n d 0) ∧ DN w' s (some ⟨g, 0, none⟩) m c 0 i ∧ DN w' t (some ⟨k, 0, none⟩) n d 0 j ∧ Below w.heap.size w w' := by
 have H1 : Hid (WhR w i) := h1;have H2 : Hid (WhR w j) := h2;clear h1 h2
 go_enter Tryz.func13, Tryz.ntmps13
 go_wp2_with fail;obtain ⟨W0, hW0⟩ := exq (w.alloc (.cells #[.bool false, .slice none 0 0, .int .i64 0, .bool false, .slice none 0 0, .int .i64 0] 28))
 have Xr : Hid (B6q W0 (w.heap.size) (.bool false) (.slice none 0 0) (.int .i64 0) (.bool false) (.slice none 0 0) (.int .i64 0)) := by rw [hW0]; constructor <;> go_simp
 have hb0 := bq1 hW0;rw [← hW0];clear hW0;have hbw := brf w;obtain ⟨gr, hgr⟩ := exq w.heap.size;have HGr : Hid (w.heap.size ≤ gr) := hgl hgr;rw [← hgr] at Xr
 try rw [← hgr]
 clear hgr;replace hbw := bon hbw hb0;clear hb0
 refine (H1.out _ hbw).mono ?_
 rintro e9 v1 ⟨s1, g1, m1, c1, rfl, hg1, hd1, hb1⟩;have HG1 : Hid (gr < g1) := Nat.lt_of_lt_of_le Xr.out.lt hg1;replace Xr := B6q.b Xr hb1;replace hbw := bon hbw hb1;clear hb1;have D1 := hdQ hd1;clear hd1 hg1;go_wp2_with fail
 refine (H2.out _ hbw).mono ?_
 rintro e9 v2 ⟨s2, g2, m2, c2, rfl, hg2, hd2, hb2⟩;have HG2 : Hid (gr < g2) := Nat.lt_of_lt_of_le Xr.out.lt hg2;replace Xr := B6q.b Xr hb2;replace D1 := DN.b D1 hb2;replace hbw := bon hbw hb2;clear hb2;have D2 := hdQ hd2;clear hd2 hg2;obtain ⟨cr0, cr1, cr2, cr3, cr4, cr5, fr0, fr1, fr2, fr3, fr4, fr5⟩ := Xr.out;have hner : gr < v2.heap.size := blt cr0;go_wp2_with fail
 refine bodyPost_ret (v := SV s1 (some ⟨g1, 0, none⟩) m1 c1 0 s2 (some ⟨g2, 0, none⟩) m2 c2 0) (by rw [results_cell1 rfl]; go_simp) rfl ⟨s1, g1, m1, c1, s2, g2, m2, c2, rfl, ?_, ?_, ?_⟩
 ·have hq : m1 = 0 ∨ ∃ g', (some ⟨g1, 0, none⟩ : Option Addr) = some ⟨g', 0, none⟩ ∧ g' ≠ gr := .inr ⟨g1, rfl, Nat.ne_of_gt HG1.out⟩
  exact (((((D1.out.setOff hq).setOff hq).setOff hq).setOff hq).setOff hq).setOff hq
 ·have hq : m2 = 0 ∨ ∃ g', (some ⟨g2, 0, none⟩ : Option Addr) = some ⟨g', 0, none⟩ ∧ g' ≠ gr := .inr ⟨g2, rfl, Nat.ne_of_gt HG2.out⟩
  exact (((((D2.out.setOff hq).setOff hq).setOff hq).setOff hq).setOff hq).setOff hq
 ·exact (bSet (bSet (bSet (bSet (bSet (bSet hbw _ _ _ HGr.out) _ _ _ HGr.out) _ _ _ HGr.out) _ _ _ HGr.out) _ _ _ HGr.out) _ _ _ HGr.out)
theorem swrong1 {d1 d2 : Dq} {w : World} {P : Int} {g : Nat} (h1 : d1.ok w) (h2 : d2.ok w) (hc1 : d1.v ≤ d2.v) (hP : 1 ≤ P ∧ P ≤ 70000) (hg : w.cell? ⟨g, 0, none⟩ = some (.bool d1.s) ∧ w.cell? ⟨g, 1, none⟩ = some (.slice d1.p d1.m d1.c) ∧ w.cell? ⟨g, 2, none⟩ = some (.int .i64 d1.e) ∧ w.cell? ⟨g, 3, none⟩ = some (.bool d2.s) ∧ w.cell? ⟨g, 4, none⟩ = some (.slice d2.p d2.m d2.c) ∧ w.cell? ⟨g, 5, none⟩ = some (.int .i64 d2.e)) :
  Calls Tryz.prog 27 #[.int .i64 P, .slice (some ⟨g, 0, none⟩) 1 1] w fun en w' => en = .returned (.int .i64 0) ∧ Below w.heap.size w w' := by
 have A1 : Hid (d1.ok w) := h1;have A2 : Hid (d2.ok w) := h2;have HC : Hid (d1.v ≤ d2.v) := hc1
 have hP1 : ¬ P < 1 := by omega
 have hP2 : ¬ 70000 < P := by omega
 have HG : Hid (w.cell? ⟨g, 0, none⟩ = some (.bool d1.s) ∧ w.cell? ⟨g, 1, none⟩ = some (.slice d1.p d1.m d1.c) ∧ w.cell? ⟨g, 2, none⟩ = some (.int .i64 d1.e) ∧ w.cell? ⟨g, 3, none⟩ = some (.bool d2.s) ∧ w.cell? ⟨g, 4, none⟩ = some (.slice d2.p d2.m d2.c) ∧ w.cell? ⟨g, 5, none⟩ = some (.int .i64 d2.e)) := hg;clear h1 h2 hc1 hP hg
 go_enter Tryz.func27, Tryz.ntmps27
 go_wp2_with fail
 obtain ⟨W0, hW0⟩ : ∃ W0 : World, W0 = w := ⟨_, rfl⟩
 have hbw : Below w.heap.size w W0 := by rw [hW0]; exact Below.refl _ _
 rw [← hW0];clear hW0;have HLT : Hid (g < w.heap.size) := World.block_lt_of_cell? w _ HG.out.1
 refine wp_loop_rounds 2 ?_
 rw [rounds_succ];have q0 := (hbw.cell (p := ⟨g, 0, none⟩) HLT.out).trans HG.out.1;have q1 := (hbw.cell (p := ⟨g, 1, none⟩) HLT.out).trans HG.out.2.1;have q2 := (hbw.cell (p := ⟨g, 2, none⟩) HLT.out).trans HG.out.2.2.1;have q3 := (hbw.cell (p := ⟨g, 3, none⟩) HLT.out).trans HG.out.2.2.2.1;have q4 := (hbw.cell (p := ⟨g, 4, none⟩) HLT.out).trans HG.out.2.2.2.2.1;have q5 := (hbw.cell (p := ⟨g, 5, none⟩) HLT.out).trans HG.out.2.2.2.2.2;go_wp2_with fail;clear q0 q1 q2 q3 q4 q5;have Xs00 : Hid (B6q (W0.alloc (.cells #[.bool d1.s, .slice d1.p d1.m d1.c, .int .i64 d1.e, .bool d2.s, .slice d2.p d2.m d2.c, .int .i64 d2.e] 28)) W0.heap.size (.bool d1.s) (.slice d1.p d1.m d1.c) (.int .i64 d1.e) (.bool d2.s) (.slice d2.p d2.m d2.c) (.int .i64 d2.e)) := B6q.new W0 _ _ _ _ _ _ _;have hbn : Below W0.heap.size W0 (W0.alloc (.cells #[.bool d1.s, .slice d1.p d1.m d1.c, .int .i64 d1.e, .bool d2.s, .slice d2.p d2.m d2.c, .int .i64 d2.e] 28)) := below1 W0 _
 generalize W0.alloc (.cells #[.bool d1.s, .slice d1.p d1.m d1.c, .int .i64 d1.e, .bool d2.s, .slice d2.p d2.m d2.c, .int .i64 d2.e] 28) = Ws0 at *;have HGs0 : Hid (w.heap.size ≤ W0.heap.size) := hbw.size;replace hbw := bon hbw hbn;clear hbn;generalize W0.heap.size = gs0 at *;have Xs0 := Xs00;clear Xs00
 refine (sform_t (DN.below A1.out hbw) (DN.below A2.out hbw) HC.out).mono ?_
 rintro e v10 ⟨rfl, hb10⟩;replace Xs0 := B6q.b Xs0 hb10;replace hbw := bon hbw hb10;clear hb10;go_wp2_with fail;clear Xs0;rw [rounds_succ];go_wp2_with fail
 go_ret
 exact ⟨rfl, hbw⟩
theorem swrong2 {d1 d2 d3 d4 : Dq} {w : World} {P : Int} {g : Nat} (h1 : d1.ok w) (h2 : d2.ok w) (h3 : d3.ok w) (h4 : d4.ok w) (hc1 : d1.v ≤ d2.v) (hc2 : d3.v ≤ d4.v) (hP : 1 ≤ P ∧ P ≤ 70000) (hg : w.cell? ⟨g, 0, none⟩ = some (.bool d1.s) ∧ w.cell? ⟨g, 1, none⟩ = some (.slice d1.p d1.m d1.c) ∧ w.cell? ⟨g, 2, none⟩ = some (.int .i64 d1.e) ∧ w.cell? ⟨g, 3, none⟩ = some (.bool d2.s) ∧ w.cell? ⟨g, 4, none⟩ = some (.slice d2.p d2.m d2.c) ∧ w.cell? ⟨g, 5, none⟩ = some (.int .i64 d2.e) ∧ w.cell? ⟨g, 6, none⟩ = some (.bool d3.s) ∧ w.cell? ⟨g, 7, none⟩ = some (.slice d3.p d3.m d3.c) ∧ w.cell? ⟨g, 8, none⟩ = some (.int .i64 d3.e) ∧ w.cell? ⟨g, 9, none⟩ = some (.bool d4.s) ∧ w.cell? ⟨g, 10, none⟩ = some (.slice d4.p d4.m d4.c) ∧ w.cell? ⟨g, 11, none⟩ = some (.int .i64 d4.e)) :
  Calls Tryz.prog 27 #[.int .i64 P, .slice (some ⟨g, 0, none⟩) 2 2] w fun en w' => en = .returned (.int .i64 0) ∧ Below w.heap.size w w' := by
 have A1 : Hid (d1.ok w) := h1;have A2 : Hid (d2.ok w) := h2;have A3 : Hid (d3.ok w) := h3;have A4 : Hid (d4.ok w) := h4;have HC : Hid (d1.v ≤ d2.v ∧ d3.v ≤ d4.v) := ⟨hc1, hc2⟩
 have hP1 : ¬ P < 1 := by omega
 have hP2 : ¬ 70000 < P := by omega
 have HG : Hid (w.cell? ⟨g, 0, none⟩ = some (.bool d1.s) ∧ w.cell? ⟨g, 1, none⟩ = some (.slice d1.p d1.m d1.c) ∧ w.cell? ⟨g, 2, none⟩ = some (.int .i64 d1.e) ∧ w.cell? ⟨g, 3, none⟩ = some (.bool d2.s) ∧ w.cell? ⟨g, 4, none⟩ = some (.slice d2.p d2.m d2.c) ∧ w.cell? ⟨g, 5, none⟩ = some (.int .i64 d2.e) ∧ w.cell? ⟨g, 6, none⟩ = some (.bool d3.s) ∧ w.cell? ⟨g, 7, none⟩ = some (.slice d3.p d3.m d3.c) ∧ w.cell? ⟨g, 8, none⟩ = some (.int .i64 d3.e) ∧ w.cell? ⟨g, 9, none⟩ = some (.bool d4.s) ∧ w.cell? ⟨g, 10, none⟩ = some (.slice d4.p d4.m d4.c) ∧ w.cell? ⟨g, 11, none⟩ = some (.int .i64 d4.e)) := hg;clear h1 h2 h3 h4 hc1 hc2 hP hg
 go_enter Tryz.func27, Tryz.ntmps27
 go_wp2_with fail
 obtain ⟨W0, hW0⟩ : ∃ W0 : World, W0 = w := ⟨_, rfl⟩
 have hbw : Below w.heap.size w W0 := by rw [hW0]; exact Below.refl _ _
 rw [← hW0];clear hW0;have HLT : Hid (g < w.heap.size) := World.block_lt_of_cell? w _ HG.out.1
 refine wp_loop_rounds 3 ?_
 rw [rounds_succ];have q0 := (hbw.cell (p := ⟨g, 0, none⟩) HLT.out).trans HG.out.1;have q1 := (hbw.cell (p := ⟨g, 1, none⟩) HLT.out).trans HG.out.2.1;have q2 := (hbw.cell (p := ⟨g, 2, none⟩) HLT.out).trans HG.out.2.2.1;have q3 := (hbw.cell (p := ⟨g, 3, none⟩) HLT.out).trans HG.out.2.2.2.1;have q4 := (hbw.cell (p := ⟨g, 4, none⟩) HLT.out).trans HG.out.2.2.2.2.1;have q5 := (hbw.cell (p := ⟨g, 5, none⟩) HLT.out).trans HG.out.2.2.2.2.2.1;go_wp2_with fail;clear q0 q1 q2 q3 q4 q5;have Xs00 : Hid (B6q (W0.alloc (.cells #[.bool d1.s, .slice d1.p d1.m d1.c, .int .i64 d1.e, .bool d2.s, .slice d2.p d2.m d2.c, .int .i64 d2.e] 28)) W0.heap.size (.bool d1.s) (.slice d1.p d1.m d1.c) (.int .i64 d1.e) (.bool d2.s) (.slice d2.p d2.m d2.c) (.int .i64 d2.e)) := B6q.new W0 _ _ _ _ _ _ _;have hbn : Below W0.heap.size W0 (W0.alloc (.cells #[.bool d1.s, .slice d1.p d1.m d1.c, .int .i64 d1.e, .bool d2.s, .slice d2.p d2.m d2.c, .int .i64 d2.e] 28)) := below1 W0 _
 generalize W0.alloc (.cells #[.bool d1.s, .slice d1.p d1.m d1.c, .int .i64 d1.e, .bool d2.s, .slice d2.p d2.m d2.c, .int .i64 d2.e] 28) = Ws0 at *;have HGs0 : Hid (w.heap.size ≤ W0.heap.size) := hbw.size;replace hbw := bon hbw hbn;clear hbn;generalize W0.heap.size = gs0 at *;have Xs0 := Xs00;clear Xs00
 refine (sform_t (DN.below A1.out hbw) (DN.below A2.out hbw) HC.out.1).mono ?_
 rintro e v10 ⟨rfl, hb10⟩;replace Xs0 := B6q.b Xs0 hb10;replace hbw := bon hbw hb10;clear hb10;go_wp2_with fail;clear Xs0;rw [rounds_succ];have q0 := (hbw.cell (p := ⟨g, 6, none⟩) HLT.out).trans HG.out.2.2.2.2.2.2.1;have q1 := (hbw.cell (p := ⟨g, 7, none⟩) HLT.out).trans HG.out.2.2.2.2.2.2.2.1;have q2 := (hbw.cell (p := ⟨g, 8, none⟩) HLT.out).trans HG.out.2.2.2.2.2.2.2.2.1;have q3 := (hbw.cell (p := ⟨g, 9, none⟩) HLT.out).trans HG.out.2.2.2.2.2.2.2.2.2.1;have q4 := (hbw.cell (p := ⟨g, 10, none⟩) HLT.out).trans HG.out.2.2.2.2.2.2.2.2.2.2.1;have q5 := (hbw.cell (p := ⟨g, 11, none⟩) HLT.out).trans HG.out.2.2.2.2.2.2.2.2.2.2.2;go_wp2_with fail;clear q0 q1 q2 q3 q4 q5;have Xs10 : Hid (B6q (v10.alloc (.cells #[.bool d3.s, .slice d3.p d3.m d3.c, .int .i64 d3.e, .bool d4.s, .slice d4.p d4.m d4.c, .int .i64 d4.e] 28)) v10.heap.size (.bool d3.s) (.slice d3.p d3.m d3.c) (.int .i64 d3.e) (.bool d4.s) (.slice d4.p d4.m d4.c) (.int .i64 d4.e)) := B6q.new v10 _ _ _ _ _ _ _
 have hbn : Below v10.heap.size v10 (v10.alloc (.cells #[.bool d3.s, .slice d3.p d3.m d3.c, .int .i64 d3.e, .bool d4.s, .slice d4.p d4.m d4.c, .int .i64 d4.e] 28)) := below1 v10 _;generalize v10.alloc (.cells #[.bool d3.s, .slice d3.p d3.m d3.c, .int .i64 d3.e, .bool d4.s, .slice d4.p d4.m d4.c, .int .i64 d4.e] 28) = Ws1 at *;have HGs1 : Hid (w.heap.size ≤ v10.heap.size) := hbw.size;replace hbw := bon hbw hbn;clear hbn;generalize v10.heap.size = gs1 at *;have Xs1 := Xs10;clear Xs10
 refine (sform_t (DN.below A3.out hbw) (DN.below A4.out hbw) HC.out.2).mono ?_
 rintro e v11 ⟨rfl, hb11⟩;replace Xs1 := B6q.b Xs1 hb11;replace hbw := bon hbw hb11;clear hb11;go_wp2_with fail;clear Xs1;rw [rounds_succ];go_wp2_with fail
 go_ret
 exact ⟨rfl, hbw⟩
def MPd (B : Nat) (w : World) (s : Bool) (p : Option Addr) (m : Nat) (eo er z e : Int) : Prop :=
 (er = 0 ∧ ∃ zo, DO B w s p m eo zo ∧ dv zo eo = dv z e) ∨ (er = 5 ∧ s = false ∧ p = none ∧ m = 0 ∧ eo = 0 ∧ ∀ zo eo, DFm zo eo → dv zo eo ≠ dv z e)
theorem MP.mpd {B : Nat} {w : World} {s : Bool} {p : Option Addr} {m : Nat} {eo er z e : Int} (h : MP B w s p m eo er z e) : MPd B w s p m eo er z e := by
  rcases h with ⟨h1, zo, zs, h2, h3, h4, h5, h6, h7⟩ | h
  · exact .inl ⟨h1, zo, ⟨⟨zs, h3, h4, h5⟩, h2, h6⟩, h7⟩
  · exact .inr h
theorem MPd.below {B : Nat} {w w' : World} {s : Bool} {p : Option Addr} {m : Nat} {eo er z e : Int} (h : MPd B w s p m eo er z e) (hb : Below w.heap.size w w') : MPd B w' s p m eo er z e := h.imp (fun ⟨h1, zo, h2, h3⟩ => ⟨h1, zo, h2.below hb, h3⟩) id
theorem MPd.b {B : Nat} {w w' : World} {s : Bool} {p : Option Addr} {m : Nat} {eo er z e : Int} (h : Hid (MPd B w s p m eo er z e)) (hb : Below w.heap.size w w') : Hid (MPd B w' s p m eo er z e) := MPd.below h hb
theorem MPd.mono {B B' : Nat} {w : World} {s : Bool} {p : Option Addr} {m : Nat} {eo er z e : Int} (h : MPd B w s p m eo er z e) (hb : B' ≤ B) : MPd B' w s p m eo er z e := h.imp (fun ⟨h1, zo, h2, h3⟩ => ⟨h1, zo, h2.mono hb, h3⟩) id
theorem MPd.set6 {B b : Nat} {w : World} {s : Bool} {p : Option Addr} {m : Nat} {eo er z e : Int} (h : MPd B w s p m eo er z e) {g : Nat} (hg : g < B) (hb : b ≤ B) (v0 v1 v2 v3 v4 v5 : Value) : MPd b ((((((w.setCell ⟨g, 0, none⟩ v0).setCell ⟨g, 1, none⟩ v1).setCell ⟨g, 2, none⟩ v2).setCell ⟨g, 3, none⟩ v3).setCell ⟨g, 4, none⟩ v4).setCell ⟨g, 5, none⟩ v5) s p m eo er z e := h.imp (fun ⟨h1, zo, h2, h3⟩ => ⟨h1, zo, h2.set6 hg hb v0 v1 v2 v3 v4 v5, h3⟩) id
def BtR (s : Bool) (p : Option Addr) (m : Nat) (e er : Int) (t : Bool) (q : Option Addr) (n : Nat) (f fr : Int) (s' : Bool) (p' : Option Addr) (m' : Nat) (e' : Int) (t' : Bool) (q' : Option Addr) (n' : Nat) (f' er' : Int) : Prop :=
 (er = 0 ∧ fr = 0 ∧ er' = 0 ∧ s' = s ∧ p' = p ∧ m' = m ∧ e' = e ∧ t' = t ∧ q' = q ∧ n' = n ∧ f' = f) ∨ ((er = 5 ∨ fr = 5) ∧ er' = 5 ∧ s' = false ∧ p' = none ∧ m' = 0 ∧ e' = 0 ∧ t' = false ∧ q' = none ∧ n' = 0 ∧ f' = 0)
def OutR (B : Nat) (w : World) (en : Ending) (z1 e1 z2 e2 : Int) : Prop :=
 (∃ zl el zh eh, SpA B w en zl el zh eh ∧ dv zl el = dv z1 e1 ∧ dv zh eh = dv z2 e2) ∨ (en = .returned (.tuple #[SV false none 0 0 0 false none 0 0 0, .int .i64 5]) ∧ ((∀ zo eo, DFm zo eo → dv zo eo ≠ dv z1 e1) ∨ (∀ zo eo, DFm zo eo → dv zo eo ≠ dv z2 e2)))
theorem BtR.out {B : Nat} {w : World} {s : Bool} {p : Option Addr} {m : Nat} {e er : Int} {t : Bool} {q : Option Addr} {n : Nat} {f fr : Int} {s' : Bool} {p' : Option Addr} {m' : Nat} {e' : Int} {t' : Bool} {q' : Option Addr} {n' : Nat} {f' er' z1 e1 z2 e2 : Int} (h : BtR s p m e er t q n f fr s' p' m' e' t' q' n' f' er') (h1 : MPd B w s p m e er z1 e1) (h2 : MPd B w t q n f fr z2 e2) :
  OutR B w (.returned (.tuple #[SV s' p' m' m' e' t' q' n' n' f', .int .i64 er'])) z1 e1 z2 e2 := by
 rcases h with ⟨rfl, rfl, rfl, rfl, rfl, rfl, rfl, rfl, rfl, rfl, rfl⟩ | ⟨h, rfl, rfl, rfl, rfl, rfl, rfl, rfl, rfl, rfl⟩
 ·rcases h1 with ⟨_, zl, h1, h3⟩ | ⟨h1, _⟩
  ·rcases h2 with ⟨_, zh, h2, h4⟩ | ⟨h2, _⟩
   ·exact .inl ⟨zl, _, zh, _, ⟨_, _, _, _, _, _, rfl, h1, h2⟩, h3, h4⟩
   ·cases h2
  ·cases h1
 ·refine .inr ⟨rfl, ?_⟩
  rcases h with h | h
  ·rcases h1 with ⟨h3, _⟩ | ⟨_, _, _, _, _, h3⟩
   ·omega
   ·exact .inl h3
  ·rcases h2 with ⟨h3, _⟩ | ⟨_, _, _, _, _, h3⟩
   ·omega
   ·exact .inr h3
theorem MPd.er {B : Nat} {w : World} {s : Bool} {p : Option Addr} {m : Nat} {eo er z e : Int} (h : MPd B w s p m eo er z e) : er = 0 ∨ er = 5 := h.imp (fun h => h.1) (fun h => h.1)
abbrev EVr (s : Bool) (p : Option Addr) (m c : Nat) (e er : Int) : Value := .agg #[.bool s, .slice p m c, .int .i64 e, .int .i64 er]
theorem stold_g {p : Option Addr} {m c : Nat} {w : World} {e er : Int} {s : Bool} :
  Calls Tryz.prog 29 #[DV s p m c e, .int .i64 er] w fun en w' => en = .returned (EVr s p m c e er) ∧ Below w.heap.size w w' := by
 go_enter Tryz.func29, Tryz.ntmps29
 go_wp2_with fail
 refine bodyPost_ret (v := EVr s p m c e er) (by rw [results_cell1 rfl]; go_simp) rfl ⟨rfl, ?_⟩
 first | exact Below.on (below1 w _) (below1 _ _) | exact below2 w _ _ | exact below1 w _ | exact Below.on (below2 w _ _) (below1 _ _)
theorem sbetw_ok {p q : Option Addr} {m n : Nat} {w : World} {e f er fr : Int} {s t : Bool} (he : er = 0) (hf : fr = 0) :
  Calls Tryz.prog 28 #[EVr s p m m e er, EVr t q n n f fr] w fun en w' => en = .returned (.tuple #[SV s p m m e t q n n f, .int .i64 0]) ∧ Below w.heap.size w w' := by
 subst he hf
 go_enter Tryz.func28, Tryz.ntmps28
 go_wp2_with fail
 refine bodyPost_ret (v := .tuple #[SV s p m m e t q n n f, .int .i64 0]) (by rw [results_cell_tmp rfl]; go_simp) rfl ⟨rfl, ?_⟩
 first | exact below3 w _ _ _ | exact Below.on (below2 w _ _) (below1 _ _)
theorem sbetw_l {p q : Option Addr} {m n : Nat} {w : World} {e f er fr : Int} {s t : Bool} (he : er = 5) (hf : fr = 0 ∨ fr = 5) :
  Calls Tryz.prog 28 #[EVr s p m m e er, EVr t q n n f fr] w fun en w' => en = .returned (.tuple #[SV false none 0 0 0 false none 0 0 0, .int .i64 5]) ∧ Below w.heap.size w w' := by
 subst he
 have hmx : max (5 : Int) fr = 5 := by omega
 go_enter Tryz.func28, Tryz.ntmps28
 go_wp2_with fail
 refine bodyPost_ret (v := .tuple #[SV false none 0 0 0 false none 0 0 0, .int .i64 5]) (by rw [results_cell_tmp rfl]; go_simp) rfl ⟨rfl, ?_⟩
 exact below3 w _ _ _
theorem sbetw_r {p q : Option Addr} {m n : Nat} {w : World} {e f er fr : Int} {s t : Bool} (he : er = 0) (hf : fr = 5) :
  Calls Tryz.prog 28 #[EVr s p m m e er, EVr t q n n f fr] w fun en w' => en = .returned (.tuple #[SV false none 0 0 0 false none 0 0 0, .int .i64 5]) ∧ Below w.heap.size w w' := by
 subst he hf
 have hmx : max (0 : Int) 5 = 5 := by omega
 go_enter Tryz.func28, Tryz.ntmps28
 go_wp2_with fail
 refine bodyPost_ret (v := .tuple #[SV false none 0 0 0 false none 0 0 0, .int .i64 5]) (by rw [results_cell_tmp rfl]; go_simp) rfl ⟨rfl, ?_⟩
 exact below3 w _ _ _
theorem sbetw_g {p q : Option Addr} {m n : Nat} {w : World} {e f er fr : Int} {s t : Bool} (he : er = 0 ∨ er = 5) (hf : fr = 0 ∨ fr = 5) :
  Calls Tryz.prog 28 #[EVr s p m m e er, EVr t q n n f fr] w fun en w' => (∃ s' p' m' e' t' q' n' f' er', en = .returned (.tuple #[SV s' p' m' m' e' t' q' n' n' f', .int .i64 er']) ∧ BtR s p m e er t q n f fr s' p' m' e' t' q' n' f' er') ∧ Below w.heap.size w w' := by
 rcases he with he | he
 ·rcases hf with hf | hf
  ·exact (sbetw_ok he hf).mono fun en w' ⟨h1, h2⟩ => ⟨⟨_, _, _, _, _, _, _, _, _, h1, .inl ⟨he, hf, rfl, rfl, rfl, rfl, rfl, rfl, rfl, rfl, rfl⟩⟩, h2⟩
  ·exact (sbetw_r he hf).mono fun en w' ⟨h1, h2⟩ => ⟨⟨_, _, _, _, _, _, _, _, _, h1, .inr ⟨.inr hf, rfl, rfl, rfl, rfl, rfl, rfl, rfl, rfl, rfl⟩⟩, h2⟩
 ·exact (sbetw_l he hf).mono fun en w' ⟨h1, h2⟩ => ⟨⟨_, _, _, _, _, _, _, _, _, h1, .inr ⟨.inl he, rfl, rfl, rfl, rfl, rfl, rfl, rfl, rfl, rfl⟩⟩, h2⟩
theorem sout {d1 d2 : Dq} {w : World} {P K1 K2 : Nat} (h1 : d1.ok w) (h2 : d2.ok w) (hc : d1.v ≤ d2.v) (hP : 1 ≤ P ∧ P ≤ 70000) (hK1 : K1 = bitsN d1.z.natAbs - P) (hK2 : K2 = bitsN d2.z.natAbs - P) (hT : Tab w) :
  Calls Tryz.prog 31 #[SQ d1 d2, .int .i64 P] w fun en w' => OutR w.heap.size w' en (rd false d1.z (2 ^ K1)) (d1.e + K1) (rd true d2.z (2 ^ K2)) (d2.e + K2) ∧ Below w.heap.size w w' := by
 have A1 : Hid (d1.ok w) := h1;have A2 : Hid (d2.ok w) := h2;have HC : Hid (d1.v ≤ d2.v) := hc;have HP : Hid (1 ≤ P ∧ P ≤ 70000) := hP;have HK : Hid (K1 = bitsN d1.z.natAbs - P ∧ K2 = bitsN d2.z.natAbs - P) := ⟨hK1, hK2⟩;have TB : Hid (Tab w) := hT;clear h1 h2 hc hP hK1 hK2 hT
 go_enter Tryz.func31, Tryz.ntmps31
 go_wp2_with fail;obtain ⟨W0, hW0⟩ := exq (((w.alloc (.cells #[.bool d1.s, .slice d1.p d1.m d1.c, .int .i64 d1.e, .bool d2.s, .slice d2.p d2.m d2.c, .int .i64 d2.e] 28)).alloc (.cells #[.bool false, .slice none 0 0, .int .i64 0, .bool false, .slice none 0 0, .int .i64 0] 28)).alloc (.cells #[.bool d1.s, .slice d1.p d1.m d1.c, .int .i64 d1.e, .bool d2.s, .slice d2.p d2.m d2.c, .int .i64 d2.e] 28))
 have Xs : Hid (B6q W0 (w.heap.size) (.bool d1.s) (.slice d1.p d1.m d1.c) (.int .i64 d1.e) (.bool d2.s) (.slice d2.p d2.m d2.c) (.int .i64 d2.e)) := by rw [hW0]; constructor <;> go_simp
 have Xr : Hid (B6q W0 (w.heap.size + 1) (.bool false) (.slice none 0 0) (.int .i64 0) (.bool false) (.slice none 0 0) (.int .i64 0)) := by rw [hW0]; constructor <;> go_simp
 have Xl : Hid (B6q W0 (w.heap.size + 1 + 1) (.bool d1.s) (.slice d1.p d1.m d1.c) (.int .i64 d1.e) (.bool d2.s) (.slice d2.p d2.m d2.c) (.int .i64 d2.e)) := by rw [hW0]; constructor <;> go_simp
 have hb0 := bq3 hW0;rw [← hW0];clear hW0;have hbw := brf w;obtain ⟨gl, hgl⟩ := exq (w.heap.size + 1 + 1)
 have HGl : Hid (w.heap.size ≤ gl) := by rw [hgl]; show _ ≤ _; omega
 rw [← hgl] at Xl
 try rw [← hgl]
 obtain ⟨gr, hgr⟩ := exq (w.heap.size + 1)
 have HGr : Hid (w.heap.size ≤ gr) := by rw [hgr]; show _ ≤ _; omega
 rw [← hgr] at Xr
 try rw [← hgr]
 obtain ⟨gs, hgs⟩ := exq w.heap.size
 have HGs : Hid (w.heap.size ≤ gs) := by rw [hgs]; show _ ≤ _; omega
 rw [← hgs] at Xs
 try rw [← hgs]
 have HGD : Hid (gs ≠ gr ∧ gs ≠ gl ∧ gr ≠ gs ∧ gr ≠ gl ∧ gl ≠ gs ∧ gl ≠ gr) := by rw [hgs, hgr, hgl]; show _ ∧ _; omega
 clear hgs hgr hgl;replace hbw := bon hbw hb0;clear hb0
 refine (swrong1 (DN.below A1.out hbw) (DN.below A2.out hbw) HC.out (by have := HP.out; omega) ⟨Xl.out.c0, Xl.out.c1, Xl.out.c2, Xl.out.c3, Xl.out.c4, Xl.out.c5⟩).mono ?_
 rintro e v1 ⟨rfl, hb1⟩;replace Xs := B6q.b Xs hb1;replace Xr := B6q.b Xr hb1;replace Xl := B6q.b Xl hb1;replace hbw := bon hbw hb1;clear hb1;obtain ⟨cs0, cs1, cs2, cs3, cs4, cs5, fs0, fs1, fs2, fs3, fs4, fs5⟩ := Xs.out;have hnes : gs < v1.heap.size := blt cs0;go_wp2_with fail;clear cs0 cs1 cs2 cs3 cs4 cs5 fs0 fs1 fs2 fs3 fs4 fs5 hnes Xl;obtain ⟨W5, hW5⟩ := exq v1.drew
 have hbd : Below v1.heap.size v1 W5 := by rw [hW5]; exact bDrew1 (Below.refl _ _)
 replace Xs := B6q.b Xs hbd;replace Xr := B6q.b Xr hbd;replace hbw := bon hbw hbd;clear hbd
 have HJ : Hid ((fun W' : World => W'.cell? ⟨gs, 0, none⟩ = some (.bool d1.s) ∧ W'.cell? ⟨gs, 1, none⟩ = some (.slice d1.p d1.m d1.c) ∧ W'.cell? ⟨gs, 2, none⟩ = some (.int .i64 d1.e) ∧ W'.cell? ⟨gs, 3, none⟩ = some (.bool d2.s) ∧ W'.cell? ⟨gs, 4, none⟩ = some (.slice d2.p d2.m d2.c) ∧ W'.cell? ⟨gs, 5, none⟩ = some (.int .i64 d2.e)) W5) := ⟨Xs.out.c0, Xs.out.c1, Xs.out.c2, Xs.out.c3, Xs.out.c4, Xs.out.c5⟩
 refine wp_region_J (fun W' => W'.cell? ⟨gs, 0, none⟩ = some (.bool d1.s) ∧ W'.cell? ⟨gs, 1, none⟩ = some (.slice d1.p d1.m d1.c) ∧ W'.cell? ⟨gs, 2, none⟩ = some (.int .i64 d1.e) ∧ W'.cell? ⟨gs, 3, none⟩ = some (.bool d2.s) ∧ W'.cell? ⟨gs, 4, none⟩ = some (.slice d2.p d2.m d2.c) ∧ W'.cell? ⟨gs, 5, none⟩ = some (.int .i64 d2.e)) (by kernel_rfl) ?_
 rw [← hW5];clear hW5
 refine wpJ_tq 0 rfl HJ.out ?_
 refine wpJ_tq 1 rfl HJ.out ?_
 refine wpJ_tq 2 rfl HJ.out ?_
 refine wpJ_tq 7 rfl HJ.out ?_
 refine wpJ_tq 8 rfl HJ.out ?_
 go_simp
 refine wpJ_tq 9 rfl HJ.out ?_
 refine wpJ_on 3 rfl fun KJ hK => ?_
 go_simp
 refine (bits_d (K := K1) (DN.below A1.out hbw) HP.out HK.out.1 (TB.out.below hbw)).mono ?_
 rintro e9 v2 ⟨hv, hb2⟩;obtain ⟨s2, p2, m2, o2, r2, rfl, hmp2⟩ := hv.open;have hmp2 := (hmp2.mpd).mono (B' := gr + 1) Xr.out.lt;clear hv;replace Xs := B6q.b Xs hb2;replace Xr := B6q.b Xr hb2;replace hbw := bon hbw hb2;clear hb2;have M2 := hdQ hmp2;clear hmp2 HJ
 have HJ : Hid ((fun W' : World => W'.cell? ⟨gs, 0, none⟩ = some (.bool d1.s) ∧ W'.cell? ⟨gs, 1, none⟩ = some (.slice d1.p d1.m d1.c) ∧ W'.cell? ⟨gs, 2, none⟩ = some (.int .i64 d1.e) ∧ W'.cell? ⟨gs, 3, none⟩ = some (.bool d2.s) ∧ W'.cell? ⟨gs, 4, none⟩ = some (.slice d2.p d2.m d2.c) ∧ W'.cell? ⟨gs, 5, none⟩ = some (.int .i64 d2.e)) v2) := ⟨Xs.out.c0, Xs.out.c1, Xs.out.c2, Xs.out.c3, Xs.out.c4, Xs.out.c5⟩
 refine hK _ _ HJ.out ?_
 clear hK
 refine wpJ_tq 4 rfl HJ.out ?_
 refine wpJ_tq 5 rfl HJ.out ?_
 refine wpJ_on 6 rfl fun KJ hK => ?_
 go_simp
 refine (stold_g).mono ?_
 rintro e v3 ⟨rfl, hb3⟩;replace Xs := B6q.b Xs hb3;replace Xr := B6q.b Xr hb3;replace M2 := MPd.b M2 hb3;replace hbw := bon hbw hb3;clear hb3
 refine hK _ _ ⟨Xs.out.c0, Xs.out.c1, Xs.out.c2, Xs.out.c3, Xs.out.c4, Xs.out.c5⟩ ?_
 clear hK
 refine wpJ_on 10 rfl fun KJ hK => ?_
 go_simp
 refine (bits_u (K := K2) (DN.below A2.out hbw) HP.out HK.out.2 (TB.out.below hbw)).mono ?_
 rintro e9 v4 ⟨hv, hb4⟩;obtain ⟨s4, p4, m4, o4, r4, rfl, hmp4⟩ := hv.open;have hmp4 := (hmp4.mpd).mono (B' := gr + 1) Xr.out.lt;clear hv;replace Xs := B6q.b Xs hb4;replace Xr := B6q.b Xr hb4;replace M2 := MPd.b M2 hb4;replace hbw := bon hbw hb4;clear hb4;have M4 := hdQ hmp4;clear hmp4 HJ
 have HJ : Hid ((fun W' : World => W'.cell? ⟨gs, 0, none⟩ = some (.bool d1.s) ∧ W'.cell? ⟨gs, 1, none⟩ = some (.slice d1.p d1.m d1.c) ∧ W'.cell? ⟨gs, 2, none⟩ = some (.int .i64 d1.e) ∧ W'.cell? ⟨gs, 3, none⟩ = some (.bool d2.s) ∧ W'.cell? ⟨gs, 4, none⟩ = some (.slice d2.p d2.m d2.c) ∧ W'.cell? ⟨gs, 5, none⟩ = some (.int .i64 d2.e)) v4) := ⟨Xs.out.c0, Xs.out.c1, Xs.out.c2, Xs.out.c3, Xs.out.c4, Xs.out.c5⟩
 refine hK _ _ HJ.out ?_
 clear hK
 refine wpJ_tq 11 rfl HJ.out ?_
 refine wpJ_tq 12 rfl HJ.out ?_
 refine wpJ_on 13 rfl fun KJ hK => ?_
 go_simp
 refine (stold_g).mono ?_
 rintro e v5 ⟨rfl, hb5⟩;replace Xs := B6q.b Xs hb5;replace Xr := B6q.b Xr hb5;replace M2 := MPd.b M2 hb5;replace M4 := MPd.b M4 hb5;replace hbw := bon hbw hb5;clear hb5
 refine hK _ _ ⟨Xs.out.c0, Xs.out.c1, Xs.out.c2, Xs.out.c3, Xs.out.c4, Xs.out.c5⟩ ?_
 clear hK
 refine wpJ_on 14 rfl fun KJ hK => ?_
 go_simp
 refine (sbetw_g M2.out.er M4.out.er).mono ?_
 rintro e9 v6 ⟨⟨s6, p6, m6, e6, t6, q6, n6, f6, r6, rfl, hbt⟩, hb6⟩;have HBT := hdQ hbt;clear hbt;replace Xs := B6q.b Xs hb6;replace Xr := B6q.b Xr hb6;replace M2 := MPd.b M2 hb6;replace M4 := MPd.b M4 hb6;replace hbw := bon hbw hb6;clear hb6 HJ
 have HJ : Hid ((fun W' : World => W'.cell? ⟨gs, 0, none⟩ = some (.bool d1.s) ∧ W'.cell? ⟨gs, 1, none⟩ = some (.slice d1.p d1.m d1.c) ∧ W'.cell? ⟨gs, 2, none⟩ = some (.int .i64 d1.e) ∧ W'.cell? ⟨gs, 3, none⟩ = some (.bool d2.s) ∧ W'.cell? ⟨gs, 4, none⟩ = some (.slice d2.p d2.m d2.c) ∧ W'.cell? ⟨gs, 5, none⟩ = some (.int .i64 d2.e)) v6) := ⟨Xs.out.c0, Xs.out.c1, Xs.out.c2, Xs.out.c3, Xs.out.c4, Xs.out.c5⟩
 refine hK _ _ HJ.out ?_
 clear hK
 refine wpJ_tq 15 rfl HJ.out ?_
 refine wpJ_tq 16 rfl HJ.out ?_
 obtain ⟨cr0, cr1, cr2, cr3, cr4, cr5, fr0, fr1, fr2, fr3, fr4, fr5⟩ := Xr.out;have hner : gr < v6.heap.size := blt cr0;obtain ⟨cs0, cs1, cs2, cs3, cs4, cs5, fs0, fs1, fs2, fs3, fs4, fs5⟩ := Xs.out;have hnes : gs < v6.heap.size := blt cs0;obtain ⟨hgd0, hgd1, hgd2, hgd3, hgd4, hgd5⟩ := HGD.out
 refine wpJ_on 17 rfl fun KJ hK => ?_
 go_simp
 have HJ2 : Hid ((fun W' : World => W'.cell? ⟨gs, 0, none⟩ = some (.bool d1.s) ∧ W'.cell? ⟨gs, 1, none⟩ = some (.slice d1.p d1.m d1.c) ∧ W'.cell? ⟨gs, 2, none⟩ = some (.int .i64 d1.e) ∧ W'.cell? ⟨gs, 3, none⟩ = some (.bool d2.s) ∧ W'.cell? ⟨gs, 4, none⟩ = some (.slice d2.p d2.m d2.c) ∧ W'.cell? ⟨gs, 5, none⟩ = some (.int .i64 d2.e)) ((((((v6.setCell ⟨gr, 0, none⟩ (.bool s6)).setCell ⟨gr, 1, none⟩ (.slice p6 m6 m6)).setCell ⟨gr, 2, none⟩ (.int .i64 e6)).setCell ⟨gr, 3, none⟩ (.bool t6)).setCell ⟨gr, 4, none⟩ (.slice q6 n6 n6)).setCell ⟨gr, 5, none⟩ (.int .i64 f6))) := ⟨by go_simp, by go_simp, by go_simp, by go_simp, by go_simp, by go_simp⟩
 refine hK _ _ HJ2.out ?_
 clear hK HJ;have HJ := HJ2;clear HJ2
 refine wpJ_tq 18 rfl HJ.out ?_
 refine wpJ_done (by kernel_rfl) ?_ _
 clear HJ;go_wp2_with fail
 refine bodyPost_ret (v := .tuple #[SV s6 p6 m6 m6 e6 t6 q6 n6 n6 f6, .int .i64 r6]) (by rw [results_cell_tmp rfl]; go_simp) rfl ⟨?_, ?_⟩
 ·exact HBT.out.out (M2.out.set6 (Nat.lt_succ_self _) (Nat.le_succ_of_le HGr.out) _ _ _ _ _ _) (M4.out.set6 (Nat.lt_succ_self _) (Nat.le_succ_of_le HGr.out) _ _ _ _ _ _)
 ·exact (bSet (bSet (bSet (bSet (bSet (bSet hbw _ _ _ HGr.out) _ _ _ HGr.out) _ _ _ HGr.out) _ _ _ HGr.out) _ _ _ HGr.out) _ _ _ HGr.out)
end Go.Proofs.YtpdelpakgdanlaaGreatDoor
