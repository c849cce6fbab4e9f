import Derived.Test.YtpdelpakgdanlaaGreatDoorJ17
import Derived.Test.YtpdelpakgdanlaaGreatDoorJ13
import Derived.Test.YtpdelpakgdanlaaGreatDoorJ15
import Derived.Test.YtpdelpakgdanlaaGreatDoorJ12
import Derived.Test.YtpdelpakgdanlaaGreatDoorJ9
import Derived.Laws.OwnMore
import Derived.Deep.AppendLies
import Derived.Maps.AppendAt
import Derived.Deep.LoopGhost
namespace Go.Proofs.YtpdelpakgdanlaaGreatDoor
open Go.RowKit Go.Shelf
set_option maxRecDepth 20000
set_option maxHeartbeats 0
structure B12q (W : World) (g : Nat) (v0 v1 v2 v3 v4 v5 v6 v7 v8 v9 v10 v11 : Value) : Prop where
 c0 : W.cell? ⟨g, 0, none⟩ = some v0
 c1 : W.cell? ⟨g, 1, none⟩ = some v1
 c2 : W.cell? ⟨g, 2, none⟩ = some v2
 c3 : W.cell? ⟨g, 3, none⟩ = some v3
 c4 : W.cell? ⟨g, 4, none⟩ = some v4
 c5 : W.cell? ⟨g, 5, none⟩ = some v5
 c6 : W.cell? ⟨g, 6, none⟩ = some v6
 c7 : W.cell? ⟨g, 7, none⟩ = some v7
 c8 : W.cell? ⟨g, 8, none⟩ = some v8
 c9 : W.cell? ⟨g, 9, none⟩ = some v9
 c10 : W.cell? ⟨g, 10, none⟩ = some v10
 c11 : W.cell? ⟨g, 11, none⟩ = some v11
 f0 : W.frozen? ⟨g, 0, none⟩ = false
 f1 : W.frozen? ⟨g, 1, none⟩ = false
 f2 : W.frozen? ⟨g, 2, none⟩ = false
 f3 : W.frozen? ⟨g, 3, none⟩ = false
 f4 : W.frozen? ⟨g, 4, none⟩ = false
 f5 : W.frozen? ⟨g, 5, none⟩ = false
 f6 : W.frozen? ⟨g, 6, none⟩ = false
 f7 : W.frozen? ⟨g, 7, none⟩ = false
 f8 : W.frozen? ⟨g, 8, none⟩ = false
 f9 : W.frozen? ⟨g, 9, none⟩ = false
 f10 : W.frozen? ⟨g, 10, none⟩ = false
 f11 : W.frozen? ⟨g, 11, none⟩ = false
theorem B12q.lt {w : World} {g : Nat} {v0 v1 v2 v3 v4 v5 v6 v7 v8 v9 v10 v11 : Value} (h : B12q w g v0 v1 v2 v3 v4 v5 v6 v7 v8 v9 v10 v11) : g < w.heap.size := World.block_lt_of_cell? w _ h.c0
theorem B12q.below {W W' : World} {g : Nat} {v0 v1 v2 v3 v4 v5 v6 v7 v8 v9 v10 v11 : Value} (h : B12q W g v0 v1 v2 v3 v4 v5 v6 v7 v8 v9 v10 v11) (hb : Below W.heap.size W W') : B12q W' g v0 v1 v2 v3 v4 v5 v6 v7 v8 v9 v10 v11 := by
  have hl : g < W.heap.size := World.block_lt_of_cell? W _ h.c0
  exact ⟨(hb.cell (p := ⟨g, 0, none⟩) hl).trans h.c0, (hb.cell (p := ⟨g, 1, none⟩) hl).trans h.c1, (hb.cell (p := ⟨g, 2, none⟩) hl).trans h.c2, (hb.cell (p := ⟨g, 3, none⟩) hl).trans h.c3, (hb.cell (p := ⟨g, 4, none⟩) hl).trans h.c4, (hb.cell (p := ⟨g, 5, none⟩) hl).trans h.c5, (hb.cell (p := ⟨g, 6, none⟩) hl).trans h.c6, (hb.cell (p := ⟨g, 7, none⟩) hl).trans h.c7, (hb.cell (p := ⟨g, 8, none⟩) hl).trans h.c8, (hb.cell (p := ⟨g, 9, none⟩) hl).trans h.c9, (hb.cell (p := ⟨g, 10, none⟩) hl).trans h.c10, (hb.cell (p := ⟨g, 11, none⟩) hl).trans h.c11, (hb.frozen (p := ⟨g, 0, none⟩) hl).trans h.f0, (hb.frozen (p := ⟨g, 1, none⟩) hl).trans h.f1, (hb.frozen (p := ⟨g, 2, none⟩) hl).trans h.f2, (hb.frozen (p := ⟨g, 3, none⟩) hl).trans h.f3, (hb.frozen (p := ⟨g, 4, none⟩) hl).trans h.f4, (hb.frozen (p := ⟨g, 5, none⟩) hl).trans h.f5, (hb.frozen (p := ⟨g, 6, none⟩) hl).trans h.f6, (hb.frozen (p := ⟨g, 7, none⟩) hl).trans h.f7, (hb.frozen (p := ⟨g, 8, none⟩) hl).trans h.f8, (hb.frozen (p := ⟨g, 9, none⟩) hl).trans h.f9, (hb.frozen (p := ⟨g, 10, none⟩) hl).trans h.f10, (hb.frozen (p := ⟨g, 11, none⟩) hl).trans h.f11⟩
theorem B12q.b {W W' : World} {g : Nat} {v0 v1 v2 v3 v4 v5 v6 v7 v8 v9 v10 v11 : Value} (h : Hid (B12q W g v0 v1 v2 v3 v4 v5 v6 v7 v8 v9 v10 v11)) (hb : Below W.heap.size W W') : Hid (B12q W' g v0 v1 v2 v3 v4 v5 v6 v7 v8 v9 v10 v11) := B12q.below h hb
theorem DO.apart {B : Nat} {w : World} {s : Bool} {p : Option Addr} {m : Nat} {e z : Int} (h : DO B w s p m e z) {k : Nat} (hk : k < B) : m = 0 ∨ ∃ g', p = some ⟨g', 0, none⟩ ∧ g' ≠ k := by
  obtain ⟨zs, h1, _⟩ := h.own
  rcases h1.mem with h2 | ⟨g2, h2, h3, _⟩
  · exact .inl h2
  · exact .inr ⟨g2, h2, by omega⟩
theorem DO.apart_new {B : Nat} {w : World} {s : Bool} {p : Option Addr} {m : Nat} {e z : Int} (h : DO B w s p m e z) : m = 0 ∨ ∃ g', p = some ⟨g', 0, none⟩ ∧ g' ≠ w.heap.size := by
  obtain ⟨zs, h1, _⟩ := h.own
  rcases h1.mem with h2 | ⟨g2, h2, h3, h4⟩
  · exact .inl h2
  · rcases Nat.eq_zero_or_pos m with h5 | h5
    · exact .inl h5
    · exact .inr ⟨g2, h2, Nat.ne_of_lt (World.block_lt_of_cell? w _ (h4.cell 0 h5))⟩
theorem DO.dnoff6 {B : Nat} {w : World} {s : Bool} {p : Option Addr} {m : Nat} {e z : Int} (h : DO B w s p m e z) {k : Nat} (hk : m = 0 ∨ ∃ g', p = some ⟨g', 0, none⟩ ∧ g' ≠ k) (v0 v1 v2 v3 v4 v5 : Value) : DN ((((((w.setCell ⟨k, 0, none⟩ v0).setCell ⟨k, 1, none⟩ v1).setCell ⟨k, 2, none⟩ v2).setCell ⟨k, 3, none⟩ v3).setCell ⟨k, 4, none⟩ v4).setCell ⟨k, 5, none⟩ v5) s p m m e z :=
 (((((h.dn.setOff (o := 0) (v := v0) hk).setOff (o := 1) (v := v1) hk).setOff (o := 2) (v := v2) hk).setOff (o := 3) (v := v3) hk).setOff (o := 4) (v := v4) hk).setOff (o := 5) (v := v5) hk
def OutV (B : Nat) (w : World) (s : Bool) (p : Option Addr) (m : Nat) (e : Int) (t : Bool) (q : Option Addr) (n : Nat) (f er z1 e1 z2 e2 : Int) : Prop :=
 (er = 0 ∧ ∃ zl zh, DO B w s p m e zl ∧ DO B w t q n f zh ∧ dv zl e = dv z1 e1 ∧ dv zh f = dv z2 e2) ∨ (er = 5 ∧ s = false ∧ p = none ∧ m = 0 ∧ e = 0 ∧ t = false ∧ q = none ∧ n = 0 ∧ f = 0 ∧ ((∀ zo eo, DFm zo eo → dv zo eo ≠ dv z1 e1) ∨ (∀ zo eo, DFm zo eo → dv zo eo ≠ dv z2 e2)))
theorem OutR.open {B : Nat} {w : World} {en : Ending} {z1 e1 z2 e2 : Int} (h : OutR B w en z1 e1 z2 e2) : ∃ s p m e t q n f er, en = .returned (.tuple #[SV s p m m e t q n n f, .int .i64 er]) ∧ OutV B w s p m e t q n f er z1 e1 z2 e2 := by
  rcases h with ⟨zl, el, zh, eh, ⟨s1, p1, m1, s2, p2, m2, h1, h2, h3⟩, h4, h5⟩ | ⟨h1, h2⟩
  · exact ⟨s1, p1, m1, el, s2, p2, m2, eh, 0, h1, .inl ⟨rfl, zl, zh, h2, h3, h4, h5⟩⟩
  · exact ⟨false, none, 0, 0, false, none, 0, 0, 5, h1, .inr ⟨rfl, rfl, rfl, rfl, rfl, rfl, rfl, rfl, rfl, h2⟩⟩
theorem OutV.close {B : Nat} {w : World} {s : Bool} {p : Option Addr} {m : Nat} {e : Int} {t : Bool} {q : Option Addr} {n : Nat} {f er z1 e1 z2 e2 : Int} (h : OutV B w s p m e t q n f er z1 e1 z2 e2) : OutR B w (.returned (.tuple #[SV s p m m e t q n n f, .int .i64 er])) z1 e1 z2 e2 := by
  rcases h with ⟨rfl, zl, zh, h2, h3, h4, h5⟩ | ⟨rfl, rfl, rfl, rfl, rfl, rfl, rfl, rfl, rfl, h2⟩
  · exact .inl ⟨zl, e, zh, f, ⟨s, p, m, t, q, n, rfl, h2, h3⟩, h4, h5⟩
  · exact .inr ⟨rfl, h2⟩
theorem OutV.below {B : Nat} {w w' : World} {s : Bool} {p : Option Addr} {m : Nat} {e : Int} {t : Bool} {q : Option Addr} {n : Nat} {f er z1 e1 z2 e2 : Int} (h : OutV B w s p m e t q n f er z1 e1 z2 e2) (hb : Below w.heap.size w w') : OutV B w' s p m e t q n f er z1 e1 z2 e2 :=
 h.imp (fun ⟨h1, zl, zh, h2, h3, h4⟩ => ⟨h1, zl, zh, h2.below hb, h3.below hb, h4⟩) id
theorem OutV.mono {B B' : Nat} {w : World} {s : Bool} {p : Option Addr} {m : Nat} {e : Int} {t : Bool} {q : Option Addr} {n : Nat} {f er z1 e1 z2 e2 : Int} (h : OutV B w s p m e t q n f er z1 e1 z2 e2) (hb : B' ≤ B) : OutV B' w s p m e t q n f er z1 e1 z2 e2 :=
 h.imp (fun ⟨h1, zl, zh, h2, h3, h4⟩ => ⟨h1, zl, zh, h2.mono hb, h3.mono hb, h4⟩) id
theorem OutV.set6 {B b : Nat} {w : World} {s : Bool} {p : Option Addr} {m : Nat} {e : Int} {t : Bool} {q : Option Addr} {n : Nat} {f er z1 e1 z2 e2 : Int} (h : OutV B w s p m e t q n f er z1 e1 z2 e2) {g : Nat} (hg : g < B) (hb : b ≤ B) (v0 v1 v2 v3 v4 v5 : Value) : OutV b ((((((w.setCell ⟨g, 0, none⟩ v0).setCell ⟨g, 1, none⟩ v1).setCell ⟨g, 2, none⟩ v2).setCell ⟨g, 3, none⟩ v3).setCell ⟨g, 4, none⟩ v4).setCell ⟨g, 5, none⟩ v5) s p m e t q n f er z1 e1 z2 e2 :=
 h.imp (fun ⟨h1, zl, zh, h2, h3, h4⟩ => ⟨h1, zl, zh, h2.set6 hg hb v0 v1 v2 v3 v4 v5, h3.set6 hg hb v0 v1 v2 v3 v4 v5, h4⟩) id
theorem sadd6 {d1 d2 d3 d4 : Dq} {w : World} {P : Nat} (h1 : d1.ok w) (h2 : d2.ok w) (h3 : d3.ok w) (h4 : d4.ok w) (hc1 : d1.v ≤ d2.v) (hc2 : d3.v ≤ d4.v) (hP : 1 ≤ P ∧ P ≤ 70000) {zl el zh eh : Int} (fl : DFm zl el) (fh : DFm zh eh) (vl : dv zl el = d1.v + d3.v) (vh : dv zh eh = d2.v + d4.v) (ll : (d1.z ≠ 0 → d3.z ≠ 0 → (d1.z * 2 ^ (d1.e - min d1.e d3.e).toNat).natAbs < LIM ∧ (d3.z * 2 ^ (d3.e - min d1.e d3.e).toNat).natAbs < LIM ∧ (d1.z * 2 ^ (d1.e - min d1.e d3.e).toNat + d3.z * 2 ^ (d3.e - min d1.e d3.e).toNat).natAbs < LIM)) (lh : (d2.z ≠ 0 → d4.z ≠ 0 → (d2.z * 2 ^ (d2.e - min d2.e d4.e).toNat).natAbs < LIM ∧ (d4.z * 2 ^ (d4.e - min d2.e d4.e).toNat).natAbs < LIM ∧ (d2.z * 2 ^ (d2.e - min d2.e d4.e).toNat + d4.z * 2 ^ (d4.e - min d2.e d4.e).toNat).natAbs < LIM)) {K1 K2 : Nat} (hK1 : K1 = bitsN zl.natAbs - P) (hK2 : K2 = bitsN zh.natAbs - P) (hT : Tab w) :
  Calls Tryz.prog 12 #[SQ d1 d2, SQ d3 d4, .int .i64 P] w fun en w' => OutR w.heap.size w' en (rd false zl (2 ^ K1)) (el + K1) (rd true zh (2 ^ K2)) (eh + K2) ∧ Below w.heap.size w w' := by
 have A1 : Hid (d1.ok w) := h1;have A2 : Hid (d2.ok w) := h2;have A3 : Hid (d3.ok w) := h3;have A4 : Hid (d4.ok w) := h4;have HC : Hid (d1.v ≤ d2.v ∧ d3.v ≤ d4.v) := ⟨hc1, hc2⟩;have HP : Hid (1 ≤ P ∧ P ≤ 70000) := hP;have TB : Hid (Tab w) := hT;clear h1 h2 h3 h4 hc1 hc2 hP hT;have HF : Hid (DFm zl el ∧ DFm zh eh ∧ dv zl el = d1.v + d3.v ∧ dv zh eh = d2.v + d4.v) := ⟨fl, fh, vl, vh⟩;have HL1 : Hid (d1.z ≠ 0 → d3.z ≠ 0 → (d1.z * 2 ^ (d1.e - min d1.e d3.e).toNat).natAbs < LIM ∧ (d3.z * 2 ^ (d3.e - min d1.e d3.e).toNat).natAbs < LIM ∧ (d1.z * 2 ^ (d1.e - min d1.e d3.e).toNat + d3.z * 2 ^ (d3.e - min d1.e d3.e).toNat).natAbs < LIM) := ll;have HL2 : Hid (d2.z ≠ 0 → d4.z ≠ 0 → (d2.z * 2 ^ (d2.e - min d2.e d4.e).toNat).natAbs < LIM ∧ (d4.z * 2 ^ (d4.e - min d2.e d4.e).toNat).natAbs < LIM ∧ (d2.z * 2 ^ (d2.e - min d2.e d4.e).toNat + d4.z * 2 ^ (d4.e - min d2.e d4.e).toNat).natAbs < LIM) := lh;have HK : Hid (K1 = bitsN zl.natAbs - P ∧ K2 = bitsN zh.natAbs - P) := ⟨hK1, hK2⟩
 clear fl fh vl vh ll lh hK1 hK2
 go_enter Tryz.func12, Tryz.ntmps12
 go_wp2_with fail;obtain ⟨W0, hW0⟩ := exq ((((w.alloc (.cells #[.bool d1.s, .slice d1.p d1.m d1.c, .int .i64 d1.e, .bool d2.s, .slice d2.p d2.m d2.c, .int .i64 d2.e] 28)).alloc (.cells #[.bool d3.s, .slice d3.p d3.m d3.c, .int .i64 d3.e, .bool d4.s, .slice d4.p d4.m d4.c, .int .i64 d4.e] 28)).alloc (.cells #[.bool false, .slice none 0 0, .int .i64 0, .bool false, .slice none 0 0, .int .i64 0] 28)).alloc (.cells #[.bool d1.s, .slice d1.p d1.m d1.c, .int .i64 d1.e, .bool d2.s, .slice d2.p d2.m d2.c, .int .i64 d2.e, .bool d3.s, .slice d3.p d3.m d3.c, .int .i64 d3.e, .bool d4.s, .slice d4.p d4.m d4.c, .int .i64 d4.e] 28))
 have Xa : Hid (B6q W0 (w.heap.size) (.bool d1.s) (.slice d1.p d1.m d1.c) (.int .i64 d1.e) (.bool d2.s) (.slice d2.p d2.m d2.c) (.int .i64 d2.e)) := by rw [hW0]; constructor <;> go_simp
 have Xb : Hid (B6q W0 (w.heap.size + 1) (.bool d3.s) (.slice d3.p d3.m d3.c) (.int .i64 d3.e) (.bool d4.s) (.slice d4.p d4.m d4.c) (.int .i64 d4.e)) := by rw [hW0]; constructor <;> go_simp
 have Xr : Hid (B6q W0 (w.heap.size + 1 + 1) (.bool false) (.slice none 0 0) (.int .i64 0) (.bool false) (.slice none 0 0) (.int .i64 0)) := by rw [hW0]; constructor <;> go_simp
 have Xl : Hid (B12q W0 (w.heap.size + 1 + 1 + 1) (.bool d1.s) (.slice d1.p d1.m d1.c) (.int .i64 d1.e) (.bool d2.s) (.slice d2.p d2.m d2.c) (.int .i64 d2.e) (.bool d3.s) (.slice d3.p d3.m d3.c) (.int .i64 d3.e) (.bool d4.s) (.slice d4.p d4.m d4.c) (.int .i64 d4.e)) := by rw [hW0]; constructor <;> go_simp
 have hb0 : Below w.heap.size w W0 := by rw [hW0]; exact below4 w _ _ _ _
 rw [← hW0];clear hW0;have hbw := brf w;obtain ⟨gl, hgl⟩ := exq (w.heap.size + 1 + 1 + 1)
 have HGl : Hid (w.heap.size ≤ gl) := by rw [hgl]; show _ ≤ _; omega
 rw [← hgl] at Xl
 try rw [← hgl]
 obtain ⟨gr, hgr⟩ := exq (w.heap.size + 1 + 1)
 have HGr : Hid (w.heap.size ≤ gr) := by rw [hgr]; show _ ≤ _; omega
 rw [← hgr] at Xr
 try rw [← hgr]
 obtain ⟨gb, hgb⟩ := exq (w.heap.size + 1)
 have HGb : Hid (w.heap.size ≤ gb) := by rw [hgb]; show _ ≤ _; omega
 rw [← hgb] at Xb
 try rw [← hgb]
 obtain ⟨ga, hga⟩ := exq w.heap.size
 have HGa : Hid (w.heap.size ≤ ga) := by rw [hga]; show _ ≤ _; omega
 rw [← hga] at Xa
 try rw [← hga]
 have HGD : Hid (ga ≠ gb ∧ ga ≠ gr ∧ ga ≠ gl ∧ gb ≠ ga ∧ gb ≠ gr ∧ gb ≠ gl ∧ gr ≠ ga ∧ gr ≠ gb ∧ gr ≠ gl ∧ gl ≠ ga ∧ gl ≠ gb ∧ gl ≠ gr) := by rw [hga, hgb, hgr, hgl]; show _ ∧ _; omega
 clear hga hgb hgr hgl;replace hbw := bon hbw hb0;clear hb0
 refine (swrong2 (DN.below A1.out hbw) (DN.below A2.out hbw) (DN.below A3.out hbw) (DN.below A4.out hbw) HC.out.1 HC.out.2 (by have := HP.out; omega) ⟨Xl.out.c0, Xl.out.c1, Xl.out.c2, Xl.out.c3, Xl.out.c4, Xl.out.c5, Xl.out.c6, Xl.out.c7, Xl.out.c8, Xl.out.c9, Xl.out.c10, Xl.out.c11⟩).mono ?_
 rintro e v1 ⟨rfl, hb1⟩;replace Xa := B6q.b Xa hb1;replace Xb := B6q.b Xb hb1;replace Xr := B6q.b Xr hb1;replace Xl := B12q.b Xl hb1;replace hbw := bon hbw hb1;clear hb1;obtain ⟨ca0, ca1, ca2, ca3, ca4, ca5, fa0, fa1, fa2, fa3, fa4, fa5⟩ := Xa.out;have hnea : ga < v1.heap.size := blt ca0;obtain ⟨cb0, cb1, cb2, cb3, cb4, cb5, fb0, fb1, fb2, fb3, fb4, fb5⟩ := Xb.out;have hneb : gb < v1.heap.size := blt cb0;go_wp2_with fail;clear ca0 ca1 ca2 ca3 ca4 ca5 fa0 fa1 fa2 fa3 fa4 fa5 hnea cb0 cb1 cb2 cb3 cb4 cb5 fb0 fb1 fb2 fb3 fb4 fb5 hneb Xl;obtain ⟨W5, hW5⟩ := exq v1.drew
 have hbd : Below v1.heap.size v1 W5 := by rw [hW5]; exact bDrew1 (Below.refl _ _)
 replace Xa := B6q.b Xa hbd;replace Xb := B6q.b Xb hbd;replace Xr := B6q.b Xr hbd;replace hbw := bon hbw hbd;clear hbd
 have HJ : Hid ((fun W' : World => W'.cell? ⟨ga, 0, none⟩ = some (.bool d1.s) ∧ W'.cell? ⟨ga, 1, none⟩ = some (.slice d1.p d1.m d1.c) ∧ W'.cell? ⟨ga, 2, none⟩ = some (.int .i64 d1.e) ∧ W'.cell? ⟨ga, 3, none⟩ = some (.bool d2.s) ∧ W'.cell? ⟨ga, 4, none⟩ = some (.slice d2.p d2.m d2.c) ∧ W'.cell? ⟨ga, 5, none⟩ = some (.int .i64 d2.e) ∧ W'.cell? ⟨gb, 0, none⟩ = some (.bool d3.s) ∧ W'.cell? ⟨gb, 1, none⟩ = some (.slice d3.p d3.m d3.c) ∧ W'.cell? ⟨gb, 2, none⟩ = some (.int .i64 d3.e) ∧ W'.cell? ⟨gb, 3, none⟩ = some (.bool d4.s) ∧ W'.cell? ⟨gb, 4, none⟩ = some (.slice d4.p d4.m d4.c) ∧ W'.cell? ⟨gb, 5, none⟩ = some (.int .i64 d4.e)) W5) := ⟨Xa.out.c0, Xa.out.c1, Xa.out.c2, Xa.out.c3, Xa.out.c4, Xa.out.c5, Xb.out.c0, Xb.out.c1, Xb.out.c2, Xb.out.c3, Xb.out.c4, Xb.out.c5⟩
 refine wp_region_J (fun W' => W'.cell? ⟨ga, 0, none⟩ = some (.bool d1.s) ∧ W'.cell? ⟨ga, 1, none⟩ = some (.slice d1.p d1.m d1.c) ∧ W'.cell? ⟨ga, 2, none⟩ = some (.int .i64 d1.e) ∧ W'.cell? ⟨ga, 3, none⟩ = some (.bool d2.s) ∧ W'.cell? ⟨ga, 4, none⟩ = some (.slice d2.p d2.m d2.c) ∧ W'.cell? ⟨ga, 5, none⟩ = some (.int .i64 d2.e) ∧ W'.cell? ⟨gb, 0, none⟩ = some (.bool d3.s) ∧ W'.cell? ⟨gb, 1, none⟩ = some (.slice d3.p d3.m d3.c) ∧ W'.cell? ⟨gb, 2, none⟩ = some (.int .i64 d3.e) ∧ W'.cell? ⟨gb, 3, none⟩ = some (.bool d4.s) ∧ W'.cell? ⟨gb, 4, none⟩ = some (.slice d4.p d4.m d4.c) ∧ W'.cell? ⟨gb, 5, none⟩ = some (.int .i64 d4.e)) (by kernel_rfl) ?_
 rw [← hW5];clear hW5
 refine wpJ_tq 0 rfl HJ.out ?_
 refine wpJ_tq 1 rfl HJ.out ?_
 refine wpJ_tq 2 rfl HJ.out ?_
 refine wpJ_tq 3 rfl HJ.out ?_
 go_simp
 refine wpJ_tq 8 rfl HJ.out ?_
 refine wpJ_tq 9 rfl HJ.out ?_
 refine wpJ_tq 10 rfl HJ.out ?_
 refine wpJ_tq 11 rfl HJ.out ?_
 go_simp
 obtain ⟨FQ, hFQ⟩ : ∃ F : World → Prop, Hid (∀ W', F W' ↔ (B6q W' ga (.bool d1.s) (.slice d1.p d1.m d1.c) (.int .i64 d1.e) (.bool d2.s) (.slice d2.p d2.m d2.c) (.int .i64 d2.e) ∧ B6q W' gb (.bool d3.s) (.slice d3.p d3.m d3.c) (.int .i64 d3.e) (.bool d4.s) (.slice d4.p d4.m d4.c) (.int .i64 d4.e) ∧ B6q W' gr (.bool false) (.slice none 0 0) (.int .i64 0) (.bool false) (.slice none 0 0) (.int .i64 0) ∧ Below w.heap.size w W')) := ⟨fun W' => B6q W' ga (.bool d1.s) (.slice d1.p d1.m d1.c) (.int .i64 d1.e) (.bool d2.s) (.slice d2.p d2.m d2.c) (.int .i64 d2.e) ∧ B6q W' gb (.bool d3.s) (.slice d3.p d3.m d3.c) (.int .i64 d3.e) (.bool d4.s) (.slice d4.p d4.m d4.c) (.int .i64 d4.e) ∧ B6q W' gr (.bool false) (.slice none 0 0) (.int .i64 0) (.bool false) (.slice none 0 0) (.int .i64 0) ∧ Below w.heap.size w W', fun _ => Iff.rfl⟩
 have HFB : Hid (∀ W' W2, FQ W' → Below W'.heap.size W' W2 → FQ W2) := fun W' W2 h hb => by
  have h1 := (hFQ.out W').1 h
  exact (hFQ.out W2).2 ⟨h1.1.below hb, h1.2.1.below hb, h1.2.2.1.below hb, Below.on h1.2.2.2 hb⟩
 have HFJ : Hid (∀ W', FQ W' → (fun W' : World => W'.cell? ⟨ga, 0, none⟩ = some (.bool d1.s) ∧ W'.cell? ⟨ga, 1, none⟩ = some (.slice d1.p d1.m d1.c) ∧ W'.cell? ⟨ga, 2, none⟩ = some (.int .i64 d1.e) ∧ W'.cell? ⟨ga, 3, none⟩ = some (.bool d2.s) ∧ W'.cell? ⟨ga, 4, none⟩ = some (.slice d2.p d2.m d2.c) ∧ W'.cell? ⟨ga, 5, none⟩ = some (.int .i64 d2.e) ∧ W'.cell? ⟨gb, 0, none⟩ = some (.bool d3.s) ∧ W'.cell? ⟨gb, 1, none⟩ = some (.slice d3.p d3.m d3.c) ∧ W'.cell? ⟨gb, 2, none⟩ = some (.int .i64 d3.e) ∧ W'.cell? ⟨gb, 3, none⟩ = some (.bool d4.s) ∧ W'.cell? ⟨gb, 4, none⟩ = some (.slice d4.p d4.m d4.c) ∧ W'.cell? ⟨gb, 5, none⟩ = some (.int .i64 d4.e)) W') := fun W' h => by
  have h1 := (hFQ.out W').1 h
  exact ⟨h1.1.c0, h1.1.c1, h1.1.c2, h1.1.c3, h1.1.c4, h1.1.c5, h1.2.1.c0, h1.2.1.c1, h1.2.1.c2, h1.2.1.c3, h1.2.1.c4, h1.2.1.c5⟩
 refine wpJ_nodes5 fun WP hWP L0 a0 hL ha => ?_
 have N4_7_12_15_16_20 : ∀ (s4 : Bool) (p4 : Option Addr) (m4 : Nat) (s12 : Bool) (p12 : Option Addr) (m12 : Nat) (k20 : Nat) (W' : World), (FQ W') ∧ (DO 0 W' s4 p4 m4 el zl) ∧ (DO 0 W' s12 p12 m12 eh zh) ∧ (B6q W' k20 (.bool false) (.slice none 0 0) (.int .i64 0) (.bool false) (.slice none 0 0) (.int .i64 0)) ∧ (w.heap.size ≤ k20) ∧ (ga ≠ k20 ∧ gb ≠ k20 ∧ gr ≠ k20) ∧ (m4 = 0 ∨ ∃ g', p4 = some ⟨g', 0, none⟩ ∧ g' ≠ k20) ∧ (m12 = 0 ∨ ∃ g', p12 = some ⟨g', 0, none⟩ ∧ g' ≠ k20) → WP 2 (((((((((((((L0.setIfInBounds 4 true).setIfInBounds 5 true).setIfInBounds 6 true).setIfInBounds 7 true).setIfInBounds 12 true).setIfInBounds 13 true).setIfInBounds 14 true).setIfInBounds 15 true).setIfInBounds 16 true).setIfInBounds 17 true).setIfInBounds 18 true).setIfInBounds 19 true).setIfInBounds 20 true) (((((((((((((a0.put (some 25) (.tuple #[DV s4 p4 m4 m4 el, .int .i64 0])).put (some 26) (DV s4 p4 m4 m4 el)).put (some 27) (.int .i64 0)).put (some 28) (EVr s4 p4 m4 m4 el 0)).put (some 33) (.tuple #[DV s12 p12 m12 m12 eh, .int .i64 0])).put (some 34) (DV s12 p12 m12 m12 eh)).put (some 35) (.int .i64 0)).put (some 36) (EVr s12 p12 m12 m12 eh 0)).put (some 37) (.tuple #[SV s4 p4 m4 m4 el s12 p12 m12 m12 eh, .int .i64 0])).put (some 20) (.tuple #[SV s4 p4 m4 m4 el s12 p12 m12 m12 eh, .int .i64 0])).put (some 38) (SV s4 p4 m4 m4 el s12 p12 m12 m12 eh)).put (some 39) (.int .i64 0)).put (some 9) (.pointer (some ⟨k20, 0, none⟩))) W' := by
  rintro s4 p4 m4 s12 p12 m12 k20 W' ⟨fq, d4, d12, x20, h20, n20, o4, o12⟩;subst hWP hL ha;have Hd4 := Hid.mk5 d4;have Hd12 := Hid.mk5 d12;have Hx20 := Hid.mk5 x20;have Hh20 := Hid.mk5 h20;have Hn20 := Hid.mk5 n20;have Ho4 := Hid.mk5 o4;have Ho12 := Hid.mk5 o12;clear d4 d12 x20 h20 n20 o4 o12;obtain ⟨hxa, hxb, hxr, hbw⟩ := (hFQ.out W').1 fq;have Hxa := Hid.mk5 hxa;have Hxb := Hid.mk5 hxb;have Hxr := Hid.mk5 hxr;clear hxa hxb hxr;go_simp;have Xa := Hxa;have Xb := Hxb;have Xr := Hxr;have Xv := Hx20;clear Hxa Hxb Hxr Hx20;have HGv : Hid (w.heap.size ≤ k20) := Hh20.out
  have HJ : Hid ((fun W' : World => W'.cell? ⟨ga, 0, none⟩ = some (.bool d1.s) ∧ W'.cell? ⟨ga, 1, none⟩ = some (.slice d1.p d1.m d1.c) ∧ W'.cell? ⟨ga, 2, none⟩ = some (.int .i64 d1.e) ∧ W'.cell? ⟨ga, 3, none⟩ = some (.bool d2.s) ∧ W'.cell? ⟨ga, 4, none⟩ = some (.slice d2.p d2.m d2.c) ∧ W'.cell? ⟨ga, 5, none⟩ = some (.int .i64 d2.e) ∧ W'.cell? ⟨gb, 0, none⟩ = some (.bool d3.s) ∧ W'.cell? ⟨gb, 1, none⟩ = some (.slice d3.p d3.m d3.c) ∧ W'.cell? ⟨gb, 2, none⟩ = some (.int .i64 d3.e) ∧ W'.cell? ⟨gb, 3, none⟩ = some (.bool d4.s) ∧ W'.cell? ⟨gb, 4, none⟩ = some (.slice d4.p d4.m d4.c) ∧ W'.cell? ⟨gb, 5, none⟩ = some (.int .i64 d4.e)) W') := ⟨Xa.out.c0, Xa.out.c1, Xa.out.c2, Xa.out.c3, Xa.out.c4, Xa.out.c5, Xb.out.c0, Xb.out.c1, Xb.out.c2, Xb.out.c3, Xb.out.c4, Xb.out.c5⟩
  obtain ⟨cv0, cv1, cv2, cv3, cv4, cv5, fv0, fv1, fv2, fv3, fv4, fv5⟩ := Xv.out;have hnev : k20 < W'.heap.size := blt cv0
  refine wpJ_on 21 rfl fun KJ hK => ?_
  go_simp;have Xv2 : Hid (B6q ((((((W'.setCell ⟨k20, 0, none⟩ (.bool s4)).setCell ⟨k20, 1, none⟩ (.slice p4 m4 m4)).setCell ⟨k20, 2, none⟩ (.int .i64 el)).setCell ⟨k20, 3, none⟩ (.bool s12)).setCell ⟨k20, 4, none⟩ (.slice p12 m12 m12)).setCell ⟨k20, 5, none⟩ (.int .i64 eh)) k20 (.bool s4) (.slice p4 m4 m4) (.int .i64 el) (.bool s12) (.slice p12 m12 m12) (.int .i64 eh)) := Xv.out.put6 (.bool s4) (.slice p4 m4 m4) (.int .i64 el) (.bool s12) (.slice p12 m12 m12) (.int .i64 eh);have Xr2 : Hid (B6q ((((((W'.setCell ⟨k20, 0, none⟩ (.bool s4)).setCell ⟨k20, 1, none⟩ (.slice p4 m4 m4)).setCell ⟨k20, 2, none⟩ (.int .i64 el)).setCell ⟨k20, 3, none⟩ (.bool s12)).setCell ⟨k20, 4, none⟩ (.slice p12 m12 m12)).setCell ⟨k20, 5, none⟩ (.int .i64 eh)) gr (.bool false) (.slice none 0 0) (.int .i64 0) (.bool false) (.slice none 0 0) (.int .i64 0)) := Xr.out.off6 Hn20.out.2.2 (.bool s4) (.slice p4 m4 m4) (.int .i64 el) (.bool s12) (.slice p12 m12 m12) (.int .i64 eh)
  have Xa2 : Hid (B6q ((((((W'.setCell ⟨k20, 0, none⟩ (.bool s4)).setCell ⟨k20, 1, none⟩ (.slice p4 m4 m4)).setCell ⟨k20, 2, none⟩ (.int .i64 el)).setCell ⟨k20, 3, none⟩ (.bool s12)).setCell ⟨k20, 4, none⟩ (.slice p12 m12 m12)).setCell ⟨k20, 5, none⟩ (.int .i64 eh)) ga (.bool d1.s) (.slice d1.p d1.m d1.c) (.int .i64 d1.e) (.bool d2.s) (.slice d2.p d2.m d2.c) (.int .i64 d2.e)) := Xa.out.off6 Hn20.out.1 (.bool s4) (.slice p4 m4 m4) (.int .i64 el) (.bool s12) (.slice p12 m12 m12) (.int .i64 eh);have Xb2 : Hid (B6q ((((((W'.setCell ⟨k20, 0, none⟩ (.bool s4)).setCell ⟨k20, 1, none⟩ (.slice p4 m4 m4)).setCell ⟨k20, 2, none⟩ (.int .i64 el)).setCell ⟨k20, 3, none⟩ (.bool s12)).setCell ⟨k20, 4, none⟩ (.slice p12 m12 m12)).setCell ⟨k20, 5, none⟩ (.int .i64 eh)) gb (.bool d3.s) (.slice d3.p d3.m d3.c) (.int .i64 d3.e) (.bool d4.s) (.slice d4.p d4.m d4.c) (.int .i64 d4.e)) := Xb.out.off6 Hn20.out.2.1 (.bool s4) (.slice p4 m4 m4) (.int .i64 el) (.bool s12) (.slice p12 m12 m12) (.int .i64 eh)
  have hbw2 : Below w.heap.size w ((((((W'.setCell ⟨k20, 0, none⟩ (.bool s4)).setCell ⟨k20, 1, none⟩ (.slice p4 m4 m4)).setCell ⟨k20, 2, none⟩ (.int .i64 el)).setCell ⟨k20, 3, none⟩ (.bool s12)).setCell ⟨k20, 4, none⟩ (.slice p12 m12 m12)).setCell ⟨k20, 5, none⟩ (.int .i64 eh)) := (bSet (bSet (bSet (bSet (bSet (bSet hbw _ _ _ HGv.out) _ _ _ HGv.out) _ _ _ HGv.out) _ _ _ HGv.out) _ _ _ HGv.out) _ _ _ HGv.out);have D1 : Hid (DN ((((((W'.setCell ⟨k20, 0, none⟩ (.bool s4)).setCell ⟨k20, 1, none⟩ (.slice p4 m4 m4)).setCell ⟨k20, 2, none⟩ (.int .i64 el)).setCell ⟨k20, 3, none⟩ (.bool s12)).setCell ⟨k20, 4, none⟩ (.slice p12 m12 m12)).setCell ⟨k20, 5, none⟩ (.int .i64 eh)) s4 p4 m4 m4 el zl) := Hd4.out.dnoff6 Ho4.out (.bool s4) (.slice p4 m4 m4) (.int .i64 el) (.bool s12) (.slice p12 m12 m12) (.int .i64 eh);have D2 : Hid (DN ((((((W'.setCell ⟨k20, 0, none⟩ (.bool s4)).setCell ⟨k20, 1, none⟩ (.slice p4 m4 m4)).setCell ⟨k20, 2, none⟩ (.int .i64 el)).setCell ⟨k20, 3, none⟩ (.bool s12)).setCell ⟨k20, 4, none⟩ (.slice p12 m12 m12)).setCell ⟨k20, 5, none⟩ (.int .i64 eh)) s12 p12 m12 m12 eh zh) := Hd12.out.dnoff6 Ho12.out (.bool s4) (.slice p4 m4 m4) (.int .i64 el) (.bool s12) (.slice p12 m12 m12) (.int .i64 eh)
  have HJ2 : Hid ((fun W' : World => W'.cell? ⟨ga, 0, none⟩ = some (.bool d1.s) ∧ W'.cell? ⟨ga, 1, none⟩ = some (.slice d1.p d1.m d1.c) ∧ W'.cell? ⟨ga, 2, none⟩ = some (.int .i64 d1.e) ∧ W'.cell? ⟨ga, 3, none⟩ = some (.bool d2.s) ∧ W'.cell? ⟨ga, 4, none⟩ = some (.slice d2.p d2.m d2.c) ∧ W'.cell? ⟨ga, 5, none⟩ = some (.int .i64 d2.e) ∧ W'.cell? ⟨gb, 0, none⟩ = some (.bool d3.s) ∧ W'.cell? ⟨gb, 1, none⟩ = some (.slice d3.p d3.m d3.c) ∧ W'.cell? ⟨gb, 2, none⟩ = some (.int .i64 d3.e) ∧ W'.cell? ⟨gb, 3, none⟩ = some (.bool d4.s) ∧ W'.cell? ⟨gb, 4, none⟩ = some (.slice d4.p d4.m d4.c) ∧ W'.cell? ⟨gb, 5, none⟩ = some (.int .i64 d4.e)) ((((((W'.setCell ⟨k20, 0, none⟩ (.bool s4)).setCell ⟨k20, 1, none⟩ (.slice p4 m4 m4)).setCell ⟨k20, 2, none⟩ (.int .i64 el)).setCell ⟨k20, 3, none⟩ (.bool s12)).setCell ⟨k20, 4, none⟩ (.slice p12 m12 m12)).setCell ⟨k20, 5, none⟩ (.int .i64 eh))) := ⟨Xa2.out.c0, Xa2.out.c1, Xa2.out.c2, Xa2.out.c3, Xa2.out.c4, Xa2.out.c5, Xb2.out.c0, Xb2.out.c1, Xb2.out.c2, Xb2.out.c3, Xb2.out.c4, Xb2.out.c5⟩
  refine hK _ _ HJ2.out ?_
  clear hK HJ;have HJ := HJ2;clear HJ2 Xa2 Xb2 cv0 cv1 cv2 cv3 cv4 cv5 fv0 fv1 fv2 fv3 fv4 fv5 hnev
  refine wpJ_tq 22 rfl HJ.out ?_
  refine wpJ_done (by kernel_rfl) ?_ _
  clear HJ Xv Xr Xa Xb hbw Hd4 Hd12;have Xv := Xv2;have Xr := Xr2;have hbw := hbw2;clear Xv2 Xr2 hbw2;generalize ((((((W'.setCell ⟨k20, 0, none⟩ (.bool s4)).setCell ⟨k20, 1, none⟩ (.slice p4 m4 m4)).setCell ⟨k20, 2, none⟩ (.int .i64 el)).setCell ⟨k20, 3, none⟩ (.bool s12)).setCell ⟨k20, 4, none⟩ (.slice p12 m12 m12)).setCell ⟨k20, 5, none⟩ (.int .i64 eh)) = W9 at *;obtain ⟨cv0, cv1, cv2, cv3, cv4, cv5, fv0, fv1, fv2, fv3, fv4, fv5⟩ := Xv.out;have hnev : k20 < W9.heap.size := blt cv0;go_wp2_with fail;clear cv0 cv1 cv2 cv3 cv4 cv5 fv0 fv1 fv2 fv3 fv4 fv5 hnev;have HRL : Hid (gr < W9.heap.size) := Xr.out.lt
  refine (sout (d1 := ⟨s4, p4, m4, m4, el, zl⟩) (d2 := ⟨s12, p12, m12, m12, eh, zh⟩) D1.out D2.out (by show dv zl el ≤ dv zh eh; have h1 := HF.out.2.2; have h2 := HC.out; omega) HP.out HK.out.1 HK.out.2 (TB.out.below hbw)).mono ?_
  rintro e9 v7 ⟨ho, hb7⟩;obtain ⟨s7, p7, m7, e7, t7, q7, n7, f7, r7, rfl, ho7⟩ := ho.open;have ho7 := ho7.mono (B' := gr + 1) HRL.out;clear ho;replace Xr := B6q.b Xr hb7;replace Xv := B6q.b Xv hb7;replace D1 := DN.b D1 hb7;replace D2 := DN.b D2 hb7;replace hbw := bon hbw hb7;clear hb7;have OR := hdQ ho7;clear ho7;obtain ⟨cr0, cr1, cr2, cr3, cr4, cr5, fr0, fr1, fr2, fr3, fr4, fr5⟩ := Xr.out;have hner : gr < v7.heap.size := blt cr0;go_wp2_with fail
  refine bodyPost_ret (v := .tuple #[SV s7 p7 m7 m7 e7 t7 q7 n7 n7 f7, .int .i64 r7]) (by rw [results_cell_tmp rfl]; go_simp) rfl ⟨?_, ?_⟩
  ·exact (OR.out.set6 (Nat.lt_succ_self _) (Nat.le_succ_of_le HGr.out) _ _ _ _ _ _).close
  ·exact (bSet (bSet (bSet (bSet (bSet (bSet hbw _ _ _ HGr.out) _ _ _ HGr.out) _ _ _ HGr.out) _ _ _ HGr.out) _ _ _ HGr.out) _ _ _ HGr.out)
 have N4_7_12_15_16 : ∀ (s4 : Bool) (p4 : Option Addr) (m4 : Nat) (s12 : Bool) (p12 : Option Addr) (m12 : Nat) (W' : World), (FQ W') ∧ (DO 0 W' s4 p4 m4 el zl) ∧ (DO 0 W' s12 p12 m12 eh zh) → WP 3 ((((((((((((L0.setIfInBounds 4 true).setIfInBounds 5 true).setIfInBounds 6 true).setIfInBounds 7 true).setIfInBounds 12 true).setIfInBounds 13 true).setIfInBounds 14 true).setIfInBounds 15 true).setIfInBounds 16 true).setIfInBounds 17 true).setIfInBounds 18 true).setIfInBounds 19 true) ((((((((((((a0.put (some 25) (.tuple #[DV s4 p4 m4 m4 el, .int .i64 0])).put (some 26) (DV s4 p4 m4 m4 el)).put (some 27) (.int .i64 0)).put (some 28) (EVr s4 p4 m4 m4 el 0)).put (some 33) (.tuple #[DV s12 p12 m12 m12 eh, .int .i64 0])).put (some 34) (DV s12 p12 m12 m12 eh)).put (some 35) (.int .i64 0)).put (some 36) (EVr s12 p12 m12 m12 eh 0)).put (some 37) (.tuple #[SV s4 p4 m4 m4 el s12 p12 m12 m12 eh, .int .i64 0])).put (some 20) (.tuple #[SV s4 p4 m4 m4 el s12 p12 m12 m12 eh, .int .i64 0])).put (some 38) (SV s4 p4 m4 m4 el s12 p12 m12 m12 eh)).put (some 39) (.int .i64 0)) W' := by
  rintro s4 p4 m4 s12 p12 m12 W' ⟨fq, d4, d12⟩;subst hWP hL ha;have Hd4 := Hid.mk5 d4;have Hd12 := Hid.mk5 d12;clear d4 d12;obtain ⟨hxa, hxb, hxr, hbw⟩ := (hFQ.out W').1 fq;have Hxa := Hid.mk5 hxa;have Hxb := Hid.mk5 hxb;have Hxr := Hid.mk5 hxr;clear hxa hxb hxr;go_simp
  refine wpJ_on 20 rfl fun KJ hK => ?_
  go_simp;have hb := below1 W' (.cells #[.bool false, .slice none 0 0, .int .i64 0, .bool false, .slice none 0 0, .int .i64 0] 28)
  refine hK _ _ (HFJ.out _ (HFB.out _ _ fq hb)) ?_
  exact wpJ_same5 (by kernel_rfl) (by kernel_rfl) (N4_7_12_15_16_20 s4 p4 m4 s12 p12 m12 W'.heap.size _ ⟨(HFB.out _ _ fq hb), (Hd4.out.below hb), (Hd12.out.below hb), (B6q.new W' _ _ _ _ _ _ _), hbw.size, ⟨Nat.ne_of_lt Hxa.out.lt, Nat.ne_of_lt Hxb.out.lt, Nat.ne_of_lt Hxr.out.lt⟩, Hd4.out.apart_new, Hd12.out.apart_new⟩)
 have N4_7_12_15_20 : ∀ (s4 : Bool) (p4 : Option Addr) (m4 : Nat) (s12 : Bool) (p12 : Option Addr) (m12 : Nat) (k20 : Nat) (W' : World), (FQ W') ∧ (DO 0 W' s4 p4 m4 el zl) ∧ (DO 0 W' s12 p12 m12 eh zh) ∧ (B6q W' k20 (.bool false) (.slice none 0 0) (.int .i64 0) (.bool false) (.slice none 0 0) (.int .i64 0)) ∧ (w.heap.size ≤ k20) ∧ (ga ≠ k20 ∧ gb ≠ k20 ∧ gr ≠ k20) ∧ (m4 = 0 ∨ ∃ g', p4 = some ⟨g', 0, none⟩ ∧ g' ≠ k20) ∧ (m12 = 0 ∨ ∃ g', p12 = some ⟨g', 0, none⟩ ∧ g' ≠ k20) → WP 6 (((((((((L0.setIfInBounds 4 true).setIfInBounds 5 true).setIfInBounds 6 true).setIfInBounds 7 true).setIfInBounds 12 true).setIfInBounds 13 true).setIfInBounds 14 true).setIfInBounds 15 true).setIfInBounds 20 true) (((((((((a0.put (some 25) (.tuple #[DV s4 p4 m4 m4 el, .int .i64 0])).put (some 26) (DV s4 p4 m4 m4 el)).put (some 27) (.int .i64 0)).put (some 28) (EVr s4 p4 m4 m4 el 0)).put (some 33) (.tuple #[DV s12 p12 m12 m12 eh, .int .i64 0])).put (some 34) (DV s12 p12 m12 m12 eh)).put (some 35) (.int .i64 0)).put (some 36) (EVr s12 p12 m12 m12 eh 0)).put (some 9) (.pointer (some ⟨k20, 0, none⟩))) W' := by
  rintro s4 p4 m4 s12 p12 m12 k20 W' ⟨fq, d4, d12, x20, h20, n20, o4, o12⟩;subst hWP hL ha;have Hd4 := Hid.mk5 d4;have Hd12 := Hid.mk5 d12;have Hx20 := Hid.mk5 x20;have Hh20 := Hid.mk5 h20;have Hn20 := Hid.mk5 n20;have Ho4 := Hid.mk5 o4;have Ho12 := Hid.mk5 o12;clear d4 d12 x20 h20 n20 o4 o12;go_simp
  refine wpJ_on 16 rfl fun KJ hK => ?_
  go_simp
  refine (sbetw_ok rfl rfl).mono ?_
  rintro e W2 ⟨rfl, hb⟩
  have HJ : Hid ((fun W' : World => W'.cell? ⟨ga, 0, none⟩ = some (.bool d1.s) ∧ W'.cell? ⟨ga, 1, none⟩ = some (.slice d1.p d1.m d1.c) ∧ W'.cell? ⟨ga, 2, none⟩ = some (.int .i64 d1.e) ∧ W'.cell? ⟨ga, 3, none⟩ = some (.bool d2.s) ∧ W'.cell? ⟨ga, 4, none⟩ = some (.slice d2.p d2.m d2.c) ∧ W'.cell? ⟨ga, 5, none⟩ = some (.int .i64 d2.e) ∧ W'.cell? ⟨gb, 0, none⟩ = some (.bool d3.s) ∧ W'.cell? ⟨gb, 1, none⟩ = some (.slice d3.p d3.m d3.c) ∧ W'.cell? ⟨gb, 2, none⟩ = some (.int .i64 d3.e) ∧ W'.cell? ⟨gb, 3, none⟩ = some (.bool d4.s) ∧ W'.cell? ⟨gb, 4, none⟩ = some (.slice d4.p d4.m d4.c) ∧ W'.cell? ⟨gb, 5, none⟩ = some (.int .i64 d4.e)) W2) := (HFJ.out _ (HFB.out _ _ fq hb))
  refine hK _ _ HJ.out ?_
  refine wpJ_tq 17 rfl HJ.out ?_
  refine wpJ_tq 18 rfl HJ.out ?_
  refine wpJ_tq 19 rfl HJ.out ?_
  exact wpJ_same5 (by kernel_rfl) (by kernel_rfl) (N4_7_12_15_16_20 s4 p4 m4 s12 p12 m12 k20 W2 ⟨(HFB.out _ _ fq hb), (Hd4.out.below hb), (Hd12.out.below hb), (Hx20.out.below hb), Hh20.out, Hn20.out, Ho4.out, Ho12.out⟩)
 have N4_7_12_15 : ∀ (s4 : Bool) (p4 : Option Addr) (m4 : Nat) (s12 : Bool) (p12 : Option Addr) (m12 : Nat) (W' : World), (FQ W') ∧ (DO 0 W' s4 p4 m4 el zl) ∧ (DO 0 W' s12 p12 m12 eh zh) → WP 7 ((((((((L0.setIfInBounds 4 true).setIfInBounds 5 true).setIfInBounds 6 true).setIfInBounds 7 true).setIfInBounds 12 true).setIfInBounds 13 true).setIfInBounds 14 true).setIfInBounds 15 true) ((((((((a0.put (some 25) (.tuple #[DV s4 p4 m4 m4 el, .int .i64 0])).put (some 26) (DV s4 p4 m4 m4 el)).put (some 27) (.int .i64 0)).put (some 28) (EVr s4 p4 m4 m4 el 0)).put (some 33) (.tuple #[DV s12 p12 m12 m12 eh, .int .i64 0])).put (some 34) (DV s12 p12 m12 m12 eh)).put (some 35) (.int .i64 0)).put (some 36) (EVr s12 p12 m12 m12 eh 0)) W' := by
  rintro s4 p4 m4 s12 p12 m12 W' ⟨fq, d4, d12⟩;subst hWP hL ha;have Hd4 := Hid.mk5 d4;have Hd12 := Hid.mk5 d12;clear d4 d12;obtain ⟨hxa, hxb, hxr, hbw⟩ := (hFQ.out W').1 fq;have Hxa := Hid.mk5 hxa;have Hxb := Hid.mk5 hxb;have Hxr := Hid.mk5 hxr;clear hxa hxb hxr;go_simp
  refine wpJ_two (i := 16) (k := 20) (by kernel_rfl) rfl rfl (by kernel_rfl) (by kernel_rfl) (fun KJ hK => ?_) (fun KJ hK => ?_)
  ·go_simp
   refine (sbetw_ok rfl rfl).mono ?_
   rintro e W2 ⟨rfl, hb⟩
   have HJ : Hid ((fun W' : World => W'.cell? ⟨ga, 0, none⟩ = some (.bool d1.s) ∧ W'.cell? ⟨ga, 1, none⟩ = some (.slice d1.p d1.m d1.c) ∧ W'.cell? ⟨ga, 2, none⟩ = some (.int .i64 d1.e) ∧ W'.cell? ⟨ga, 3, none⟩ = some (.bool d2.s) ∧ W'.cell? ⟨ga, 4, none⟩ = some (.slice d2.p d2.m d2.c) ∧ W'.cell? ⟨ga, 5, none⟩ = some (.int .i64 d2.e) ∧ W'.cell? ⟨gb, 0, none⟩ = some (.bool d3.s) ∧ W'.cell? ⟨gb, 1, none⟩ = some (.slice d3.p d3.m d3.c) ∧ W'.cell? ⟨gb, 2, none⟩ = some (.int .i64 d3.e) ∧ W'.cell? ⟨gb, 3, none⟩ = some (.bool d4.s) ∧ W'.cell? ⟨gb, 4, none⟩ = some (.slice d4.p d4.m d4.c) ∧ W'.cell? ⟨gb, 5, none⟩ = some (.int .i64 d4.e)) W2) := (HFJ.out _ (HFB.out _ _ fq hb))
   refine hK _ _ HJ.out ?_
   refine wpJ_tq 17 rfl HJ.out ?_
   refine wpJ_tq 18 rfl HJ.out ?_
   refine wpJ_tq 19 rfl HJ.out ?_
   exact wpJ_same5 (by kernel_rfl) (by kernel_rfl) (N4_7_12_15_16 s4 p4 m4 s12 p12 m12 W2 ⟨(HFB.out _ _ fq hb), (Hd4.out.below hb), (Hd12.out.below hb)⟩)
  ·go_simp
   have hb := below1 W' (.cells #[.bool false, .slice none 0 0, .int .i64 0, .bool false, .slice none 0 0, .int .i64 0] 28)
   refine hK _ _ (HFJ.out _ (HFB.out _ _ fq hb)) ?_
   exact wpJ_same5 (by kernel_rfl) (by kernel_rfl) (N4_7_12_15_20 s4 p4 m4 s12 p12 m12 W'.heap.size _ ⟨(HFB.out _ _ fq hb), (Hd4.out.below hb), (Hd12.out.below hb), (B6q.new W' _ _ _ _ _ _ _), hbw.size, ⟨Nat.ne_of_lt Hxa.out.lt, Nat.ne_of_lt Hxb.out.lt, Nat.ne_of_lt Hxr.out.lt⟩, Hd4.out.apart_new, Hd12.out.apart_new⟩)
 have N4_7_12_20 : ∀ (s4 : Bool) (p4 : Option Addr) (m4 : Nat) (s12 : Bool) (p12 : Option Addr) (m12 : Nat) (k20 : Nat) (W' : World), (FQ W') ∧ (DO 0 W' s4 p4 m4 el zl) ∧ (DO 0 W' s12 p12 m12 eh zh) ∧ (B6q W' k20 (.bool false) (.slice none 0 0) (.int .i64 0) (.bool false) (.slice none 0 0) (.int .i64 0)) ∧ (w.heap.size ≤ k20) ∧ (ga ≠ k20 ∧ gb ≠ k20 ∧ gr ≠ k20) ∧ (m4 = 0 ∨ ∃ g', p4 = some ⟨g', 0, none⟩ ∧ g' ≠ k20) ∧ (m12 = 0 ∨ ∃ g', p12 = some ⟨g', 0, none⟩ ∧ g' ≠ k20) → WP 7 ((((((((L0.setIfInBounds 4 true).setIfInBounds 5 true).setIfInBounds 6 true).setIfInBounds 7 true).setIfInBounds 12 true).setIfInBounds 13 true).setIfInBounds 14 true).setIfInBounds 20 true) ((((((((a0.put (some 25) (.tuple #[DV s4 p4 m4 m4 el, .int .i64 0])).put (some 26) (DV s4 p4 m4 m4 el)).put (some 27) (.int .i64 0)).put (some 28) (EVr s4 p4 m4 m4 el 0)).put (some 33) (.tuple #[DV s12 p12 m12 m12 eh, .int .i64 0])).put (some 34) (DV s12 p12 m12 m12 eh)).put (some 35) (.int .i64 0)).put (some 9) (.pointer (some ⟨k20, 0, none⟩))) W' := by
  rintro s4 p4 m4 s12 p12 m12 k20 W' ⟨fq, d4, d12, x20, h20, n20, o4, o12⟩;subst hWP hL ha;have Hd4 := Hid.mk5 d4;have Hd12 := Hid.mk5 d12;have Hx20 := Hid.mk5 x20;have Hh20 := Hid.mk5 h20;have Hn20 := Hid.mk5 n20;have Ho4 := Hid.mk5 o4;have Ho12 := Hid.mk5 o12;clear d4 d12 x20 h20 n20 o4 o12;go_simp
  refine wpJ_on 15 rfl fun KJ hK => ?_
  go_simp
  refine stold_g.mono ?_
  rintro e W2 ⟨rfl, hb⟩
  refine hK _ _ (HFJ.out _ (HFB.out _ _ fq hb)) ?_
  exact wpJ_same5 (by kernel_rfl) (by kernel_rfl) (N4_7_12_15_20 s4 p4 m4 s12 p12 m12 k20 W2 ⟨(HFB.out _ _ fq hb), (Hd4.out.below hb), (Hd12.out.below hb), (Hx20.out.below hb), Hh20.out, Hn20.out, Ho4.out, Ho12.out⟩)
 have N4_7_12 : ∀ (s4 : Bool) (p4 : Option Addr) (m4 : Nat) (s12 : Bool) (p12 : Option Addr) (m12 : Nat) (W' : World), (FQ W') ∧ (DO 0 W' s4 p4 m4 el zl) ∧ (DO 0 W' s12 p12 m12 eh zh) → WP 8 (((((((L0.setIfInBounds 4 true).setIfInBounds 5 true).setIfInBounds 6 true).setIfInBounds 7 true).setIfInBounds 12 true).setIfInBounds 13 true).setIfInBounds 14 true) (((((((a0.put (some 25) (.tuple #[DV s4 p4 m4 m4 el, .int .i64 0])).put (some 26) (DV s4 p4 m4 m4 el)).put (some 27) (.int .i64 0)).put (some 28) (EVr s4 p4 m4 m4 el 0)).put (some 33) (.tuple #[DV s12 p12 m12 m12 eh, .int .i64 0])).put (some 34) (DV s12 p12 m12 m12 eh)).put (some 35) (.int .i64 0)) W' := by
  rintro s4 p4 m4 s12 p12 m12 W' ⟨fq, d4, d12⟩;subst hWP hL ha;have Hd4 := Hid.mk5 d4;have Hd12 := Hid.mk5 d12;clear d4 d12;obtain ⟨hxa, hxb, hxr, hbw⟩ := (hFQ.out W').1 fq;have Hxa := Hid.mk5 hxa;have Hxb := Hid.mk5 hxb;have Hxr := Hid.mk5 hxr;clear hxa hxb hxr;go_simp
  refine wpJ_two (i := 15) (k := 20) (by kernel_rfl) rfl rfl (by kernel_rfl) (by kernel_rfl) (fun KJ hK => ?_) (fun KJ hK => ?_)
  ·go_simp
   refine stold_g.mono ?_
   rintro e W2 ⟨rfl, hb⟩
   refine hK _ _ (HFJ.out _ (HFB.out _ _ fq hb)) ?_
   exact wpJ_same5 (by kernel_rfl) (by kernel_rfl) (N4_7_12_15 s4 p4 m4 s12 p12 m12 W2 ⟨(HFB.out _ _ fq hb), (Hd4.out.below hb), (Hd12.out.below hb)⟩)
  ·go_simp
   have hb := below1 W' (.cells #[.bool false, .slice none 0 0, .int .i64 0, .bool false, .slice none 0 0, .int .i64 0] 28)
   refine hK _ _ (HFJ.out _ (HFB.out _ _ fq hb)) ?_
   exact wpJ_same5 (by kernel_rfl) (by kernel_rfl) (N4_7_12_20 s4 p4 m4 s12 p12 m12 W'.heap.size _ ⟨(HFB.out _ _ fq hb), (Hd4.out.below hb), (Hd12.out.below hb), (B6q.new W' _ _ _ _ _ _ _), hbw.size, ⟨Nat.ne_of_lt Hxa.out.lt, Nat.ne_of_lt Hxb.out.lt, Nat.ne_of_lt Hxr.out.lt⟩, Hd4.out.apart_new, Hd12.out.apart_new⟩)
 have N4_7_20 : ∀ (s4 : Bool) (p4 : Option Addr) (m4 : Nat) (k20 : Nat) (W' : World), (FQ W') ∧ (DO 0 W' s4 p4 m4 el zl) ∧ (B6q W' k20 (.bool false) (.slice none 0 0) (.int .i64 0) (.bool false) (.slice none 0 0) (.int .i64 0)) ∧ (w.heap.size ≤ k20) ∧ (ga ≠ k20 ∧ gb ≠ k20 ∧ gr ≠ k20) ∧ (m4 = 0 ∨ ∃ g', p4 = some ⟨g', 0, none⟩ ∧ g' ≠ k20) → WP 10 (((((L0.setIfInBounds 4 true).setIfInBounds 5 true).setIfInBounds 6 true).setIfInBounds 7 true).setIfInBounds 20 true) (((((a0.put (some 25) (.tuple #[DV s4 p4 m4 m4 el, .int .i64 0])).put (some 26) (DV s4 p4 m4 m4 el)).put (some 27) (.int .i64 0)).put (some 28) (EVr s4 p4 m4 m4 el 0)).put (some 9) (.pointer (some ⟨k20, 0, none⟩))) W' := by
  rintro s4 p4 m4 k20 W' ⟨fq, d4, x20, h20, n20, o4⟩;subst hWP hL ha;have Hd4 := Hid.mk5 d4;have Hx20 := Hid.mk5 x20;have Hh20 := Hid.mk5 h20;have Hn20 := Hid.mk5 n20;have Ho4 := Hid.mk5 o4;clear d4 x20 h20 n20 o4;obtain ⟨_, _, _, hbw⟩ := (hFQ.out W').1 fq;go_simp
  refine wpJ_on 12 rfl fun KJ hK => ?_
  go_simp
  refine (dadd_v (DN.below A2.out hbw) (DN.below A4.out hbw) HF.out.2.1 HF.out.2.2.2 HL2.out (TB.out.below hbw)).mono ?_
  rintro e W2 ⟨v, rfl, hv, hb⟩;obtain ⟨s12, p12, m12, rfl, hd⟩ := DO.of hv HF.out.2.1
  have HJ : Hid ((fun W' : World => W'.cell? ⟨ga, 0, none⟩ = some (.bool d1.s) ∧ W'.cell? ⟨ga, 1, none⟩ = some (.slice d1.p d1.m d1.c) ∧ W'.cell? ⟨ga, 2, none⟩ = some (.int .i64 d1.e) ∧ W'.cell? ⟨ga, 3, none⟩ = some (.bool d2.s) ∧ W'.cell? ⟨ga, 4, none⟩ = some (.slice d2.p d2.m d2.c) ∧ W'.cell? ⟨ga, 5, none⟩ = some (.int .i64 d2.e) ∧ W'.cell? ⟨gb, 0, none⟩ = some (.bool d3.s) ∧ W'.cell? ⟨gb, 1, none⟩ = some (.slice d3.p d3.m d3.c) ∧ W'.cell? ⟨gb, 2, none⟩ = some (.int .i64 d3.e) ∧ W'.cell? ⟨gb, 3, none⟩ = some (.bool d4.s) ∧ W'.cell? ⟨gb, 4, none⟩ = some (.slice d4.p d4.m d4.c) ∧ W'.cell? ⟨gb, 5, none⟩ = some (.int .i64 d4.e)) W2) := (HFJ.out _ (HFB.out _ _ fq hb))
  refine hK _ _ HJ.out ?_
  refine wpJ_tq 13 rfl HJ.out ?_
  refine wpJ_tq 14 rfl HJ.out ?_
  exact wpJ_same5 (by kernel_rfl) (by kernel_rfl) (N4_7_12_20 s4 p4 m4 s12 p12 m12 k20 W2 ⟨(HFB.out _ _ fq hb), (Hd4.out.below hb), (hd.mono (Nat.zero_le _)), (Hx20.out.below hb), Hh20.out, Hn20.out, Ho4.out, (hd.apart Hx20.out.lt)⟩)
 have N4_7 : ∀ (s4 : Bool) (p4 : Option Addr) (m4 : Nat) (W' : World), (FQ W') ∧ (DO 0 W' s4 p4 m4 el zl) → WP 11 ((((L0.setIfInBounds 4 true).setIfInBounds 5 true).setIfInBounds 6 true).setIfInBounds 7 true) ((((a0.put (some 25) (.tuple #[DV s4 p4 m4 m4 el, .int .i64 0])).put (some 26) (DV s4 p4 m4 m4 el)).put (some 27) (.int .i64 0)).put (some 28) (EVr s4 p4 m4 m4 el 0)) W' := by
  rintro s4 p4 m4 W' ⟨fq, d4⟩;subst hWP hL ha;have Hd4 := Hid.mk5 d4;clear d4;obtain ⟨hxa, hxb, hxr, hbw⟩ := (hFQ.out W').1 fq;have Hxa := Hid.mk5 hxa;have Hxb := Hid.mk5 hxb;have Hxr := Hid.mk5 hxr;clear hxa hxb hxr;go_simp
  refine wpJ_two (i := 12) (k := 20) (by kernel_rfl) rfl rfl (by kernel_rfl) (by kernel_rfl) (fun KJ hK => ?_) (fun KJ hK => ?_)
  ·go_simp
   refine (dadd_v (DN.below A2.out hbw) (DN.below A4.out hbw) HF.out.2.1 HF.out.2.2.2 HL2.out (TB.out.below hbw)).mono ?_
   rintro e W2 ⟨v, rfl, hv, hb⟩;obtain ⟨s12, p12, m12, rfl, hd⟩ := DO.of hv HF.out.2.1
   have HJ : Hid ((fun W' : World => W'.cell? ⟨ga, 0, none⟩ = some (.bool d1.s) ∧ W'.cell? ⟨ga, 1, none⟩ = some (.slice d1.p d1.m d1.c) ∧ W'.cell? ⟨ga, 2, none⟩ = some (.int .i64 d1.e) ∧ W'.cell? ⟨ga, 3, none⟩ = some (.bool d2.s) ∧ W'.cell? ⟨ga, 4, none⟩ = some (.slice d2.p d2.m d2.c) ∧ W'.cell? ⟨ga, 5, none⟩ = some (.int .i64 d2.e) ∧ W'.cell? ⟨gb, 0, none⟩ = some (.bool d3.s) ∧ W'.cell? ⟨gb, 1, none⟩ = some (.slice d3.p d3.m d3.c) ∧ W'.cell? ⟨gb, 2, none⟩ = some (.int .i64 d3.e) ∧ W'.cell? ⟨gb, 3, none⟩ = some (.bool d4.s) ∧ W'.cell? ⟨gb, 4, none⟩ = some (.slice d4.p d4.m d4.c) ∧ W'.cell? ⟨gb, 5, none⟩ = some (.int .i64 d4.e)) W2) := (HFJ.out _ (HFB.out _ _ fq hb))
   refine hK _ _ HJ.out ?_
   refine wpJ_tq 13 rfl HJ.out ?_
   refine wpJ_tq 14 rfl HJ.out ?_
   exact wpJ_same5 (by kernel_rfl) (by kernel_rfl) (N4_7_12 s4 p4 m4 s12 p12 m12 W2 ⟨(HFB.out _ _ fq hb), (Hd4.out.below hb), (hd.mono (Nat.zero_le _))⟩)
  ·go_simp
   have hb := below1 W' (.cells #[.bool false, .slice none 0 0, .int .i64 0, .bool false, .slice none 0 0, .int .i64 0] 28)
   refine hK _ _ (HFJ.out _ (HFB.out _ _ fq hb)) ?_
   exact wpJ_same5 (by kernel_rfl) (by kernel_rfl) (N4_7_20 s4 p4 m4 W'.heap.size _ ⟨(HFB.out _ _ fq hb), (Hd4.out.below hb), (B6q.new W' _ _ _ _ _ _ _), hbw.size, ⟨Nat.ne_of_lt Hxa.out.lt, Nat.ne_of_lt Hxb.out.lt, Nat.ne_of_lt Hxr.out.lt⟩, Hd4.out.apart_new⟩)
 have N4_20 : ∀ (s4 : Bool) (p4 : Option Addr) (m4 : Nat) (k20 : Nat) (W' : World), (FQ W') ∧ (DO 0 W' s4 p4 m4 el zl) ∧ (B6q W' k20 (.bool false) (.slice none 0 0) (.int .i64 0) (.bool false) (.slice none 0 0) (.int .i64 0)) ∧ (w.heap.size ≤ k20) ∧ (ga ≠ k20 ∧ gb ≠ k20 ∧ gr ≠ k20) ∧ (m4 = 0 ∨ ∃ g', p4 = some ⟨g', 0, none⟩ ∧ g' ≠ k20) → WP 11 ((((L0.setIfInBounds 4 true).setIfInBounds 5 true).setIfInBounds 6 true).setIfInBounds 20 true) ((((a0.put (some 25) (.tuple #[DV s4 p4 m4 m4 el, .int .i64 0])).put (some 26) (DV s4 p4 m4 m4 el)).put (some 27) (.int .i64 0)).put (some 9) (.pointer (some ⟨k20, 0, none⟩))) W' := by
  rintro s4 p4 m4 k20 W' ⟨fq, d4, x20, h20, n20, o4⟩;subst hWP hL ha;have Hd4 := Hid.mk5 d4;have Hx20 := Hid.mk5 x20;have Hh20 := Hid.mk5 h20;have Hn20 := Hid.mk5 n20;have Ho4 := Hid.mk5 o4;clear d4 x20 h20 n20 o4;go_simp
  refine wpJ_on 7 rfl fun KJ hK => ?_
  go_simp
  refine stold_g.mono ?_
  rintro e W2 ⟨rfl, hb⟩
  refine hK _ _ (HFJ.out _ (HFB.out _ _ fq hb)) ?_
  exact wpJ_same5 (by kernel_rfl) (by kernel_rfl) (N4_7_20 s4 p4 m4 k20 W2 ⟨(HFB.out _ _ fq hb), (Hd4.out.below hb), (Hx20.out.below hb), Hh20.out, Hn20.out, Ho4.out⟩)
 have N4 : ∀ (s4 : Bool) (p4 : Option Addr) (m4 : Nat) (W' : World), (FQ W') ∧ (DO 0 W' s4 p4 m4 el zl) → WP 12 (((L0.setIfInBounds 4 true).setIfInBounds 5 true).setIfInBounds 6 true) (((a0.put (some 25) (.tuple #[DV s4 p4 m4 m4 el, .int .i64 0])).put (some 26) (DV s4 p4 m4 m4 el)).put (some 27) (.int .i64 0)) W' := by
  rintro s4 p4 m4 W' ⟨fq, d4⟩;subst hWP hL ha;have Hd4 := Hid.mk5 d4;clear d4;obtain ⟨hxa, hxb, hxr, hbw⟩ := (hFQ.out W').1 fq;have Hxa := Hid.mk5 hxa;have Hxb := Hid.mk5 hxb;have Hxr := Hid.mk5 hxr;clear hxa hxb hxr;go_simp
  refine wpJ_two (i := 7) (k := 20) (by kernel_rfl) rfl rfl (by kernel_rfl) (by kernel_rfl) (fun KJ hK => ?_) (fun KJ hK => ?_)
  ·go_simp
   refine stold_g.mono ?_
   rintro e W2 ⟨rfl, hb⟩
   refine hK _ _ (HFJ.out _ (HFB.out _ _ fq hb)) ?_
   exact wpJ_same5 (by kernel_rfl) (by kernel_rfl) (N4_7 s4 p4 m4 W2 ⟨(HFB.out _ _ fq hb), (Hd4.out.below hb)⟩)
  ·go_simp
   have hb := below1 W' (.cells #[.bool false, .slice none 0 0, .int .i64 0, .bool false, .slice none 0 0, .int .i64 0] 28)
   refine hK _ _ (HFJ.out _ (HFB.out _ _ fq hb)) ?_
   exact wpJ_same5 (by kernel_rfl) (by kernel_rfl) (N4_20 s4 p4 m4 W'.heap.size _ ⟨(HFB.out _ _ fq hb), (Hd4.out.below hb), (B6q.new W' _ _ _ _ _ _ _), hbw.size, ⟨Nat.ne_of_lt Hxa.out.lt, Nat.ne_of_lt Hxb.out.lt, Nat.ne_of_lt Hxr.out.lt⟩, Hd4.out.apart_new⟩)
 have N20 : ∀ (k20 : Nat) (W' : World), (FQ W') ∧ (B6q W' k20 (.bool false) (.slice none 0 0) (.int .i64 0) (.bool false) (.slice none 0 0) (.int .i64 0)) ∧ (w.heap.size ≤ k20) ∧ (ga ≠ k20 ∧ gb ≠ k20 ∧ gr ≠ k20) → WP 14 (L0.setIfInBounds 20 true) (a0.put (some 9) (.pointer (some ⟨k20, 0, none⟩))) W' := by
  rintro k20 W' ⟨fq, x20, h20, n20⟩;subst hWP hL ha;have Hx20 := Hid.mk5 x20;have Hh20 := Hid.mk5 h20;have Hn20 := Hid.mk5 n20;clear x20 h20 n20;obtain ⟨_, _, _, hbw⟩ := (hFQ.out W').1 fq;go_simp
  refine wpJ_on 4 rfl fun KJ hK => ?_
  go_simp
  refine (dadd_v (DN.below A1.out hbw) (DN.below A3.out hbw) HF.out.1 HF.out.2.2.1 HL1.out (TB.out.below hbw)).mono ?_
  rintro e W2 ⟨v, rfl, hv, hb⟩;obtain ⟨s4, p4, m4, rfl, hd⟩ := DO.of hv HF.out.1
  have HJ : Hid ((fun W' : World => W'.cell? ⟨ga, 0, none⟩ = some (.bool d1.s) ∧ W'.cell? ⟨ga, 1, none⟩ = some (.slice d1.p d1.m d1.c) ∧ W'.cell? ⟨ga, 2, none⟩ = some (.int .i64 d1.e) ∧ W'.cell? ⟨ga, 3, none⟩ = some (.bool d2.s) ∧ W'.cell? ⟨ga, 4, none⟩ = some (.slice d2.p d2.m d2.c) ∧ W'.cell? ⟨ga, 5, none⟩ = some (.int .i64 d2.e) ∧ W'.cell? ⟨gb, 0, none⟩ = some (.bool d3.s) ∧ W'.cell? ⟨gb, 1, none⟩ = some (.slice d3.p d3.m d3.c) ∧ W'.cell? ⟨gb, 2, none⟩ = some (.int .i64 d3.e) ∧ W'.cell? ⟨gb, 3, none⟩ = some (.bool d4.s) ∧ W'.cell? ⟨gb, 4, none⟩ = some (.slice d4.p d4.m d4.c) ∧ W'.cell? ⟨gb, 5, none⟩ = some (.int .i64 d4.e)) W2) := (HFJ.out _ (HFB.out _ _ fq hb))
  refine hK _ _ HJ.out ?_
  refine wpJ_tq 5 rfl HJ.out ?_
  refine wpJ_tq 6 rfl HJ.out ?_
  exact wpJ_same5 (by kernel_rfl) (by kernel_rfl) (N4_20 s4 p4 m4 k20 W2 ⟨(HFB.out _ _ fq hb), (hd.mono (Nat.zero_le _)), (Hx20.out.below hb), Hh20.out, Hn20.out, (hd.apart Hx20.out.lt)⟩)
 have N_ : ∀ (W' : World), (FQ W') → WP 15 L0 a0 W' := by
  rintro  W' fq;subst hWP hL ha;obtain ⟨hxa, hxb, hxr, hbw⟩ := (hFQ.out W').1 fq;have Hxa := Hid.mk5 hxa;have Hxb := Hid.mk5 hxb;have Hxr := Hid.mk5 hxr;clear hxa hxb hxr;go_simp
  refine wpJ_two (i := 4) (k := 20) (by kernel_rfl) rfl rfl (by kernel_rfl) (by kernel_rfl) (fun KJ hK => ?_) (fun KJ hK => ?_)
  ·go_simp
   refine (dadd_v (DN.below A1.out hbw) (DN.below A3.out hbw) HF.out.1 HF.out.2.2.1 HL1.out (TB.out.below hbw)).mono ?_
   rintro e W2 ⟨v, rfl, hv, hb⟩;obtain ⟨s4, p4, m4, rfl, hd⟩ := DO.of hv HF.out.1
   have HJ : Hid ((fun W' : World => W'.cell? ⟨ga, 0, none⟩ = some (.bool d1.s) ∧ W'.cell? ⟨ga, 1, none⟩ = some (.slice d1.p d1.m d1.c) ∧ W'.cell? ⟨ga, 2, none⟩ = some (.int .i64 d1.e) ∧ W'.cell? ⟨ga, 3, none⟩ = some (.bool d2.s) ∧ W'.cell? ⟨ga, 4, none⟩ = some (.slice d2.p d2.m d2.c) ∧ W'.cell? ⟨ga, 5, none⟩ = some (.int .i64 d2.e) ∧ W'.cell? ⟨gb, 0, none⟩ = some (.bool d3.s) ∧ W'.cell? ⟨gb, 1, none⟩ = some (.slice d3.p d3.m d3.c) ∧ W'.cell? ⟨gb, 2, none⟩ = some (.int .i64 d3.e) ∧ W'.cell? ⟨gb, 3, none⟩ = some (.bool d4.s) ∧ W'.cell? ⟨gb, 4, none⟩ = some (.slice d4.p d4.m d4.c) ∧ W'.cell? ⟨gb, 5, none⟩ = some (.int .i64 d4.e)) W2) := (HFJ.out _ (HFB.out _ _ fq hb))
   refine hK _ _ HJ.out ?_
   refine wpJ_tq 5 rfl HJ.out ?_
   refine wpJ_tq 6 rfl HJ.out ?_
   exact wpJ_same5 (by kernel_rfl) (by kernel_rfl) (N4 s4 p4 m4 W2 ⟨(HFB.out _ _ fq hb), (hd.mono (Nat.zero_le _))⟩)
  ·go_simp
   have hb := below1 W' (.cells #[.bool false, .slice none 0 0, .int .i64 0, .bool false, .slice none 0 0, .int .i64 0] 28)
   refine hK _ _ (HFJ.out _ (HFB.out _ _ fq hb)) ?_
   exact wpJ_same5 (by kernel_rfl) (by kernel_rfl) (N20 W'.heap.size _ ⟨(HFB.out _ _ fq hb), (B6q.new W' _ _ _ _ _ _ _), hbw.size, ⟨Nat.ne_of_lt Hxa.out.lt, Nat.ne_of_lt Hxb.out.lt, Nat.ne_of_lt Hxr.out.lt⟩⟩)
 exact N_ W5 ((hFQ.out _).2 ⟨Xa.out, Xb.out, Xr.out, hbw⟩)
theorem DyL.new2 (W : World) {a b : Dq} {ty : TypeId} (h : a.ok W) (k : b.ok W) : DyL (W.alloc (.cells #[.bool a.s, .slice a.p a.m a.c, .int .i64 a.e, .bool b.s, .slice b.p b.m b.c, .int .i64 b.e] ty)) (some ⟨W.heap.size, 0, none⟩) 2 2 [a, b] := by
  refine ⟨rfl, Nat.le_refl _, by unfold maxLen; decide, fun d hd => ?_, .inr ⟨_, 0, rfl, fun i hi => ?_⟩⟩
  · exact DN.below (ok2 h k d hd) (below1 W _)
  · have h0 : i = 0 ∨ i = 1 := by simp at hi; omega
    rcases h0 with rfl | rfl
    · constructor <;> go_simp
    · constructor <;> go_simp
theorem sends2 {d1 d2 : Dq} {w : World} (h1 : d1.ok w) (h2 : d2.ok w) (hc : d1.v < d2.v) :
  Calls Tryz.prog 56 #[SQ d1 d2] w fun en w' => ∃ g, en = .returned (.slice (some ⟨g, 0, none⟩) 2 2) ∧ w.heap.size ≤ g ∧ DyL w' (some ⟨g, 0, none⟩) 2 2 [d1, d2] ∧ Below w.heap.size w w' := by
 have A1 : Hid (d1.ok w) := h1;have A2 : Hid (d2.ok w) := h2
 have HQ : Hid (decide (d2.v ≤ d1.v) = false) := decide_eq_false (by omega)
 clear h1 h2 hc
 go_enter Tryz.func56, Tryz.ntmps56
 go_wp2_with fail;obtain ⟨W0, hW0⟩ := exq (w.alloc (.cells #[.bool d1.s, .slice d1.p d1.m d1.c, .int .i64 d1.e, .bool d2.s, .slice d2.p d2.m d2.c, .int .i64 d2.e] 28))
 have Xs : Hid (B6q W0 (w.heap.size) (.bool d1.s) (.slice d1.p d1.m d1.c) (.int .i64 d1.e) (.bool d2.s) (.slice d2.p d2.m d2.c) (.int .i64 d2.e)) := by rw [hW0]; constructor <;> go_simp
 have hb0 := bq1 hW0;rw [← hW0];clear hW0;have hbw := brf w;obtain ⟨gs, hgs⟩ := exq w.heap.size;have HGs : Hid (w.heap.size ≤ gs) := hgl hgs;rw [← hgs] at Xs
 try rw [← hgs]
 clear hgs;replace hbw := bon hbw hb0;clear hb0
 refine (satm (DN.below A2.out hbw) (DN.below A1.out hbw)).mono ?_
 rintro e v1 ⟨rfl, hb1⟩;rw [HQ.out];replace Xs := B6q.b Xs hb1;replace hbw := bon hbw hb1;clear hb1;obtain ⟨cs0, cs1, cs2, cs3, cs4, cs5, fs0, fs1, fs2, fs3, fs4, fs5⟩ := Xs.out;have hnes : gs < v1.heap.size := blt cs0;go_wp2_with fail;clear cs0 cs1 cs2 cs3 cs4 cs5 fs0 fs1 fs2 fs3 fs4 fs5 hnes
 go_ret
 exact ⟨_, rfl, hbw.size, DyL.new2 v1 (DN.below A1.out hbw) (DN.below A2.out hbw), Below.on hbw (below1 _ _)⟩
theorem sends1 {d1 d2 : Dq} {w : World} (h1 : d1.ok w) (h2 : d2.ok w) (hc : d2.v ≤ d1.v) :
  Calls Tryz.prog 56 #[SQ d1 d2] w fun en w' => ∃ g, en = .returned (.slice (some ⟨g, 0, none⟩) 1 1) ∧ w.heap.size ≤ g ∧ DyL w' (some ⟨g, 0, none⟩) 1 1 [d1] ∧ Below w.heap.size w w' := by
 have A1 : Hid (d1.ok w) := h1;have A2 : Hid (d2.ok w) := h2;have HQ : Hid (decide (d2.v ≤ d1.v) = true) := decide_eq_true hc;clear h1 h2 hc
 go_enter Tryz.func56, Tryz.ntmps56
 go_wp2_with fail;obtain ⟨W0, hW0⟩ := exq (w.alloc (.cells #[.bool d1.s, .slice d1.p d1.m d1.c, .int .i64 d1.e, .bool d2.s, .slice d2.p d2.m d2.c, .int .i64 d2.e] 28))
 have Xs : Hid (B6q W0 (w.heap.size) (.bool d1.s) (.slice d1.p d1.m d1.c) (.int .i64 d1.e) (.bool d2.s) (.slice d2.p d2.m d2.c) (.int .i64 d2.e)) := by rw [hW0]; constructor <;> go_simp
 have hb0 := bq1 hW0;rw [← hW0];clear hW0;have hbw := brf w;obtain ⟨gs, hgs⟩ := exq w.heap.size;have HGs : Hid (w.heap.size ≤ gs) := hgl hgs;rw [← hgs] at Xs
 try rw [← hgs]
 clear hgs;replace hbw := bon hbw hb0;clear hb0
 refine (satm (DN.below A2.out hbw) (DN.below A1.out hbw)).mono ?_
 rintro e v1 ⟨rfl, hb1⟩;rw [HQ.out];replace Xs := B6q.b Xs hb1;replace hbw := bon hbw hb1;clear hb1;obtain ⟨cs0, cs1, cs2, cs3, cs4, cs5, fs0, fs1, fs2, fs3, fs4, fs5⟩ := Xs.out;have hnes : gs < v1.heap.size := blt cs0;go_wp2_with fail;clear cs0 cs1 cs2 cs3 cs4 cs5 fs0 fs1 fs2 fs3 fs4 fs5 hnes
 go_ret
 exact ⟨_, rfl, hbw.size, DyL.new v1 (DN.below A1.out hbw), Below.on hbw (below1 _ _)⟩
def endsL (a b : Dq) : List Dq := if b.v ≤ a.v then [a] else [a, b]
theorem sends {d1 d2 : Dq} {w : World} (h1 : d1.ok w) (h2 : d2.ok w) : Calls Tryz.prog 56 #[SQ d1 d2] w fun en w' => ∃ g, en = .returned (.slice (some ⟨g, 0, none⟩) (endsL d1 d2).length (endsL d1 d2).length) ∧ w.heap.size ≤ g ∧ DyL w' (some ⟨g, 0, none⟩) (endsL d1 d2).length (endsL d1 d2).length (endsL d1 d2) ∧ Below w.heap.size w w' := by
  by_cases hc : d2.v ≤ d1.v
  · have e : endsL d1 d2 = [d1] := if_pos hc
    rw [e]; exact sends1 h1 h2 hc
  · have e : endsL d1 d2 = [d1, d2] := if_neg hc
    rw [e]; exact sends2 h1 h2 (Int.not_le.1 hc)
theorem Tryz.infoDy : (Tryz.prog.info? 26).map (fun i => (i.zero, i.size, i.bytes)) = some (some (.agg #[.bool false, .slice none 0 0, .int .i64 0]), 3, 40) := by kernel_rfl
def Dq.off (d : Dq) (row : Option Nat) : Prop := d.m = 0 ∨ ∃ g', d.p = some ⟨g', 0, none⟩ ∧ some g' ≠ row
theorem DN.grow {w w' : World} {s : Bool} {p : Option Addr} {m c : Nat} {e z : Int} {row : Option Nat} (h : DN w s p m c e z) (hg : w.grownBy w' row) (hne : m = 0 ∨ ∃ g', p = some ⟨g', 0, none⟩ ∧ some g' ≠ row) : DN w' s p m c e z := by
  obtain ⟨xs, hX⟩ := h.zn.ex
  refine ⟨⟨⟨xs, ⟨⟨hX.at_.len, hX.at_.cap, hX.at_.big, hX.at_.dig, ?_⟩, hX.nf, hX.le⟩⟩, h.zn.sg⟩, h.fm⟩
  rcases hne with h0 | ⟨g', h0, h1⟩
  · exact .inl h0
  · rcases hX.at_.cells with h2 | ⟨g2, off, h2, h3⟩
    · exact .inl h2
    · refine .inr ⟨g2, off, h2, fun j hj => hg.cell (h3 j hj) ?_⟩
      rw [h0] at h2
      simp only [Option.some.injEq, Addr.mk.injEq] at h2
      obtain ⟨rfl, _⟩ := h2
      exact h1
theorem Dq.off.new {w : World} {d : Dq} (h : d.ok w) {row : Option Nat} (ho : d.off row) : d.off (some w.heap.size) := by
  rcases ho with h0 | ⟨g', h0, _⟩
  · exact .inl h0
  · rcases Nat.eq_zero_or_pos d.m with h1 | h1
    · exact .inl h1
    · obtain ⟨xs, hX⟩ := h.zn.ex
      rcases hX.at_.cells with h2 | ⟨g2, off, h2, h3⟩
      · exact .inl h2
      · rw [h0] at h2
        simp only [Option.some.injEq, Addr.mk.injEq] at h2
        obtain ⟨rfl, _⟩ := h2;have h4 : g' < w.heap.size := World.block_lt_of_cell? w _ (h3 0 h1)
        exact .inr ⟨g', h0, fun h5 => Nat.ne_of_lt h4 (Option.some.inj h5)⟩
theorem DO.off {B : Nat} {w : World} {s : Bool} {p : Option Addr} {m : Nat} {e z : Int} (h : DO B w s p m e z) {row : Option Nat} (hr : ∀ b, row = some b → b < B) {c : Nat} : (⟨s, p, m, c, e, z⟩ : Dq).off row := by
  obtain ⟨zs, h1, _⟩ := h.own
  rcases h1.mem with h2 | ⟨g2, h2, h3, _⟩
  · exact .inl h2
  · exact .inr ⟨g2, h2, fun h4 => by have := hr g2 h4.symm; omega⟩
def cell3 (d : Dq) : List Value := [.bool d.s, .slice d.p d.m d.c, .int .i64 d.e]
def cellsD (l : List Dq) : List Value := l.flatMap cell3
theorem cellsD_snoc (l : List Dq) (d : Dq) : cellsD (l ++ [d]) = cellsD l ++ cell3 d := by simp [cellsD]
structure Acc (B : Nat) (w : World) (lv : Value) (l : List Dq) : Prop where
 row : w.ownsRow B 26 3 lv l.length (cellsD l)
 ats : ∀ d ∈ l, d.ok w
 off : ∀ d ∈ l, d.off lv.ownBlock
theorem Acc.nil (B : Nat) (w : World) : Acc B w (.slice none 0 0) [] := ⟨World.ownsRow_nil _ _ _ _, fun d hd => absurd hd (by simp), fun d hd => absurd hd (by simp)⟩
theorem row_below {w w' : World} {B k : Nat} {e : TypeId} {z : Nat} {lv : Value} {cs : List Value} (h : w.ownsRow B e z lv k cs) (hb : Below w.heap.size w w') : w'.ownsRow B e z lv k cs := by
  refine ⟨h.1, ?_⟩
  rcases h.2 with h2 | ⟨g, cap, cur, h2, h3, h4, h5⟩
  · exact .inl h2
  · have hg : g < w.heap.size := by
      rcases Nat.lt_or_ge g w.heap.size with h6 | h6
      · exact h6
      · rw [Array.getElem?_eq_none h6] at h4; cases h4
    exact .inr ⟨g, cap, cur, h2, h3, (hb.block _ hg).trans h4, h5⟩
theorem Acc.below {B : Nat} {w w' : World} {lv : Value} {l : List Dq} (h : Acc B w lv l) (hb : Below w.heap.size w w') : Acc B w' lv l := ⟨row_below h.row hb, fun d hd => DN.below (h.ats d hd) hb, h.off⟩
theorem Acc.b {B : Nat} {w w' : World} {lv : Value} {l : List Dq} (h : Hid (Acc B w lv l)) (hb : Below w.heap.size w w') : Hid (Acc B w' lv l) := Acc.below h hb
theorem Acc.app {B : Nat} {w w' : World} {lv v' : Value} {l : List Dq} {d : Dq} (h : Acc B w lv l) (hd : d.ok w) (ho : d.off lv.ownBlock) (hown : w'.ownsRow B 26 3 v' (l.length + 1) (cellsD l ++ cell3 d)) (hgr : w.grownBy w' lv.ownBlock) (hat : v'.ownBlock = lv.ownBlock ∨ v'.ownBlock = some w.heap.size) : Acc B w' v' (l ++ [d]) := by
  have hall : ∀ b ∈ l ++ [d], b.ok w ∧ b.off lv.ownBlock := by
    intro b hb
    rcases List.mem_append.1 hb with h1 | h1
    · exact ⟨h.ats b h1, h.off b h1⟩
    · simp at h1; subst h1; exact ⟨hd, ho⟩
  refine ⟨?_, fun b hb => DN.grow (hall b hb).1 hgr (hall b hb).2, fun b hb => ?_⟩
  · rw [cellsD_snoc, List.length_append]; exact hown
  · rcases hat with h1 | h1
    · rw [h1]; exact (hall b hb).2
    · rw [h1]; exact (hall b hb).2.new (hall b hb).1
theorem cells3 (w : World) (ty : TypeId) (a b c : Value) : ∀ j u, [a, b, c][j]? = some u → (w.alloc (.cells #[a, b, c] ty)).cell? ((⟨w.heap.size, 0, none⟩ : Addr).add j) = some u := by
  intro j u hj
  match j, hj with
  | 0, hj => simp at hj; subst hj; show World.cell? _ ⟨w.heap.size, 0, none⟩ = _; go_simp
  | 1, hj => simp at hj; subst hj; show World.cell? _ ⟨w.heap.size, 1, none⟩ = _; go_simp
  | 2, hj => simp at hj; subst hj; show World.cell? _ ⟨w.heap.size, 2, none⟩ = _; go_simp
  | k + 3, hj => simp at hj
theorem cells3b (w : World) (o : Obj) (ty : TypeId) (a b c : Value) : ∀ j u, [a, b, c][j]? = some u → ((w.alloc o).alloc (.cells #[a, b, c] ty)).cell? ((⟨w.heap.size + 1, 0, none⟩ : Addr).add j) = some u := by
  have h : (w.alloc o).heap.size = w.heap.size + 1 := by simp
  have h2 := cells3 (w.alloc o) ty a b c;rw [h] at h2
  exact h2
theorem cellsD_get {l : List Dq} : ∀ i (h : i < l.length), (cellsD l)[i * 3]? = some (.bool l[i].s) ∧ (cellsD l)[i * 3 + 1]? = some (.slice l[i].p l[i].m l[i].c) ∧ (cellsD l)[i * 3 + 2]? = some (.int .i64 l[i].e) := by
  induction l with
  | nil => intro i h; cases h
  | cons a l ih =>
    intro i h
    have e : cellsD (a :: l) = cell3 a ++ cellsD l := by simp [cellsD]
    cases i with
    | zero => rw [e]; exact ⟨rfl, rfl, rfl⟩
    | succ i =>
      have h2 : i < l.length := by simp at h; omega
      obtain ⟨q0, q1, q2⟩ := ih i h2;have hl : (cell3 a).length = 3 := rfl;rw [e]
      refine ⟨?_, ?_, ?_⟩
      · rw [List.getElem?_append_right (by rw [hl]; omega), hl, show (i + 1) * 3 - 3 = i * 3 by omega]; exact q0
      · rw [List.getElem?_append_right (by rw [hl]; omega), hl, show (i + 1) * 3 + 1 - 3 = i * 3 + 1 by omega]; exact q1
      · rw [List.getElem?_append_right (by rw [hl]; omega), hl, show (i + 1) * 3 + 2 - 3 = i * 3 + 2 by omega]; exact q2
theorem Acc.dyl {B : Nat} {w : World} {lv : Value} {l : List Dq} (h : Acc B w lv l) : ∃ P C, lv = .slice P l.length C ∧ DyL w P l.length C l := by
  rcases h.row.2 with ⟨h1, h2⟩ | ⟨g, cap, cur, h1, h2, h3, h4, h5, h6, h7⟩
  · exact ⟨none, 0, by rw [h1, h2], ⟨rfl, by omega, by unfold maxLen; omega, h.ats, .inl h2⟩⟩
  · refine ⟨_, cap, h1, ⟨rfl, h4, h5, h.ats, .inr ⟨g, 0, rfl, fun i hi => ?_⟩⟩⟩
    have h8 := h.row;rw [h1] at h8;obtain ⟨q0, q1, q2⟩ := cellsD_get i hi
    refine ⟨?_, ?_, ?_⟩
    · rw [Nat.zero_add, h8.cellAt _ (by omega)]; exact q0
    · rw [Nat.zero_add, h8.cellAt _ (by omega)]; exact q1
    · rw [Nat.zero_add, h8.cellAt _ (by omega)]; exact q2
def DyC (w : World) (g : Nat) (l : List Dq) : Prop := ∀ i (h : i < l.length), w.cell? ⟨g, i * 3, none⟩ = some (.bool l[i].s) ∧ w.cell? ⟨g, i * 3 + 1, none⟩ = some (.slice l[i].p l[i].m l[i].c) ∧ w.cell? ⟨g, i * 3 + 2, none⟩ = some (.int .i64 l[i].e)
theorem DyL.dyc {w : World} {g N C : Nat} {l : List Dq} (h : DyL w (some ⟨g, 0, none⟩) N C l) : DyC w g l := by
  intro i hi
  rcases h.cells with h0 | ⟨g2, off, h0, h1⟩
  · have := h.len; omega
  · simp only [Option.some.injEq, Addr.mk.injEq] at h0
    obtain ⟨rfl, rfl, _⟩ := h0;have := h1 i hi;rw [Nat.zero_add] at this
    exact this
theorem DyC.below {w w' : World} {g : Nat} {l : List Dq} (h : DyC w g l) (hb : Below w.heap.size w w') : DyC w' g l := by
  intro i hi
  obtain ⟨q0, q1, q2⟩ := h i hi;have hl : g < w.heap.size := World.block_lt_of_cell? w _ q0
  exact ⟨(hb.cell (p := ⟨g, i * 3, none⟩) hl).trans q0, (hb.cell (p := ⟨g, i * 3 + 1, none⟩) hl).trans q1, (hb.cell (p := ⟨g, i * 3 + 2, none⟩) hl).trans q2⟩
theorem DyC.b {w w' : World} {g : Nat} {l : List Dq} (h : Hid (DyC w g l)) (hb : Below w.heap.size w w') : Hid (DyC w' g l) := DyC.below h hb
theorem DyC.grow {w w' : World} {g : Nat} {l : List Dq} {row : Option Nat} (h : DyC w g l) (hg : w.grownBy w' row) (hne : some g ≠ row) : DyC w' g l := by
  intro i hi
  obtain ⟨q0, q1, q2⟩ := h i hi
  exact ⟨hg.cell q0 hne, hg.cell q1 hne, hg.cell q2 hne⟩
theorem B3q.grow {w w' : World} {g : Nat} {v0 v1 v2 : Value} {row : Option Nat} (h : B3q w g v0 v1 v2) (hg : w.grownBy w' row) (hne : some g ≠ row) : B3q w' g v0 v1 v2 := by
  have hlt := h.lt
  exact ⟨hg.cell h.c0 hne, hg.cell h.c1 hne, hg.cell h.c2 hne, (hg.frozen_far _ hlt hne).trans h.f0, (hg.frozen_far _ hlt hne).trans h.f1, (hg.frozen_far _ hlt hne).trans h.f2⟩
theorem B6q.grow {w w' : World} {g : Nat} {v0 v1 v2 v3 v4 v5 : Value} {row : Option Nat} (h : B6q w g v0 v1 v2 v3 v4 v5) (hg : w.grownBy w' row) (hne : some g ≠ row) : B6q w' g v0 v1 v2 v3 v4 v5 := by
  have hlt := h.lt
  exact ⟨hg.cell h.c0 hne, hg.cell h.c1 hne, hg.cell h.c2 hne, hg.cell h.c3 hne, hg.cell h.c4 hne, hg.cell h.c5 hne, (hg.frozen_far _ hlt hne).trans h.f0, (hg.frozen_far _ hlt hne).trans h.f1, (hg.frozen_far _ hlt hne).trans h.f2, (hg.frozen_far _ hlt hne).trans h.f3, (hg.frozen_far _ hlt hne).trans h.f4, (hg.frozen_far _ hlt hne).trans h.f5⟩
def BadM (x e y f : Int) : Prop := LIM ≤ (x * y).natAbs ∨ ∀ zo eo, DFm zo eo → dv zo eo ≠ dv (x * y) (e + f)
def MulD (B : Nat) (w : World) (s : Bool) (p : Option Addr) (m : Nat) (eo er x e y f : Int) : Prop :=
 (er = 0 ∧ ∃ zo, DO B w s p m eo zo ∧ dv zo eo = dv (x * y) (e + f)) ∨ (er = 5 ∧ s = false ∧ p = none ∧ m = 0 ∧ eo = 0 ∧ BadM x e y f)
theorem dmulP {p q : Option Addr} {m c n d : Nat} {w : World} {x y e f : Int} {s t : Bool} (h : DN w s p m c e x) (k : DN w t q n d f y) (hT : Tab w) :
  Calls Tryz.prog 57 #[DV s p m c e, DV t q n d f] w fun en w' => (∃ s1 p1 m1 eo er, en = .returned (.tuple #[DV s1 p1 m1 m1 eo, .int .i64 er]) ∧ MulD w.heap.size w' s1 p1 m1 eo er x e y f) ∧ Below w.heap.size w w' := by
 by_cases hl : LIM ≤ (x * y).natAbs
 ·exact (dmulA_l h k hl).mono fun en w' ⟨h1, h2⟩ => ⟨⟨false, none, 0, 0, 5, h1, .inr ⟨rfl, rfl, rfl, rfl, rfl, .inl hl⟩⟩, h2⟩
 ·have h1 := dn_exp h
  have h2 := dn_exp k
  refine (dmulA_m h k (by omega) (by omega) hT).mono fun en w' ⟨h3, h4⟩ => ⟨?_, h4⟩
  obtain ⟨s1, p1, m1, eo, er, h5, h6⟩ := h3.open
  exact ⟨s1, p1, m1, eo, er, h5, h6.mpd.imp id fun ⟨a, b, c, d, e, g⟩ => ⟨a, b, c, d, e, .inr g⟩⟩
def pairsL (xs ys : List Dq) : List (Dq × Dq) := xs.flatMap fun x => ys.map fun y => (x, y)
def pv (q : Dq × Dq) : Int := dv (q.1.z * q.2.z) (q.1.e + q.2.e)
theorem pairs_snoc (xs ys : List Dq) (x : Dq) : pairsL (xs ++ [x]) ys = pairsL xs ys ++ ys.map fun y => (x, y) := by simp [pairsL]
theorem vals_snoc {l : List Dq} {ps : List (Dq × Dq)} {d : Dq} {q : Dq × Dq} (h : l.map Dq.v = ps.map pv) (hd : d.v = pv q) : (l ++ [d]).map Dq.v = (ps ++ [q]).map pv := by
  rw [List.map_append, List.map_append, h]
  simp [hd]
def ProdR (b : Nat) (w' : World) (en : Ending) (d1 d2 d3 d4 : Dq) : Prop := ((∃ P C l, en = .returned (.tuple #[.slice P l.length C, .int .i64 0]) ∧ DyL w' P l.length C l ∧ l.map Dq.v = (pairsL (endsL d1 d2) (endsL d3 d4)).map pv ∧ ∀ g o, P = some ⟨g, o, none⟩ → b ≤ g) ∨ (en = .returned (.tuple #[.slice none 0 0, .int .i64 5]) ∧ ∃ x ∈ endsL d1 d2, ∃ y ∈ endsL d3 d4, BadM x.z x.e y.z y.e))
theorem sprods {d1 d2 d3 d4 : Dq} {w : World} (h1 : d1.ok w) (h2 : d2.ok w) (h3 : d3.ok w) (h4 : d4.ok w) (hT : Tab w) :
  Calls Tryz.prog 32 #[SQ d1 d2, SQ d3 d4] w fun en w' => ProdR w.heap.size w' en d1 d2 d3 d4 ∧ Below w.heap.size w w' := by
 have A1 : Hid (d1.ok w) := h1;have A2 : Hid (d2.ok w) := h2;have A3 : Hid (d3.ok w) := h3;have A4 : Hid (d4.ok w) := h4;have TB : Hid (Tab w) := hT
 have HXS : Hid (∀ d ∈ endsL d1 d2, d.ok w) := by
  intro d hd
  unfold endsL at hd
  split at hd
  ·simp at hd; subst hd; exact h1
  ·exact ok2 h1 h2 d hd
 have HYS : Hid (∀ d ∈ endsL d3 d4, d.ok w) := by
  intro d hd
  unfold endsL at hd
  split at hd
  ·simp at hd; subst hd; exact h3
  ·exact ok2 h3 h4 d hd
 have HN : Hid ((endsL d1 d2).length ≤ 2 ∧ (endsL d3 d4).length ≤ 2) := by
  refine ⟨?_, ?_⟩ <;> (unfold endsL; split <;> simp)
 obtain ⟨i0, hi, hz0, hz1, hz2⟩ := info_parts Tryz.infoDy;clear h1 h2 h3 h4 hT
 go_enter Tryz.func32, Tryz.ntmps32
 go_wp2_with fail;obtain ⟨W0, hW0⟩ := exq ((w.alloc (.cells #[.bool d1.s, .slice d1.p d1.m d1.c, .int .i64 d1.e, .bool d2.s, .slice d2.p d2.m d2.c, .int .i64 d2.e] 28)).alloc (.cells #[.bool d3.s, .slice d3.p d3.m d3.c, .int .i64 d3.e, .bool d4.s, .slice d4.p d4.m d4.c, .int .i64 d4.e] 28))
 have Xa : Hid (B6q W0 (w.heap.size) (.bool d1.s) (.slice d1.p d1.m d1.c) (.int .i64 d1.e) (.bool d2.s) (.slice d2.p d2.m d2.c) (.int .i64 d2.e)) := by rw [hW0]; constructor <;> go_simp
 have Xb : Hid (B6q W0 (w.heap.size + 1) (.bool d3.s) (.slice d3.p d3.m d3.c) (.int .i64 d3.e) (.bool d4.s) (.slice d4.p d4.m d4.c) (.int .i64 d4.e)) := by rw [hW0]; constructor <;> go_simp
 have hb0 := bq2 hW0;rw [← hW0];clear hW0;have hbw := brf w;obtain ⟨gb, hgb⟩ := exq (w.heap.size + 1);have HGb : Hid (w.heap.size ≤ gb) := hgl hgb;rw [← hgb] at Xb
 try rw [← hgb]
 obtain ⟨ga, hga⟩ := exq w.heap.size;have HGa : Hid (w.heap.size ≤ ga) := hgl hga;rw [← hga] at Xa
 try rw [← hga]
 have HGD : Hid (ga ≠ gb ∧ gb ≠ ga) := by rw [hga, hgb]; show _ ∧ _; omega
 clear hga hgb;replace hbw := bon hbw hb0;clear hb0
 refine (sends (DN.below A1.out hbw) (DN.below A2.out hbw)).mono ?_
 rintro e9 v1 ⟨g1, rfl, hg1, hd1, hb1⟩;have hc1 := hd1.dyc;replace Xa := B6q.b Xa hb1;replace Xb := B6q.b Xb hb1;replace hbw := bon hbw hb1;clear hb1;have C1 := hdQ hc1;obtain ⟨N1, hN1⟩ := exq ((endsL d1 d2).length);have HN1 := hdQ hN1
 have HL1 : Hid (N1 ≤ 2) := by rw [hN1]; exact HN.out.1
 have hN0 : N1 ≤ 2 := HL1.out;rw [← hN1];clear hN1 hd1 hg1;obtain ⟨B, hB⟩ := exq v1.heap.size
 have HB : Hid (gb < B ∧ w.heap.size ≤ B ∧ (0 < N1 → g1 < B)) := by rw [hB]; exact ⟨Xb.out.lt, hbw.size, fun h => World.block_lt_of_cell? v1 _ (C1.out 0 (by rw [← HN1.out]; exact h)).1⟩
 have HBS : Hid (B ≤ v1.heap.size) := by rw [hB]; exact Nat.le_refl _
 clear hB;go_wp2_with fail
 go_loopg [6, 16] N1 (fun gg ov iv wr => ∃ (k : Nat) (l : List Dq), k + gg = N1 ∧ iv = .int .i64 k ∧ Acc B wr ov l ∧ l.map Dq.v = (pairsL ((endsL d1 d2).take k) (endsL d3 d4)).map pv ∧ l.length ≤ 2 * k ∧ DyC wr g1 (endsL d1 d2) ∧ B6q wr gb (.bool d3.s) (.slice d3.p d3.m d3.c) (.int .i64 d3.e) (.bool d4.s) (.slice d4.p d4.m d4.c) (.int .i64 d4.e) ∧ B ≤ wr.heap.size ∧ Below w.heap.size w wr)
 case atStart => exact ⟨0, [], by omega, rfl, Acc.nil _ _, rfl, by simp, C1.out, Xb.out, HBS.out, hbw⟩
 case round =>
  obtain ⟨k, l, hkg, rfl, hacc, hval, hll, hc1, hxb, hbs, hbr⟩ := hrel;have HLL : Hid (l.length ≤ 2 * k) := hll;clear hll Xa Xb C1 hbw HBS;have ACC := hdQ hacc;have HV : Hid (l.map Dq.v = (pairsL ((endsL d1 d2).take k) (endsL d3 d4)).map pv) := hval;have C1 := hdQ hc1;have Xb := hdQ hxb;have HBS := hdQ hbs;have hbw := hbr;clear hacc hval hc1 hxb hbs hbr
  cases gk with
  | zero =>
   obtain rfl : k = N1 := by omega
   have hnk : ¬ (k : Int) < (k : Int) := by omega
   have htk : (endsL d1 d2).take k = endsL d1 d2 := List.take_of_length_le (Nat.le_of_eq HN1.out.symm);obtain ⟨P, C, rfl, hdl⟩ := ACC.out.dyl;go_wp2_with fail
   go_ret2
   exact ⟨.inl ⟨P, C, l, rfl, hdl, by have := HV.out; rw [htk] at this; exact this, fun g o h => by subst h; exact Nat.le_trans HB.out.2.1 (ACC.out.row.lt g rfl).1⟩, hbw⟩
  | succ gg =>
   have hki : k < (endsL d1 d2).length := by rw [← HN1.out]; omega
   obtain ⟨e0, e1', e2'⟩ := C1.out k hki;have HAT : Hid ((endsL d1 d2)[k].ok w ∧ (endsL d1 d2)[k] ∈ endsL d1 d2) := ⟨HXS.out _ (List.getElem_mem hki), List.getElem_mem hki⟩;have HLK : Hid ((endsL d1 d2).take (k + 1) = (endsL d1 d2).take k ++ [(endsL d1 d2)[k]]) := List.take_succ_eq_append_getElem hki
   have hkk : (k : Int) < (N1 : Int) := by omega
   have hlt : g1 < wr.heap.size := World.block_lt_of_cell? wr _ e0;generalize (endsL d1 d2)[k] = dx at *;obtain ⟨s1, p1, m1, c1, e1, z1⟩ := dx;have HX1 : Hid (DN w s1 p1 m1 c1 e1 z1) := HAT.out.1;have HX2 : Hid ((⟨s1, p1, m1, c1, e1, z1⟩ : Dq) ∈ endsL d1 d2) := HAT.out.2;clear HAT
   simp only at e0 e1' e2'
   obtain ⟨cb0, cb1, cb2, cb3, cb4, cb5, fb0, fb1, fb2, fb3, fb4, fb5⟩ := Xb.out;have hneb : gb < wr.heap.size := blt cb0;go_wp2_with fail;clear cb0 cb1 cb2 cb3 cb4 cb5 fb0 fb1 fb2 fb3 fb4 fb5 hneb e0 e1' e2' hlt
   have HNX : Hid (some wr.heap.size ≠ Value.ownBlock u6) := fun h => Nat.lt_irrefl _ (ACC.out.row.lt _ h.symm).2
   obtain ⟨n8, hn8⟩ := exq wr.heap.size
   have HBS3 : Hid (B ≤ n8) := by rw [hn8]; exact HBS.out
   have hn9 : wr.heap.size = n8 := hn8.symm;have Xx0 : Hid (B3q (wr.alloc (.cells #[.bool s1, .slice p1 m1 c1, .int .i64 e1] 26)) wr.heap.size (.bool s1) (.slice p1 m1 c1) (.int .i64 e1)) := B3q.new wr _ _ _ _;have hbn : Below wr.heap.size wr (wr.alloc (.cells #[.bool s1, .slice p1 m1 c1, .int .i64 e1] 26)) := below1 wr _;generalize wr.alloc (.cells #[.bool s1, .slice p1 m1 c1, .int .i64 e1] 26) = W1 at *;have HGx : Hid (w.heap.size ≤ wr.heap.size) := hbw.size;replace Xb := B6q.b Xb hbn;replace C1 := DyC.b C1 hbn;replace ACC := Acc.b ACC hbn;replace hbw := bon hbw hbn;clear hbn;generalize wr.heap.size = gx at *;have Xx := Xx0;clear Xx0;have HWX : Hid (n8 = gx) := hn8;clear hn8 hn9
   refine (sends (DN.below A3.out hbw) (DN.below A4.out hbw)).mono ?_
   rintro e9 v2 ⟨g2, rfl, hg2, hd2, hb2⟩;have hc2 := hd2.dyc
   have HNG : Hid (some g2 ≠ Value.ownBlock u6) := fun h => by have h5 := (ACC.out.row.lt _ h.symm).2; omega
   replace Xb := B6q.b Xb hb2;replace Xx := B3q.b Xx hb2;replace C1 := DyC.b C1 hb2;replace ACC := Acc.b ACC hb2;replace hbw := bon hbw hb2;clear hb2;have C2 := hdQ hc2;obtain ⟨N2, hN2⟩ := exq ((endsL d3 d4).length);have HN2 := hdQ hN2
   have hN02 : N2 ≤ 2 := by rw [hN2]; exact HN.out.2
   rw [← hN2];clear hN2 hd2 hg2;go_wp2_with fail;have HBS2 : Hid (B ≤ v2.heap.size) := Nat.le_of_lt (Nat.lt_of_le_of_lt HBS3.out (Nat.lt_of_le_of_lt (Nat.le_of_eq HWX.out) Xx.out.lt))
   go_loopg [6, 23] N2 (fun g9 ov iv wr => ∃ (j : Nat) (l : List Dq), j + g9 = N2 ∧ iv = .int .i64 j ∧ Acc B wr ov l ∧ l.map Dq.v = ((pairsL ((endsL d1 d2).take k) (endsL d3 d4)) ++ ((endsL d3 d4).take j).map fun y => ((⟨s1, p1, m1, c1, e1, z1⟩ : Dq), y)).map pv ∧ l.length ≤ 2 * k + j ∧ DyC wr g1 (endsL d1 d2) ∧ DyC wr g2 (endsL d3 d4) ∧ B6q wr gb (.bool d3.s) (.slice d3.p d3.m d3.c) (.int .i64 d3.e) (.bool d4.s) (.slice d4.p d4.m d4.c) (.int .i64 d4.e) ∧ B3q wr gx (.bool s1) (.slice p1 m1 c1) (.int .i64 e1) ∧ some gx ≠ Value.ownBlock ov ∧ some g2 ≠ Value.ownBlock ov ∧ B ≤ wr.heap.size ∧ Below w.heap.size w wr)
   case atStart => exact ⟨0, l, by omega, rfl, ACC.out, by simpa using HV.out, HLL.out, C1.out, C2.out, Xb.out, Xx.out, HNX.out, HNG.out, HBS2.out, hbw⟩
   case round =>
    clear ACC HV HLL;obtain ⟨j, l, hjg, rfl, hacc, hval, hll, hc1, hc2, hxb, hxx, hnx, hng, hbs, hbr⟩ := hrel;have HLL : Hid (l.length ≤ 2 * k + j) := hll;clear hll Xb Xx C1 C2 hbw HBS HBS2 HNX HNG;have ACC := hdQ hacc
    have HV : Hid (l.map Dq.v = ((pairsL ((endsL d1 d2).take k) (endsL d3 d4)) ++ ((endsL d3 d4).take j).map fun y => ((⟨s1, p1, m1, c1, e1, z1⟩ : Dq), y)).map pv) := hval
    have C1 := hdQ hc1;have C2 := hdQ hc2;have Xb := hdQ hxb;have Xx := hdQ hxx;have HNX : Hid (some gx ≠ Value.ownBlock u6) := hnx;have HNG : Hid (some g2 ≠ Value.ownBlock u6) := hng;have HBS := hdQ hbs;have hbw := hbr;clear hacc hval hc1 hc2 hxb hxx hnx hng hbs hbr
    cases gk with
    | zero =>
     obtain rfl : j = N2 := by omega
     have hnj : ¬ (j : Int) < (j : Int) := by omega
     have HV2 : Hid (l.map Dq.v = (pairsL ((endsL d1 d2).take (k + 1)) (endsL d3 d4)).map pv) := by have h9 := HV.out; rw [List.take_of_length_le (Nat.le_of_eq HN2.out.symm)] at h9; rw [HLK.out, pairs_snoc]; exact h9
     go_wp2_with fail
     go_roundg gg
     case measure => omega
     case rel => exact ⟨k + 1, l, by omega, by go_num, ACC.out, HV2.out, by have := HLL.out; omega, C1.out, Xb.out, HBS.out, hbw⟩
    | succ g8 =>
     have hji : j < (endsL d3 d4).length := by rw [← HN2.out]; omega
     obtain ⟨e0, e1', e2'⟩ := C2.out j hji;have HAT : Hid ((endsL d3 d4)[j].ok w ∧ (endsL d3 d4)[j] ∈ endsL d3 d4) := ⟨HYS.out _ (List.getElem_mem hji), List.getElem_mem hji⟩;have HLJ : Hid ((endsL d3 d4).take (j + 1) = (endsL d3 d4).take j ++ [(endsL d3 d4)[j]]) := List.take_succ_eq_append_getElem hji
     have hjj : (j : Int) < (N2 : Int) := by omega
     have hlt : g2 < wr.heap.size := World.block_lt_of_cell? wr _ e0;generalize (endsL d3 d4)[j] = dy at *;obtain ⟨s2, p2, m2, c2, e2, z2⟩ := dy;have HY1 : Hid (DN w s2 p2 m2 c2 e2 z2) := HAT.out.1;have HY2 : Hid ((⟨s2, p2, m2, c2, e2, z2⟩ : Dq) ∈ endsL d3 d4) := HAT.out.2;clear HAT
     simp only at e0 e1' e2'
     obtain ⟨cx0, cx1, cx2, fx0, fx1, fx2⟩ := Xx.out;have hnex : gx < wr.heap.size := blt cx0;go_wp2_with fail;clear cx0 cx1 cx2 fx0 fx1 fx2 hnex e0 e1' e2' hlt;have Xy0 : Hid (B3q (wr.alloc (.cells #[.bool s2, .slice p2 m2 c2, .int .i64 e2] 26)) wr.heap.size (.bool s2) (.slice p2 m2 c2) (.int .i64 e2)) := B3q.new wr _ _ _ _;have hbn : Below wr.heap.size wr (wr.alloc (.cells #[.bool s2, .slice p2 m2 c2, .int .i64 e2] 26)) := below1 wr _;generalize wr.alloc (.cells #[.bool s2, .slice p2 m2 c2, .int .i64 e2] 26) = W2 at *;have HGy : Hid (w.heap.size ≤ wr.heap.size) := hbw.size;replace Xb := B6q.b Xb hbn;replace Xx := B3q.b Xx hbn;replace C1 := DyC.b C1 hbn;replace C2 := DyC.b C2 hbn;replace ACC := Acc.b ACC hbn;replace hbw := bon hbw hbn;clear hbn;generalize wr.heap.size = gy at *;have Xy := Xy0;clear Xy0;have HB3 : Hid (B ≤ gx) := Nat.le_trans HBS3.out (Nat.le_of_eq HWX.out)
     refine (dmulP (HX1.out.below hbw) (HY1.out.below hbw) (TB.out.below hbw)).mono ?_
     rintro e9 v3 ⟨⟨s3, p3, m3, e3, r3, rfl, hmd⟩, hb3⟩
     have HRW : Hid (∀ b, Value.ownBlock u6 = some b → b < W2.heap.size) := fun b h => (ACC.out.row.lt _ h).2
     replace Xb := B6q.b Xb hb3;replace Xx := B3q.b Xx hb3;replace Xy := B3q.b Xy hb3;replace C1 := DyC.b C1 hb3;replace C2 := DyC.b C2 hb3;replace ACC := Acc.b ACC hb3;replace hbw := bon hbw hb3;clear hb3;have HMD := hdQ hmd;clear hmd
     rcases HMD.out with ⟨rfl, z3, hdo, hdv⟩ | ⟨rfl, rfl, rfl, rfl, rfl, hbad⟩
     ·have HDO : Hid (DO W2.heap.size v3 s3 p3 m3 e3 z3 ∧ dv z3 e3 = dv (z1 * z2) (e1 + e2)) := ⟨hdo, hdv⟩
      clear hdo hdv HMD;have hbA : Below v3.heap.size v3 ((v3.alloc (.cells #[.bool s3, .slice p3 m3 m3, .int .i64 e3] 26)).alloc (.cells #[.bool s3, .slice p3 m3 m3, .int .i64 e3] 26)) := below2 v3 _ _;have ACA : Hid (Acc B ((v3.alloc (.cells #[.bool s3, .slice p3 m3 m3, .int .i64 e3] 26)).alloc (.cells #[.bool s3, .slice p3 m3 m3, .int .i64 e3] 26)) u6 l) := ACC.out.below hbA;have hbwA : Below w.heap.size w ((v3.alloc (.cells #[.bool s3, .slice p3 m3 m3, .int .i64 e3] 26)).alloc (.cells #[.bool s3, .slice p3 m3 m3, .int .i64 e3] 26)) := Below.on hbw hbA;have HSZ : Hid (B ≤ ((v3.alloc (.cells #[.bool s3, .slice p3 m3 m3, .int .i64 e3] 26)).alloc (.cells #[.bool s3, .slice p3 m3 m3, .int .i64 e3] 26)).heap.size) := Nat.le_trans (Nat.le_of_lt (Nat.lt_of_le_of_lt HB3.out Xx.out.lt)) hbA.size;have HDA : Hid (DN ((v3.alloc (.cells #[.bool s3, .slice p3 m3 m3, .int .i64 e3] 26)).alloc (.cells #[.bool s3, .slice p3 m3 m3, .int .i64 e3] 26)) s3 p3 m3 m3 e3 z3) := HDO.out.1.dn.below hbA
      have hle9 := HLL.out
      have hu58 : Tryz.prog.underlying 58 = some (.slice 26) := by kernel_rfl
      have hoff : (⟨s3, p3, m3, m3, e3, z3⟩ : Dq).off (Value.ownBlock u6) := HDO.out.1.off HRW.out;have HOF : Hid ((⟨s3, p3, m3, m3, e3, z3⟩ : Dq).off (Value.ownBlock u6)) := hoff;clear hoff;have C1A : Hid (DyC ((v3.alloc (.cells #[.bool s3, .slice p3 m3 m3, .int .i64 e3] 26)).alloc (.cells #[.bool s3, .slice p3 m3 m3, .int .i64 e3] 26)) g1 (endsL d1 d2)) := C1.out.below hbA;have C2A : Hid (DyC ((v3.alloc (.cells #[.bool s3, .slice p3 m3 m3, .int .i64 e3] 26)).alloc (.cells #[.bool s3, .slice p3 m3 m3, .int .i64 e3] 26)) g2 (endsL d3 d4)) := C2.out.below hbA;have XbA : Hid (B6q ((v3.alloc (.cells #[.bool s3, .slice p3 m3 m3, .int .i64 e3] 26)).alloc (.cells #[.bool s3, .slice p3 m3 m3, .int .i64 e3] 26)) gb (.bool d3.s) (.slice d3.p d3.m d3.c) (.int .i64 d3.e) (.bool d4.s) (.slice d4.p d4.m d4.c) (.int .i64 d4.e)) := Xb.out.below hbA;have XxA : Hid (B3q ((v3.alloc (.cells #[.bool s3, .slice p3 m3 m3, .int .i64 e3] 26)).alloc (.cells #[.bool s3, .slice p3 m3 m3, .int .i64 e3] 26)) gx (.bool s1) (.slice p1 m1 c1) (.int .i64 e1)) := Xx.out.below hbA
      clear ACC C1 C2 Xb Xx Xy hbw hbA
      go_wp2_with (at_builtin; refine wpList_append_own_at _ rfl _ _ 58 rfl B 26 i0 (.agg #[.bool false, .slice none 0 0, .int .i64 0]) 3 40 hu58 hi hz0 hz1 hz2 rfl (by decide) _ _ _ rfl ACA.out.row ⟨v3.heap.size + 1, 0, none⟩ 1 1 [.bool s3, .slice p3 m3 m3, .int .i64 e3] rfl rfl (cells3b v3 _ _ _ _ _) (by intro u hu; simp only [List.mem_cons, List.not_mem_nil, or_false] at hu; rcases hu with rfl | rfl | rfl <;> rfl) (by unfold maxLen; omega) (by omega) HSZ.out ?_; intro v6 w6 hown6 hgr6 hnil6 hat6)
      go_roundg g8
      case measure => omega
      case rel =>
       have hrw : ∀ b, Value.ownBlock u6 = some b → B ≤ b := fun b h => (ACA.out.row.lt b h).1
       have hn1 : some g1 ≠ Value.ownBlock u6 := fun h => by have h1 := hrw g1 h.symm; have h2 := HB.out.2.2 (by omega); omega
       have hn2 : some gb ≠ Value.ownBlock u6 := fun h => by have h1 := hrw gb h.symm; have h2 := HB.out.1; omega
       have hlx : gx < ((v3.alloc (.cells #[.bool s3, .slice p3 m3 m3, .int .i64 e3] 26)).alloc (.cells #[.bool s3, .slice p3 m3 m3, .int .i64 e3] 26)).heap.size := XxA.out.lt
       have hl2 : g2 < ((v3.alloc (.cells #[.bool s3, .slice p3 m3 m3, .int .i64 e3] 26)).alloc (.cells #[.bool s3, .slice p3 m3 m3, .int .i64 e3] 26)).heap.size := World.block_lt_of_cell? _ _ (C2A.out 0 (by rw [← HN2.out]; omega)).1
       refine ⟨j + 1, l ++ [⟨s3, p3, m3, m3, e3, z3⟩], by omega, by go_num, ACA.out.app (d := ⟨s3, p3, m3, m3, e3, z3⟩) HDA.out HOF.out hown6 hgr6 hat6, ?_, by have := HLL.out; simp; omega, C1A.out.grow hgr6 hn1, C2A.out.grow hgr6 HNG.out, XbA.out.grow hgr6 hn2, XxA.out.grow hgr6 HNX.out, ?_, ?_, Nat.le_trans HSZ.out hgr6.size, ?_⟩
       ·rw [HLJ.out, show ((endsL d3 d4).take j ++ [(⟨s2, p2, m2, c2, e2, z2⟩ : Dq)]).map (fun y => ((⟨s1, p1, m1, c1, e1, z1⟩ : Dq), y)) = ((endsL d3 d4).take j).map (fun y => ((⟨s1, p1, m1, c1, e1, z1⟩ : Dq), y)) ++ [((⟨s1, p1, m1, c1, e1, z1⟩ : Dq), (⟨s2, p2, m2, c2, e2, z2⟩ : Dq))] from by simp, ← List.append_assoc]; exact vals_snoc HV.out HDO.out.2
       ·rcases hat6 with h1 | h1
        ·rw [h1]; exact HNX.out
        ·rw [h1]; exact fun h => Nat.ne_of_lt hlx (Option.some.inj h)
       ·rcases hat6 with h1 | h1
        ·rw [h1]; exact HNG.out
        ·rw [h1]; exact fun h => Nat.ne_of_lt hl2 (Option.some.inj h)
       ·exact hbwA.grown hgr6 hbwA.size fun b hb => Nat.le_trans HB.out.2.1 (hrw b hb)
     ·have HBD := hdQ hbad
      clear hbad HMD;go_wp2_with fail
      go_ret2
      exact ⟨.inr ⟨rfl, _, HX2.out, _, HY2.out, HBD.out⟩, Below.on hbw (below1 _ _)⟩
def IsMin (ps : List (Dq × Dq)) (v : Int) : Prop := (∃ q ∈ ps, v = pv q) ∧ ∀ q ∈ ps, v ≤ pv q
def IsMax (ps : List (Dq × Dq)) (v : Int) : Prop := (∃ q ∈ ps, v = pv q) ∧ ∀ q ∈ ps, pv q ≤ v
theorem vals_mem {l : List Dq} {ps : List (Dq × Dq)} (h : l.map Dq.v = ps.map pv) {d : Dq} (hd : d ∈ l) : ∃ q ∈ ps, d.v = pv q := by
  have h1 : d.v ∈ l.map Dq.v := List.mem_map_of_mem hd;rw [h] at h1;obtain ⟨q, h2, h3⟩ := List.mem_map.1 h1
  exact ⟨q, h2, h3.symm⟩
theorem vals_mem' {l : List Dq} {ps : List (Dq × Dq)} (h : l.map Dq.v = ps.map pv) {q : Dq × Dq} (hq : q ∈ ps) : ∃ d ∈ l, d.v = pv q := by
  have h1 : pv q ∈ ps.map pv := List.mem_map_of_mem hq;rw [← h] at h1;obtain ⟨d, h2, h3⟩ := List.mem_map.1 h1
  exact ⟨d, h2, h3⟩
theorem IsLst.min {l : List Dq} {a d : Dq} {ps : List (Dq × Dq)} (h : l.map Dq.v = ps.map pv) (ha : a ∈ l) (hd : IsLst (a :: l) d) : IsMin ps d.v ∧ d ∈ l := by
  have h1 : d ∈ l := by rcases List.mem_cons.1 hd.1 with h2 | h2; (· rw [h2]; exact ha); exact h2
  refine ⟨⟨vals_mem h h1, fun q hq => ?_⟩, h1⟩
  obtain ⟨b, h2, h3⟩ := vals_mem' h hq;rw [← h3]; exact hd.2 b (List.mem_cons_of_mem _ h2)
theorem IsGrt.max {l : List Dq} {a d : Dq} {ps : List (Dq × Dq)} (h : l.map Dq.v = ps.map pv) (ha : a ∈ l) (hd : IsGrt (a :: l) d) : IsMax ps d.v ∧ d ∈ l := by
  have h1 : d ∈ l := by rcases List.mem_cons.1 hd.1 with h2 | h2; (· rw [h2]; exact ha); exact h2
  refine ⟨⟨vals_mem h h1, fun q hq => ?_⟩, h1⟩
  obtain ⟨b, h2, h3⟩ := vals_mem' h hq;rw [← h3]; exact hd.2 b (List.mem_cons_of_mem _ h2)
theorem pairs_pos (d1 d2 d3 d4 : Dq) : 0 < (pairsL (endsL d1 d2) (endsL d3 d4)).length := by
  have e1 : ∃ x xs, endsL d1 d2 = x :: xs := by unfold endsL; split <;> exact ⟨_, _, rfl⟩
  have e2 : ∃ y ys, endsL d3 d4 = y :: ys := by unfold endsL; split <;> exact ⟨_, _, rfl⟩
  obtain ⟨x, xs, e1⟩ := e1;obtain ⟨y, ys, e2⟩ := e2;rw [e1, e2]
  simp [pairsL]
def MulS (B : Nat) (w' : World) (en : Ending) (d1 d2 d3 d4 : Dq) (P : Nat) : Prop :=
 (en = .returned (.tuple #[SV false none 0 0 0 false none 0 0 0, .int .i64 5]) ∧ ∃ x ∈ endsL d1 d2, ∃ y ∈ endsL d3 d4, BadM x.z x.e y.z y.e) ∨
 ∃ zl el zh eh, DFm zl el ∧ DFm zh eh ∧ IsMin (pairsL (endsL d1 d2) (endsL d3 d4)) (dv zl el) ∧ IsMax (pairsL (endsL d1 d2) (endsL d3 d4)) (dv zh eh) ∧ OutR B w' en (rd false zl (2 ^ (bitsN zl.natAbs - P))) (el + ((bitsN zl.natAbs - P : Nat) : Int)) (rd true zh (2 ^ (bitsN zh.natAbs - P))) (eh + ((bitsN zh.natAbs - P : Nat) : Int))
def DyZ (W' : World) (g9 off : Nat) (d0 : Dq) : Prop := W'.cell? ⟨g9, off, none⟩ = some (.bool d0.s) ∧ W'.cell? ⟨g9, off + 1, none⟩ = some (.slice d0.p d0.m d0.c) ∧ W'.cell? ⟨g9, off + 2, none⟩ = some (.int .i64 d0.e)
theorem DyZ.below {w w' : World} {g o : Nat} {d : Dq} (h : DyZ w g o d) (hb : Below w.heap.size w w') : DyZ w' g o d := by
  have hl : g < w.heap.size := World.block_lt_of_cell? w _ h.1
  exact ⟨(hb.cell (p := ⟨g, o, none⟩) hl).trans h.1, (hb.cell (p := ⟨g, o + 1, none⟩) hl).trans h.2.1, (hb.cell (p := ⟨g, o + 2, none⟩) hl).trans h.2.2⟩
theorem DyZ.b {w w' : World} {g o : Nat} {d : Dq} (h : Hid (DyZ w g o d)) (hb : Below w.heap.size w w') : Hid (DyZ w' g o d) := DyZ.below h hb
theorem DyZ.off {w : World} {g o : Nat} {d : Dq} (h : DyZ w g o d) {k : Nat} (hne : k ≠ g) (i : Nat) (x : Value) : DyZ (w.setCell ⟨k, i, none⟩ x) g o d := by
  have hne2 : g ≠ k := fun h => hne h.symm
  obtain ⟨c0, c1, c2⟩ := h
  constructor <;> go_simp
theorem DyZ.off6 {w : World} {g o : Nat} {d : Dq} (h : DyZ w g o d) {k : Nat} (hne : k ≠ g) (x0 x1 x2 x3 x4 x5 : Value) : DyZ ((((((w.setCell ⟨k, 0, none⟩ x0).setCell ⟨k, 1, none⟩ x1).setCell ⟨k, 2, none⟩ x2).setCell ⟨k, 3, none⟩ x3).setCell ⟨k, 4, none⟩ x4).setCell ⟨k, 5, none⟩ x5) g o d :=
 (((((h.off hne 0 x0).off hne 1 x1).off hne 2 x2).off hne 3 x3).off hne 4 x4).off hne 5 x5
theorem smul6 {d1 d2 d3 d4 : Dq} {w : World} {P : Nat} (h1 : d1.ok w) (h2 : d2.ok w) (h3 : d3.ok w) (h4 : d4.ok w) (hc1 : d1.v ≤ d2.v) (hc2 : d3.v ≤ d4.v) (hP : 1 ≤ P ∧ P ≤ 70000) (hT : Tab w) :
  Calls Tryz.prog 14 #[SQ d1 d2, SQ d3 d4, .int .i64 P] w fun en w' => MulS w.heap.size w' en d1 d2 d3 d4 P ∧ Below w.heap.size w w' := by
 have A1 : Hid (d1.ok w) := h1;have A2 : Hid (d2.ok w) := h2;have A3 : Hid (d3.ok w) := h3;have A4 : Hid (d4.ok w) := h4;have HC : Hid (d1.v ≤ d2.v ∧ d3.v ≤ d4.v) := ⟨hc1, hc2⟩;have HP : Hid (1 ≤ P ∧ P ≤ 70000) := hP;have TB : Hid (Tab w) := hT;clear h1 h2 h3 h4 hc1 hc2 hP hT
 go_enter Tryz.func14, Tryz.ntmps14
 go_wp2_with fail;obtain ⟨W0, hW0⟩ := exq ((((w.alloc (.cells #[.bool d1.s, .slice d1.p d1.m d1.c, .int .i64 d1.e, .bool d2.s, .slice d2.p d2.m d2.c, .int .i64 d2.e] 28)).alloc (.cells #[.bool d3.s, .slice d3.p d3.m d3.c, .int .i64 d3.e, .bool d4.s, .slice d4.p d4.m d4.c, .int .i64 d4.e] 28)).alloc (.cells #[.bool false, .slice none 0 0, .int .i64 0, .bool false, .slice none 0 0, .int .i64 0] 28)).alloc (.cells #[.bool d1.s, .slice d1.p d1.m d1.c, .int .i64 d1.e, .bool d2.s, .slice d2.p d2.m d2.c, .int .i64 d2.e, .bool d3.s, .slice d3.p d3.m d3.c, .int .i64 d3.e, .bool d4.s, .slice d4.p d4.m d4.c, .int .i64 d4.e] 28))
 have Xa : Hid (B6q W0 (w.heap.size) (.bool d1.s) (.slice d1.p d1.m d1.c) (.int .i64 d1.e) (.bool d2.s) (.slice d2.p d2.m d2.c) (.int .i64 d2.e)) := by rw [hW0]; constructor <;> go_simp
 have Xb : Hid (B6q W0 (w.heap.size + 1) (.bool d3.s) (.slice d3.p d3.m d3.c) (.int .i64 d3.e) (.bool d4.s) (.slice d4.p d4.m d4.c) (.int .i64 d4.e)) := by rw [hW0]; constructor <;> go_simp
 have Xr : Hid (B6q W0 (w.heap.size + 1 + 1) (.bool false) (.slice none 0 0) (.int .i64 0) (.bool false) (.slice none 0 0) (.int .i64 0)) := by rw [hW0]; constructor <;> go_simp
 have Xl : Hid (B12q W0 (w.heap.size + 1 + 1 + 1) (.bool d1.s) (.slice d1.p d1.m d1.c) (.int .i64 d1.e) (.bool d2.s) (.slice d2.p d2.m d2.c) (.int .i64 d2.e) (.bool d3.s) (.slice d3.p d3.m d3.c) (.int .i64 d3.e) (.bool d4.s) (.slice d4.p d4.m d4.c) (.int .i64 d4.e)) := by rw [hW0]; constructor <;> go_simp
 have hb0 : Below w.heap.size w W0 := by rw [hW0]; exact below4 w _ _ _ _
 rw [← hW0];clear hW0;have hbw := brf w;obtain ⟨gl, hgl⟩ := exq (w.heap.size + 1 + 1 + 1)
 have HGl : Hid (w.heap.size ≤ gl) := by rw [hgl]; show _ ≤ _; omega
 rw [← hgl] at Xl
 try rw [← hgl]
 obtain ⟨gr, hgr⟩ := exq (w.heap.size + 1 + 1)
 have HGr : Hid (w.heap.size ≤ gr) := by rw [hgr]; show _ ≤ _; omega
 rw [← hgr] at Xr
 try rw [← hgr]
 obtain ⟨gb, hgb⟩ := exq (w.heap.size + 1)
 have HGb : Hid (w.heap.size ≤ gb) := by rw [hgb]; show _ ≤ _; omega
 rw [← hgb] at Xb
 try rw [← hgb]
 obtain ⟨ga, hga⟩ := exq w.heap.size
 have HGa : Hid (w.heap.size ≤ ga) := by rw [hga]; show _ ≤ _; omega
 rw [← hga] at Xa
 try rw [← hga]
 have HGD : Hid (ga ≠ gb ∧ ga ≠ gr ∧ ga ≠ gl ∧ gb ≠ ga ∧ gb ≠ gr ∧ gb ≠ gl ∧ gr ≠ ga ∧ gr ≠ gb ∧ gr ≠ gl ∧ gl ≠ ga ∧ gl ≠ gb ∧ gl ≠ gr) := by rw [hga, hgb, hgr, hgl]; show _ ∧ _; omega
 clear hga hgb hgr hgl;replace hbw := bon hbw hb0;clear hb0
 refine (swrong2 (DN.below A1.out hbw) (DN.below A2.out hbw) (DN.below A3.out hbw) (DN.below A4.out hbw) HC.out.1 HC.out.2 (by have := HP.out; omega) ⟨Xl.out.c0, Xl.out.c1, Xl.out.c2, Xl.out.c3, Xl.out.c4, Xl.out.c5, Xl.out.c6, Xl.out.c7, Xl.out.c8, Xl.out.c9, Xl.out.c10, Xl.out.c11⟩).mono ?_
 rintro e v1 ⟨rfl, hb1⟩;replace Xa := B6q.b Xa hb1;replace Xb := B6q.b Xb hb1;replace Xr := B6q.b Xr hb1;replace Xl := B12q.b Xl hb1;replace hbw := bon hbw hb1;clear hb1;obtain ⟨ca0, ca1, ca2, ca3, ca4, ca5, fa0, fa1, fa2, fa3, fa4, fa5⟩ := Xa.out;have hnea : ga < v1.heap.size := blt ca0;obtain ⟨cb0, cb1, cb2, cb3, cb4, cb5, fb0, fb1, fb2, fb3, fb4, fb5⟩ := Xb.out;have hneb : gb < v1.heap.size := blt cb0;go_wp2_with fail;clear ca0 ca1 ca2 ca3 ca4 ca5 fa0 fa1 fa2 fa3 fa4 fa5 hnea cb0 cb1 cb2 cb3 cb4 cb5 fb0 fb1 fb2 fb3 fb4 fb5 hneb Xl
 refine (sprods (DN.below A1.out hbw) (DN.below A2.out hbw) (DN.below A3.out hbw) (DN.below A4.out hbw) (TB.out.below hbw)).mono ?_
 rintro e9 v2 ⟨hpr, hb2⟩;have HRL : Hid (gr < v1.heap.size) := Xr.out.lt;replace Xa := B6q.b Xa hb2;replace Xb := B6q.b Xb hb2;replace Xr := B6q.b Xr hb2;replace hbw := bon hbw hb2;clear hb2
 rcases hpr with ⟨P9, C9, l, rfl, hdl, hval, hnew⟩ | ⟨rfl, hbad⟩
 ·have HV : Hid (l.map Dq.v = (pairsL (endsL d1 d2) (endsL d3 d4)).map pv) := hval
  clear hval;have DL := hdQ hdl
  have hll : 0 < l.length := by have h5 := congrArg List.length HV.out; rw [List.length_map, List.length_map] at h5; rw [h5]; exact pairs_pos _ _ _ _
  have hq := hdl.cells;have hbg := hdl.big;have hcp := hdl.cap;unfold maxLen at hbg;clear hdl
  obtain ⟨g9, off, rfl, hq2⟩ := hq.resolve_left (by omega)
  have HNE : Hid (gr ≠ g9) := by have h6 := hnew g9 off rfl; have h7 := HRL.out; show _ ≠ _; omega
  obtain ⟨e0, e1', e2'⟩ := hq2 0 hll;clear hq hq2 hnew;have HA0 : Hid (l[0] ∈ l) := List.getElem_mem hll;generalize l[0] = d0 at *;rw [Nat.zero_mul, Nat.add_zero] at e0 e1' e2';obtain ⟨NL, hNL⟩ := exq l.length
  have hln0 : 0 < NL := by rw [hNL]; exact hll
  rw [← hNL] at hcp ⊢;have HNL := hdQ hNL;clear hNL hll;have HD0 : Hid (v2.cell? ⟨g9, off, none⟩ = some (.bool d0.s) ∧ v2.cell? ⟨g9, off + 1, none⟩ = some (.slice d0.p d0.m d0.c) ∧ v2.cell? ⟨g9, off + 2, none⟩ = some (.int .i64 d0.e)) := ⟨e0, e1', e2'⟩;have DC : Hid (DyZ v2 g9 off d0) := HD0.out;clear HD0;go_wp2_with fail;clear e0 e1' e2';obtain ⟨W5, hW5⟩ := exq v2.drew
  have hbd : Below v2.heap.size v2 W5 := by rw [hW5]; exact bDrew1 (Below.refl _ _)
  replace Xa := B6q.b Xa hbd;replace Xb := B6q.b Xb hbd;replace Xr := B6q.b Xr hbd;replace DL := DyL.b DL hbd;replace DC := DyZ.b DC hbd;replace hbw := bon hbw hbd;clear hbd
  have HJ : Hid ((fun W' : World => W'.cell? ⟨g9, off, none⟩ = some (.bool d0.s) ∧ W'.cell? ⟨g9, off + 1, none⟩ = some (.slice d0.p d0.m d0.c) ∧ W'.cell? ⟨g9, off + 2, none⟩ = some (.int .i64 d0.e)) W5) := DC.out
  refine wp_region_J (fun W' => W'.cell? ⟨g9, off, none⟩ = some (.bool d0.s) ∧ W'.cell? ⟨g9, off + 1, none⟩ = some (.slice d0.p d0.m d0.c) ∧ W'.cell? ⟨g9, off + 2, none⟩ = some (.int .i64 d0.e)) (by kernel_rfl) ?_
  rw [← hW5];clear hW5
  refine wpJ_tq 0 rfl HJ.out ?_
  refine wpJ_tq 1 rfl HJ.out ?_
  refine wpJ_tq 2 rfl HJ.out ?_
  refine wpJ_tq 3 rfl HJ.out ?_
  refine wpJ_tq 5 rfl HJ.out ?_
  go_simp
  refine wpJ_tq 6 rfl HJ.out ?_
  refine wpJ_tq 7 rfl HJ.out ?_
  refine wpJ_tq 8 rfl HJ.out ?_
  refine wpJ_tq 11 rfl HJ.out ?_
  refine wpJ_on 4 rfl fun KJ hK => ?_
  go_simp
  refine (slst (fst := d0) (DN.below (DL.out.ats d0 HA0.out) (Below.refl _ _)) (by have h5 := DL.out; rw [← HNL.out] at h5; exact h5)).mono ?_
  rintro e9 v4 ⟨⟨s4, p4, m4, c4, e4, z4⟩, rfl, hd, hb4⟩;have HI4 := hdQ hd;clear hd;replace Xa := B6q.b Xa hb4;replace Xb := B6q.b Xb hb4;replace Xr := B6q.b Xr hb4;replace DL := DyL.b DL hb4;replace DC := DyZ.b DC hb4;replace hbw := bon hbw hb4;clear hb4
  refine hK _ _ DC.out ?_
  clear hK
  refine wpJ_on 9 rfl fun KJ hK => ?_
  go_simp
  refine (sgrt (fst := d0) (DN.below (DL.out.ats d0 HA0.out) (Below.refl _ _)) (by have h5 := DL.out; rw [← HNL.out] at h5; exact h5)).mono ?_
  rintro e9 v5 ⟨⟨s5, p5, m5, c5, e5, z5⟩, rfl, hd, hb5⟩;have HI5 := hdQ hd;clear hd;replace Xa := B6q.b Xa hb5;replace Xb := B6q.b Xb hb5;replace Xr := B6q.b Xr hb5;replace DL := DyL.b DL hb5;replace DC := DyZ.b DC hb5;replace hbw := bon hbw hb5;clear hb5 HJ
  have HJ : Hid ((fun W' : World => W'.cell? ⟨g9, off, none⟩ = some (.bool d0.s) ∧ W'.cell? ⟨g9, off + 1, none⟩ = some (.slice d0.p d0.m d0.c) ∧ W'.cell? ⟨g9, off + 2, none⟩ = some (.int .i64 d0.e)) v5) := DC.out
  refine hK _ _ HJ.out ?_
  clear hK
  refine wpJ_tq 10 rfl HJ.out ?_
  refine wpJ_on 12 rfl fun KJ hK => ?_
  go_simp;have HM1 := IsLst.min HV.out HA0.out HI4.out;have HM2 := IsGrt.max HV.out HA0.out HI5.out;have HO1 : Hid (DN v5 s4 p4 m4 c4 e4 z4) := DL.out.ats _ HM1.2;have HO2 : Hid (DN v5 s5 p5 m5 c5 e5 z5) := DL.out.ats _ HM2.2;have HQ1 : Hid (IsMin (pairsL (endsL d1 d2) (endsL d3 d4)) (dv z4 e4) ∧ IsMax (pairsL (endsL d1 d2) (endsL d3 d4)) (dv z5 e5)) := ⟨HM1.1, HM2.1⟩;clear HM1 HM2
  have HLE : Hid (dv z4 e4 ≤ dv z5 e5) := by obtain ⟨q, h1, h2⟩ := HQ1.out.1.1; have h3 := HQ1.out.2.2 q h1; show _ ≤ _; rw [h2]; exact h3
  have HFM : Hid (DFm z4 e4 ∧ DFm z5 e5) := ⟨HO1.out.fm, HO2.out.fm⟩;have HRL2 : Hid (gr < v5.heap.size) := Xr.out.lt
  refine (sout (d1 := ⟨s4, p4, m4, c4, e4, z4⟩) (d2 := ⟨s5, p5, m5, c5, e5, z5⟩) (P := P) HO1.out HO2.out HLE.out HP.out rfl rfl (TB.out.below hbw)).mono ?_
  rintro e9 v7 ⟨ho, hb7⟩;obtain ⟨s7, p7, m7, e7, t7, q7, n7, f7, r7, rfl, ho7⟩ := ho.open;have ho7 := ho7.mono (B' := gr + 1) HRL2.out;clear ho HO1 HO2;replace Xa := B6q.b Xa hb7;replace Xb := B6q.b Xb hb7;replace Xr := B6q.b Xr hb7;replace DL := DyL.b DL hb7;replace DC := DyZ.b DC hb7;replace hbw := bon hbw hb7;clear hb7;have OR := hdQ ho7;clear ho7 HJ
  have HJ : Hid ((fun W' : World => W'.cell? ⟨g9, off, none⟩ = some (.bool d0.s) ∧ W'.cell? ⟨g9, off + 1, none⟩ = some (.slice d0.p d0.m d0.c) ∧ W'.cell? ⟨g9, off + 2, none⟩ = some (.int .i64 d0.e)) v7) := DC.out
  refine hK _ _ HJ.out ?_
  clear hK
  refine wpJ_tq 13 rfl HJ.out ?_
  refine wpJ_tq 14 rfl HJ.out ?_
  obtain ⟨cr0, cr1, cr2, cr3, cr4, cr5, fr0, fr1, fr2, fr3, fr4, fr5⟩ := Xr.out;have hner : gr < v7.heap.size := blt cr0
  refine wpJ_on 15 rfl fun KJ hK => ?_
  go_simp
  have HJ2 : Hid ((fun W' : World => W'.cell? ⟨g9, off, none⟩ = some (.bool d0.s) ∧ W'.cell? ⟨g9, off + 1, none⟩ = some (.slice d0.p d0.m d0.c) ∧ W'.cell? ⟨g9, off + 2, none⟩ = some (.int .i64 d0.e)) ((((((v7.setCell ⟨gr, 0, none⟩ (.bool s7)).setCell ⟨gr, 1, none⟩ (.slice p7 m7 m7)).setCell ⟨gr, 2, none⟩ (.int .i64 e7)).setCell ⟨gr, 3, none⟩ (.bool t7)).setCell ⟨gr, 4, none⟩ (.slice q7 n7 n7)).setCell ⟨gr, 5, none⟩ (.int .i64 f7))) := DC.out.off6 HNE.out (.bool s7) (.slice p7 m7 m7) (.int .i64 e7) (.bool t7) (.slice q7 n7 n7) (.int .i64 f7)
  refine hK _ _ HJ2.out ?_
  clear hK HJ;have HJ := HJ2;clear HJ2
  refine wpJ_tq 16 rfl HJ.out ?_
  refine wpJ_done (by kernel_rfl) ?_ _
  clear HJ;go_wp2_with fail
  refine bodyPost_ret (v := .tuple #[SV s7 p7 m7 m7 e7 t7 q7 n7 n7 f7, .int .i64 r7]) (by rw [results_cell_tmp rfl]; go_simp) rfl ⟨.inr ⟨z4, e4, z5, e5, HFM.out.1, HFM.out.2, HQ1.out.1, HQ1.out.2, ?_⟩, ?_⟩
  ·exact (OR.out.set6 (Nat.lt_succ_self _) (Nat.le_succ_of_le HGr.out) _ _ _ _ _ _).close
  ·exact (bSet (bSet (bSet (bSet (bSet (bSet hbw _ _ _ HGr.out) _ _ _ HGr.out) _ _ _ HGr.out) _ _ _ HGr.out) _ _ _ HGr.out) _ _ _ HGr.out)
 ·have HBD : Hid (∃ x ∈ endsL d1 d2, ∃ y ∈ endsL d3 d4, BadM x.z x.e y.z y.e) := hbad
  clear hbad;obtain ⟨cr0, cr1, cr2, cr3, cr4, cr5, fr0, fr1, fr2, fr3, fr4, fr5⟩ := Xr.out;have hner : gr < v2.heap.size := blt cr0;go_wp2_with fail
  refine bodyPost_ret (v := .tuple #[SV false none 0 0 0 false none 0 0 0, .int .i64 5]) (by rw [results_cell_tmp rfl]; go_simp) rfl ⟨.inl ⟨rfl, HBD.out⟩, ?_⟩
  exact (bSet (bSet (bSet (bSet (bSet (bSet hbw _ _ _ HGr.out) _ _ _ HGr.out) _ _ _ HGr.out) _ _ _ HGr.out) _ _ _ HGr.out) _ _ _ HGr.out)
end Go.Proofs.YtpdelpakgdanlaaGreatDoor
