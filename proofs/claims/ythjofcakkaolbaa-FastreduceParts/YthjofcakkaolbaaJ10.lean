import Derived.Test.YthjofcakkaolbaaJ8
import Derived.Laws.Externs
import Derived.Test.YthjofcakkaolbaaJ9
namespace Go.Proofs.Ythjofcakkaolbaa
open Go.RowKit Go.Shelf
set_option maxRecDepth 100000
set_option maxHeartbeats 0
structure B3q (W : World) (g : Nat) (v0 v1 v2 : Value) : Prop where
  c0 : W.cell? ⟨g, 0, none⟩ = some v0
  c1 : W.cell? ⟨g, 1, none⟩ = some v1
  c2 : W.cell? ⟨g, 2, none⟩ = some v2
  f0 : W.frozen? ⟨g, 0, none⟩ = false
  f1 : W.frozen? ⟨g, 1, none⟩ = false
  f2 : W.frozen? ⟨g, 2, none⟩ = false
theorem B3q.lt {w : World} {g : Nat} {a b c : Value} (h : B3q w g a b c) : g < w.heap.size := World.block_lt_of_cell? w _ h.c0
theorem B3q.below {W W' : World} {g : Nat} {v0 v1 v2 : Value} (h : B3q W g v0 v1 v2) (hb : Below W.heap.size W W') : B3q W' g v0 v1 v2 := by
  have hl : g < W.heap.size := World.block_lt_of_cell? W _ h.c0
  exact ⟨(hb.cell (p := ⟨g, 0, none⟩) hl).trans h.c0, (hb.cell (p := ⟨g, 1, none⟩) hl).trans h.c1, (hb.cell (p := ⟨g, 2, none⟩) hl).trans h.c2, (hb.frozen (p := ⟨g, 0, none⟩) hl).trans h.f0, (hb.frozen (p := ⟨g, 1, none⟩) hl).trans h.f1, (hb.frozen (p := ⟨g, 2, none⟩) hl).trans h.f2⟩
theorem B3q.new (w : World) (ty : TypeId) (v0 v1 v2 : Value) : B3q (w.alloc (.cells #[v0, v1, v2] ty)) w.heap.size v0 v1 v2 := ⟨by go_simp, by go_simp, by go_simp, by go_simp, by go_simp, by go_simp⟩
def DFm (z e : Int) : Prop := (z = 0 ∧ e = 0) ∨ (z % 2 = 1 ∧ -1048576 ≤ e ∧ e ≤ 1048576)
structure DN (w : World) (s : Bool) (p : Option Addr) (m c : Nat) (e z : Int) : Prop where
  zn : ZN w s p m c z
  fm : DFm z e
theorem DN.below {w w' : World} {s : Bool} {p : Option Addr} {m c : Nat} {e z : Int} (h : DN w s p m c e z) (hb : Below w.heap.size w w') : DN w' s p m c e z := ⟨h.zn.below hb, h.fm⟩
def dv (z e : Int) : Int := z * ((2 ^ (e + 4194304).toNat : Nat) : Int)
def P1N : Nat := HPI / 2 ^ 1068 * 2 ^ 1068
def R1N : Nat := HPI - P1N
def P2N : Nat := R1N / 2 ^ 1034 * 2 ^ 1034
def R2N : Nat := R1N - P2N
theorem part_f : (bitsN HPI = 1068 + 33 ∧ HPI / 2 ^ 1068 ≠ 0 ∧ P1N < 2 ^ (1068 + 100) ∧ P1N ≤ HPI) ∧ (bitsN R1N = 1034 + 33 ∧ R1N / 2 ^ 1034 ≠ 0 ∧ P2N < 2 ^ (1034 + 100) ∧ P2N ≤ R1N) := by decide +kernel
theorem part_g : (80 ≤ bitsN P1N ∧ bitsN P1N ≤ 2120 ∧ rg 26 P1N = 4609753056924401664) ∧ (80 ≤ bitsN P2N ∧ bitsN P2N ≤ 2120 ∧ rg 26 P2N = 4454258360616747008) ∧ (80 ≤ bitsN R2N ∧ bitsN R2N ≤ 2120 ∧ rg 26 R2N = 4297306550709743731) := by decide +kernel
theorem cut1_ok {w : World} {p : Option Addr} {m : Nat} (h : RN w p m HPI) : Calls Try.prog 8 #[.slice p m m] w fun en w' => RNs w w' en P1N := cut_ok h 1068 part_f.1.1 (by rw [part_f.1.1]; decide) part_f.1.2.1 part_f.1.2.2.1
theorem cut2_ok {w : World} {p : Option Addr} {m : Nat} (h : RN w p m R1N) : Calls Try.prog 8 #[.slice p m m] w fun en w' => RNs w w' en P2N := cut_ok h 1034 part_f.2.1 (by rw [part_f.2.1]; decide) part_f.2.2.1 part_f.2.2.2.1
theorem sub1_ok {w : World} {p q : Option Addr} {m n : Nat} (h : RN w p m HPI) (k : RN w q n P1N) : Calls Try.prog 9 #[.slice p m m, .slice q n n] w fun en w' => RNs w w' en R1N := rn_sub h k part_f.1.2.2.2
theorem sub2_ok {w : World} {p q : Option Addr} {m n : Nat} (h : RN w p m R1N) (k : RN w q n P2N) : Calls Try.prog 9 #[.slice p m m, .slice q n n] w fun en w' => RNs w w' en R2N := rn_sub h k part_f.2.2.2.2
theorem rd0_ok {w : World} {p : Option Addr} {m : Nat} (h : RN w p m P1N) : Calls Try.prog 10 #[.agg #[.bool false, .slice p m m], .int .i64 (-1100)] w fun en w' => en = .returned (.int .u64 4609753056924401664) ∧ Below w.heap.size w w' := by
  refine (rround19y h part_g.1.1 part_g.1.2.1).mono ?_
  rintro e w' ⟨rfl, hb⟩
  rw [part_g.1.2.2]
  exact ⟨rfl, hb⟩
theorem rd1_ok {w : World} {p : Option Addr} {m : Nat} (h : RN w p m P2N) : Calls Try.prog 10 #[.agg #[.bool false, .slice p m m], .int .i64 (-1100)] w fun en w' => en = .returned (.int .u64 4454258360616747008) ∧ Below w.heap.size w w' := by
  refine (rround19y h part_g.2.1.1 part_g.2.1.2.1).mono ?_
  rintro e w' ⟨rfl, hb⟩
  rw [part_g.2.1.2.2]
  exact ⟨rfl, hb⟩
theorem rd2_ok {w : World} {p : Option Addr} {m : Nat} (h : RN w p m R2N) : Calls Try.prog 10 #[.agg #[.bool false, .slice p m m], .int .i64 (-1100)] w fun en w' => en = .returned (.int .u64 4297306550709743731) ∧ Below w.heap.size w w' := by
  refine (rround19y h part_g.2.2.1 part_g.2.2.2.1).mono ?_
  rintro e w' ⟨rfl, hb⟩
  rw [part_g.2.2.2.2]
  exact ⟨rfl, hb⟩
theorem pifloor16 {w : World} :
    Calls Try.prog 7 #[.int .i64 1099] w fun en w' => RNs w w' en HPI := by
  go_enter Try.func7, Try.ntmps7
  go_wp2_with fail
  have hbw : Below w.heap.size w w := Below.refl _ _
  refine (pifloor_ok).mono ?_
  rintro e v1 ⟨p1, m1, rfl, hR, hb1⟩
  have RN1 : Hid (RN v1 p1 m1 (HPI)) := hR
  clear hR
  replace hbw := Below.on hbw hb1
  clear hb1
  go_wp2_with fail
  go_ret
  exact ⟨_, _, rfl, RN1.out, hbw⟩
theorem part_ok {w : World} :
    Calls Try.prog 5 #[] w fun en w' => en = .returned (.agg #[.int .u64 4609753056924401664, .int .u64 4454258360616747008, .int .u64 4297306550709743731]) ∧ Below w.heap.size w w' := by
  go_enter Try.func5, Try.ntmps5
  go_wp2_with fail
  obtain ⟨W0, hW0⟩ : ∃ W0, W0 = (w.alloc (.cells #[.int .u64 0, .int .u64 0, .int .u64 0] 26)) := ⟨_, rfl⟩
  have Xr : Hid (B3q W0 (w.heap.size) (.int .u64 0) (.int .u64 0) (.int .u64 0)) := by rw [hW0]; exact ⟨by go_simp, by go_simp, by go_simp, by go_simp, by go_simp, by go_simp⟩
  have hb0 : Below w.heap.size w W0 := by rw [hW0]; exact below1 w _
  rw [← hW0]
  clear hW0
  have hbw : Below w.heap.size w w := Below.refl _ _
  obtain ⟨gr, hgr⟩ : ∃ g, g = w.heap.size := ⟨_, rfl⟩
  have HGr : Hid (w.heap.size ≤ gr) := by rw [hgr]; show _ ≤ _; omega
  rw [← hgr] at Xr
  try rw [← hgr]
  clear hgr
  replace hbw := Below.on hbw hb0
  clear hb0
  refine (pifloor16).mono ?_
  rintro e v1 ⟨p1, m1, rfl, hR, hb1⟩
  have RN1 : Hid (RN v1 p1 m1 (HPI)) := hR
  clear hR
  replace Xr : Hid _ := Xr.out.below hb1
  replace hbw := Below.on hbw hb1
  clear hb1
  go_wp2_with fail
  refine (cut1_ok RN1.out).mono ?_
  rintro e v2 ⟨p2, m2, rfl, hR, hb2⟩
  have RN2 : Hid (RN v2 p2 m2 (P1N)) := hR
  clear hR
  replace Xr : Hid _ := Xr.out.below hb2
  replace RN1 : Hid (RN v2 p1 m1 (HPI)) := RN1.out.below hb2
  replace hbw := Below.on hbw hb2
  clear hb2
  go_wp2_with fail
  refine (sub1_ok RN1.out RN2.out).mono ?_
  rintro e v3 ⟨p3, m3, rfl, hR, hb3⟩
  have RN3 : Hid (RN v3 p3 m3 (R1N)) := hR
  clear hR
  replace Xr : Hid _ := Xr.out.below hb3
  replace RN1 : Hid (RN v3 p1 m1 (HPI)) := RN1.out.below hb3
  replace RN2 : Hid (RN v3 p2 m2 (P1N)) := RN2.out.below hb3
  replace hbw := Below.on hbw hb3
  clear hb3
  go_wp2_with fail
  refine (cut2_ok RN3.out).mono ?_
  rintro e v4 ⟨p4, m4, rfl, hR, hb4⟩
  have RN4 : Hid (RN v4 p4 m4 (P2N)) := hR
  clear hR
  replace Xr : Hid _ := Xr.out.below hb4
  replace RN1 : Hid (RN v4 p1 m1 (HPI)) := RN1.out.below hb4
  replace RN2 : Hid (RN v4 p2 m2 (P1N)) := RN2.out.below hb4
  replace RN3 : Hid (RN v4 p3 m3 (R1N)) := RN3.out.below hb4
  replace hbw := Below.on hbw hb4
  clear hb4
  go_wp2_with fail
  refine (sub2_ok RN3.out RN4.out).mono ?_
  rintro e v5 ⟨p5, m5, rfl, hR, hb5⟩
  have RN5 : Hid (RN v5 p5 m5 (R2N)) := hR
  clear hR
  replace Xr : Hid _ := Xr.out.below hb5
  replace RN1 : Hid (RN v5 p1 m1 (HPI)) := RN1.out.below hb5
  replace RN2 : Hid (RN v5 p2 m2 (P1N)) := RN2.out.below hb5
  replace RN3 : Hid (RN v5 p3 m3 (R1N)) := RN3.out.below hb5
  replace RN4 : Hid (RN v5 p4 m4 (P2N)) := RN4.out.below hb5
  replace hbw := Below.on hbw hb5
  clear hb5
  go_wp2_with fail
  refine (rnmk RN2.out).mono ?_
  rintro e v10 ⟨p10, m10, rfl, hR, hb10⟩
  have RN10 : Hid (RN v10 p10 m10 (P1N)) := hR
  clear hR
  replace Xr : Hid _ := Xr.out.below hb10
  replace RN1 : Hid (RN v10 p1 m1 (HPI)) := RN1.out.below hb10
  replace RN2 : Hid (RN v10 p2 m2 (P1N)) := RN2.out.below hb10
  replace RN3 : Hid (RN v10 p3 m3 (R1N)) := RN3.out.below hb10
  replace RN4 : Hid (RN v10 p4 m4 (P2N)) := RN4.out.below hb10
  replace RN5 : Hid (RN v10 p5 m5 (R2N)) := RN5.out.below hb10
  replace hbw := Below.on hbw hb10
  clear hb10
  go_wp2_with fail
  refine (rd0_ok RN10.out).mono ?_
  rintro e v20 ⟨rfl, hb20⟩
  replace Xr : Hid _ := Xr.out.below hb20
  replace RN1 : Hid (RN v20 p1 m1 (HPI)) := RN1.out.below hb20
  replace RN2 : Hid (RN v20 p2 m2 (P1N)) := RN2.out.below hb20
  replace RN3 : Hid (RN v20 p3 m3 (R1N)) := RN3.out.below hb20
  replace RN4 : Hid (RN v20 p4 m4 (P2N)) := RN4.out.below hb20
  replace RN5 : Hid (RN v20 p5 m5 (R2N)) := RN5.out.below hb20
  replace RN10 : Hid (RN v20 p10 m10 (P1N)) := RN10.out.below hb20
  replace hbw := Below.on hbw hb20
  clear hb20
  obtain ⟨cr0, cr1, cr2, fr0, fr1, fr2⟩ := Xr.out
  have hner : gr < v20.heap.size := World.block_lt_of_cell? v20 _ cr0
  go_wp2_with fail
  clear cr0 cr1 cr2 fr0 fr1 fr2 hner
  refine (rnmk RN4.out).mono ?_
  rintro e v11 ⟨p11, m11, rfl, hR, hb11⟩
  have RN11 : Hid (RN v11 p11 m11 (P2N)) := hR
  clear hR
  replace Xr : Hid _ := Xr.out.below hb11
  replace RN1 : Hid (RN v11 p1 m1 (HPI)) := RN1.out.below hb11
  replace RN2 : Hid (RN v11 p2 m2 (P1N)) := RN2.out.below hb11
  replace RN3 : Hid (RN v11 p3 m3 (R1N)) := RN3.out.below hb11
  replace RN4 : Hid (RN v11 p4 m4 (P2N)) := RN4.out.below hb11
  replace RN5 : Hid (RN v11 p5 m5 (R2N)) := RN5.out.below hb11
  replace RN10 : Hid (RN v11 p10 m10 (P1N)) := RN10.out.below hb11
  replace hbw := Below.on hbw hb11
  clear hb11
  go_wp2_with fail
  refine (rd1_ok RN11.out).mono ?_
  rintro e v21 ⟨rfl, hb21⟩
  replace Xr : Hid _ := Xr.out.below hb21
  replace RN1 : Hid (RN v21 p1 m1 (HPI)) := RN1.out.below hb21
  replace RN2 : Hid (RN v21 p2 m2 (P1N)) := RN2.out.below hb21
  replace RN3 : Hid (RN v21 p3 m3 (R1N)) := RN3.out.below hb21
  replace RN4 : Hid (RN v21 p4 m4 (P2N)) := RN4.out.below hb21
  replace RN5 : Hid (RN v21 p5 m5 (R2N)) := RN5.out.below hb21
  replace RN10 : Hid (RN v21 p10 m10 (P1N)) := RN10.out.below hb21
  replace RN11 : Hid (RN v21 p11 m11 (P2N)) := RN11.out.below hb21
  replace hbw := Below.on hbw hb21
  clear hb21
  obtain ⟨cr0, cr1, cr2, fr0, fr1, fr2⟩ := Xr.out
  have hner : gr < v21.heap.size := World.block_lt_of_cell? v21 _ cr0
  go_wp2_with fail
  clear cr0 cr1 cr2 fr0 fr1 fr2 hner
  refine (rnmk RN5.out).mono ?_
  rintro e v12 ⟨p12, m12, rfl, hR, hb12⟩
  have RN12 : Hid (RN v12 p12 m12 (R2N)) := hR
  clear hR
  replace Xr : Hid _ := Xr.out.below hb12
  replace RN1 : Hid (RN v12 p1 m1 (HPI)) := RN1.out.below hb12
  replace RN2 : Hid (RN v12 p2 m2 (P1N)) := RN2.out.below hb12
  replace RN3 : Hid (RN v12 p3 m3 (R1N)) := RN3.out.below hb12
  replace RN4 : Hid (RN v12 p4 m4 (P2N)) := RN4.out.below hb12
  replace RN5 : Hid (RN v12 p5 m5 (R2N)) := RN5.out.below hb12
  replace RN10 : Hid (RN v12 p10 m10 (P1N)) := RN10.out.below hb12
  replace RN11 : Hid (RN v12 p11 m11 (P2N)) := RN11.out.below hb12
  replace hbw := Below.on hbw hb12
  clear hb12
  go_wp2_with fail
  refine (rd2_ok RN12.out).mono ?_
  rintro e v22 ⟨rfl, hb22⟩
  replace Xr : Hid _ := Xr.out.below hb22
  replace RN1 : Hid (RN v22 p1 m1 (HPI)) := RN1.out.below hb22
  replace RN2 : Hid (RN v22 p2 m2 (P1N)) := RN2.out.below hb22
  replace RN3 : Hid (RN v22 p3 m3 (R1N)) := RN3.out.below hb22
  replace RN4 : Hid (RN v22 p4 m4 (P2N)) := RN4.out.below hb22
  replace RN5 : Hid (RN v22 p5 m5 (R2N)) := RN5.out.below hb22
  replace RN10 : Hid (RN v22 p10 m10 (P1N)) := RN10.out.below hb22
  replace RN11 : Hid (RN v22 p11 m11 (P2N)) := RN11.out.below hb22
  replace RN12 : Hid (RN v22 p12 m12 (R2N)) := RN12.out.below hb22
  replace hbw := Below.on hbw hb22
  clear hb22
  obtain ⟨cr0, cr1, cr2, fr0, fr1, fr2⟩ := Xr.out
  have hner : gr < v22.heap.size := World.block_lt_of_cell? v22 _ cr0
  go_wp2_with fail
  refine bodyPost_ret (v := .agg #[.int .u64 4609753056924401664, .int .u64 4454258360616747008, .int .u64 4297306550709743731]) (by rw [results_cell1 rfl]; go_simp) rfl ⟨rfl, ?_⟩
  exact bSet (bSet (bSet (hbw) _ _ _ HGr.out) _ _ _ HGr.out) _ _ _ HGr.out
theorem stF (w : World) (a : Addr) (b : Nat) : (store a (Fv b)).run Try.prog w = stored Try.prog w a (Fv b) .plain := run_store _ w a (Fv b) _ rfl
theorem parts_ok {w : World} :
    Calls Try.prog 4 #[] w fun en w' => en = .returned (.agg #[Fv 4609753056924401664, Fv 4454258360616747008, Fv 4297306550709743731]) ∧ Below w.heap.size w w' := by
  have hSF : ∀ (w : World) (a : Addr) (b : Nat), (store a (Fv b)).run Try.prog w = stored Try.prog w a (Fv b) .plain := stF
  go_enter Try.func4, Try.ntmps4
  go_wp2_with fail
  refine bodyPost_ret (v := .agg #[Fv 4609753056924401664, Fv 4454258360616747008, Fv 4297306550709743731]) (by rw [results_cell1 rfl]; go_simp) rfl ⟨rfl, below1 w _⟩
theorem fastreduceParts_walk {w : World} :
    Calls Try.prog 3 #[] w fun en w' => en = .returned (.bool true) ∧ Below w.heap.size w w' := by
  have hSF : ∀ (w : World) (a : Addr) (b : Nat), (store a (Fv b)).run Try.prog w = stored Try.prog w a (Fv b) .plain := stF
  have bo1 : ∀ w, (callFunc 6 #[Fv 4609753056924401664]).run Try.prog w = .ok (.value (.int .u64 4609753056924401664)) w := fun w => bitsOf 4609753056924401664 w
  have bo2 : ∀ w, (callFunc 6 #[Fv 4454258360616747008]).run Try.prog w = .ok (.value (.int .u64 4454258360616747008)) w := fun w => bitsOf 4454258360616747008 w
  have bo3 : ∀ w, (callFunc 6 #[Fv 4297306550709743731]).run Try.prog w = .ok (.value (.int .u64 4297306550709743731)) w := fun w => bitsOf 4297306550709743731 w
  go_enter Try.func3, Try.ntmps3
  go_wp2_with fail
  have hbw : Below w.heap.size w w := Below.refl _ _
  refine (parts_ok).mono ?_
  rintro e v1 ⟨rfl, hb1⟩
  replace hbw := Below.on hbw hb1
  clear hb1
  go_wp2_with fail
  have Xp0 : Hid (B3q (v1.alloc (.cells #[Fv 4609753056924401664, Fv 4454258360616747008, Fv 4297306550709743731] 23)) v1.heap.size (Fv 4609753056924401664) (Fv 4454258360616747008) (Fv 4297306550709743731)) := B3q.new v1 _ _ _ _
  have hbn : Below v1.heap.size v1 (v1.alloc (.cells #[Fv 4609753056924401664, Fv 4454258360616747008, Fv 4297306550709743731] 23)) := below1 v1 _
  generalize v1.alloc (.cells #[Fv 4609753056924401664, Fv 4454258360616747008, Fv 4297306550709743731] 23) = Wp at *
  have HGp : Hid (w.heap.size ≤ v1.heap.size) := hbw.size
  replace hbw := Below.on hbw hbn
  clear hbn
  generalize v1.heap.size = gp at *
  have Xp := Xp0
  clear Xp0
  refine (part_ok).mono ?_
  rintro e v2 ⟨rfl, hb2⟩
  replace Xp : Hid _ := Xp.out.below hb2
  replace hbw := Below.on hbw hb2
  clear hb2
  obtain ⟨cp0, cp1, cp2, fp0, fp1, fp2⟩ := Xp.out
  have hnep : gp < v2.heap.size := World.block_lt_of_cell? v2 _ cp0
  go_wp2_with fail
  clear cp0 cp1 cp2 fp0 fp1 fp2 hnep
  have HD : Hid (gp < v2.heap.size) := Xp.out.lt
  have Xq0 : Hid (B3q (v2.alloc (.cells #[.int .u64 4609753056924401664, .int .u64 4454258360616747008, .int .u64 4297306550709743731] 26)) v2.heap.size (.int .u64 4609753056924401664) (.int .u64 4454258360616747008) (.int .u64 4297306550709743731)) := B3q.new v2 _ _ _ _
  have hbn : Below v2.heap.size v2 (v2.alloc (.cells #[.int .u64 4609753056924401664, .int .u64 4454258360616747008, .int .u64 4297306550709743731] 26)) := below1 v2 _
  generalize v2.alloc (.cells #[.int .u64 4609753056924401664, .int .u64 4454258360616747008, .int .u64 4297306550709743731] 26) = Wq at *
  have HGq : Hid (w.heap.size ≤ v2.heap.size) := hbw.size
  replace Xp : Hid _ := Xp.out.below hbn
  replace hbw := Below.on hbw hbn
  clear hbn
  generalize v2.heap.size = gq at *
  have Xq := Xq0
  clear Xq0
  obtain ⟨Vl, hVl⟩ : ∃ W1, W1 = Wq.drew := ⟨_, rfl⟩
  have hbd : Below Wq.heap.size Wq Vl := by rw [hVl]; exact bDrew1 (Below.refl _ _)
  replace Xp : Hid _ := Xp.out.below hbd
  replace Xq : Hid _ := Xq.out.below hbd
  replace hbw := Below.on hbw hbd
  clear hbd
  have HJ : Hid ((fun W' : World => W'.cell? ⟨gp, 0, none⟩ = some (Fv 4609753056924401664) ∧ W'.cell? ⟨gp, 1, none⟩ = some (Fv 4454258360616747008) ∧ W'.cell? ⟨gp, 2, none⟩ = some (Fv 4297306550709743731) ∧ W'.cell? ⟨gq, 0, none⟩ = some (.int .u64 4609753056924401664) ∧ W'.cell? ⟨gq, 1, none⟩ = some (.int .u64 4454258360616747008) ∧ W'.cell? ⟨gq, 2, none⟩ = some (.int .u64 4297306550709743731)) Vl) := ⟨Xp.out.c0, Xp.out.c1, Xp.out.c2, Xq.out.c0, Xq.out.c1, Xq.out.c2⟩
  refine wp_region_J (fun W' => W'.cell? ⟨gp, 0, none⟩ = some (Fv 4609753056924401664) ∧ W'.cell? ⟨gp, 1, none⟩ = some (Fv 4454258360616747008) ∧ W'.cell? ⟨gp, 2, none⟩ = some (Fv 4297306550709743731) ∧ W'.cell? ⟨gq, 0, none⟩ = some (.int .u64 4609753056924401664) ∧ W'.cell? ⟨gq, 1, none⟩ = some (.int .u64 4454258360616747008) ∧ W'.cell? ⟨gq, 2, none⟩ = some (.int .u64 4297306550709743731)) (by kernel_rfl) ?_
  rw [← hVl]
  clear hVl
  refine wpJ_tq 0 rfl HJ.out ?_
  refine wpJ_tq 1 rfl HJ.out ?_
  refine wpJ_tq 3 rfl HJ.out ?_
  refine wpJ_tq 4 rfl HJ.out ?_
  refine wpJ_on 2 rfl fun KJ hK => ?_
  go_simp
  refine hK _ _ HJ.out ?_
  clear hK
  refine wpJ_tq 5 rfl HJ.out ?_
  refine wpJ_tq 6 rfl HJ.out ?_
  refine wpJ_tq 7 rfl HJ.out ?_
  refine wpJ_tq 8 rfl HJ.out ?_
  refine wpJ_tq 10 rfl HJ.out ?_
  go_simp
  refine wpJ_tq 11 rfl HJ.out ?_
  refine wpJ_on 9 rfl fun KJ hK => ?_
  go_simp
  refine hK _ _ HJ.out ?_
  clear hK
  refine wpJ_tq 12 rfl HJ.out ?_
  refine wpJ_tq 13 rfl HJ.out ?_
  refine wpJ_tq 14 rfl HJ.out ?_
  refine wpJ_tq 15 rfl HJ.out ?_
  refine wpJ_tq 16 rfl HJ.out ?_
  go_simp
  refine wpJ_tq 18 rfl HJ.out ?_
  refine wpJ_tq 19 rfl HJ.out ?_
  refine wpJ_on 17 rfl fun KJ hK => ?_
  go_simp
  refine hK _ _ HJ.out ?_
  clear hK
  refine wpJ_tq 20 rfl HJ.out ?_
  refine wpJ_tq 21 rfl HJ.out ?_
  refine wpJ_tq 22 rfl HJ.out ?_
  refine wpJ_tq 23 rfl HJ.out ?_
  refine wpJ_tq 24 rfl HJ.out ?_
  go_simp
  refine wpJ_tq 25 rfl HJ.out ?_
  refine wpJ_tq 26 rfl HJ.out ?_
  refine wpJ_tq 27 rfl HJ.out ?_
  refine wpJ_tq 28 rfl HJ.out ?_
  refine wpJ_tq 29 rfl HJ.out ?_
  go_simp
  refine wpJ_tq 30 rfl HJ.out ?_
  refine wpJ_tq 31 rfl HJ.out ?_
  refine wpJ_tq 32 rfl HJ.out ?_
  refine wpJ_done (by kernel_rfl) ?_ _
  clear HJ
  go_wp2_with fail
  go_ret
  exact ⟨rfl, hbw⟩
end Go.Proofs.Ythjofcakkaolbaa
