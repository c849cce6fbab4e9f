import Derived.Test.YtpdelpakgdanlaaGreatDoorJ13
import Derived.Test.YtpdelpakgdanlaaGreatDoorJ12
import Derived.Test.YtpdelpakgdanlaaGreatDoorJ11
import Derived.Test.YtpdelpakgdanlaaGreatDoorJ10
import Derived.Laws.Cover1
import Derived.Deep.RegionLaw
import Derived.Deep.LoopGhost
import Derived.Test.YtpdelpakgdanlaaGreatDoorJ14
import Derived.Test.YtpdelpakgdanlaaGreatDoorJ15
namespace Go.Proofs.YtpdelpakgdanlaaGreatDoor
open Go.RowKit Go.Shelf
set_option maxRecDepth 20000
set_option maxHeartbeats 0
theorem iv_sums {s t : Bool} {x y : Int} (h1 : s = decide (x < 0)) (h2 : t = decide (y < 0)) (h3 : s = t) : iv s (x.natAbs + y.natAbs) = x + y := by
  rw [h3] at h1 ⊢
  cases t
  · have a := of_decide_eq_false h1.symm; have b := of_decide_eq_false h2.symm; rw [iv_f]; omega
  · have a := of_decide_eq_true h1.symm; have b := of_decide_eq_true h2.symm; rw [iv_t]; omega
theorem iv_sumg {s t : Bool} {x y : Int} (h1 : s = decide (x < 0)) (h2 : t = decide (y < 0)) (h3 : s ≠ t) (h4 : y.natAbs ≤ x.natAbs) : iv s (x.natAbs - y.natAbs) = x + y := by
  cases s <;> cases t
  · exact absurd rfl h3
  · have a := of_decide_eq_false h1.symm; have b := of_decide_eq_true h2.symm; rw [iv_f]; omega
  · have a := of_decide_eq_true h1.symm; have b := of_decide_eq_false h2.symm; rw [iv_t]; omega
  · exact absurd rfl h3
theorem iv_suml {s t : Bool} {x y : Int} (h1 : s = decide (x < 0)) (h2 : t = decide (y < 0)) (h3 : s ≠ t) (h4 : x.natAbs < y.natAbs) : iv t (y.natAbs - x.natAbs) = x + y := by
  cases s <;> cases t
  · exact absurd rfl h3
  · have a := of_decide_eq_false h1.symm; have b := of_decide_eq_true h2.symm; rw [iv_t]; omega
  · have a := of_decide_eq_true h1.symm; have b := of_decide_eq_false h2.symm; rw [iv_f]; omega
  · exact absurd rfl h3
theorem sum_len32 {xs ys zs : List Nat} {a b m n : Nat} (hx : Nf B32 xs a) (hy : Nf B32 ys b) (lx : xs.length = m) (ly : ys.length = n) (hz : Nf B32 zs (a + b)) : zs.length ≤ max m n + 1 := by
  refine (hz.len_le B32_one).2 ?_
  have h1 := (hx.len_le B32_one (k := max m n)).1 (by omega)
  have h2 := (hy.len_le B32_one (k := max m n)).1 (by omega)
  rw [Nat.pow_succ]
  have : B32 ^ (max m n) * 2 ≤ B32 ^ (max m n) * B32 := Nat.mul_le_mul_left _ (by rw [B32_eq]; omega)
  omega
theorem radd04_s {p q : Option Addr} {m n : Nat} {w : World} {x y : Int} (s t : Bool) (h : ZR w s p m x) (k : ZR w t q n y) (hm : m ≤ 50000) (hn : n ≤ 50000) (hst : s = t) :
  Calls Tryz.prog 112 #[.agg #[.bool s, .slice p m m], .agg #[.bool t, .slice q n n]] w fun e w' => ∃ v, e = .returned v ∧ GotR w.heap.size w' v (x + y) (max m n + 1) ∧ Below w.heap.size w w' := by
 have HA := hdQ h;have HB := hdQ k;have HM : Hid (m ≤ 50000 ∧ n ≤ 50000) := ⟨hm, hn⟩;clear h k hm hn
 have hse : (s == t) = true := by simpa using hst
 have HST : Hid (s = t) := hst;clear hst
 go_enter Tryz.func112, Tryz.ntmps112
 go_wp2_with fail;obtain ⟨W0, hW0⟩ := exq (((w.alloc (.cells #[.bool s, .slice p m m] 100)).alloc (.cells #[.bool t, .slice q n n] 100)).alloc (.cells #[.bool false, .slice none 0 0] 100))
 have Xa : Hid (Box W0 (w.heap.size) (.bool s) (.slice p m m)) := by rw [hW0]; constructor <;> go_simp
 have Xb : Hid (Box W0 (w.heap.size + 1) (.bool t) (.slice q n n)) := by rw [hW0]; constructor <;> go_simp
 have Xr : Hid (Box W0 (w.heap.size + 1 + 1) (.bool false) (.slice none 0 0)) := by rw [hW0]; constructor <;> go_simp
 have hb0 := bq3 hW0;rw [← hW0];clear hW0;have hbw := brf w;obtain ⟨gr, hgr⟩ := exq (w.heap.size + 1 + 1);have HGr : Hid (w.heap.size ≤ gr) := hgl hgr;rw [← hgr] at Xr
 try rw [← hgr]
 obtain ⟨gb, hgb⟩ := exq (w.heap.size + 1);have HGb : Hid (w.heap.size ≤ gb) := hgl hgb;rw [← hgb] at Xb
 try rw [← hgb]
 obtain ⟨ga, hga⟩ := exq w.heap.size;have HGa : Hid (w.heap.size ≤ ga) := hgl hga;rw [← hga] at Xa
 try rw [← hga]
 have HGD : Hid (ga ≠ gb ∧ ga ≠ gr ∧ gb ≠ ga ∧ gb ≠ gr ∧ gr ≠ ga ∧ gr ≠ gb) := by rw [hga, hgb, hgr]; show _ ∧ _; omega
 clear hga hgb hgr;replace HA := ZR.b HA hb0;replace HB := ZR.b HB hb0;replace hbw := bon hbw hb0;clear hb0;obtain ⟨xs, hAx, hNx⟩ := HA.out.ex;obtain ⟨ys, hAy, hNy⟩ := HB.out.ex;have HNX : Hid (Nf B32 xs x.natAbs ∧ Nf B32 ys y.natAbs) := ⟨hNx, hNy⟩;clear hNx hNy;have AX := hdQ hAx;have AY := hdQ hAy;clear hAx hAy
 have HZV : Hid (iv s (x.natAbs + y.natAbs) = x + y) := by have h1 := HA.out.sg; have h2 := HB.out.sg; have h3 := HST.out; exact iv_sums h1 h2 h3
 obtain ⟨W1, hW1⟩ := exq W0.drew
 have hbd : Below W0.heap.size W0 W1 := by rw [hW1]; exact bDrew1 (Below.refl _ _)
 replace Xa := Box.b Xa hbd;replace Xb := Box.b Xb hbd;replace Xr := Box.b Xr hbd;replace HA := ZR.b HA hbd;replace HB := ZR.b HB hbd;replace AX := At32.b AX hbd;replace AY := At32.b AY hbd;replace hbw := bon hbw hbd;clear hbd
 have HJ : Hid ((fun W' : World => W'.cell? ⟨ga, 0, none⟩ = some (.bool s) ∧ W'.cell? ⟨ga, 1, none⟩ = some (.slice p m m) ∧ W'.cell? ⟨gb, 0, none⟩ = some (.bool t) ∧ W'.cell? ⟨gb, 1, none⟩ = some (.slice q n n)) W1) := ⟨Xa.out.c0, Xa.out.c1, Xb.out.c0, Xb.out.c1⟩
 refine wp_region_J (fun W' => W'.cell? ⟨ga, 0, none⟩ = some (.bool s) ∧ W'.cell? ⟨ga, 1, none⟩ = some (.slice p m m) ∧ W'.cell? ⟨gb, 0, none⟩ = some (.bool t) ∧ W'.cell? ⟨gb, 1, none⟩ = some (.slice q n n)) (by kernel_rfl) ?_
 rw [← hW1];clear hW1
 refine wpJ_tq 0 rfl HJ.out ?_
 refine wpJ_tq 1 rfl HJ.out ?_
 refine wpJ_tq 2 rfl HJ.out ?_
 refine wpJ_tq 3 rfl HJ.out ?_
 refine wpJ_tq 4 rfl HJ.out ?_
 refine wpJ_tq 5 rfl HJ.out ?_
 refine wpJ_on 6 rfl fun KJ hK => ?_
 go_simp
 refine (radd_any AX.out AY.out HNX.out.1 HNX.out.2 (by have := HM.out; omega) (by have := HM.out; omega)).mono ?_
 rintro e w2 ⟨p2, m2, z2, rfl, hA2, hN2, hb2⟩
 have hl2 : m2 ≤ max m n + 1 := by rw [← hA2.len]; exact sum_len32 HNX.out.1 HNX.out.2 AX.out.len AY.out.len hN2
 replace Xa := Box.b Xa hb2;replace Xb := Box.b Xb hb2;replace Xr := Box.b Xr hb2;replace HA := ZR.b HA hb2;replace HB := ZR.b HB hb2;replace AX := At32.b AX hb2;replace AY := At32.b AY hb2;replace hbw := bon hbw hb2;clear hb2;have A2 := hdQ hA2;have N2 := hdQ hN2;have HLL : Hid (m2 ≤ max m n + 1) := hl2;have HRL : Hid (gr < w2.heap.size) := Xr.out.lt;have HBS : Hid (w.heap.size ≤ w2.heap.size) := hbw.size;clear hA2 hN2 hl2
 refine hK _ _ ⟨Xa.out.c0, Xa.out.c1, Xb.out.c0, Xb.out.c1⟩ ?_
 clear hK
 refine wpJ_on 7 rfl fun KJ hK => ?_
 go_simp
 refine (rmk_any s A2.out N2.out (by have := HLL.out; have := HM.out; omega)).mono ?_
 rintro e w3 ⟨v, rfl, hv, hb3⟩;rw [HZV.out] at hv;replace Xa := Box.b Xa hb3;replace Xb := Box.b Xb hb3;replace Xr := Box.b Xr hb3;replace HA := ZR.b HA hb3;replace HB := ZR.b HB hb3;replace AX := At32.b AX hb3;replace AY := At32.b AY hb3;replace A2 := At32.b A2 hb3;replace hbw := bon hbw hb3;clear hb3;obtain ⟨s9, g9, m9, rfl, hg9, hz9, hl9⟩ := hv;have ZA := hdQ hz9
 have HL : Hid (m9 ≤ max m n + 1) := by have := hl9; have := HLL.out; show m9 ≤ _; omega
 have HGE : Hid (gr < g9) := Nat.lt_of_lt_of_le HRL.out hg9;have HGB : Hid (w.heap.size ≤ g9) := Nat.le_trans HBS.out hg9;clear hg9 hz9 hl9
 refine hK _ _ ⟨Xa.out.c0, Xa.out.c1, Xb.out.c0, Xb.out.c1⟩ ?_
 clear hK;obtain ⟨cr0, cr1, fr0, fr1⟩ := Xr.out;have hner := Xr.out.lt;obtain ⟨ca0, ca1, fa0, fa1⟩ := Xa.out;have hnea := Xa.out.lt;obtain ⟨cb0, cb1, fb0, fb1⟩ := Xb.out;have hneb := Xb.out.lt;obtain ⟨hgd0, hgd1, hgd2, hgd3, hgd4, hgd5⟩ := HGD.out
 refine wpJ_on 8 rfl fun KJ hK => ?_
 go_simp
 have HJ2 : Hid ((fun W' : World => W'.cell? ⟨ga, 0, none⟩ = some (.bool s) ∧ W'.cell? ⟨ga, 1, none⟩ = some (.slice p m m) ∧ W'.cell? ⟨gb, 0, none⟩ = some (.bool t) ∧ W'.cell? ⟨gb, 1, none⟩ = some (.slice q n n)) ((w3.setCell ⟨gr, 0, none⟩ (.bool s9)).setCell ⟨gr, 1, none⟩ (.slice (some ⟨g9, 0, none⟩) m9 m9))) := ⟨by go_simp, by go_simp, by go_simp, by go_simp⟩
 refine hK _ _ HJ2.out ?_
 clear hK HJ;have HJ := HJ2;clear HJ2
 refine wpJ_done (by kernel_rfl) ?_ _
 clear HJ;go_wp2_with fail
 refine bodyPost_ret (v := .agg #[.bool s9, .slice (some ⟨g9, 0, none⟩) m9 m9]) (by rw [results_cell1 rfl]; go_simp) rfl ⟨_, rfl, ⟨s9, g9, m9, rfl, HGB.out, ?_, HL.out⟩, ?_⟩
 ·have := HGE.out
  exact (ZA.out.set _ _ _ (by omega)).set _ _ _ (by omega)
 ·exact bSet (bSet hbw _ _ _ HGr.out) _ _ _ HGr.out
theorem radd04_g {p q : Option Addr} {m n : Nat} {w : World} {x y : Int} (s t : Bool) (h : ZR w s p m x) (k : ZR w t q n y) (hm : m ≤ 50000) (hn : n ≤ 50000) (hst : s ≠ t) (hcm : y.natAbs ≤ x.natAbs) :
  Calls Tryz.prog 112 #[.agg #[.bool s, .slice p m m], .agg #[.bool t, .slice q n n]] w fun e w' => ∃ v, e = .returned v ∧ GotR w.heap.size w' v (x + y) (max m n + 1) ∧ Below w.heap.size w w' := by
 have HA := hdQ h;have HB := hdQ k;have HM : Hid (m ≤ 50000 ∧ n ≤ 50000) := ⟨hm, hn⟩;clear h k hm hn
 have hse : (s == t) = false := by simpa using hst
 have HST : Hid (s ≠ t) := hst;have HCM : Hid (y.natAbs ≤ x.natAbs) := hcm;clear hst hcm
 go_enter Tryz.func112, Tryz.ntmps112
 go_wp2_with fail;obtain ⟨W0, hW0⟩ := exq (((w.alloc (.cells #[.bool s, .slice p m m] 100)).alloc (.cells #[.bool t, .slice q n n] 100)).alloc (.cells #[.bool false, .slice none 0 0] 100))
 have Xa : Hid (Box W0 (w.heap.size) (.bool s) (.slice p m m)) := by rw [hW0]; constructor <;> go_simp
 have Xb : Hid (Box W0 (w.heap.size + 1) (.bool t) (.slice q n n)) := by rw [hW0]; constructor <;> go_simp
 have Xr : Hid (Box W0 (w.heap.size + 1 + 1) (.bool false) (.slice none 0 0)) := by rw [hW0]; constructor <;> go_simp
 have hb0 := bq3 hW0;rw [← hW0];clear hW0;have hbw := brf w;obtain ⟨gr, hgr⟩ := exq (w.heap.size + 1 + 1);have HGr : Hid (w.heap.size ≤ gr) := hgl hgr;rw [← hgr] at Xr
 try rw [← hgr]
 obtain ⟨gb, hgb⟩ := exq (w.heap.size + 1);have HGb : Hid (w.heap.size ≤ gb) := hgl hgb;rw [← hgb] at Xb
 try rw [← hgb]
 obtain ⟨ga, hga⟩ := exq w.heap.size;have HGa : Hid (w.heap.size ≤ ga) := hgl hga;rw [← hga] at Xa
 try rw [← hga]
 have HGD : Hid (ga ≠ gb ∧ ga ≠ gr ∧ gb ≠ ga ∧ gb ≠ gr ∧ gr ≠ ga ∧ gr ≠ gb) := by rw [hga, hgb, hgr]; show _ ∧ _; omega
 clear hga hgb hgr;replace HA := ZR.b HA hb0;replace HB := ZR.b HB hb0;replace hbw := bon hbw hb0;clear hb0;obtain ⟨xs, hAx, hNx⟩ := HA.out.ex;obtain ⟨ys, hAy, hNy⟩ := HB.out.ex;have HNX : Hid (Nf B32 xs x.natAbs ∧ Nf B32 ys y.natAbs) := ⟨hNx, hNy⟩;clear hNx hNy;have AX := hdQ hAx;have AY := hdQ hAy;clear hAx hAy
 have HZV : Hid (iv s (x.natAbs - y.natAbs) = x + y) := by have h1 := HA.out.sg; have h2 := HB.out.sg; have h3 := HST.out; exact iv_sumg h1 h2 h3 HCM.out
 obtain ⟨cm, hcm⟩ := exq (cmpN x.natAbs y.natAbs);have HCQ : Hid (cm = cmpN x.natAbs y.natAbs) := hcm
 have hcc : decide (0 ≤ cm) = true := decide_eq_true (by rw [hcm]; have := HCM.out; unfold cmpN; split <;> (try split) <;> omega)
 clear hcm
 refine (rcmp_any AX.out AY.out HNX.out.1 HNX.out.2).mono ?_
 rintro e w9 ⟨rfl, rd, rfl⟩;rw [← HCQ.out];have hbr := bDrewN (Below.refl W0.heap.size W0) rd;generalize W0.drewN rd = W9 at *;replace Xa := Box.b Xa hbr;replace Xb := Box.b Xb hbr;replace Xr := Box.b Xr hbr;replace HA := ZR.b HA hbr;replace HB := ZR.b HB hbr;replace AX := At32.b AX hbr;replace AY := At32.b AY hbr;replace hbw := bon hbw hbr;clear hbr;obtain ⟨ca0, ca1, fa0, fa1⟩ := Xa.out;have hnea := Xa.out.lt;obtain ⟨cb0, cb1, fb0, fb1⟩ := Xb.out;have hneb := Xb.out.lt;go_wp2_with fail;clear ca0 ca1 fa0 fa1 hnea cb0 cb1 fb0 fb1 hneb hcc;obtain ⟨W1, hW1⟩ := exq W9.drew
 have hbd : Below W9.heap.size W9 W1 := by rw [hW1]; exact bDrew1 (Below.refl _ _)
 replace Xa := Box.b Xa hbd;replace Xb := Box.b Xb hbd;replace Xr := Box.b Xr hbd;replace HA := ZR.b HA hbd;replace HB := ZR.b HB hbd;replace AX := At32.b AX hbd;replace AY := At32.b AY hbd;replace hbw := bon hbw hbd;clear hbd
 have HJ : Hid ((fun W' : World => W'.cell? ⟨ga, 0, none⟩ = some (.bool s) ∧ W'.cell? ⟨ga, 1, none⟩ = some (.slice p m m) ∧ W'.cell? ⟨gb, 0, none⟩ = some (.bool t) ∧ W'.cell? ⟨gb, 1, none⟩ = some (.slice q n n)) W1) := ⟨Xa.out.c0, Xa.out.c1, Xb.out.c0, Xb.out.c1⟩
 refine wp_region_J (fun W' => W'.cell? ⟨ga, 0, none⟩ = some (.bool s) ∧ W'.cell? ⟨ga, 1, none⟩ = some (.slice p m m) ∧ W'.cell? ⟨gb, 0, none⟩ = some (.bool t) ∧ W'.cell? ⟨gb, 1, none⟩ = some (.slice q n n)) (by kernel_rfl) ?_
 rw [← hW1];clear hW1
 refine wpJ_tq 0 rfl HJ.out ?_
 refine wpJ_tq 1 rfl HJ.out ?_
 refine wpJ_tq 2 rfl HJ.out ?_
 refine wpJ_tq 3 rfl HJ.out ?_
 refine wpJ_tq 4 rfl HJ.out ?_
 refine wpJ_tq 5 rfl HJ.out ?_
 refine wpJ_on 6 rfl fun KJ hK => ?_
 go_simp
 refine (rsub_any AX.out AY.out HNX.out.1 HNX.out.2 (by have := HM.out; omega) HCM.out).mono ?_
 rintro e w2 ⟨p2, m2, z2, rfl, hA2, hN2, hl2q, hb2⟩
 have hl2 : m2 ≤ max m n + 1 := by omega
 clear hl2q;replace Xa := Box.b Xa hb2;replace Xb := Box.b Xb hb2;replace Xr := Box.b Xr hb2;replace HA := ZR.b HA hb2;replace HB := ZR.b HB hb2;replace AX := At32.b AX hb2;replace AY := At32.b AY hb2;replace hbw := bon hbw hb2;clear hb2;have A2 := hdQ hA2;have N2 := hdQ hN2;have HLL : Hid (m2 ≤ max m n + 1) := hl2;have HRL : Hid (gr < w2.heap.size) := Xr.out.lt;have HBS : Hid (w.heap.size ≤ w2.heap.size) := hbw.size;clear hA2 hN2 hl2
 refine hK _ _ ⟨Xa.out.c0, Xa.out.c1, Xb.out.c0, Xb.out.c1⟩ ?_
 clear hK
 refine wpJ_on 7 rfl fun KJ hK => ?_
 go_simp
 refine (rmk_any s A2.out N2.out (by have := HLL.out; have := HM.out; omega)).mono ?_
 rintro e w3 ⟨v, rfl, hv, hb3⟩;rw [HZV.out] at hv;replace Xa := Box.b Xa hb3;replace Xb := Box.b Xb hb3;replace Xr := Box.b Xr hb3;replace HA := ZR.b HA hb3;replace HB := ZR.b HB hb3;replace AX := At32.b AX hb3;replace AY := At32.b AY hb3;replace A2 := At32.b A2 hb3;replace hbw := bon hbw hb3;clear hb3;obtain ⟨s9, g9, m9, rfl, hg9, hz9, hl9⟩ := hv;have ZA := hdQ hz9
 have HL : Hid (m9 ≤ max m n + 1) := by have := hl9; have := HLL.out; show m9 ≤ _; omega
 have HGE : Hid (gr < g9) := Nat.lt_of_lt_of_le HRL.out hg9;have HGB : Hid (w.heap.size ≤ g9) := Nat.le_trans HBS.out hg9;clear hg9 hz9 hl9
 refine hK _ _ ⟨Xa.out.c0, Xa.out.c1, Xb.out.c0, Xb.out.c1⟩ ?_
 clear hK;obtain ⟨cr0, cr1, fr0, fr1⟩ := Xr.out;have hner := Xr.out.lt;obtain ⟨ca0, ca1, fa0, fa1⟩ := Xa.out;have hnea := Xa.out.lt;obtain ⟨cb0, cb1, fb0, fb1⟩ := Xb.out;have hneb := Xb.out.lt;obtain ⟨hgd0, hgd1, hgd2, hgd3, hgd4, hgd5⟩ := HGD.out
 refine wpJ_on 8 rfl fun KJ hK => ?_
 go_simp
 have HJ2 : Hid ((fun W' : World => W'.cell? ⟨ga, 0, none⟩ = some (.bool s) ∧ W'.cell? ⟨ga, 1, none⟩ = some (.slice p m m) ∧ W'.cell? ⟨gb, 0, none⟩ = some (.bool t) ∧ W'.cell? ⟨gb, 1, none⟩ = some (.slice q n n)) ((w3.setCell ⟨gr, 0, none⟩ (.bool s9)).setCell ⟨gr, 1, none⟩ (.slice (some ⟨g9, 0, none⟩) m9 m9))) := ⟨by go_simp, by go_simp, by go_simp, by go_simp⟩
 refine hK _ _ HJ2.out ?_
 clear hK HJ;have HJ := HJ2;clear HJ2
 refine wpJ_done (by kernel_rfl) ?_ _
 clear HJ;go_wp2_with fail
 refine bodyPost_ret (v := .agg #[.bool s9, .slice (some ⟨g9, 0, none⟩) m9 m9]) (by rw [results_cell1 rfl]; go_simp) rfl ⟨_, rfl, ⟨s9, g9, m9, rfl, HGB.out, ?_, HL.out⟩, ?_⟩
 ·have := HGE.out
  exact (ZA.out.set _ _ _ (by omega)).set _ _ _ (by omega)
 ·exact bSet (bSet hbw _ _ _ HGr.out) _ _ _ HGr.out
theorem radd04_l {p q : Option Addr} {m n : Nat} {w : World} {x y : Int} (s t : Bool) (h : ZR w s p m x) (k : ZR w t q n y) (hm : m ≤ 50000) (hn : n ≤ 50000) (hst : s ≠ t) (hcm : x.natAbs < y.natAbs) :
  Calls Tryz.prog 112 #[.agg #[.bool s, .slice p m m], .agg #[.bool t, .slice q n n]] w fun e w' => ∃ v, e = .returned v ∧ GotR w.heap.size w' v (x + y) (max m n + 1) ∧ Below w.heap.size w w' := by
 have HA := hdQ h;have HB := hdQ k;have HM : Hid (m ≤ 50000 ∧ n ≤ 50000) := ⟨hm, hn⟩;clear h k hm hn
 have hse : (s == t) = false := by simpa using hst
 have HST : Hid (s ≠ t) := hst;have HCM : Hid (x.natAbs < y.natAbs) := hcm;clear hst hcm
 go_enter Tryz.func112, Tryz.ntmps112
 go_wp2_with fail;obtain ⟨W0, hW0⟩ := exq (((w.alloc (.cells #[.bool s, .slice p m m] 100)).alloc (.cells #[.bool t, .slice q n n] 100)).alloc (.cells #[.bool false, .slice none 0 0] 100))
 have Xa : Hid (Box W0 (w.heap.size) (.bool s) (.slice p m m)) := by rw [hW0]; constructor <;> go_simp
 have Xb : Hid (Box W0 (w.heap.size + 1) (.bool t) (.slice q n n)) := by rw [hW0]; constructor <;> go_simp
 have Xr : Hid (Box W0 (w.heap.size + 1 + 1) (.bool false) (.slice none 0 0)) := by rw [hW0]; constructor <;> go_simp
 have hb0 := bq3 hW0;rw [← hW0];clear hW0;have hbw := brf w;obtain ⟨gr, hgr⟩ := exq (w.heap.size + 1 + 1);have HGr : Hid (w.heap.size ≤ gr) := hgl hgr;rw [← hgr] at Xr
 try rw [← hgr]
 obtain ⟨gb, hgb⟩ := exq (w.heap.size + 1);have HGb : Hid (w.heap.size ≤ gb) := hgl hgb;rw [← hgb] at Xb
 try rw [← hgb]
 obtain ⟨ga, hga⟩ := exq w.heap.size;have HGa : Hid (w.heap.size ≤ ga) := hgl hga;rw [← hga] at Xa
 try rw [← hga]
 have HGD : Hid (ga ≠ gb ∧ ga ≠ gr ∧ gb ≠ ga ∧ gb ≠ gr ∧ gr ≠ ga ∧ gr ≠ gb) := by rw [hga, hgb, hgr]; show _ ∧ _; omega
 clear hga hgb hgr;replace HA := ZR.b HA hb0;replace HB := ZR.b HB hb0;replace hbw := bon hbw hb0;clear hb0;obtain ⟨xs, hAx, hNx⟩ := HA.out.ex;obtain ⟨ys, hAy, hNy⟩ := HB.out.ex;have HNX : Hid (Nf B32 xs x.natAbs ∧ Nf B32 ys y.natAbs) := ⟨hNx, hNy⟩;clear hNx hNy;have AX := hdQ hAx;have AY := hdQ hAy;clear hAx hAy
 have HZV : Hid (iv t (y.natAbs - x.natAbs) = x + y) := by have h1 := HA.out.sg; have h2 := HB.out.sg; have h3 := HST.out; exact iv_suml h1 h2 h3 HCM.out
 obtain ⟨cm, hcm⟩ := exq (cmpN x.natAbs y.natAbs);have HCQ : Hid (cm = cmpN x.natAbs y.natAbs) := hcm
 have hcc : decide (0 ≤ cm) = false := decide_eq_false (by rw [hcm, cmpN_lt HCM.out]; omega)
 clear hcm
 refine (rcmp_any AX.out AY.out HNX.out.1 HNX.out.2).mono ?_
 rintro e w9 ⟨rfl, rd, rfl⟩;rw [← HCQ.out];have hbr := bDrewN (Below.refl W0.heap.size W0) rd;generalize W0.drewN rd = W9 at *;replace Xa := Box.b Xa hbr;replace Xb := Box.b Xb hbr;replace Xr := Box.b Xr hbr;replace HA := ZR.b HA hbr;replace HB := ZR.b HB hbr;replace AX := At32.b AX hbr;replace AY := At32.b AY hbr;replace hbw := bon hbw hbr;clear hbr;obtain ⟨ca0, ca1, fa0, fa1⟩ := Xa.out;have hnea := Xa.out.lt;obtain ⟨cb0, cb1, fb0, fb1⟩ := Xb.out;have hneb := Xb.out.lt;go_wp2_with fail;clear ca0 ca1 fa0 fa1 hnea cb0 cb1 fb0 fb1 hneb hcc;obtain ⟨W1, hW1⟩ := exq W9.drew
 have hbd : Below W9.heap.size W9 W1 := by rw [hW1]; exact bDrew1 (Below.refl _ _)
 replace Xa := Box.b Xa hbd;replace Xb := Box.b Xb hbd;replace Xr := Box.b Xr hbd;replace HA := ZR.b HA hbd;replace HB := ZR.b HB hbd;replace AX := At32.b AX hbd;replace AY := At32.b AY hbd;replace hbw := bon hbw hbd;clear hbd
 have HJ : Hid ((fun W' : World => W'.cell? ⟨ga, 0, none⟩ = some (.bool s) ∧ W'.cell? ⟨ga, 1, none⟩ = some (.slice p m m) ∧ W'.cell? ⟨gb, 0, none⟩ = some (.bool t) ∧ W'.cell? ⟨gb, 1, none⟩ = some (.slice q n n)) W1) := ⟨Xa.out.c0, Xa.out.c1, Xb.out.c0, Xb.out.c1⟩
 refine wp_region_J (fun W' => W'.cell? ⟨ga, 0, none⟩ = some (.bool s) ∧ W'.cell? ⟨ga, 1, none⟩ = some (.slice p m m) ∧ W'.cell? ⟨gb, 0, none⟩ = some (.bool t) ∧ W'.cell? ⟨gb, 1, none⟩ = some (.slice q n n)) (by kernel_rfl) ?_
 rw [← hW1];clear hW1
 refine wpJ_tq 0 rfl HJ.out ?_
 refine wpJ_tq 1 rfl HJ.out ?_
 refine wpJ_tq 2 rfl HJ.out ?_
 refine wpJ_tq 3 rfl HJ.out ?_
 refine wpJ_tq 4 rfl HJ.out ?_
 refine wpJ_tq 5 rfl HJ.out ?_
 refine wpJ_on 6 rfl fun KJ hK => ?_
 go_simp
 refine (rsub_any AY.out AX.out HNX.out.2 HNX.out.1 (by have := HM.out; omega) (Nat.le_of_lt HCM.out)).mono ?_
 rintro e w2 ⟨p2, m2, z2, rfl, hA2, hN2, hl2q, hb2⟩
 have hl2 : m2 ≤ max m n + 1 := by omega
 clear hl2q;replace Xa := Box.b Xa hb2;replace Xb := Box.b Xb hb2;replace Xr := Box.b Xr hb2;replace HA := ZR.b HA hb2;replace HB := ZR.b HB hb2;replace AX := At32.b AX hb2;replace AY := At32.b AY hb2;replace hbw := bon hbw hb2;clear hb2;have A2 := hdQ hA2;have N2 := hdQ hN2;have HLL : Hid (m2 ≤ max m n + 1) := hl2;have HRL : Hid (gr < w2.heap.size) := Xr.out.lt;have HBS : Hid (w.heap.size ≤ w2.heap.size) := hbw.size;clear hA2 hN2 hl2
 refine hK _ _ ⟨Xa.out.c0, Xa.out.c1, Xb.out.c0, Xb.out.c1⟩ ?_
 clear hK
 refine wpJ_on 7 rfl fun KJ hK => ?_
 go_simp
 refine (rmk_any t A2.out N2.out (by have := HLL.out; have := HM.out; omega)).mono ?_
 rintro e w3 ⟨v, rfl, hv, hb3⟩;rw [HZV.out] at hv;replace Xa := Box.b Xa hb3;replace Xb := Box.b Xb hb3;replace Xr := Box.b Xr hb3;replace HA := ZR.b HA hb3;replace HB := ZR.b HB hb3;replace AX := At32.b AX hb3;replace AY := At32.b AY hb3;replace A2 := At32.b A2 hb3;replace hbw := bon hbw hb3;clear hb3;obtain ⟨s9, g9, m9, rfl, hg9, hz9, hl9⟩ := hv;have ZA := hdQ hz9
 have HL : Hid (m9 ≤ max m n + 1) := by have := hl9; have := HLL.out; show m9 ≤ _; omega
 have HGE : Hid (gr < g9) := Nat.lt_of_lt_of_le HRL.out hg9;have HGB : Hid (w.heap.size ≤ g9) := Nat.le_trans HBS.out hg9;clear hg9 hz9 hl9
 refine hK _ _ ⟨Xa.out.c0, Xa.out.c1, Xb.out.c0, Xb.out.c1⟩ ?_
 clear hK;obtain ⟨cr0, cr1, fr0, fr1⟩ := Xr.out;have hner := Xr.out.lt;obtain ⟨ca0, ca1, fa0, fa1⟩ := Xa.out;have hnea := Xa.out.lt;obtain ⟨cb0, cb1, fb0, fb1⟩ := Xb.out;have hneb := Xb.out.lt;obtain ⟨hgd0, hgd1, hgd2, hgd3, hgd4, hgd5⟩ := HGD.out
 refine wpJ_on 8 rfl fun KJ hK => ?_
 go_simp
 have HJ2 : Hid ((fun W' : World => W'.cell? ⟨ga, 0, none⟩ = some (.bool s) ∧ W'.cell? ⟨ga, 1, none⟩ = some (.slice p m m) ∧ W'.cell? ⟨gb, 0, none⟩ = some (.bool t) ∧ W'.cell? ⟨gb, 1, none⟩ = some (.slice q n n)) ((w3.setCell ⟨gr, 0, none⟩ (.bool s9)).setCell ⟨gr, 1, none⟩ (.slice (some ⟨g9, 0, none⟩) m9 m9))) := ⟨by go_simp, by go_simp, by go_simp, by go_simp⟩
 refine hK _ _ HJ2.out ?_
 clear hK HJ;have HJ := HJ2;clear HJ2
 refine wpJ_done (by kernel_rfl) ?_ _
 clear HJ;go_wp2_with fail
 refine bodyPost_ret (v := .agg #[.bool s9, .slice (some ⟨g9, 0, none⟩) m9 m9]) (by rw [results_cell1 rfl]; go_simp) rfl ⟨_, rfl, ⟨s9, g9, m9, rfl, HGB.out, ?_, HL.out⟩, ?_⟩
 ·have := HGE.out
  exact (ZA.out.set _ _ _ (by omega)).set _ _ _ (by omega)
 ·exact bSet (bSet hbw _ _ _ HGr.out) _ _ _ HGr.out
theorem radd04 {p q : Option Addr} {m n : Nat} {w : World} {x y : Int} (s t : Bool) (h : ZR w s p m x) (k : ZR w t q n y) (hm : m ≤ 50000) (hn : n ≤ 50000) : Calls Tryz.prog 112 #[.agg #[.bool s, .slice p m m], .agg #[.bool t, .slice q n n]] w fun e w' => ∃ v, e = .returned v ∧ GotR w.heap.size w' v (x + y) (max m n + 1) ∧ Below w.heap.size w w' := by
  by_cases hst : s = t
  · exact radd04_s s t h k hm hn hst
  · rcases Nat.lt_or_ge x.natAbs y.natAbs with hl | hl
    · exact radd04_l s t h k hm hn hst hl
    · exact radd04_g s t h k hm hn hst hl
theorem rsub04 {p q : Option Addr} {m n : Nat} {w : World} {x y : Int} (s t : Bool) (h : ZR w s p m x) (k : ZR w t q n y) (hm : m ≤ 50000) (hn : n ≤ 50000) :
  Calls Tryz.prog 92 #[.agg #[.bool s, .slice p m m], .agg #[.bool t, .slice q n n]] w fun e w' => ∃ v, e = .returned v ∧ GotR w.heap.size w' v (x - y) (max m n + 1) ∧ Below w.heap.size w w' := by
 have HA := hdQ h;have HB := hdQ k;have HM : Hid (m ≤ 50000 ∧ n ≤ 50000) := ⟨hm, hn⟩;clear h k hm hn
 go_enter Tryz.func92, Tryz.ntmps92
 go_wp2_with fail;obtain ⟨W0, hW0⟩ := exq (((w.alloc (.cells #[.bool s, .slice p m m] 100)).alloc (.cells #[.bool t, .slice q n n] 100)).alloc (.cells #[.bool false, .slice none 0 0] 100))
 have Xa : Hid (Box W0 (w.heap.size) (.bool s) (.slice p m m)) := by rw [hW0]; constructor <;> go_simp
 have Xb : Hid (Box W0 (w.heap.size + 1) (.bool t) (.slice q n n)) := by rw [hW0]; constructor <;> go_simp
 have Xr : Hid (Box W0 (w.heap.size + 1 + 1) (.bool false) (.slice none 0 0)) := by rw [hW0]; constructor <;> go_simp
 have hb0 := bq3 hW0;rw [← hW0];clear hW0;have hbw := brf w;obtain ⟨gr, hgr⟩ := exq (w.heap.size + 1 + 1);have HGr : Hid (w.heap.size ≤ gr) := hgl hgr;rw [← hgr] at Xr
 try rw [← hgr]
 obtain ⟨gb, hgb⟩ := exq (w.heap.size + 1);have HGb : Hid (w.heap.size ≤ gb) := hgl hgb;rw [← hgb] at Xb
 try rw [← hgb]
 obtain ⟨ga, hga⟩ := exq w.heap.size;have HGa : Hid (w.heap.size ≤ ga) := hgl hga;rw [← hga] at Xa
 try rw [← hga]
 have HGD : Hid (ga ≠ gb ∧ ga ≠ gr ∧ gb ≠ ga ∧ gb ≠ gr ∧ gr ≠ ga ∧ gr ≠ gb) := by rw [hga, hgb, hgr]; show _ ∧ _; omega
 clear hga hgb hgr;replace HA := ZR.b HA hb0;replace HB := ZR.b HB hb0;replace hbw := bon hbw hb0;clear hb0;obtain ⟨W1, hW1⟩ := exq W0.drew
 have hbd : Below W0.heap.size W0 W1 := by rw [hW1]; exact bDrew1 (Below.refl _ _)
 replace Xa := Box.b Xa hbd;replace Xb := Box.b Xb hbd;replace Xr := Box.b Xr hbd;replace HA := ZR.b HA hbd;replace HB := ZR.b HB hbd;replace hbw := bon hbw hbd;clear hbd
 have HJ : Hid ((fun W' : World => W'.cell? ⟨ga, 0, none⟩ = some (.bool s) ∧ W'.cell? ⟨ga, 1, none⟩ = some (.slice p m m) ∧ W'.cell? ⟨gb, 0, none⟩ = some (.bool t) ∧ W'.cell? ⟨gb, 1, none⟩ = some (.slice q n n)) W1) := ⟨Xa.out.c0, Xa.out.c1, Xb.out.c0, Xb.out.c1⟩
 refine wp_region_J (fun W' => W'.cell? ⟨ga, 0, none⟩ = some (.bool s) ∧ W'.cell? ⟨ga, 1, none⟩ = some (.slice p m m) ∧ W'.cell? ⟨gb, 0, none⟩ = some (.bool t) ∧ W'.cell? ⟨gb, 1, none⟩ = some (.slice q n n)) (by kernel_rfl) ?_
 rw [← hW1];clear hW1
 refine wpJ_tq 0 rfl HJ.out ?_
 refine wpJ_tq 1 rfl HJ.out ?_
 refine wpJ_on 2 rfl fun KJ hK => ?_
 go_simp
 refine (rflip_any t HB.out (by have := HM.out; omega)).mono ?_
 rintro e w2 ⟨v, rfl, hv, hb2⟩;obtain ⟨s2, g2, m2, rfl, hg2, hz2, hl2⟩ := hv;replace Xa := Box.b Xa hb2;replace Xb := Box.b Xb hb2;replace Xr := Box.b Xr hb2;replace HA := ZR.b HA hb2;replace HB := ZR.b HB hb2;replace hbw := bon hbw hb2;clear hb2;have ZB := hdQ hz2;have HL2 : Hid (m2 ≤ n) := hl2;have HRL : Hid (gr < w2.heap.size) := Xr.out.lt;have HBS : Hid (w.heap.size ≤ w2.heap.size) := hbw.size;clear hg2 hz2 hl2
 refine hK _ _ ⟨Xa.out.c0, Xa.out.c1, Xb.out.c0, Xb.out.c1⟩ ?_
 clear hK
 refine wpJ_on 3 rfl fun KJ hK => ?_
 go_simp
 refine (radd04 s s2 HA.out ZB.out HM.out.1 (Nat.le_trans HL2.out HM.out.2)).mono ?_
 rintro e w3 ⟨v, rfl, hv, hb3⟩;rw [← Int.sub_eq_add_neg] at hv;replace Xa := Box.b Xa hb3;replace Xb := Box.b Xb hb3;replace Xr := Box.b Xr hb3;replace HA := ZR.b HA hb3;replace HB := ZR.b HB hb3;replace ZB := ZR.b ZB hb3;replace hbw := bon hbw hb3;clear hb3
 have HLL : Hid (max m m2 + 1 ≤ max m n + 1) := by have := HL2.out; show _ ≤ _; omega
 obtain ⟨s9, g9, m9, rfl, hg9, hz9, hl9⟩ := hv;have ZA := hdQ hz9
 have HL : Hid (m9 ≤ max m n + 1) := by have := hl9; have := HLL.out; show m9 ≤ _; omega
 have HGE : Hid (gr < g9) := Nat.lt_of_lt_of_le HRL.out hg9;have HGB : Hid (w.heap.size ≤ g9) := Nat.le_trans HBS.out hg9;clear hg9 hz9 hl9
 refine hK _ _ ⟨Xa.out.c0, Xa.out.c1, Xb.out.c0, Xb.out.c1⟩ ?_
 clear hK;obtain ⟨cr0, cr1, fr0, fr1⟩ := Xr.out;have hner := Xr.out.lt;obtain ⟨ca0, ca1, fa0, fa1⟩ := Xa.out;have hnea := Xa.out.lt;obtain ⟨cb0, cb1, fb0, fb1⟩ := Xb.out;have hneb := Xb.out.lt;obtain ⟨hgd0, hgd1, hgd2, hgd3, hgd4, hgd5⟩ := HGD.out
 refine wpJ_on 4 rfl fun KJ hK => ?_
 go_simp
 have HJ2 : Hid ((fun W' : World => W'.cell? ⟨ga, 0, none⟩ = some (.bool s) ∧ W'.cell? ⟨ga, 1, none⟩ = some (.slice p m m) ∧ W'.cell? ⟨gb, 0, none⟩ = some (.bool t) ∧ W'.cell? ⟨gb, 1, none⟩ = some (.slice q n n)) ((w3.setCell ⟨gr, 0, none⟩ (.bool s9)).setCell ⟨gr, 1, none⟩ (.slice (some ⟨g9, 0, none⟩) m9 m9))) := ⟨by go_simp, by go_simp, by go_simp, by go_simp⟩
 refine hK _ _ HJ2.out ?_
 clear hK HJ;have HJ := HJ2;clear HJ2
 refine wpJ_done (by kernel_rfl) ?_ _
 clear HJ;go_wp2_with fail
 refine bodyPost_ret (v := .agg #[.bool s9, .slice (some ⟨g9, 0, none⟩) m9 m9]) (by rw [results_cell1 rfl]; go_simp) rfl ⟨_, rfl, ⟨s9, g9, m9, rfl, HGB.out, ?_, HL.out⟩, ?_⟩
 ·have := HGE.out
  exact (ZA.out.set _ _ _ (by omega)).set _ _ _ (by omega)
 ·exact bSet (bSet hbw _ _ _ HGr.out) _ _ _ HGr.out
theorem rsign04 {p : Option Addr} {m : Nat} {w : World} {z : Int} (s : Bool) (h : ZR w s p m z) :
  Calls Tryz.prog 91 #[.agg #[.bool s, .slice p m m]] w fun e w' => e = .returned (.int .i64 (sgnI z)) ∧ Below w.heap.size w w' := by
 have hz := h.zero;have hsg := h.sg;obtain ⟨sg, hs⟩ := exq (sgnI z);rw [← hs]
 by_cases hm : m = 0
 ·have hv : sg = 0 := by rw [hs, hz.1 hm]; rfl
  subst hv;subst hm;clear h hz hsg hs
  go_enter Tryz.func91, Tryz.ntmps91
  go_wp2_with fail
  go_ret
  exact ⟨rfl, below1 w _⟩
 ·have hm0 : ((m : Int) == 0) = false := by simp; omega
  have hz0 : z ≠ 0 := fun e => hm (hz.2 e)
  cases s
  ·have hv : sg = 1 := by rw [hs]; unfold sgnI; have := of_decide_eq_false hsg.symm; rw [if_neg this, if_neg hz0]
   subst hv;clear h hz hsg hs hz0
   go_enter Tryz.func91, Tryz.ntmps91
   go_wp2_with fail
   go_ret
   exact ⟨rfl, below1 w _⟩
  ·have hv : sg = -1 := by rw [hs]; unfold sgnI; have := of_decide_eq_true hsg.symm; rw [if_pos this]
   subst hv;clear h hz hsg hs hz0
   go_enter Tryz.func91, Tryz.ntmps91
   go_wp2_with fail
   go_ret
   exact ⟨rfl, below1 w _⟩
theorem sgn_cmp (x y : Int) : sgnI (x - y) = cmpI x y := by
  unfold sgnI cmpI
  rcases Int.lt_trichotomy x y with h | h | h
  · rw [if_pos (by omega), if_pos h]
  · rw [if_neg (by omega), if_pos (by omega), if_neg (by omega), if_pos h]
  · rw [if_neg (by omega), if_neg (by omega), if_neg (by omega), if_neg (by omega)]
theorem rcmp04 {p q : Option Addr} {m n : Nat} {w : World} {x y : Int} (s t : Bool) (h : ZR w s p m x) (k : ZR w t q n y) (hm : m ≤ 50000) (hn : n ≤ 50000) :
  Calls Tryz.prog 69 #[.agg #[.bool s, .slice p m m], .agg #[.bool t, .slice q n n]] w fun e w' => e = .returned (.int .i64 (cmpI x y)) ∧ Below w.heap.size w w' := by
 have HA := hdQ h;have HB := hdQ k;have HM : Hid (m ≤ 50000 ∧ n ≤ 50000) := ⟨hm, hn⟩;clear h k hm hn;rw [← sgn_cmp]
 go_enter Tryz.func69, Tryz.ntmps69
 go_wp2_with fail;obtain ⟨W0, hW0⟩ := exq ((w.alloc (.cells #[.bool s, .slice p m m] 100)).alloc (.cells #[.bool t, .slice q n n] 100))
 have Xa : Hid (Box W0 (w.heap.size) (.bool s) (.slice p m m)) := by rw [hW0]; constructor <;> go_simp
 have Xb : Hid (Box W0 (w.heap.size + 1) (.bool t) (.slice q n n)) := by rw [hW0]; constructor <;> go_simp
 have hb0 := bq2 hW0;rw [← hW0];clear hW0;have hbw := brf w;obtain ⟨gb, hgb⟩ := exq (w.heap.size + 1);have HGb : Hid (w.heap.size ≤ gb) := hgl hgb;rw [← hgb] at Xb
 try rw [← hgb]
 obtain ⟨ga, hga⟩ := exq w.heap.size;have HGa : Hid (w.heap.size ≤ ga) := hgl hga;rw [← hga] at Xa
 try rw [← hga]
 have HGD : Hid (ga ≠ gb ∧ gb ≠ ga) := by rw [hga, hgb]; show _ ∧ _; omega
 clear hga hgb;replace HA := ZR.b HA hb0;replace HB := ZR.b HB hb0;replace hbw := bon hbw hb0;clear hb0
 refine (rsub04 s t HA.out HB.out HM.out.1 HM.out.2).mono ?_
 rintro e w2 ⟨v, rfl, hv, hb2⟩;obtain ⟨s2, g2, m2, rfl, hg2, hz2, hl2⟩ := hv;replace Xa := Box.b Xa hb2;replace Xb := Box.b Xb hb2;replace HA := ZR.b HA hb2;replace HB := ZR.b HB hb2;replace hbw := bon hbw hb2;clear hb2;have ZB := hdQ hz2;clear hg2 hz2 hl2;go_wp2_with fail
 refine (rsign04 s2 ZB.out).mono ?_
 rintro e v3 ⟨rfl, hb3⟩;obtain ⟨sv, hsv⟩ := exq (sgnI (x - y));rw [← hsv];have HSV : Hid (sv = sgnI (x - y)) := hsv;clear hsv;replace Xa := Box.b Xa hb3;replace Xb := Box.b Xb hb3;replace HA := ZR.b HA hb3;replace HB := ZR.b HB hb3;replace ZB := ZR.b ZB hb3;replace hbw := bon hbw hb3;clear hb3;go_wp2_with fail
 go_ret
 exact ⟨by rw [← HSV.out]; rfl, hbw⟩
def NewAt (B : Nat) (w : World) (p : Option Addr) (m c : Nat) (us : List Nat) : Prop := At w p m c us ∧ (m = 0 ∨ ∃ g, p = some ⟨g, 0, none⟩ ∧ B ≤ g)
theorem NewAt.below {B : Nat} {w w' : World} {p : Option Addr} {m c : Nat} {us : List Nat} (h : NewAt B w p m c us) (hb : Below w.heap.size w w') : NewAt B w' p m c us := ⟨h.1.below hb, h.2⟩
theorem NewAt.b {B : Nat} {w w' : World} {p : Option Addr} {m c : Nat} {us : List Nat} (h : Hid (NewAt B w p m c us)) (hb : Below w.heap.size w w') : Hid (NewAt B w' p m c us) := NewAt.below h hb
theorem NewAt.mono {B B' : Nat} {w : World} {p : Option Addr} {m c : Nat} {us : List Nat} (h : NewAt B w p m c us) (hB : B' ≤ B) : NewAt B' w p m c us :=
 ⟨h.1, h.2.imp id (fun ⟨g, e, k⟩ => ⟨g, e, Nat.le_trans hB k⟩)⟩
theorem NewAt.set {B : Nat} {w : World} {p : Option Addr} {m c : Nat} {us : List Nat} (h : NewAt B w p m c us) {r : Nat} (hr : r < B) (o : Nat) (v : Value) : NewAt B (w.setCell ⟨r, o, none⟩ v) p m c us := by
  refine ⟨?_, h.2⟩
  rcases h.2 with h0 | ⟨g, rfl, hg⟩
  · subst h0
    obtain rfl : us = [] := List.eq_nil_of_length_eq_zero h.1.len
    exact At.empty _ _ _ h.1.big
  · exact h.1.setOther _ _ _ (by omega)
def DocZ (z : Int) (s : Bool) (us : List Nat) (er : Int) : Prop :=
 (z.natAbs < LIM ∧ s = decide (z < 0) ∧ Nf B64 us z.natAbs ∧ er = 0) ∨ (LIM ≤ z.natAbs ∧ s = false ∧ us = [] ∧ er = 5)
theorem DocZ.inj {z : Int} {s s' : Bool} {us us' : List Nat} {er er' : Int} (h : DocZ z s us er) (k : DocZ z s' us' er') : s = s' ∧ us = us' ∧ er = er' := by
  rcases h with ⟨h0, rfl, h1, rfl⟩ | ⟨h0, rfl, rfl, rfl⟩ <;> rcases k with ⟨k0, rfl, k1, rfl⟩ | ⟨k0, rfl, rfl, rfl⟩
  · exact ⟨rfl, h1.inj B64_one k1, rfl⟩
  · omega
  · omega
  · exact ⟨rfl, rfl, rfl⟩
def OneZ (r : Int → Int) (sx : Bool) (xs : List Nat) (s : Bool) (us : List Nat) (er : Int) : Prop :=
 (formZ sx xs = false ∧ s = false ∧ us = [] ∧ er = 2) ∨ (formZ sx xs = true ∧ DocZ (r (iv sx (valB B64 xs))) s us er)
def TwoZ (r : Int → Int → Int) (sx : Bool) (xs : List Nat) (sy : Bool) (ys : List Nat) (s : Bool) (us : List Nat) (er : Int) : Prop :=
 ((formZ sx xs && formZ sy ys) = false ∧ s = false ∧ us = [] ∧ er = 2) ∨ ((formZ sx xs && formZ sy ys) = true ∧ DocZ (r (iv sx (valB B64 xs)) (iv sy (valB B64 ys))) s us er)
theorem OneZ.inj {r : Int → Int} {sx : Bool} {xs : List Nat} {s s' : Bool} {us us' : List Nat} {er er' : Int} (h : OneZ r sx xs s us er) (k : OneZ r sx xs s' us' er') : s = s' ∧ us = us' ∧ er = er' := by
  rcases h with ⟨h0, rfl, rfl, rfl⟩ | ⟨h0, h1⟩ <;> rcases k with ⟨k0, rfl, rfl, rfl⟩ | ⟨k0, k1⟩
  · exact ⟨rfl, rfl, rfl⟩
  · rw [h0] at k0; cases k0
  · rw [h0] at k0; cases k0
  · exact h1.inj k1
theorem TwoZ.inj {r : Int → Int → Int} {sx sy : Bool} {xs ys : List Nat} {s s' : Bool} {us us' : List Nat} {er er' : Int} (h : TwoZ r sx xs sy ys s us er) (k : TwoZ r sx xs sy ys s' us' er') : s = s' ∧ us = us' ∧ er = er' := by
  rcases h with ⟨h0, rfl, rfl, rfl⟩ | ⟨h0, h1⟩ <;> rcases k with ⟨k0, rfl, rfl, rfl⟩ | ⟨k0, k1⟩
  · exact ⟨rfl, rfl, rfl⟩
  · rw [h0] at k0; cases k0
  · rw [h0] at k0; cases k0
  · exact h1.inj k1
def OffR (g m g2 : Nat) : Prop := m = 0 ∨ g ≠ g2
theorem ZR.setOff {w : World} {s : Bool} {g m : Nat} {z : Int} (h : ZR w s (some ⟨g, 0, none⟩) m z) {g2 : Nat} (hf : OffR g m g2) (o2 : Nat) (v : Value) : ZR (w.setCell ⟨g2, o2, none⟩ v) s (some ⟨g, 0, none⟩) m z := by
  rcases hf with h0 | h0
  · subst h0
    obtain ⟨zs, hA, hN⟩ := h.ex;obtain rfl : zs = [] := List.eq_nil_of_length_eq_zero hA.len
    exact ⟨⟨[], At32.empty _ _ _ (by decide), hN⟩, h.sg⟩
  · exact h.set g2 o2 v h0
structure WinRel32 (w : World) (g off n : Nat) (W D d b : Nat) (ws : List Nat) (wr : World) : Prop where
 wrs : Wr g off (n + 1) w wr
 row : Row32 wr g off (n + 1) ws
 db : d < B32
 bb : b ≤ 1
 ge : W / D ≤ d
 sum : valB B32 ws + D * d = W + B32 ^ (n + 1) * b
theorem WinRel32.done {w : World} {g off n W D d : Nat} {ws : List Nat} {wr : World} (h : WinRel32 w g off n W D d 0 ws wr) (hD : 0 < D) : d = W / D ∧ valB B32 ws = W % D := by
  have h1 := h.sum; have h2 := h.ge;rw [Nat.mul_zero, Nat.add_zero] at h1
  have h3 : d ≤ W / D := (Nat.le_div_iff_mul_le hD).2 (by rw [Nat.mul_comm]; omega)
  have h4 : d = W / D := by omega
  refine ⟨h4, ?_⟩
  have h5 := Nat.div_add_mod W D;rw [← h4] at h5
  omega
theorem WinRel32.more {w : World} {g off n W D d : Nat} {ws : List Nat} {wr wr' : World} (h : WinRel32 w g off n W D d 1 ws wr) {cy : Nat} {ws' : List Nat} (hcy : cy ≤ 1) (hwr : Wr g off (n + 1) wr wr') (hrow : Row32 wr' g off (n + 1) ws') (hs : valB B32 ws' + B32 ^ (n + 1) * cy = valB B32 ws + D) :
  1 ≤ d ∧ WinRel32 w g off n W D (d - 1) (1 - cy) ws' wr' := by
 have h1 := h.sum; have h2 := h.ge; have h3 := h.db;have hl := valB_lt B32_pos h.row.dig;rw [h.row.len] at hl;rw [Nat.mul_one] at h1
 have hgt : W < D * d := by omega
 have hd : 1 ≤ d := by
  rcases Nat.eq_zero_or_pos d with e | e
  ·subst e; simp at hgt
  ·exact e
 have hlt : W / D < d := Nat.div_lt_of_lt_mul hgt
 have e4 : D * d = D * (d - 1) + D := by rw [← Nat.mul_succ, show (d - 1).succ = d by omega]
 refine ⟨hd, h.wrs.trans hwr, hrow, by omega, by omega, by omega, ?_⟩
 rcases Nat.eq_zero_or_pos cy with e | e
 ·subst e; rw [Nat.mul_zero, Nat.add_zero] at hs; rw [Nat.sub_zero, Nat.mul_one]; omega
 ·obtain rfl : cy = 1 := by omega
  rw [Nat.mul_one] at hs; rw [Nat.sub_self, Nat.mul_zero]; omega
structure DgS (w : World) (g off n : Nat) (us vs : List Nat) (q k cy ow : Nat) (dk : List Nat) (wr : World) : Prop where
 wrs : Wr g off (n + 1) w wr
 row : Row32 wr g off (n + 1) dk
 hi : dk.drop k = us.drop k
 car : cy < B32
 owb : ow ≤ 1
 fin : k = n + 1 → cy = 0
 sum : valB B32 (dk.take k) + valB B32 (vs.take k) * q = valB B32 (us.take k) + B32 ^ k * (ow + cy)
theorem dgs_abs {P B S V U q d y u o c o' c' : Nat} (h : S + V * q = U + P * (o + c)) (hs : o + c + d + y * q = u + B * (o' + c')) : S + P * d + (V + P * y) * q = U + P * u + P * B * (o' + c') := by
  have e1 : P * (o + c + d + y * q) = P * (u + B * (o' + c')) := by rw [hs]
  rw [Nat.mul_add P (o + c + d) (y * q), Nat.mul_add P (o + c) d, Nat.mul_add P u] at e1;have e2 : P * (y * q) = P * y * q := (Nat.mul_assoc _ _ _).symm;have e3 : P * (B * (o' + c')) = P * B * (o' + c') := (Nat.mul_assoc _ _ _).symm;rw [e2, e3] at e1;rw [Nat.add_mul];generalize P * y * q = X1 at *;generalize P * B * (o' + c') = X2 at *;generalize P * (o + c) = X3 at *;generalize P * d = X4 at *;generalize P * u = X5 at *
  omega
theorem DgS.step {w : World} {g off n : Nat} {us vs : List Nat} {q k cy ow : Nat} {dk : List Nat} {wr : World} (h : DgS w g off n us vs q k cy ow dk wr) (hk : k < n + 1) (hvl : vs.length = n)
  {y u c1 lo cy' ow' d : Nat} (hy : y = vs.getD k 0) (hu : u = dk.getD k 0) (hc1 : c1 = cy + y * q) (hlo : c1 = lo + B32 * cy') (hcy' : cy' < B32) (how' : ow' ≤ 1) (hd : d + lo + ow = u + B32 * ow') (hdb : d < B32) :
  DgS w g off n us vs q (k + 1) cy' ow' (dk.set k d) (wr.setCell ⟨g, off + k, none⟩ (V d)) := by
 have hlen := h.row.len
 refine ⟨h.wrs.setCell (off + k) ⟨by omega, by omega⟩ _, h.row.set k d hk hdb, ?_, hcy', how', ?_, ?_⟩
 ·rw [drop_set_lt]; exact drop_succ_of_drop h.hi
 ·intro hkn
  have h0 : y = 0 := by
   rw [hy, List.getD_eq_getElem?_getD, List.getElem?_eq_none (by omega)]; rfl
  rw [h0, Nat.zero_mul] at hc1;have := h.car
  rcases Nat.eq_zero_or_pos cy' with e | e
  ·exact e
  ·have : B32 * 1 ≤ B32 * cy' := Nat.mul_le_mul_left _ e
   omega
 ·have huu : u = us.getD k 0 := hu.trans (getD_of_drop h.hi)
  rw [take_set_succ dk k d (by omega), valB_snoc, List.length_take, hlen, Nat.min_eq_left (by omega), valB_take_any _ us k, valB_take_any _ vs k, ← huu, ← hy, Nat.pow_succ]
  refine dgs_abs h.sum ?_
  rw [Nat.mul_add]
  omega
structure DgA (w : World) (g off n : Nat) (ws vs : List Nat) (k cy : Nat) (dk : List Nat) (wr : World) : Prop where
 wrs : Wr g off (n + 1) w wr
 row : Row32 wr g off (n + 1) dk
 hi : dk.drop k = ws.drop k
 car : cy ≤ 1
 sum : valB B32 (dk.take k) + B32 ^ k * cy = valB B32 (ws.take k) + valB B32 (vs.take k)
theorem DgA.step {w : World} {g off n : Nat} {ws vs : List Nat} {k cy : Nat} {dk : List Nat} {wr : World} (h : DgA w g off n ws vs k cy dk wr) (hk : k < n + 1)
  {y u lo cy' : Nat} (hy : y = vs.getD k 0) (hu : u = dk.getD k 0) (hs : cy + u + y = lo + B32 * cy') (hlo : lo < B32) (hcy' : cy' ≤ 1) :
  DgA w g off n ws vs (k + 1) cy' (dk.set k lo) (wr.setCell ⟨g, off + k, none⟩ (V lo)) := by
 have hlen := h.row.len
 refine ⟨h.wrs.setCell (off + k) ⟨by omega, by omega⟩ _, h.row.set k lo hk hlo, ?_, hcy', ?_⟩
 ·rw [drop_set_lt]; exact drop_succ_of_drop h.hi
 ·have huu : u = ws.getD k 0 := hu.trans (getD_of_drop h.hi)
  rw [take_set_succ dk k lo (by omega), valB_snoc, List.length_take, hlen, Nat.min_eq_left (by omega), valB_take_any _ ws k, valB_take_any _ vs k, ← huu, ← hy, Nat.pow_succ]
  have e1 := h.sum
  have e2 : B32 ^ k * (cy + u + y) = B32 ^ k * (lo + B32 * cy') := by rw [hs]
  rw [Nat.mul_add, Nat.mul_add, Nat.mul_add, ← Nat.mul_assoc] at e2
  omega
theorem Blk32.own {w : World} {g base : Nat} {xs : List Nat} (h : Blk32 w g xs) (hb : base ≤ g) (hm : xs.length ≤ maxLen) : w.ownsRow base 92 1 (.slice (some ⟨g, 0, none⟩) xs.length xs.length) xs.length (cellsV xs) :=
 ⟨by simp [cellsV], .inr ⟨g, xs.length, (cellsV xs).toArray, rfl, hb, h, Nat.le_refl _, hm, by simp [cellsV], by rw [Nat.mul_one]; exact List.take_of_length_le (by simp [cellsV])⟩⟩
structure RSmR (w : World) (g N : Nat) (xs : List Nat) (v c i cy : Nat) (ss : List Nat) (wr : World) : Prop where
 bel : Below g w wr
 own : wr.ownsRow g 92 1 (.slice (some ⟨g, 0, none⟩) i N) i (cellsV ss)
 len : ss.length = i
 dig : Dig B32 ss
 car : cy < B32
 sum : valB B32 ss + B32 ^ i * cy = valB B32 (xs.take i) * v + c
theorem rsm_step {xs ss : List Nat} {i cy x v c lo hh : Nat} (h : valB B32 ss + B32 ^ i * cy = valB B32 (xs.take i) * v + c) (hl : ss.length = i) (ex : x = xs.getD i 0) (hs : cy + x * v = lo + B32 * hh) :
  valB B32 (ss ++ [lo]) + B32 ^ (i + 1) * hh = valB B32 (xs.take (i + 1)) * v + c := by
 rw [valB_snoc, hl, valB_take_any _ xs i, ← ex, Nat.pow_succ, Nat.add_mul]
 have e1 : B32 ^ i * (cy + x * v) = B32 ^ i * (lo + B32 * hh) := by rw [hs]
 rw [Nat.mul_add, Nat.mul_add, ← Nat.mul_assoc, ← Nat.mul_assoc] at e1
 omega
theorem own_at32 {wr : World} {g i N : Nat} {ss : List Nat} (ho : wr.ownsRow g 92 1 (.slice (some ⟨g, 0, none⟩) i N) i (cellsV ss)) (hl : ss.length = i) (hd : Dig B32 ss) : At32 wr (some ⟨g, 0, none⟩) i N ss := by
  rcases ho.2 with ⟨h', _⟩ | ⟨g', cap', cur, h', hbase, hgc, hcap', hmx, hsz, htake⟩
  · simp at h'
  · simp only [Value.slice.injEq, Option.some.injEq, Addr.mk.injEq, and_true, true_and] at h'
    obtain ⟨rfl, rfl⟩ := h'
    refine ⟨hl, hcap', hmx, hd, .inr ⟨g, 0, rfl, fun jj hj => ?_⟩⟩
    rw [Nat.zero_add, cell_of_row wr g jj _ _ _ hgc]
    have e1 := cellsV_get ss jj (by rw [hl]; exact hj)
    rw [← htake, Nat.mul_one, List.getElem?_take, if_pos hj] at e1;rw [← Array.getElem?_toList]; exact e1

theorem rsmall_any {p : Option Addr} {n c : Nat} {xs : List Nat} {a v u : Nat} {w : World} (h : At32 w p n c xs) (hx : Nf B32 xs a) (hn : n ≤ 4398046511104) (hv : v < B32) (hu : u < B32) :
  Calls Tryz.prog 114 #[.slice p n c, V v, V u] w fun e w' => ∃ g zs, e = .returned (.slice (some ⟨g, 0, none⟩) zs.length zs.length) ∧ Blk32 w' g zs ∧ Nf B32 zs (a * v + u) ∧ zs.length ≤ n + 1 ∧ Below w.heap.size w w' := by
 obtain ⟨i0, hi, hz0, hz1, hz2⟩ := info_parts Tryz.infoU32;have HX := hdQ hx;have HLX : Hid (xs.length = n) := h.len;have hcap := h.cap; have hbig := h.big;unfold maxLen at hbig
 have huw : IntKind.u64.wrap (u : Int) = (u : Int) := wrap_mod _ _ (by rw [B32_eq] at hu; omega)
 clear hx
 go_enter Tryz.func114, Tryz.ntmps114
 go_wp2_with (at_make; refine wpList_make_own _ rfl _ _ 65 rfl w.heap.size 92 i0 (.int .u32 0) 1 Tryz.underlying65 hi hz0 hz1 _ _ _ (n + 1) rfl rfl (by omega) (by rw [hz2]; omega) (by unfold maxLen; omega) (Nat.le_refl _) ?_; intro w1 hown hgrow)
 have hb1 : Below w.heap.size w w1 := (Below.refl _ _).grown hgrow (Nat.le_refl _) (fun k hk => by simp at hk)
 have HO : Hid (RSmR w w.heap.size (n + 1) xs v u 0 u [] w1) := ⟨hb1, hown, rfl, Dig.nil _, hu, by simp [valB]⟩
 clear hown hgrow hb1;obtain ⟨N, hN⟩ := exq (n + 1);rw [← hN] at HO ⊢;have HN : Hid (N = n + 1) := hN;clear hN
 go_loopg [7, 8, 9] n (fun gk sv cv iv wr => ∃ (i cy : Nat) (ss : List Nat), i + gk = n ∧ iv = .int .i64 i ∧ cv = U cy ∧ sv = .slice (some ⟨w.heap.size, 0, none⟩) i N ∧ Hid (RSmR w w.heap.size N xs v u i cy ss wr))
 case atStart => exact ⟨0, u, [], by omega, rfl, rfl, rfl, HO⟩
 case round =>
  obtain ⟨i, cy, ss, hig, rfl, rfl, rfl, HR⟩ := hrel;have hcyb := HR.out.car
  cases gk with
  | zero =>
   obtain rfl : i = n := by omega
   have hni : ¬ i < i := by omega
   have hw32 : IntKind.u32.wrap (cy : Int) = (cy : Int) := wrap32 cy hcyb;have HOA : Hid ((wr.alloc (.cells #[V cy] 92)).ownsRow w.heap.size 92 1 (.slice (some ⟨w.heap.size, 0, none⟩) i N) i (cellsV ss)) := HR.out.own.alloc _
   have hsp : i + 1 ≤ N := by have := HN.out; omega
   go_wp2_with (at_builtin; refine wpList_append_fits _ rfl (.tmp 40) (.tmp 43) 65 rfl w.heap.size 92 i0 1 Tryz.underlying65 hi hz1 w.heap.size i N (cellsV ss) rfl HOA.out ⟨wr.heap.size, 0, none⟩ 1 1 [V cy] rfl rfl (one_cell wr cy) (by intro u hu; simp at hu; subst hu; rfl) hsp ?_; intro w3 hw3 hgr3)
   have hR := HR.out
   have hbx : Below w.heap.size w w3 := (hR.bel.alloc hR.bel.size _).grown hgr3 (by have := hR.bel.size; simp; omega) (fun q hq => by simp at hq; omega)
   have e0 : cellsV (ss ++ [cy]) = cellsV ss ++ [V cy] := by unfold cellsV; rw [List.map_append]; rfl
   rw [← e0] at hw3
   have hl3 : (ss ++ [cy]).length = i + 1 := by simp [hR.len]
   have hd3 : Dig B32 (ss ++ [cy]) := hR.dig.append (Dig.cons hcyb (Dig.nil _));have A32 := own_at32 hw3 hl3 hd3
   have HNF : Hid (Nf B32 (trimL (ss ++ [cy])) (a * v + u)) := by
    have h1 := Nf.trim hd3;have h2 := hR.sum
    rw [List.take_of_length_le (by rw [HLX.out]; omega), HX.out.val] at h2
    rw [valB_snoc, hR.len, h2] at h1; exact h1
   have hle := trimL_length_le (ss ++ [cy])
   have HLE : Hid ((trimL (ss ++ [cy])).length ≤ i + 1) := by show _ ≤ _; omega
   clear hw3 hgr3 e0 hl3 hd3 hle hR
   refine (rnorm_any A32 (by omega)).mono ?_
   rintro e w5 ⟨g5, rfl, hg5, hblk5, hb5⟩;generalize trimL (ss ++ [cy]) = zs at *;go_wp2_with fail
   go_ret
   exact ⟨g5, zs, rfl, hblk5, HNF.out, HLE.out, Below.on hbx hb5⟩
  | succ gg =>
   obtain ⟨g, off, rfl, hc⟩ := h.cells.resolve_left (by omega)
   obtain ⟨x, hxx⟩ := exq (xs.getD i 0)
   have hin : i < n := by omega
   have hcx0 : w.cell? ⟨g, off + i, none⟩ = some (V x) := by rw [hxx]; exact hc i hin
   have hcx : wr.cell? ⟨g, off + i, none⟩ = some (V x) := (HR.out.bel.cell (p := ⟨g, off + i, none⟩) (World.block_lt_of_cell? w _ hcx0)).trans hcx0
   have hxb : x < B32 := by rw [hxx]; exact HX.out.dig.getD B32_pos i
   have hxw : IntKind.u64.wrap (x : Int) = (x : Int) := wrap_mod _ _ (by rw [B32_eq] at hxb; omega)
   have hvw : IntKind.u64.wrap (v : Int) = (v : Int) := wrap_mod _ _ (by rw [B32_eq] at hv; omega)
   have HXE : Hid (x = xs.getD i 0) := hxx;have hall := rmul_digit hxb hv B32_pos hcyb;obtain ⟨xy, exy⟩ := exq (x * v);rw [← exy] at hall;rw [B64_eq] at hall
   have f1 : IntKind.u64.wrap ((x : Int) * (v : Int)) = (xy : Int) := by
    have e : ((x : Int) * (v : Int)) = ((x * v : Nat) : Int) := by simp
    rw [e, ← exy]; exact wrap_mod _ _ (by omega)
   obtain ⟨s2, es2⟩ := exq (cy + xy)
   have f3 : IntKind.u64.wrap ((cy : Int) + (xy : Int)) = (s2 : Int) := wrap_mod _ _ (by omega)
   have hs2 : s2 < 18446744073709551616 := by omega
   obtain ⟨lo, elo⟩ := exq (s2 % B32);obtain ⟨hh, ehh⟩ := exq (s2 / B32)
   have hlob : lo < B32 := by rw [elo]; exact Nat.mod_lt _ B32_pos
   have hhhb : hh < B32 := by rw [ehh]; exact Nat.div_lt_of_lt_mul (by rw [B32_two, B64_eq]; exact hs2)
   have f4 : bits .and .u64 (s2 : Int) 4294967295 = (lo : Int) := by rw [elo, B32_eq]; exact and32 s2 hs2
   have f5 : (s2 : Int) / 4294967296 = (hh : Int) := by rw [ehh, B32_eq]; exact div32 s2
   have f6 : IntKind.u32.wrap (lo : Int) = (lo : Int) := wrap32 lo hlob
   have HSUM : Hid (cy + x * v = lo + B32 * hh) := by
    have := Nat.mod_add_div s2 B32;rw [← elo, ← ehh] at this
    show _ = _; omega
   have HOA : Hid ((wr.alloc (.cells #[V lo] 92)).ownsRow w.heap.size 92 1 (.slice (some ⟨w.heap.size, 0, none⟩) i N) i (cellsV ss)) := HR.out.own.alloc _
   have hsp : i + 1 ≤ N := by have := HN.out; omega
   clear hall exy es2 elo ehh hxx hcx0 hc
   go_wp2_with (at_builtin; refine wpList_append_fits _ rfl (.tmp 32) (.tmp 36) 65 rfl w.heap.size 92 i0 1 Tryz.underlying65 hi hz1 w.heap.size i N (cellsV ss) rfl HOA.out ⟨wr.heap.size, 0, none⟩ 1 1 [V lo] rfl rfl (one_cell wr lo) (by intro u hu; simp at hu; subst hu; rfl) hsp ?_; intro w3 hw3 hgr3)
   have HR3 : Hid (RSmR w w.heap.size N xs v u (i + 1) hh (ss ++ [lo]) w3) := by
    have hR := HR.out
    refine ⟨(hR.bel.alloc hR.bel.size _).grown hgr3 (by have := hR.bel.size; simp; omega) (fun q hq => by simp at hq; omega), ?_, by simp [hR.len], hR.dig.append (Dig.cons hlob (Dig.nil _)), hhhb, rsm_step hR.sum hR.len HXE.out HSUM.out⟩
    have e0 : cellsV (ss ++ [lo]) = cellsV ss ++ [V lo] := by unfold cellsV; rw [List.map_append]; rfl
    rw [e0]; exact hw3
   clear hw3 hgr3
   go_roundg gg
   case measure => omega
   case rel => exact ⟨i + 1, hh, ss ++ [lo], by omega, by go_num, rfl, rfl, HR3⟩
theorem wpList_make_room {P : Program} (w : World) {ops : Array Oper} {rest : List Oper} {o : Oper} {a : Act} {Q : Exit → Act → World → Prop}
  (hg : o.guard = none) (l c : Operand) (t : TypeId) (hop : o.op = Op.makeSlice t l c)
  (base : Nat) (e : TypeId) (i : TypeInfo) (z : Value) (size : Nat) (h1 : P.underlying t = some (.slice e)) (h2 : P.info? e = some i) (h3 : i.zero = some z) (h4 : i.size = size)
  (kl kc : IntKind) (L C : Int) (n m : Nat) (hl : a.eval l = .int kl L) (hc : a.eval c = .int kc C) (hL : L = (n : Int)) (hC : C = (m : Int)) (hnm : n ≤ m) (b2 : i.bytes * m ≤ 281474976710656) (b3 : m ≤ maxLen) (b4 : base ≤ w.heap.size)
  (hK : ∀ w', w'.ownsRow base e size (.slice (some ⟨w.heap.size, 0, none⟩) n m) n ((madeCells z.cells (m * size)).toList.take (n * size)) → w.grownBy w' none → wpList P ops Q rest (a.put o.dst (.slice (some ⟨w.heap.size, 0, none⟩) n m)) w') :
  wpList P ops Q (o :: rest) a w := by
 refine wpList_plain hg fun K hK' => ?_
 subst h4
 have h63' : (m : Int) ≤ 9223372036854775807 := by
  have h := b3
  simp [maxLen] at h
  omega
 have hb' : (i.bytes : Int) * (m : Int) ≤ 281474976710656 := by
  have h : ((i.bytes * m : Nat) : Int) ≤ 281474976710656 := by omega
  rwa [Int.natCast_mul] at h
 have hr := run_make (P := P) w t e i z h1 h2 h3 kl kc n m (by omega) (by omega) hb' h63'
 simp only [Int.toNat_natCast] at hr
 subst hL;subst hC;unfold Oper.wp
 simp [execOp, hop, hl, hc, hr, Result.andThen]
 refine hK' _ _ (hK _ ⟨?_, .inr ⟨_, m, _, rfl, b4, heap_alloc_new w _, hnm, b3, size_madeCells _ _, rfl⟩⟩ (World.grownBy_alloc w _ none))
 rw [List.length_take, Nat.min_eq_left];rw [Array.length_toList, size_madeCells]
 exact Nat.mul_le_mul_right _ hnm
theorem made_take (D M : Nat) (h : D ≤ M) : (madeCells (Value.cells (.int .u32 0)) (M * 1)).toList.take (D * 1) = cellsV (List.replicate D 0) := by
  rw [madeV, Nat.mul_one];unfold cellsV;rw [List.map_replicate, List.map_replicate, List.take_replicate, Nat.min_eq_left h]
theorem valB_zeros (D : Nat) (zs : List Nat) : valB B32 (List.replicate D 0 ++ zs) = B32 ^ D * valB B32 zs := by
  rw [valB_append, valB_replicate, List.length_replicate, Nat.zero_add]

theorem own_below {w w' : World} {base g n m size : Nat} {e : TypeId} {xs : List Value} (h : w.ownsRow base e size (.slice (some ⟨g, 0, none⟩) n m) n xs) (hb : Below w.heap.size w w') (hg : g < w.heap.size) : w'.ownsRow base e size (.slice (some ⟨g, 0, none⟩) n m) n xs := by
  refine ⟨h.1, ?_⟩
  rcases h.2 with ⟨h', _⟩ | ⟨g', cap', cur, h', hbase, hgc, hr⟩
  · simp at h'
  · have h2 := h'
    simp only [Value.slice.injEq, Option.some.injEq, Addr.mk.injEq, and_true] at h2
    obtain ⟨rfl, _⟩ := h2
    exact .inr ⟨_, cap', cur, h', hbase, (hb.block _ hg).trans hgc, hr⟩
theorem blk_src {w : World} {g : Nat} {xs : List Nat} (h : Blk32 w g xs) : ∀ j u, (cellsV xs)[j]? = some u → w.cell? ((⟨g, 0, none⟩ : Addr).add j) = some u := by
  intro j u hu
  have hj : j < xs.length := by
    have := (List.getElem?_eq_some_iff.1 hu).1
    rwa [cellsV_length] at this
  have hadd : (⟨g, 0, none⟩ : Addr).add j = ⟨g, j, none⟩ := by unfold Addr.add; split <;> simp_all
  rw [hadd, h.cell j hj];rw [cellsV_get xs j hj] at hu
  exact hu

theorem rshl_any {p : Option Addr} {n c : Nat} {xs : List Nat} {a : Nat} {w : World} (h : At32 w p n c xs) (hx : Nf B32 xs a) (hn0 : 0 < n) (hn : n ≤ 16384) (N : Nat) (hN2 : N ≤ 524288) :
  Calls Tryz.prog 97 #[.slice p n c, .int .i64 N] w fun e w' => ∃ p' m' zs, e = .returned (.slice p' m' m') ∧ At32 w' p' m' m' zs ∧ Nf B32 zs (a * 2 ^ N) ∧ m' ≤ 40000 ∧ Below w.heap.size w w' := by
 obtain ⟨i0, hi, hz0, hz1, hz2⟩ := info_parts Tryz.infoU32;have HX := hdQ hx;have HA := hdQ h;have HLX : Hid (xs.length = n) := h.len;have cap := h.cap;have big := h.big;unfold maxLen at big
 have hne : ((n : Int) == 0) = false := by simp; omega
 clear hx h
 by_cases hN0 : N = 0
 ·subst hN0
  go_enter Tryz.func97, Tryz.ntmps97
  go_wp2_with fail
  refine (rnorm_any HA.out (by omega)).mono ?_
  rw [trimL_of_Top HX.out.top];rintro e w1 ⟨g, rfl, hg, hb, hbl⟩;have HB := hdQ hb;rw [HLX.out];clear hb;go_wp2_with fail
  go_ret
  exact ⟨_, n, xs, rfl, HB.out.at_ HX.out.dig HLX.out (by unfold maxLen; omega), by rw [Nat.pow_zero, Nat.mul_one]; exact HX.out, by omega, hbl⟩
 ·obtain ⟨D, hD⟩ := exq (N / 32)
  obtain ⟨R, hR⟩ := exq (N % 32)
  have d1 : (N : Int).tdiv 32 = (D : Int) := by rw [Int.tdiv_eq_ediv_of_nonneg (by omega)]; omega
  have d2 : (N : Int).tmod 32 = (R : Int) := by rw [Int.tmod_eq_emod_of_nonneg (by omega)]; omega
  have hNp : ¬ (N : Int) ≤ 0 := by omega
  have hR32 : R < 32 := by omega
  have hDb : D ≤ 16384 := by omega
  have HD : Hid (2 ^ N = B32 ^ D * 2 ^ R) := by show _ = _; rw [show B32 = 2 ^ 32 from rfl, ← Nat.pow_mul, ← Nat.pow_add]; congr 1; omega
  obtain ⟨M, hM⟩ := exq (D + n + 1)
  have hMI : (D : Int) + (n : Int) + 1 = (M : Int) := by omega
  have HM := hdQ hM
  have hMb : M ≤ 33000 := by omega
  have hDM : D ≤ M := by omega
  obtain ⟨d, hd⟩ := exq (2 ^ R)
  have hd1 : 1 ≤ d := by rw [hd]; exact Nat.pow_pos (by decide)
  have hdB : d < B32 := by rw [hd, show B32 = 2 ^ 32 from rfl]; exact Nat.pow_lt_pow_right (by decide) hR32
  have hdw : IntKind.u32.wrap (d : Int) = (d : Int) := wrap32 d hdB
  have hdI : (2 : Int) ^ R = (d : Int) := by rw [hd]; norm_cast
  have HDD : Hid (d = 2 ^ R ∧ 1 ≤ d ∧ d < B32) := ⟨hd, hd1, hdB⟩;clear hD hR hM hd hd1 hdB
  go_enter Tryz.func97, Tryz.ntmps97
  go_wp2_with (at_make; refine wpList_make_room _ rfl _ _ 65 rfl w.heap.size 92 i0 (.int .u32 0) 1 Tryz.underlying65 hi hz0 hz1 _ _ _ _ D M rfl rfl (by omega) (by omega) hDM (by rw [hz2]; omega) (by unfold maxLen; omega) (Nat.le_refl _) ?_; intro w1 hown hgrow)
  have hb1 : Below w.heap.size w w1 := (Below.refl _ _).grown hgrow (Nat.le_refl _) (fun k hk => by simp at hk)
  rw [made_take D M hDM] at hown;have HO : Hid (w1.ownsRow w.heap.size 92 1 (.slice (some ⟨w.heap.size, 0, none⟩) D M) D (cellsV (List.replicate D 0))) := hown;have HA1 : Hid (At32 w1 p n c xs) := HA.out.below hb1;have HB1 := hdQ hb1
  have HSZ : Hid (w.heap.size < w1.heap.size) := by
   rcases HO.out.2 with ⟨h', _⟩ | ⟨g', _, _, h', _, hgc, _⟩
   ·simp at h'
   ·simp only [Value.slice.injEq, Option.some.injEq, Addr.mk.injEq, and_true] at h'
    obtain ⟨rfl, _⟩ := h'
    exact (Array.getElem?_eq_some_iff.1 hgc).1
  clear hown hgrow hb1 HA
  rw [show Value.int IntKind.u32 (d : Int) = V d from rfl, show Value.int IntKind.u32 0 = V 0 from rfl]
  refine (rsmall_any HA1.out HX.out (by omega) HDD.out.2.2 (show 0 < B32 by decide)).mono ?_
  rintro e w2 ⟨g2, z2, rfl, hk2, hn2, hl2, hb2⟩;rw [Nat.add_zero] at hn2;have HO2 : Hid (w2.ownsRow w.heap.size 92 1 (.slice (some ⟨w.heap.size, 0, none⟩) D M) D (cellsV (List.replicate D 0))) := own_below HO.out hb2 HSZ.out;have HK2 := hdQ hk2;have HN2 := hdQ hn2;have HB2 : Hid (Below w.heap.size w w2) := Below.on HB1.out hb2;obtain ⟨l2, hle2⟩ := exq z2.length;have HL2 : Hid (z2.length = l2) := hle2.symm;rw [← hle2] at hl2 ⊢
  have hsp : D + l2 ≤ M := by have := HM.out; omega
  clear hk2 hn2 hb2 hle2 HO HA1 HB1
  go_wp2_with (at_builtin; refine wpList_append_fits _ rfl (.tmp 24) (.tmp 29) 65 rfl w.heap.size 92 i0 1 Tryz.underlying65 hi hz1 w.heap.size D M (cellsV (List.replicate D 0)) rfl HO2.out ⟨g2, 0, none⟩ l2 l2 (cellsV z2) rfl (by rw [cellsV_length, HL2.out, Nat.mul_one]) (blk_src HK2.out) (cellsV_one _) hsp ?_; intro w3 hw3 hgr3)
  have hd3 : Dig B32 (List.replicate D 0 ++ z2) := (Dig.replicate B32 D B32_pos).append HN2.out.dig
  have hl3 : (List.replicate D 0 ++ z2).length = D + l2 := by rw [List.length_append, List.length_replicate, HL2.out]
  have A3 : Hid (At32 w3 (some ⟨w.heap.size, 0, none⟩) (D + l2) M (List.replicate D 0 ++ z2)) := own_at32 (by rw [show cellsV (List.replicate D 0 ++ z2) = cellsV (List.replicate D 0) ++ cellsV z2 from by unfold cellsV; rw [List.map_append]]; exact hw3) hl3 hd3
  have HB3 : Hid (Below w.heap.size w w3) := HB2.out.grown hgr3 HB2.out.size (fun q hq => by simp at hq; omega)
  have NF3 : Hid (Nf B32 (trimL (List.replicate D 0 ++ z2)) (a * 2 ^ N)) := by
   have h1 := Nf.trim hd3;rw [valB_zeros, HN2.out.val] at h1
   have e1 : B32 ^ D * (a * d) = a * 2 ^ N := by rw [HD.out, ← HDD.out.1, Nat.mul_left_comm]
   rw [e1] at h1; exact h1
  have hle3 : (trimL (List.replicate D 0 ++ z2)).length ≤ D + l2 := by have h1 := trimL_length_le (List.replicate D 0 ++ z2); omega
  clear hw3 hgr3 hl3 hd3
  refine (rnorm_any A3.out (by omega)).mono ?_
  rintro e w4 ⟨g4, rfl, hg4, hb4, hbl4⟩
  have A4 : Hid (At32 w4 (some ⟨g4, 0, none⟩) (trimL (List.replicate D 0 ++ z2)).length (trimL (List.replicate D 0 ++ z2)).length (trimL (List.replicate D 0 ++ z2))) := hb4.at_ NF3.out.dig rfl (by unfold maxLen; omega)
  have hbw4 := Below.on HB3.out hbl4;generalize trimL (List.replicate D 0 ++ z2) = z4 at *;clear hb4 hbl4 hg4;go_wp2_with fail
  go_ret
  exact ⟨_, _, z4, rfl, A4.out, NF3.out, by omega, hbw4⟩
structure Op5 where
 k : Int
 pa : Option Addr
 na : Nat
 ca : Nat
 xa : List Nat
 pb : Option Addr
 nb : Nat
 cb : Nat
 xb : List Nat
 nn : Int
 wd : Nat
structure Scr (w : World) (P : Option Addr) (N C : Nat) (its : List Op5) : Prop where
 len : its.length = N
 cap : N ≤ C
 big : C ≤ maxLen
 ats : ∀ t ∈ its, At w t.pa t.na t.ca t.xa ∧ At w t.pb t.nb t.cb t.xb ∧ t.na ≤ 17592186044416 ∧ t.nb ≤ 17592186044416 ∧ t.wd < B64 ∧ -9223372036854775808 ≤ t.nn ∧ t.nn ≤ 9223372036854775807
 cells : N = 0 ∨ ∃ g off, P = some ⟨g, off, none⟩ ∧ ∀ i (h : i < its.length), w.cell? ⟨g, off + i * 5, none⟩ = some (.int .i64 its[i].k) ∧ w.cell? ⟨g, off + i * 5 + 1, none⟩ = some (.slice its[i].pa its[i].na its[i].ca) ∧
  w.cell? ⟨g, off + i * 5 + 2, none⟩ = some (.slice its[i].pb its[i].nb its[i].cb) ∧ w.cell? ⟨g, off + i * 5 + 3, none⟩ = some (.int .i64 its[i].nn) ∧ w.cell? ⟨g, off + i * 5 + 4, none⟩ = some (U its[i].wd)
theorem Scr.below {w w' : World} {P : Option Addr} {N C : Nat} {its : List Op5} (h : Scr w P N C its) (hb : Below w.heap.size w w') : Scr w' P N C its := by
  refine ⟨h.len, h.cap, h.big, fun t ht => ?_, ?_⟩
  · obtain ⟨h1, h2, h3⟩ := h.ats t ht
    exact ⟨h1.below hb, h2.below hb, h3⟩
  · rcases h.cells with h0 | ⟨g, off, hP, hc⟩
    · exact .inl h0
    · refine .inr ⟨g, off, hP, fun i hi => ?_⟩
      obtain ⟨h0, h1, h2, h3, h4⟩ := hc i hi;have hl : g < w.heap.size := World.block_lt_of_cell? w _ h0
      exact ⟨(hb.cell (p := ⟨g, off + i * 5, none⟩) hl).trans h0, (hb.cell (p := ⟨g, off + i * 5 + 1, none⟩) hl).trans h1, (hb.cell (p := ⟨g, off + i * 5 + 2, none⟩) hl).trans h2,
        (hb.cell (p := ⟨g, off + i * 5 + 3, none⟩) hl).trans h3, (hb.cell (p := ⟨g, off + i * 5 + 4, none⟩) hl).trans h4⟩
theorem Scr.b {w w' : World} {P : Option Addr} {N C : Nat} {its : List Op5} (h : Hid (Scr w P N C its)) (hb : Below w.heap.size w w') : Hid (Scr w' P N C its) := Scr.below h hb
def ShIs (r : Nat → Nat → Nat) (xs : List Nat) (t : Int) (us : List Nat) (f : Int) : Prop :=
 (t < 0 ∧ us = [] ∧ f = 1) ∨ (0 ≤ t ∧ formB xs = false ∧ us = [] ∧ f = 2) ∨ (0 ≤ t ∧ formB xs = true ∧ DocIs (r (valB B64 xs) t.toNat) us f)
theorem ShIs.inj {r : Nat → Nat → Nat} {xs : List Nat} {t : Int} {us us' : List Nat} {f f' : Int} (h : ShIs r xs t us f) (k : ShIs r xs t us' f') : us = us' ∧ f = f' := by
  rcases h with ⟨h1, rfl, rfl⟩ | ⟨h1, h2, rfl, rfl⟩ | ⟨h1, h2, h3⟩ <;> rcases k with ⟨k1, rfl, rfl⟩ | ⟨k1, k2, rfl, rfl⟩ | ⟨k1, k2, k3⟩
  · exact ⟨rfl, rfl⟩
  · omega
  · omega
  · omega
  · exact ⟨rfl, rfl⟩
  · rw [k2] at h2; simp at h2
  · omega
  · rw [k2] at h2; simp at h2
  · exact h3.inj k3
theorem ShIs.er {r : Nat → Nat → Nat} {xs us : List Nat} {t f : Int} (h : ShIs r xs t us f) : f = 0 ∨ f = 1 ∨ f = 2 ∨ f = 3 ∨ f = 4 ∨ f = 5 := by
  rcases h with ⟨_, _, rfl⟩ | ⟨_, _, _, rfl⟩ | ⟨_, _, ⟨_, _, rfl⟩ | ⟨_, _, rfl⟩⟩ <;> simp
structure DigRel32 (w : World) (gq gr L n : Nat) (A D : Nat) (k : Nat) (qs rs : List Nat) (wr : World) : Prop where
 bel : ∀ B, B ≤ gq → B ≤ gr → Below B w wr
 rowq : Row32 wr gq 0 L qs
 rowr : Row32 wr gr 0 (L + n) rs
 cell : ∀ b o, b ≠ gq → b ≠ gr → wr.cell? ⟨b, o, none⟩ = w.cell? ⟨b, o, none⟩
 lt : valB B32 (rs.drop (L - k)) < D
 sum : valB B32 rs + B32 ^ (L - k) * valB B32 (qs.drop (L - k)) * D = A

theorem Row32.other {w : World} {g off n : Nat} {xs : List Nat} (h : Row32 w g off n xs) (g2 o2 : Nat) (v : Value) (hne : g ≠ g2) : Row32 (w.setCell ⟨g2, o2, none⟩ v) g off n xs := by
  refine ⟨h.len, h.dig, fun j hj => ?_, fun j hj => by rw [World.frozen?_setCell]; exact h.frozen j hj⟩
  exact (World.cell?_setCell_other _ _ _ _ (by intro e; apply hne; have := congrArg Addr.block e; simp at this; omega)).trans (h.cell j hj)
theorem Row32.wr {w w' : World} {g off n g2 o2 l2 : Nat} {xs : List Nat} (h : Row32 w g off n xs) (hwr : Wr g2 o2 l2 w w') (hne : g ≠ g2) : Row32 w' g off n xs :=
 ⟨h.len, h.dig, fun j hj => (hwr.cell g (off + j) (.inl hne)).trans (h.cell j hj), fun j hj => (hwr.frozen _).trans (h.frozen j hj)⟩
theorem At32.cells_of {w w' : World} {g off n c : Nat} {xs : List Nat} (h : At32 w (some ⟨g, off, none⟩) n c xs) (hc : ∀ o, w'.cell? ⟨g, o, none⟩ = w.cell? ⟨g, o, none⟩) : At32 w' (some ⟨g, off, none⟩) n c xs :=
 ⟨h.len, h.cap, h.big, h.dig, by
  rcases h.cells with h0 | ⟨g', o', he, hcl⟩
  ·exact .inl h0
  ·refine .inr ⟨g', o', he, fun j hj => ?_⟩
   simp only [Option.some.injEq, Addr.mk.injEq, and_true] at he
   rw [← he.1, ← he.2] at hcl ⊢
   exact (hc (off + j)).trans (hcl j hj)⟩

theorem dig_abs32 {P W q r D T Q A : Nat} (hW : q * D + r = W) (h : T + P * W + P * B32 * Q * D = A) : T + P * r + P * (q + B32 * Q) * D = A := by
  subst hW
  have e1 : P * (q + B32 * Q) * D = P * (q * D) + P * B32 * Q * D := by
    rw [Nat.mul_add, Nat.add_mul, Nat.mul_assoc P q D, ← Nat.mul_assoc P B32 Q]
  rw [e1];rw [Nat.mul_add] at h
  omega
theorem DigRel32.window {w : World} {gq gr L n A D k : Nat} {qs rs : List Nat} {wr : World} (h : DigRel32 w gq gr L n A D k qs rs wr) (hk : k < L) (hDn : D < B32 ^ n) :
  ∃ a ws, a = L - 1 - k ∧ ws = (rs.drop a).take (n + 1) ∧ Row32 wr gr a (n + 1) ws ∧ valB B32 ws < B32 * D ∧ valB B32 rs = valB B32 (rs.take a) + B32 ^ a * valB B32 ws ∧ valB B32 (rs.drop (a + (n + 1))) = 0 := by
 have hl := h.rowr.len;obtain ⟨a, ha⟩ := exq (L - 1 - k);have hlt := h.lt
 rw [show L - k = a + 1 by omega] at hlt
 have hz : valB B32 (rs.drop (a + (n + 1))) = 0 := by
  have hs := valB_split B32 (rs.drop (a + 1)) n (by rw [List.length_drop]; omega)
  rw [List.drop_drop, show a + 1 + n = a + (n + 1) by omega] at hs
  rcases Nat.eq_zero_or_pos (valB B32 (rs.drop (a + (n + 1)))) with e | e
  ·exact e
  ·exfalso
   have : B32 ^ n * 1 ≤ B32 ^ n * valB B32 (rs.drop (a + (n + 1))) := Nat.mul_le_mul_left _ e
   omega
 have hw := win_take32 rs a (n + 1) (by omega)
 rw [hz, Nat.mul_zero, Nat.add_zero] at hw
 refine ⟨a, _, ha, rfl, h.rowr.win a (n + 1) (by omega), ?_, hw, hz⟩
 have hs := valB_split B32 (rs.drop a) (n + 1) (by rw [List.length_drop]; omega)
 rw [List.drop_drop, hz, Nat.mul_zero, Nat.add_zero] at hs
 rw [← hs, valB_drop B32 rs a (by omega)]
 have hb := h.rowr.dig.getD B32_pos a;have : B32 * (valB B32 (rs.drop (a + 1)) + 1) ≤ B32 * D := Nat.mul_le_mul_left _ hlt;rw [Nat.mul_add] at this
 omega
theorem DigRel32.step {w : World} {gq gr L n A D k : Nat} {qs rs : List Nat} {wr wr' : World} (h : DigRel32 w gq gr L n A D k qs rs wr) (hk : k < L) (hne : gq ≠ gr) {a q : Nat} {ws ws' : List Nat} (ha : a = L - 1 - k)
  (hrs : valB B32 rs = valB B32 (rs.take a) + B32 ^ a * valB B32 ws) (hz : valB B32 (rs.drop (a + (n + 1))) = 0) (hD : 0 < D) (hq : q = valB B32 ws / D) (hqb : q < B32) (hr : valB B32 ws' = valB B32 ws % D)
  (hwr : Wr gr a (n + 1) wr wr') (hrow : Row32 wr' gr a (n + 1) ws') : DigRel32 w gq gr L n A D (k + 1) (qs.set a q) (winPut rs ws' a) (wr'.setCell ⟨gq, a, none⟩ (V q)) := by
 have hl := h.rowr.len; have hql := h.rowq.len; have hwl := hrow.len
 have hle : a + ws'.length ≤ rs.length := by omega
 have e1 : L - (k + 1) = a := by omega
 have e2 : L - k = a + 1 := by omega
 have hdrop : valB B32 ((winPut rs ws' a).drop a) = valB B32 ws % D := by
  rw [winPut_drop rs ws' a hle, valB_append, hwl, hz, Nat.mul_zero, Nat.add_zero, hr]
 refine ⟨fun B h1 h2 => ?_, ?_, ?_, fun b o h1 h2 => ?_, ?_, ?_⟩
 ·exact ((h.bel B h1 h2).trans (hwr.below h2)).trans ((Wr.refl gq 0 L wr').setCell a ⟨by omega, by omega⟩ (V q) |>.below h1)
 ·have := (h.rowq.wr hwr hne).set a q (by omega) hqb
  rw [Nat.zero_add] at this; exact this
 ·exact (h.rowr.put hwr hrow (by omega)).other gq a _ (Ne.symm hne)
 ·rw [World.cell?_setCell_other _ _ _ _ (by intro e; apply h1; have := congrArg Addr.block e; simp at this; omega), hwr.cell b o (.inl h2)]
  exact h.cell b o h1 h2
 ·rw [e1, hdrop]; exact Nat.mod_lt _ hD
 ·have hs := h.sum
  rw [e2, hrs, Nat.pow_succ] at hs
  rw [e1, valB_split B32 (winPut rs ws' a) a (by rw [winPut_len rs ws' a hle]; omega), winPut_take rs ws' a hle, hdrop, drop_set_at qs a q (by omega), valB_cons]
  refine dig_abs32 (W := valB B32 ws) (q := q) ?_ hs
  rw [hq, Nat.mul_comm]; exact Nat.div_add_mod _ _

theorem Row32.below2 {w w' : World} {g off n B : Nat} {xs : List Nat} (h : Row32 w g off n xs) (hb : Below B w w') (hg : g < B) : Row32 w' g off n xs :=
 ⟨h.len, h.dig, fun j hj => (hb.cell (p := ⟨g, off + j, none⟩) hg).trans (h.cell j hj), fun j hj => (hb.frozen (p := ⟨g, off + j, none⟩) hg).trans (h.frozen j hj)⟩
theorem rof04 (z : Int) (w : World) (h0 : -9223372036854775808 ≤ z) (h1 : z ≤ 9223372036854775807) :
  Calls Tryz.prog 70 #[.int .i64 z] w fun e w' => ∃ s g m, e = .returned (.agg #[.bool s, .slice (some ⟨g, 0, none⟩) m m]) ∧ ZR w' s (some ⟨g, 0, none⟩) m z ∧ m ≤ 3 ∧ Below w.heap.size w w' :=
 (rof_any z w h0 h1).mono fun _ _ ⟨g, m, zs, he, hA, hN, hl, hb⟩ => ⟨_, g, m, he, ⟨⟨zs, hA, hN⟩, rfl⟩, hl, hb⟩
theorem rshl_nil {p : Option Addr} {c : Nat} {w : World} (hc : c ≤ maxLen) (k : Int) :
  Calls Tryz.prog 97 #[.slice p 0 c, .int .i64 k] w fun e w' => ∃ g, e = .returned (.slice (some ⟨g, 0, none⟩) 0 0) ∧ At32 w' (some ⟨g, 0, none⟩) 0 0 [] ∧ Below w.heap.size w w' := by
 have HC : Hid (c ≤ maxLen) := hc;clear hc
 by_cases h0 : k ≤ 0
 ·have h1 : ¬ 0 < k := by omega
  go_enter Tryz.func97, Tryz.ntmps97
  go_wp2_with fail
  refine (rnorm_any (At32.empty w p c HC.out) (by omega)).mono ?_
  rintro e w1 ⟨g, rfl, hg, hblk, hb⟩;go_wp2_with fail
  go_ret
  exact ⟨g, rfl, At32.empty _ _ _ (by decide), hb⟩
 ·have h1 : 0 < k := by omega
  go_enter Tryz.func97, Tryz.ntmps97
  go_wp2_with fail
  refine (rnorm_any (At32.empty w p c HC.out) (by omega)).mono ?_
  rintro e w1 ⟨g, rfl, hg, hblk, hb⟩;go_wp2_with fail
  go_ret
  exact ⟨g, rfl, At32.empty _ _ _ (by decide), hb⟩
theorem rshl_all {p : Option Addr} {n : Nat} {xs : List Nat} {a : Nat} {w : World} (h : At32 w p n n xs) (hx : Nf B32 xs a) (hn : n ≤ 16384) (k : Nat) (hk : k ≤ 524288 ∨ a = 0) :
  Calls Tryz.prog 97 #[.slice p n n, .int .i64 k] w fun e w' => ∃ p' m' zs, e = .returned (.slice p' m' m') ∧ At32 w' p' m' m' zs ∧ Nf B32 zs (a * 2 ^ k) ∧ m' ≤ 40000 ∧ Below w.heap.size w w' := by
 rcases Nat.eq_zero_or_pos n with h0 | h0
 ·subst h0
  have ha : a = 0 := (hx.zero_iff B32_one).1 (List.eq_nil_of_length_eq_zero h.len)
  refine (rshl_nil (by unfold maxLen; omega) (k : Int)).mono ?_
  rintro e w' ⟨g, he, hA, hb⟩
  exact ⟨_, 0, [], he, hA, by rw [ha, Nat.zero_mul]; exact Nf.nil _, by omega, hb⟩
 ·refine rshl_any h hx h0 hn k (hk.resolve_right fun e => ?_)
  have := (hx.zero_iff B32_one).2 e;rw [this] at h;have := h.len
  simp at this
  omega
theorem iv_mul_nat (s : Bool) (a k : Nat) : iv s (a * k) = iv s a * (k : Int) := by cases s <;> simp [iv, Int.neg_mul]
theorem rshl04 {p : Option Addr} {m : Nat} {w : World} {x : Int} (s : Bool) (h : ZR w s p m x) (hm : m ≤ 16384) (k : Nat) (hk : k ≤ 524288 ∨ x = 0) :
  Calls Tryz.prog 72 #[.agg #[.bool s, .slice p m m], .int .i64 k] w fun e w' => ∃ v, e = .returned v ∧ GotR w.heap.size w' v (x * 2 ^ k) (40000) ∧ Below w.heap.size w w' := by
 have HA := hdQ h;have HM : Hid (m ≤ 16384 ∧ (k ≤ 524288 ∨ x = 0)) := ⟨hm, hk⟩
 have HZV : Hid (iv s (x.natAbs * 2 ^ k) = x * 2 ^ k) := by show _ = _; rw [iv_mul_nat, h.iv]; rfl
 obtain ⟨xs, hAx, hNx⟩ := h.ex;have HNX := hdQ hNx;have AX := hdQ hAx;clear h hm hk hAx hNx
 go_enter Tryz.func72, Tryz.ntmps72
 go_wp2_with fail;obtain ⟨W0, hW0⟩ := exq ((w.alloc (.cells #[.bool s, .slice p m m] 100)).alloc (.cells #[.bool false, .slice none 0 0] 100))
 have Xa : Hid (Box W0 (w.heap.size) (.bool s) (.slice p m m)) := by rw [hW0]; constructor <;> go_simp
 have Xr : Hid (Box W0 (w.heap.size + 1) (.bool false) (.slice none 0 0)) := by rw [hW0]; constructor <;> go_simp
 have hb0 := bq2 hW0;rw [← hW0];clear hW0;have hbw := brf w;obtain ⟨gr, hgr⟩ := exq (w.heap.size + 1);have HGr : Hid (w.heap.size ≤ gr) := hgl hgr;rw [← hgr] at Xr
 try rw [← hgr]
 obtain ⟨ga, hga⟩ := exq w.heap.size;have HGa : Hid (w.heap.size ≤ ga) := hgl hga;rw [← hga] at Xa
 try rw [← hga]
 have HGD : Hid (ga ≠ gr ∧ gr ≠ ga) := by rw [hga, hgr]; show _ ∧ _; omega
 clear hga hgr;replace AX := At32.b AX hb0;replace hbw := bon hbw hb0;clear hb0;obtain ⟨W1, hW1⟩ := exq W0.drew
 have hbd : Below W0.heap.size W0 W1 := by rw [hW1]; exact bDrew1 (Below.refl _ _)
 replace Xa := Box.b Xa hbd;replace Xr := Box.b Xr hbd;replace AX := At32.b AX hbd;replace hbw := bon hbw hbd;clear hbd
 have HJ : Hid ((fun W' : World => W'.cell? ⟨ga, 0, none⟩ = some (.bool s) ∧ W'.cell? ⟨ga, 1, none⟩ = some (.slice p m m)) W1) := ⟨Xa.out.c0, Xa.out.c1⟩
 refine wp_region_J (fun W' => W'.cell? ⟨ga, 0, none⟩ = some (.bool s) ∧ W'.cell? ⟨ga, 1, none⟩ = some (.slice p m m)) (by kernel_rfl) ?_
 rw [← hW1];clear hW1
 refine wpJ_tq 0 rfl HJ.out ?_
 refine wpJ_tq 1 rfl HJ.out ?_
 refine wpJ_tq 2 rfl HJ.out ?_
 refine wpJ_tq 3 rfl HJ.out ?_
 refine wpJ_tq 4 rfl HJ.out ?_
 refine wpJ_on 5 rfl fun KJ hK => ?_
 go_simp
 refine (rshl_all AX.out HNX.out HM.out.1 k (by have := HM.out.2; omega)).mono ?_
 rintro e v2 ⟨p2, m2, z2, rfl, hA2, hN2, hl2, hb2⟩;replace Xa := Box.b Xa hb2;replace Xr := Box.b Xr hb2;replace AX := At32.b AX hb2;replace hbw := bon hbw hb2;clear hb2;have A2 := hdQ hA2;have N2 : Hid (Nf B32 z2 (x.natAbs * 2 ^ k) ∧ m2 ≤ 40000) := ⟨hN2, hl2⟩;clear hA2 hN2 hl2
 refine hK _ _ ⟨Xa.out.c0, Xa.out.c1⟩ ?_
 clear hK;have HRB : Hid (gr < v2.heap.size ∧ w.heap.size ≤ v2.heap.size) := ⟨Xr.out.lt, hbw.size⟩
 refine wpJ_on 6 rfl fun KJ hK => ?_
 go_simp
 refine (rmk_any s A2.out N2.out.1 (by have := N2.out.2; omega)).mono ?_
 rintro e v3 ⟨v, rfl, hv, hb3⟩;rw [HZV.out] at hv;obtain ⟨s9, g9, m9, rfl, hg9, hz9, hl9⟩ := hv;have HN9 : Hid (v2.heap.size ≤ g9) := hg9;replace Xa := Box.b Xa hb3;replace Xr := Box.b Xr hb3;replace AX := At32.b AX hb3;replace A2 := At32.b A2 hb3;replace hbw := bon hbw hb3;clear hb3;have Z9 := hdQ hz9;have HL9 : Hid (m9 ≤ 40000) := Nat.le_trans hl9 N2.out.2;clear hg9 hz9 hl9
 refine hK _ _ ⟨Xa.out.c0, Xa.out.c1⟩ ?_
 clear hK;obtain ⟨cr0, cr1, fr0, fr1⟩ := Xr.out;have hner := Xr.out.lt;obtain ⟨ca0, ca1, fa0, fa1⟩ := Xa.out;have hnea := Xa.out.lt;obtain ⟨hgd0, hgd1⟩ := HGD.out
 refine wpJ_on 7 rfl fun KJ hK => ?_
 go_simp
 have HJ2 : Hid ((fun W' : World => W'.cell? ⟨ga, 0, none⟩ = some (.bool s) ∧ W'.cell? ⟨ga, 1, none⟩ = some (.slice p m m)) ((v3.setCell ⟨gr, 0, none⟩ (.bool s9)).setCell ⟨gr, 1, none⟩ (.slice (some ⟨g9, 0, none⟩) m9 m9))) := ⟨by go_simp, by go_simp⟩
 refine hK _ _ HJ2.out ?_
 clear hK HJ;have HJ := HJ2;clear HJ2
 refine wpJ_done (by kernel_rfl) ?_ _
 clear HJ;go_wp2_with fail
 refine bodyPost_ret (v := .agg #[.bool s9, .slice (some ⟨g9, 0, none⟩) m9 m9]) (by rw [results_cell1 rfl]; go_simp) rfl ⟨_, rfl, ⟨s9, g9, m9, rfl, Nat.le_trans HRB.out.2 HN9.out, ?_, HL9.out⟩, ?_⟩
 ·have := HN9.out; have := HRB.out.1
  exact (Z9.out.set _ _ _ (by omega)).set _ _ _ (by omega)
 ·exact bSet (bSet hbw _ _ _ HGr.out) _ _ _ HGr.out
theorem cmp3 (a b : Int) : cmpI a b = -1 ∨ cmpI a b = 0 ∨ cmpI a b = 1 := by
  rcases Int.lt_trichotomy a b with h | h | h
  · exact .inl (cmp_l h)
  · exact .inr (.inl (cmp_e h))
  · exact .inr (.inr (cmp_g h))
theorem rfromD {p : Option Addr} {m c : Nat} {w : World} {z e : Int} {s : Bool} (h : DN w s p m c e z) :
  Calls Tryz.prog 73 #[ZV s p m c] w fun e w' => ∃ s' p' m', e = .returned (.agg #[.bool s', .slice p' m' m']) ∧ ZR w' s' p' m' z ∧ m' ≤ 16384 ∧ Below w.heap.size w w' := by
 obtain ⟨xs, hX⟩ := h.zn.ex
 have hv : iv s (valB B64 xs) = z := by rw [hX.nf.val]; exact h.zn.iv
 have hl := hX.le
 refine (rfrom5 s hX.at_ (by omega)).mono ?_
 rintro e w1 ⟨s1, p1, m1, rfl, h1, h2, h3⟩;rw [hv] at h1
 exact ⟨s1, p1, m1, rfl, h1, by omega, h3⟩
theorem rsg5 {p : Option Addr} {m c : Nat} {w : World} {z e : Int} {s : Bool} (h : DN w s p m c e z) :
  Calls Tryz.prog 68 #[DV s p m c e] w fun en w' => en = .returned (.int .i64 (sgnI z)) ∧ Below w.heap.size w w' := by
 have H := hdQ h;clear h
 go_enter Tryz.func68, Tryz.ntmps68
 go_wp2_with fail;obtain ⟨W0, hW0⟩ := exq (w.alloc (.cells #[.bool s, .slice p m c, .int .i64 e] 26))
 have Xd : Hid (B3q W0 (w.heap.size) (.bool s) (.slice p m c) (.int .i64 e)) := by rw [hW0]; constructor <;> go_simp
 have hb0 := bq1 hW0;rw [← hW0];clear hW0;have hbw := brf w;obtain ⟨gd, hgd⟩ := exq w.heap.size;have HGd : Hid (w.heap.size ≤ gd) := hgl hgd;rw [← hgd] at Xd
 try rw [← hgd]
 clear hgd;replace hbw := bon hbw hb0;clear hb0
 refine (rfromD (H.out.below hbw)).mono ?_
 rintro e2 v1 ⟨s1, p1, m1, rfl, hz1, hl1, hb1⟩;replace Xd := B3q.b Xd hb1;replace hbw := bon hbw hb1;clear hb1;have Z1 := hdQ hz1;have HL1 : Hid (m1 ≤ 16384) := hl1;clear hz1 hl1;go_wp2_with fail
 refine (rsign04 s1 Z1.out).mono ?_
 rintro e v2 ⟨rfl, hb2⟩;replace Xd := B3q.b Xd hb2;replace Z1 := ZR.b Z1 hb2;replace hbw := bon hbw hb2;clear hb2;go_wp2_with fail
 go_ret
 exact ⟨rfl, hbw⟩
theorem topS {p : Option Addr} {m c : Nat} {w : World} {z e : Int} {s : Bool} (h : DN w s p m c e z) :
  Calls Tryz.prog 71 #[DV s p m c e] w fun en w' => en = .returned (.int .i64 (topI z e)) ∧ Below w.heap.size w w' := by
 have H := hdQ h;clear h
 go_enter Tryz.func71, Tryz.ntmps71
 go_wp2_with fail;obtain ⟨W0, hW0⟩ := exq (w.alloc (.cells #[.bool s, .slice p m c, .int .i64 e] 26))
 have Xd : Hid (B3q W0 (w.heap.size) (.bool s) (.slice p m c) (.int .i64 e)) := by rw [hW0]; constructor <;> go_simp
 have hb0 := bq1 hW0;rw [← hW0];clear hW0;have hbw := brf w;obtain ⟨gd, hgd⟩ := exq w.heap.size;have HGd : Hid (w.heap.size ≤ gd) := hgl hgd;rw [← hgd] at Xd
 try rw [← hgd]
 clear hgd;replace hbw := bon hbw hb0;clear hb0;obtain ⟨xs, hX⟩ := (H.out.zn.below hbw).ex;have hbN := (lim_bits z.natAbs).1 H.out.zn.lim;have hee := dn_exp H.out
 have t7 : wrap64 (e + (bitsN z.natAbs : Int)) = e + (bitsN z.natAbs : Int) := by simp only [wrap64]; omega
 have t6 : IntKind.i64.wrap (e + (bitsN z.natAbs : Int)) = e + (bitsN z.natAbs : Int) := by simp [IntKind.wrap, IntKind.signed, IntKind.bits]; omega
 have t8 : wrap64 (e + (bitsN z.natAbs : Int) - 1) = topI z e := by unfold topI; simp only [wrap64]; omega
 have t9 : IntKind.i64.wrap (e + (bitsN z.natAbs : Int) - 1) = topI z e := by unfold topI; simp [IntKind.wrap, IntKind.signed, IntKind.bits]; omega
 have HX : Hid (At W0 p m c xs) := hX.at_;have HV : Hid (valB B64 xs = z.natAbs ∧ m ≤ 8192) := ⟨hX.nf.val, hX.le⟩;clear hX hbN hee;obtain ⟨W1, hW1⟩ := exq W0.drew
 have hbd : Below W0.heap.size W0 W1 := by rw [hW1]; exact bDrew1 (Below.refl _ _)
 replace Xd := B3q.b Xd hbd;replace HX := At.b HX hbd;replace hbw := bon hbw hbd;clear hbd
 have HJ : Hid ((fun W' : World => W'.cell? ⟨gd, 0, none⟩ = some (.bool s) ∧ W'.cell? ⟨gd, 1, none⟩ = some (.slice p m c) ∧ W'.cell? ⟨gd, 2, none⟩ = some (.int .i64 e)) W1) := ⟨Xd.out.c0, Xd.out.c1, Xd.out.c2⟩
 refine wp_region_J (fun W' => W'.cell? ⟨gd, 0, none⟩ = some (.bool s) ∧ W'.cell? ⟨gd, 1, none⟩ = some (.slice p m c) ∧ W'.cell? ⟨gd, 2, none⟩ = some (.int .i64 e)) (by kernel_rfl) ?_
 rw [← hW1];clear hW1
 refine wpJ_tq 0 rfl HJ.out ?_
 refine wpJ_tq 1 rfl HJ.out ?_
 refine wpJ_tq 2 rfl HJ.out ?_
 refine wpJ_tq 3 rfl HJ.out ?_
 refine wpJ_tq 4 rfl HJ.out ?_
 refine wpJ_on 5 rfl fun KJ hK => ?_
 go_simp
 refine (from_any HX.out (by have := HV.out; omega)).mono ?_
 rintro e2 v2 ⟨g2, z2, rfl, hg2, hB2, hN2, hl2, hb2⟩
 have hA2 := hB2.at_ hN2.dig rfl (by have := HV.out; unfold maxLen; omega)
 obtain ⟨m2, hm2⟩ := exq z2.length;rw [← hm2] at hA2 hl2 ⊢;clear hB2 hg2 hm2;replace Xd := B3q.b Xd hb2;replace HX := At.b HX hb2;replace hbw := bon hbw hb2;clear hb2;have A2 := hdQ hA2
 have N2 : Hid (Nf B32 z2 z.natAbs ∧ m2 ≤ 16384) := ⟨by rw [← HV.out.1]; exact hN2, by have := HV.out; omega⟩
 clear hA2 hN2 hl2 HJ
 have HJ : Hid ((fun W' : World => W'.cell? ⟨gd, 0, none⟩ = some (.bool s) ∧ W'.cell? ⟨gd, 1, none⟩ = some (.slice p m c) ∧ W'.cell? ⟨gd, 2, none⟩ = some (.int .i64 e)) v2) := ⟨Xd.out.c0, Xd.out.c1, Xd.out.c2⟩
 refine hK _ _ HJ.out ?_
 clear hK
 refine wpJ_on 6 rfl fun KJ hK => ?_
 go_simp
 refine (rbits_any A2.out N2.out.1 (by have := N2.out; omega)).mono ?_
 rintro e2 v3 ⟨rfl, hw⟩;obtain rfl := hw.symm;clear hw
 refine hK _ _ HJ.out ?_
 clear hK
 refine wpJ_tq 7 rfl HJ.out ?_
 refine wpJ_tq 8 rfl HJ.out ?_
 refine wpJ_tq 9 rfl HJ.out ?_
 refine wpJ_done (by kernel_rfl) ?_ _
 clear HJ;go_wp2_with fail
 go_ret
 exact ⟨rfl, hbw⟩
theorem rdc_s {p q : Option Addr} {m c n d : Nat} {w : World} {e f : Int} {s t : Bool} {x y : Int} (h : DN w s p m c e x) (k : DN w t q n d f y) (hs : sgnI x ≠ sgnI y ∨ sgnI x = 0) :
  Calls Tryz.prog 45 #[DV s p m c e, DV t q n d f] w fun en w' => en = .returned (.tuple #[.int .i64 (cmpI (dv x e) (dv y f)), .int .i64 0]) ∧ Below w.heap.size w w' := by
 have A := hdQ h;have B := hdQ k;clear h k;have HS : Hid (sgnI x ≠ sgnI y ∨ sgnI x = 0) := hs;clear hs;obtain ⟨xs, hX⟩ := A.out.zn.ex;obtain ⟨ys, hY⟩ := B.out.zn.ex;have FX : Hid (At w p m c xs ∧ formD s xs e = true) := ⟨hX.at_, dn_formD A.out hX⟩;have FY : Hid (At w q n d ys ∧ formD t ys f = true) := ⟨hY.at_, dn_formD B.out hY⟩;clear hX hY
 go_enter Tryz.func45, Tryz.ntmps45
 go_wp2_with fail;obtain ⟨W0, hW0⟩ := exq ((w.alloc (.cells #[.bool s, .slice p m c, .int .i64 e] 26)).alloc (.cells #[.bool t, .slice q n d, .int .i64 f] 26))
 have Xa : Hid (B3q W0 (w.heap.size) (.bool s) (.slice p m c) (.int .i64 e)) := by rw [hW0]; constructor <;> go_simp
 have Xb : Hid (B3q W0 (w.heap.size + 1) (.bool t) (.slice q n d) (.int .i64 f)) := by rw [hW0]; constructor <;> go_simp
 have hb0 := bq2 hW0;rw [← hW0];clear hW0;have hbw := brf w;obtain ⟨gb, hgb⟩ := exq (w.heap.size + 1);have HGb : Hid (w.heap.size ≤ gb) := hgl hgb;rw [← hgb] at Xb
 try rw [← hgb]
 obtain ⟨ga, hga⟩ := exq w.heap.size;have HGa : Hid (w.heap.size ≤ ga) := hgl hga;rw [← hga] at Xa
 try rw [← hga]
 have HGD : Hid (ga ≠ gb ∧ gb ≠ ga) := by rw [hga, hgb]; show _ ∧ _; omega
 clear hga hgb;replace hbw := bon hbw hb0;clear hb0
 refine (docformd s (FX.out.1.below hbw)).mono ?_
 rintro e v1 ⟨rfl, hb1⟩;rw [FX.out.2];replace Xa := B3q.b Xa hb1;replace Xb := B3q.b Xb hb1;replace hbw := bon hbw hb1;clear hb1;obtain ⟨cb0, cb1, cb2, fb0, fb1, fb2⟩ := Xb.out;have hneb : gb < v1.heap.size := blt cb0;go_wp2_with fail;clear cb0 cb1 cb2 fb0 fb1 fb2 hneb
 refine (docformd t (FY.out.1.below hbw)).mono ?_
 rintro e v2 ⟨rfl, hb2⟩;rw [FY.out.2];replace Xa := B3q.b Xa hb2;replace Xb := B3q.b Xb hb2;replace hbw := bon hbw hb2;clear hb2;obtain ⟨ca0, ca1, ca2, fa0, fa1, fa2⟩ := Xa.out;have hnea : ga < v2.heap.size := blt ca0;obtain ⟨cb0, cb1, cb2, fb0, fb1, fb2⟩ := Xb.out;have hneb : gb < v2.heap.size := blt cb0;go_wp2_with fail;clear ca0 ca1 ca2 fa0 fa1 fa2 hnea cb0 cb1 cb2 fb0 fb1 fb2 hneb;obtain ⟨W1, hW1⟩ := exq v2.drew
 have hbd : Below v2.heap.size v2 W1 := by rw [hW1]; exact bDrew1 (Below.refl _ _)
 replace Xa := B3q.b Xa hbd;replace Xb := B3q.b Xb hbd;replace hbw := bon hbw hbd;clear hbd
 have HJ : Hid ((fun W' : World => W'.cell? ⟨ga, 0, none⟩ = some (.bool s) ∧ W'.cell? ⟨ga, 1, none⟩ = some (.slice p m c) ∧ W'.cell? ⟨ga, 2, none⟩ = some (.int .i64 e) ∧ W'.cell? ⟨gb, 0, none⟩ = some (.bool t) ∧ W'.cell? ⟨gb, 1, none⟩ = some (.slice q n d) ∧ W'.cell? ⟨gb, 2, none⟩ = some (.int .i64 f)) W1) := ⟨Xa.out.c0, Xa.out.c1, Xa.out.c2, Xb.out.c0, Xb.out.c1, Xb.out.c2⟩
 refine wp_region_J (fun W' => W'.cell? ⟨ga, 0, none⟩ = some (.bool s) ∧ W'.cell? ⟨ga, 1, none⟩ = some (.slice p m c) ∧ W'.cell? ⟨ga, 2, none⟩ = some (.int .i64 e) ∧ W'.cell? ⟨gb, 0, none⟩ = some (.bool t) ∧ W'.cell? ⟨gb, 1, none⟩ = some (.slice q n d) ∧ W'.cell? ⟨gb, 2, none⟩ = some (.int .i64 f)) (by kernel_rfl) ?_
 rw [← hW1];clear hW1
 refine wpJ_tq 0 rfl HJ.out ?_
 refine wpJ_tq 2 rfl HJ.out ?_
 refine wpJ_on 1 rfl fun KJ hK => ?_
 go_simp
 refine (rsg5 (A.out.below hbw)).mono ?_
 rintro e v3 ⟨rfl, hb3⟩;replace Xa := B3q.b Xa hb3;replace Xb := B3q.b Xb hb3;replace hbw := bon hbw hb3;clear hb3
 refine hK _ _ ⟨Xa.out.c0, Xa.out.c1, Xa.out.c2, Xb.out.c0, Xb.out.c1, Xb.out.c2⟩ ?_
 clear hK
 refine wpJ_on 3 rfl fun KJ hK => ?_
 go_simp
 refine (rsg5 (B.out.below hbw)).mono ?_
 rintro e v4 ⟨rfl, hb4⟩;replace Xa := B3q.b Xa hb4;replace Xb := B3q.b Xb hb4;replace hbw := bon hbw hb4;clear hb4 HJ
 have HJ : Hid ((fun W' : World => W'.cell? ⟨ga, 0, none⟩ = some (.bool s) ∧ W'.cell? ⟨ga, 1, none⟩ = some (.slice p m c) ∧ W'.cell? ⟨ga, 2, none⟩ = some (.int .i64 e) ∧ W'.cell? ⟨gb, 0, none⟩ = some (.bool t) ∧ W'.cell? ⟨gb, 1, none⟩ = some (.slice q n d) ∧ W'.cell? ⟨gb, 2, none⟩ = some (.int .i64 f)) v4) := ⟨Xa.out.c0, Xa.out.c1, Xa.out.c2, Xb.out.c0, Xb.out.c1, Xb.out.c2⟩
 refine hK _ _ HJ.out ?_
 clear hK
 refine wpJ_tq 4 rfl HJ.out ?_
 refine wpJ_tq 5 rfl HJ.out ?_
 refine wpJ_done (by kernel_rfl) ?_ _
 clear HJ
 by_cases hq : sgnI x = sgnI y
 ·have hx0 : sgnI x = 0 := HS.out.resolve_left (fun h => h hq)
  have hy0 : sgnI y = 0 := hq.symm.trans hx0
  have HR : Hid (cmpI (dv x e) (dv y f) = cmpI 0 0) := by have h9 := cmp_sgn (e := e) (f := f) (.inr hx0 : sgnI x ≠ sgnI y ∨ sgnI x = 0); rw [hx0, hy0] at h9; exact h9.symm
  rw [hx0, hy0];clear hq hx0 hy0 HS;go_wp2_with fail
  refine (rof04 (0) v4 (by have := hbw; omega) (by have := hbw; omega)).mono ?_
  rintro e2 v5 ⟨s5, g5, m5, rfl, hz5, hl5, hb5⟩;replace Xa := B3q.b Xa hb5;replace Xb := B3q.b Xb hb5;replace hbw := bon hbw hb5;clear hb5;have Z5 := hdQ hz5;have HL5 : Hid (m5 ≤ 3) := hl5;clear hz5 hl5;go_wp2_with fail
  refine (rof04 (0) v5 (by have := hbw; omega) (by have := hbw; omega)).mono ?_
  rintro e2 v6 ⟨s6, g6, m6, rfl, hz6, hl6, hb6⟩;replace Xa := B3q.b Xa hb6;replace Xb := B3q.b Xb hb6;replace Z5 := ZR.b Z5 hb6;replace hbw := bon hbw hb6;clear hb6;have Z6 := hdQ hz6;have HL6 : Hid (m6 ≤ 3) := hl6;clear hz6 hl6;go_wp2_with fail
  refine (rcmp04 s5 s6 Z5.out Z6.out (by have := HL5.out; omega) (by have := HL6.out; omega)).mono ?_
  rintro e v7 ⟨rfl, hb7⟩;replace Xa := B3q.b Xa hb7;replace Xb := B3q.b Xb hb7;replace Z5 := ZR.b Z5 hb7;replace Z6 := ZR.b Z6 hb7;replace hbw := bon hbw hb7;clear hb7;go_wp2_with fail
  go_ret2
  exact ⟨by rw [HR.out]; rfl, hbw⟩
 ·have HR : Hid (cmpI (dv x e) (dv y f) = cmpI (sgnI x) (sgnI y)) := (cmp_sgn (.inl hq)).symm
  have hs1 := sgn3 x;have hs2 := sgn3 y
  have HB : Hid (-1 ≤ sgnI x ∧ sgnI x ≤ 1 ∧ -1 ≤ sgnI y ∧ sgnI y ≤ 1) := by show _ ∧ _; omega
  clear hs1 hs2 HS;go_wp2_with fail
  refine (rof04 (sgnI x) v4 (by have := HB.out; omega) (by have := HB.out; omega)).mono ?_
  rintro e2 v5 ⟨s5, g5, m5, rfl, hz5, hl5, hb5⟩;replace Xa := B3q.b Xa hb5;replace Xb := B3q.b Xb hb5;replace hbw := bon hbw hb5;clear hb5;have Z5 := hdQ hz5;have HL5 : Hid (m5 ≤ 3) := hl5;clear hz5 hl5;go_wp2_with fail
  refine (rof04 (sgnI y) v5 (by have := HB.out; omega) (by have := HB.out; omega)).mono ?_
  rintro e2 v6 ⟨s6, g6, m6, rfl, hz6, hl6, hb6⟩;replace Xa := B3q.b Xa hb6;replace Xb := B3q.b Xb hb6;replace Z5 := ZR.b Z5 hb6;replace hbw := bon hbw hb6;clear hb6;have Z6 := hdQ hz6;have HL6 : Hid (m6 ≤ 3) := hl6;clear hz6 hl6;go_wp2_with fail
  refine (rcmp04 s5 s6 Z5.out Z6.out (by have := HL5.out; omega) (by have := HL6.out; omega)).mono ?_
  rintro e v7 ⟨rfl, hb7⟩;replace Xa := B3q.b Xa hb7;replace Xb := B3q.b Xb hb7;replace Z5 := ZR.b Z5 hb7;replace Z6 := ZR.b Z6 hb7;replace hbw := bon hbw hb7;clear hb7;go_wp2_with fail
  go_ret2
  exact ⟨by rw [HR.out]; rfl, hbw⟩
theorem rdc_t {p q : Option Addr} {m c n d : Nat} {w : World} {e f : Int} {s t : Bool} {x y : Int} (h : DN w s p m c e x) (k : DN w t q n d f y) (hs : sgnI x = sgnI y) (h0 : sgnI x ≠ 0) (ht : topI x e ≠ topI y f) :
  Calls Tryz.prog 45 #[DV s p m c e, DV t q n d f] w fun en w' => en = .returned (.tuple #[.int .i64 (cmpI (dv x e) (dv y f)), .int .i64 0]) ∧ Below w.heap.size w w' := by
 have A := hdQ h;have B := hdQ k;clear h k;have HS : Hid (sgnI x = sgnI y ∧ sgnI x ≠ 0 ∧ topI x e ≠ topI y f) := ⟨hs, h0, ht⟩;clear hs h0 ht;obtain ⟨xs, hX⟩ := A.out.zn.ex;obtain ⟨ys, hY⟩ := B.out.zn.ex;have FX : Hid (At w p m c xs ∧ formD s xs e = true) := ⟨hX.at_, dn_formD A.out hX⟩;have FY : Hid (At w q n d ys ∧ formD t ys f = true) := ⟨hY.at_, dn_formD B.out hY⟩;clear hX hY
 go_enter Tryz.func45, Tryz.ntmps45
 go_wp2_with fail;obtain ⟨W0, hW0⟩ := exq ((w.alloc (.cells #[.bool s, .slice p m c, .int .i64 e] 26)).alloc (.cells #[.bool t, .slice q n d, .int .i64 f] 26))
 have Xa : Hid (B3q W0 (w.heap.size) (.bool s) (.slice p m c) (.int .i64 e)) := by rw [hW0]; constructor <;> go_simp
 have Xb : Hid (B3q W0 (w.heap.size + 1) (.bool t) (.slice q n d) (.int .i64 f)) := by rw [hW0]; constructor <;> go_simp
 have hb0 := bq2 hW0;rw [← hW0];clear hW0;have hbw := brf w;obtain ⟨gb, hgb⟩ := exq (w.heap.size + 1);have HGb : Hid (w.heap.size ≤ gb) := hgl hgb;rw [← hgb] at Xb
 try rw [← hgb]
 obtain ⟨ga, hga⟩ := exq w.heap.size;have HGa : Hid (w.heap.size ≤ ga) := hgl hga;rw [← hga] at Xa
 try rw [← hga]
 have HGD : Hid (ga ≠ gb ∧ gb ≠ ga) := by rw [hga, hgb]; show _ ∧ _; omega
 clear hga hgb;replace hbw := bon hbw hb0;clear hb0
 refine (docformd s (FX.out.1.below hbw)).mono ?_
 rintro e v1 ⟨rfl, hb1⟩;rw [FX.out.2];replace Xa := B3q.b Xa hb1;replace Xb := B3q.b Xb hb1;replace hbw := bon hbw hb1;clear hb1;obtain ⟨cb0, cb1, cb2, fb0, fb1, fb2⟩ := Xb.out;have hneb : gb < v1.heap.size := blt cb0;go_wp2_with fail;clear cb0 cb1 cb2 fb0 fb1 fb2 hneb
 refine (docformd t (FY.out.1.below hbw)).mono ?_
 rintro e v2 ⟨rfl, hb2⟩;rw [FY.out.2];replace Xa := B3q.b Xa hb2;replace Xb := B3q.b Xb hb2;replace hbw := bon hbw hb2;clear hb2;obtain ⟨ca0, ca1, ca2, fa0, fa1, fa2⟩ := Xa.out;have hnea : ga < v2.heap.size := blt ca0;obtain ⟨cb0, cb1, cb2, fb0, fb1, fb2⟩ := Xb.out;have hneb : gb < v2.heap.size := blt cb0;go_wp2_with fail;clear ca0 ca1 ca2 fa0 fa1 fa2 hnea cb0 cb1 cb2 fb0 fb1 fb2 hneb;obtain ⟨W1, hW1⟩ := exq v2.drew
 have hbd : Below v2.heap.size v2 W1 := by rw [hW1]; exact bDrew1 (Below.refl _ _)
 replace Xa := B3q.b Xa hbd;replace Xb := B3q.b Xb hbd;replace hbw := bon hbw hbd;clear hbd
 have HJ : Hid ((fun W' : World => W'.cell? ⟨ga, 0, none⟩ = some (.bool s) ∧ W'.cell? ⟨ga, 1, none⟩ = some (.slice p m c) ∧ W'.cell? ⟨ga, 2, none⟩ = some (.int .i64 e) ∧ W'.cell? ⟨gb, 0, none⟩ = some (.bool t) ∧ W'.cell? ⟨gb, 1, none⟩ = some (.slice q n d) ∧ W'.cell? ⟨gb, 2, none⟩ = some (.int .i64 f)) W1) := ⟨Xa.out.c0, Xa.out.c1, Xa.out.c2, Xb.out.c0, Xb.out.c1, Xb.out.c2⟩
 refine wp_region_J (fun W' => W'.cell? ⟨ga, 0, none⟩ = some (.bool s) ∧ W'.cell? ⟨ga, 1, none⟩ = some (.slice p m c) ∧ W'.cell? ⟨ga, 2, none⟩ = some (.int .i64 e) ∧ W'.cell? ⟨gb, 0, none⟩ = some (.bool t) ∧ W'.cell? ⟨gb, 1, none⟩ = some (.slice q n d) ∧ W'.cell? ⟨gb, 2, none⟩ = some (.int .i64 f)) (by kernel_rfl) ?_
 rw [← hW1];clear hW1
 refine wpJ_tq 0 rfl HJ.out ?_
 refine wpJ_tq 2 rfl HJ.out ?_
 refine wpJ_on 1 rfl fun KJ hK => ?_
 go_simp
 refine (rsg5 (A.out.below hbw)).mono ?_
 rintro e v3 ⟨rfl, hb3⟩;replace Xa := B3q.b Xa hb3;replace Xb := B3q.b Xb hb3;replace hbw := bon hbw hb3;clear hb3
 refine hK _ _ ⟨Xa.out.c0, Xa.out.c1, Xa.out.c2, Xb.out.c0, Xb.out.c1, Xb.out.c2⟩ ?_
 clear hK
 refine wpJ_on 3 rfl fun KJ hK => ?_
 go_simp
 refine (rsg5 (B.out.below hbw)).mono ?_
 rintro e v4 ⟨rfl, hb4⟩;replace Xa := B3q.b Xa hb4;replace Xb := B3q.b Xb hb4;replace hbw := bon hbw hb4;clear hb4 HJ
 have HJ : Hid ((fun W' : World => W'.cell? ⟨ga, 0, none⟩ = some (.bool s) ∧ W'.cell? ⟨ga, 1, none⟩ = some (.slice p m c) ∧ W'.cell? ⟨ga, 2, none⟩ = some (.int .i64 e) ∧ W'.cell? ⟨gb, 0, none⟩ = some (.bool t) ∧ W'.cell? ⟨gb, 1, none⟩ = some (.slice q n d) ∧ W'.cell? ⟨gb, 2, none⟩ = some (.int .i64 f)) v4) := ⟨Xa.out.c0, Xa.out.c1, Xa.out.c2, Xb.out.c0, Xb.out.c1, Xb.out.c2⟩
 refine hK _ _ HJ.out ?_
 clear hK
 refine wpJ_tq 4 rfl HJ.out ?_
 refine wpJ_tq 5 rfl HJ.out ?_
 refine wpJ_done (by kernel_rfl) ?_ _
 clear HJ;obtain ⟨sg, hsg⟩ := exq (sgnI x);have HSG : Hid (sg = sgnI x) := hsg
 have hsy : sgnI y = sg := by rw [hsg]; exact HS.out.1.symm
 have hz : ¬ sg = 0 := by rw [hsg]; exact HS.out.2.1
 rw [hsy, ← hsg];clear hsg hsy;go_wp2_with fail;obtain ⟨W2, hW2⟩ := exq v4.drew
 have hbd : Below v4.heap.size v4 W2 := by rw [hW2]; exact bDrew1 (Below.refl _ _)
 replace Xa := B3q.b Xa hbd;replace Xb := B3q.b Xb hbd;replace hbw := bon hbw hbd;clear hbd
 have HJ : Hid ((fun W' : World => W'.cell? ⟨ga, 0, none⟩ = some (.bool s) ∧ W'.cell? ⟨ga, 1, none⟩ = some (.slice p m c) ∧ W'.cell? ⟨ga, 2, none⟩ = some (.int .i64 e) ∧ W'.cell? ⟨gb, 0, none⟩ = some (.bool t) ∧ W'.cell? ⟨gb, 1, none⟩ = some (.slice q n d) ∧ W'.cell? ⟨gb, 2, none⟩ = some (.int .i64 f)) W2) := ⟨Xa.out.c0, Xa.out.c1, Xa.out.c2, Xb.out.c0, Xb.out.c1, Xb.out.c2⟩
 refine wp_region_J (fun W' => W'.cell? ⟨ga, 0, none⟩ = some (.bool s) ∧ W'.cell? ⟨ga, 1, none⟩ = some (.slice p m c) ∧ W'.cell? ⟨ga, 2, none⟩ = some (.int .i64 e) ∧ W'.cell? ⟨gb, 0, none⟩ = some (.bool t) ∧ W'.cell? ⟨gb, 1, none⟩ = some (.slice q n d) ∧ W'.cell? ⟨gb, 2, none⟩ = some (.int .i64 f)) (by kernel_rfl) ?_
 rw [← hW2];clear hW2
 refine wpJ_tq 0 rfl HJ.out ?_
 refine wpJ_tq 2 rfl HJ.out ?_
 refine wpJ_on 1 rfl fun KJ hK => ?_
 go_simp
 refine (topS (A.out.below hbw)).mono ?_
 rintro e v5 ⟨rfl, hb5⟩;replace Xa := B3q.b Xa hb5;replace Xb := B3q.b Xb hb5;replace hbw := bon hbw hb5;clear hb5
 refine hK _ _ ⟨Xa.out.c0, Xa.out.c1, Xa.out.c2, Xb.out.c0, Xb.out.c1, Xb.out.c2⟩ ?_
 clear hK
 refine wpJ_on 3 rfl fun KJ hK => ?_
 go_simp
 refine (topS (B.out.below hbw)).mono ?_
 rintro e v6 ⟨rfl, hb6⟩;replace Xa := B3q.b Xa hb6;replace Xb := B3q.b Xb hb6;replace hbw := bon hbw hb6;clear hb6 HJ
 have HJ : Hid ((fun W' : World => W'.cell? ⟨ga, 0, none⟩ = some (.bool s) ∧ W'.cell? ⟨ga, 1, none⟩ = some (.slice p m c) ∧ W'.cell? ⟨ga, 2, none⟩ = some (.int .i64 e) ∧ W'.cell? ⟨gb, 0, none⟩ = some (.bool t) ∧ W'.cell? ⟨gb, 1, none⟩ = some (.slice q n d) ∧ W'.cell? ⟨gb, 2, none⟩ = some (.int .i64 f)) v6) := ⟨Xa.out.c0, Xa.out.c1, Xa.out.c2, Xb.out.c0, Xb.out.c1, Xb.out.c2⟩
 refine hK _ _ HJ.out ?_
 clear hK
 refine wpJ_tq 4 rfl HJ.out ?_
 refine wpJ_done (by kernel_rfl) ?_ _
 clear HJ;obtain ⟨ta, hta⟩ := exq (topI x e);obtain ⟨tb, htb⟩ := exq (topI y f);rw [← hta, ← htb];have HT9 : Hid (ta = topI x e ∧ tb = topI y f) := ⟨hta, htb⟩
 have HB : Hid (-2000000 ≤ ta ∧ ta ≤ 2000000 ∧ -2000000 ≤ tb ∧ tb ≤ 2000000) := by have h1 := dn_exp A.out; have h2 := dn_exp B.out; have h3 := (lim_bits x.natAbs).1 A.out.zn.lim; have h4 := (lim_bits y.natAbs).1 B.out.zn.lim; unfold topI at hta htb; show _ ∧ _; omega
 have hne : ¬ ta = tb := by rw [hta, htb]; exact HS.out.2.2
 clear hta htb;go_wp2_with fail;obtain ⟨cm, hcm⟩ := exq (cmpI ta tb);have HCM : Hid (cm = cmpI ta tb) := hcm
 have hc3 : cm = -1 ∨ cm = 0 ∨ cm = 1 := by rw [hcm]; exact cmp3 _ _
 have hs3 : sg = -1 ∨ sg = 1 := by have h1 := sgn3 x; have h2 := HSG.out; omega
 have hmm : -1 ≤ sg * cm ∧ sg * cm ≤ 1 := by rcases hs3 with rfl | rfl <;> omega
 have t6 : wrap64 (sg * cm) = sg * cm := by simp only [wrap64]; omega
 have t7 : IntKind.i64.wrap (sg * cm) = sg * cm := by simp [IntKind.wrap, IntKind.signed, IntKind.bits]; omega
 have HR : Hid (cmpI (dv x e) (dv y f) = sg * cm) := by have h1 := dn_exp A.out; have h2 := dn_exp B.out; rw [HCM.out, HT9.out.1, HT9.out.2, HSG.out]; exact (cmp_top (fun h => HS.out.2.1 (by rw [h]; rfl)) HS.out.1 (by omega) (by omega) HS.out.2.2).symm
 clear hcm hc3 hs3 hmm;obtain ⟨W3, hW3⟩ := exq v6.drew
 have hbd : Below v6.heap.size v6 W3 := by rw [hW3]; exact bDrew1 (Below.refl _ _)
 replace Xa := B3q.b Xa hbd;replace Xb := B3q.b Xb hbd;replace hbw := bon hbw hbd;clear hbd
 have HJ : Hid ((fun W' : World => W'.cell? ⟨ga, 0, none⟩ = some (.bool s) ∧ W'.cell? ⟨ga, 1, none⟩ = some (.slice p m c) ∧ W'.cell? ⟨ga, 2, none⟩ = some (.int .i64 e) ∧ W'.cell? ⟨gb, 0, none⟩ = some (.bool t) ∧ W'.cell? ⟨gb, 1, none⟩ = some (.slice q n d) ∧ W'.cell? ⟨gb, 2, none⟩ = some (.int .i64 f)) W3) := ⟨Xa.out.c0, Xa.out.c1, Xa.out.c2, Xb.out.c0, Xb.out.c1, Xb.out.c2⟩
 refine wp_region_J (fun W' => W'.cell? ⟨ga, 0, none⟩ = some (.bool s) ∧ W'.cell? ⟨ga, 1, none⟩ = some (.slice p m c) ∧ W'.cell? ⟨ga, 2, none⟩ = some (.int .i64 e) ∧ W'.cell? ⟨gb, 0, none⟩ = some (.bool t) ∧ W'.cell? ⟨gb, 1, none⟩ = some (.slice q n d) ∧ W'.cell? ⟨gb, 2, none⟩ = some (.int .i64 f)) (by kernel_rfl) ?_
 rw [← hW3];clear hW3
 refine wpJ_tq 0 rfl HJ.out ?_
 refine wpJ_tq 1 rfl HJ.out ?_
 refine wpJ_tq 4 rfl HJ.out ?_
 refine wpJ_on 2 rfl fun KJ hK => ?_
 go_simp
 refine (topS (A.out.below hbw)).mono ?_
 rintro e v7 ⟨rfl, hb7⟩;rw [← HT9.out.1];replace Xa := B3q.b Xa hb7;replace Xb := B3q.b Xb hb7;replace hbw := bon hbw hb7;clear hb7
 refine hK _ _ ⟨Xa.out.c0, Xa.out.c1, Xa.out.c2, Xb.out.c0, Xb.out.c1, Xb.out.c2⟩ ?_
 clear hK
 refine wpJ_on 3 rfl fun KJ hK => ?_
 go_simp
 refine (rof04 (ta) v7 (by have := HB.out; omega) (by have := HB.out; omega)).mono ?_
 rintro e2 v8 ⟨s8, g8, m8, rfl, hz8, hl8, hb8⟩;replace Xa := B3q.b Xa hb8;replace Xb := B3q.b Xb hb8;replace hbw := bon hbw hb8;clear hb8;have Z8 := hdQ hz8;have HL8 : Hid (m8 ≤ 3) := hl8;clear hz8 hl8
 refine hK _ _ ⟨Xa.out.c0, Xa.out.c1, Xa.out.c2, Xb.out.c0, Xb.out.c1, Xb.out.c2⟩ ?_
 clear hK
 refine wpJ_on 5 rfl fun KJ hK => ?_
 go_simp
 refine (topS (B.out.below hbw)).mono ?_
 rintro e v9 ⟨rfl, hb9⟩;rw [← HT9.out.2];replace Xa := B3q.b Xa hb9;replace Xb := B3q.b Xb hb9;replace Z8 := ZR.b Z8 hb9;replace hbw := bon hbw hb9;clear hb9
 refine hK _ _ ⟨Xa.out.c0, Xa.out.c1, Xa.out.c2, Xb.out.c0, Xb.out.c1, Xb.out.c2⟩ ?_
 clear hK
 refine wpJ_on 6 rfl fun KJ hK => ?_
 go_simp
 refine (rof04 (tb) v9 (by have := HB.out; omega) (by have := HB.out; omega)).mono ?_
 rintro e2 v10 ⟨s10, g10, m10, rfl, hz10, hl10, hb10⟩;replace Xa := B3q.b Xa hb10;replace Xb := B3q.b Xb hb10;replace Z8 := ZR.b Z8 hb10;replace hbw := bon hbw hb10;clear hb10;have Z10 := hdQ hz10;have HL10 : Hid (m10 ≤ 3) := hl10;clear hz10 hl10
 refine hK _ _ ⟨Xa.out.c0, Xa.out.c1, Xa.out.c2, Xb.out.c0, Xb.out.c1, Xb.out.c2⟩ ?_
 clear hK
 refine wpJ_on 7 rfl fun KJ hK => ?_
 go_simp
 refine (rcmp04 s8 s10 Z8.out Z10.out (by have := HL8.out; omega) (by have := HL10.out; omega)).mono ?_
 rintro e v11 ⟨rfl, hb11⟩;rw [← HCM.out];replace Xa := B3q.b Xa hb11;replace Xb := B3q.b Xb hb11;replace Z8 := ZR.b Z8 hb11;replace Z10 := ZR.b Z10 hb11;replace hbw := bon hbw hb11;clear hb11 HJ
 have HJ : Hid ((fun W' : World => W'.cell? ⟨ga, 0, none⟩ = some (.bool s) ∧ W'.cell? ⟨ga, 1, none⟩ = some (.slice p m c) ∧ W'.cell? ⟨ga, 2, none⟩ = some (.int .i64 e) ∧ W'.cell? ⟨gb, 0, none⟩ = some (.bool t) ∧ W'.cell? ⟨gb, 1, none⟩ = some (.slice q n d) ∧ W'.cell? ⟨gb, 2, none⟩ = some (.int .i64 f)) v11) := ⟨Xa.out.c0, Xa.out.c1, Xa.out.c2, Xb.out.c0, Xb.out.c1, Xb.out.c2⟩
 refine hK _ _ HJ.out ?_
 clear hK
 refine wpJ_tq 8 rfl HJ.out ?_
 refine wpJ_tq 9 rfl HJ.out ?_
 refine wpJ_tq 10 rfl HJ.out ?_
 refine wpJ_done (by kernel_rfl) ?_ _
 clear HJ;go_wp2_with fail
 go_ret2
 exact ⟨by rw [HR.out]; rfl, hbw⟩
theorem rdc_e {p q : Option Addr} {m c n d : Nat} {w : World} {e f : Int} {s t : Bool} {x y : Int} (h : DN w s p m c e x) (k : DN w t q n d f y) (hs : sgnI x = sgnI y) (h0 : sgnI x ≠ 0) (ht : topI x e = topI y f) :
  Calls Tryz.prog 45 #[DV s p m c e, DV t q n d f] w fun en w' => en = .returned (.tuple #[.int .i64 (cmpI (dv x e) (dv y f)), .int .i64 0]) ∧ Below w.heap.size w w' := by
 have A := hdQ h;have B := hdQ k;clear h k;have HS : Hid (sgnI x = sgnI y ∧ sgnI x ≠ 0 ∧ topI x e = topI y f) := ⟨hs, h0, ht⟩;clear hs h0 ht;obtain ⟨xs, hX⟩ := A.out.zn.ex;obtain ⟨ys, hY⟩ := B.out.zn.ex;have FX : Hid (At w p m c xs ∧ formD s xs e = true) := ⟨hX.at_, dn_formD A.out hX⟩;have FY : Hid (At w q n d ys ∧ formD t ys f = true) := ⟨hY.at_, dn_formD B.out hY⟩;clear hX hY
 go_enter Tryz.func45, Tryz.ntmps45
 go_wp2_with fail;obtain ⟨W0, hW0⟩ := exq ((w.alloc (.cells #[.bool s, .slice p m c, .int .i64 e] 26)).alloc (.cells #[.bool t, .slice q n d, .int .i64 f] 26))
 have Xa : Hid (B3q W0 (w.heap.size) (.bool s) (.slice p m c) (.int .i64 e)) := by rw [hW0]; constructor <;> go_simp
 have Xb : Hid (B3q W0 (w.heap.size + 1) (.bool t) (.slice q n d) (.int .i64 f)) := by rw [hW0]; constructor <;> go_simp
 have hb0 := bq2 hW0;rw [← hW0];clear hW0;have hbw := brf w;obtain ⟨gb, hgb⟩ := exq (w.heap.size + 1);have HGb : Hid (w.heap.size ≤ gb) := hgl hgb;rw [← hgb] at Xb
 try rw [← hgb]
 obtain ⟨ga, hga⟩ := exq w.heap.size;have HGa : Hid (w.heap.size ≤ ga) := hgl hga;rw [← hga] at Xa
 try rw [← hga]
 have HGD : Hid (ga ≠ gb ∧ gb ≠ ga) := by rw [hga, hgb]; show _ ∧ _; omega
 clear hga hgb;replace hbw := bon hbw hb0;clear hb0
 refine (docformd s (FX.out.1.below hbw)).mono ?_
 rintro e v1 ⟨rfl, hb1⟩;rw [FX.out.2];replace Xa := B3q.b Xa hb1;replace Xb := B3q.b Xb hb1;replace hbw := bon hbw hb1;clear hb1;obtain ⟨cb0, cb1, cb2, fb0, fb1, fb2⟩ := Xb.out;have hneb : gb < v1.heap.size := blt cb0;go_wp2_with fail;clear cb0 cb1 cb2 fb0 fb1 fb2 hneb
 refine (docformd t (FY.out.1.below hbw)).mono ?_
 rintro e v2 ⟨rfl, hb2⟩;rw [FY.out.2];replace Xa := B3q.b Xa hb2;replace Xb := B3q.b Xb hb2;replace hbw := bon hbw hb2;clear hb2;obtain ⟨ca0, ca1, ca2, fa0, fa1, fa2⟩ := Xa.out;have hnea : ga < v2.heap.size := blt ca0;obtain ⟨cb0, cb1, cb2, fb0, fb1, fb2⟩ := Xb.out;have hneb : gb < v2.heap.size := blt cb0;go_wp2_with fail;clear ca0 ca1 ca2 fa0 fa1 fa2 hnea cb0 cb1 cb2 fb0 fb1 fb2 hneb;obtain ⟨W1, hW1⟩ := exq v2.drew
 have hbd : Below v2.heap.size v2 W1 := by rw [hW1]; exact bDrew1 (Below.refl _ _)
 replace Xa := B3q.b Xa hbd;replace Xb := B3q.b Xb hbd;replace hbw := bon hbw hbd;clear hbd
 have HJ : Hid ((fun W' : World => W'.cell? ⟨ga, 0, none⟩ = some (.bool s) ∧ W'.cell? ⟨ga, 1, none⟩ = some (.slice p m c) ∧ W'.cell? ⟨ga, 2, none⟩ = some (.int .i64 e) ∧ W'.cell? ⟨gb, 0, none⟩ = some (.bool t) ∧ W'.cell? ⟨gb, 1, none⟩ = some (.slice q n d) ∧ W'.cell? ⟨gb, 2, none⟩ = some (.int .i64 f)) W1) := ⟨Xa.out.c0, Xa.out.c1, Xa.out.c2, Xb.out.c0, Xb.out.c1, Xb.out.c2⟩
 refine wp_region_J (fun W' => W'.cell? ⟨ga, 0, none⟩ = some (.bool s) ∧ W'.cell? ⟨ga, 1, none⟩ = some (.slice p m c) ∧ W'.cell? ⟨ga, 2, none⟩ = some (.int .i64 e) ∧ W'.cell? ⟨gb, 0, none⟩ = some (.bool t) ∧ W'.cell? ⟨gb, 1, none⟩ = some (.slice q n d) ∧ W'.cell? ⟨gb, 2, none⟩ = some (.int .i64 f)) (by kernel_rfl) ?_
 rw [← hW1];clear hW1
 refine wpJ_tq 0 rfl HJ.out ?_
 refine wpJ_tq 2 rfl HJ.out ?_
 refine wpJ_on 1 rfl fun KJ hK => ?_
 go_simp
 refine (rsg5 (A.out.below hbw)).mono ?_
 rintro e v3 ⟨rfl, hb3⟩;replace Xa := B3q.b Xa hb3;replace Xb := B3q.b Xb hb3;replace hbw := bon hbw hb3;clear hb3
 refine hK _ _ ⟨Xa.out.c0, Xa.out.c1, Xa.out.c2, Xb.out.c0, Xb.out.c1, Xb.out.c2⟩ ?_
 clear hK
 refine wpJ_on 3 rfl fun KJ hK => ?_
 go_simp
 refine (rsg5 (B.out.below hbw)).mono ?_
 rintro e v4 ⟨rfl, hb4⟩;replace Xa := B3q.b Xa hb4;replace Xb := B3q.b Xb hb4;replace hbw := bon hbw hb4;clear hb4 HJ
 have HJ : Hid ((fun W' : World => W'.cell? ⟨ga, 0, none⟩ = some (.bool s) ∧ W'.cell? ⟨ga, 1, none⟩ = some (.slice p m c) ∧ W'.cell? ⟨ga, 2, none⟩ = some (.int .i64 e) ∧ W'.cell? ⟨gb, 0, none⟩ = some (.bool t) ∧ W'.cell? ⟨gb, 1, none⟩ = some (.slice q n d) ∧ W'.cell? ⟨gb, 2, none⟩ = some (.int .i64 f)) v4) := ⟨Xa.out.c0, Xa.out.c1, Xa.out.c2, Xb.out.c0, Xb.out.c1, Xb.out.c2⟩
 refine hK _ _ HJ.out ?_
 clear hK
 refine wpJ_tq 4 rfl HJ.out ?_
 refine wpJ_tq 5 rfl HJ.out ?_
 refine wpJ_done (by kernel_rfl) ?_ _
 clear HJ;obtain ⟨sg, hsg⟩ := exq (sgnI x);have HSG : Hid (sg = sgnI x) := hsg
 have hsy : sgnI y = sg := by rw [hsg]; exact HS.out.1.symm
 have hz : ¬ sg = 0 := by rw [hsg]; exact HS.out.2.1
 rw [hsy, ← hsg];clear hsg hsy;go_wp2_with fail;obtain ⟨W2, hW2⟩ := exq v4.drew
 have hbd : Below v4.heap.size v4 W2 := by rw [hW2]; exact bDrew1 (Below.refl _ _)
 replace Xa := B3q.b Xa hbd;replace Xb := B3q.b Xb hbd;replace hbw := bon hbw hbd;clear hbd
 have HJ : Hid ((fun W' : World => W'.cell? ⟨ga, 0, none⟩ = some (.bool s) ∧ W'.cell? ⟨ga, 1, none⟩ = some (.slice p m c) ∧ W'.cell? ⟨ga, 2, none⟩ = some (.int .i64 e) ∧ W'.cell? ⟨gb, 0, none⟩ = some (.bool t) ∧ W'.cell? ⟨gb, 1, none⟩ = some (.slice q n d) ∧ W'.cell? ⟨gb, 2, none⟩ = some (.int .i64 f)) W2) := ⟨Xa.out.c0, Xa.out.c1, Xa.out.c2, Xb.out.c0, Xb.out.c1, Xb.out.c2⟩
 refine wp_region_J (fun W' => W'.cell? ⟨ga, 0, none⟩ = some (.bool s) ∧ W'.cell? ⟨ga, 1, none⟩ = some (.slice p m c) ∧ W'.cell? ⟨ga, 2, none⟩ = some (.int .i64 e) ∧ W'.cell? ⟨gb, 0, none⟩ = some (.bool t) ∧ W'.cell? ⟨gb, 1, none⟩ = some (.slice q n d) ∧ W'.cell? ⟨gb, 2, none⟩ = some (.int .i64 f)) (by kernel_rfl) ?_
 rw [← hW2];clear hW2
 refine wpJ_tq 0 rfl HJ.out ?_
 refine wpJ_tq 2 rfl HJ.out ?_
 refine wpJ_on 1 rfl fun KJ hK => ?_
 go_simp
 refine (topS (A.out.below hbw)).mono ?_
 rintro e v5 ⟨rfl, hb5⟩;replace Xa := B3q.b Xa hb5;replace Xb := B3q.b Xb hb5;replace hbw := bon hbw hb5;clear hb5
 refine hK _ _ ⟨Xa.out.c0, Xa.out.c1, Xa.out.c2, Xb.out.c0, Xb.out.c1, Xb.out.c2⟩ ?_
 clear hK
 refine wpJ_on 3 rfl fun KJ hK => ?_
 go_simp
 refine (topS (B.out.below hbw)).mono ?_
 rintro e v6 ⟨rfl, hb6⟩;replace Xa := B3q.b Xa hb6;replace Xb := B3q.b Xb hb6;replace hbw := bon hbw hb6;clear hb6 HJ
 have HJ : Hid ((fun W' : World => W'.cell? ⟨ga, 0, none⟩ = some (.bool s) ∧ W'.cell? ⟨ga, 1, none⟩ = some (.slice p m c) ∧ W'.cell? ⟨ga, 2, none⟩ = some (.int .i64 e) ∧ W'.cell? ⟨gb, 0, none⟩ = some (.bool t) ∧ W'.cell? ⟨gb, 1, none⟩ = some (.slice q n d) ∧ W'.cell? ⟨gb, 2, none⟩ = some (.int .i64 f)) v6) := ⟨Xa.out.c0, Xa.out.c1, Xa.out.c2, Xb.out.c0, Xb.out.c1, Xb.out.c2⟩
 refine hK _ _ HJ.out ?_
 clear hK
 refine wpJ_tq 4 rfl HJ.out ?_
 refine wpJ_done (by kernel_rfl) ?_ _
 clear HJ;obtain ⟨ta, hta⟩ := exq (topI x e);obtain ⟨tb, htb⟩ := exq (topI y f);rw [← hta, ← htb];have HT9 : Hid (ta = topI x e ∧ tb = topI y f) := ⟨hta, htb⟩
 have HB : Hid (-2000000 ≤ ta ∧ ta ≤ 2000000 ∧ -2000000 ≤ tb ∧ tb ≤ 2000000) := by have h1 := dn_exp A.out; have h2 := dn_exp B.out; have h3 := (lim_bits x.natAbs).1 A.out.zn.lim; have h4 := (lim_bits y.natAbs).1 B.out.zn.lim; unfold topI at hta htb; show _ ∧ _; omega
 have hne : ta = tb := by rw [hta, htb]; exact HS.out.2.2
 clear hta htb;obtain ⟨ca0, ca1, ca2, fa0, fa1, fa2⟩ := Xa.out;have hnea : ga < v6.heap.size := blt ca0;obtain ⟨cb0, cb1, cb2, fb0, fb1, fb2⟩ := Xb.out;have hneb : gb < v6.heap.size := blt cb0;go_wp2_with fail;clear ca0 ca1 ca2 fa0 fa1 fa2 hnea cb0 cb1 cb2 fb0 fb1 fb2 hneb;obtain ⟨g9, hg9⟩ := exq (min e f);rw [← hg9];obtain ⟨k1, hk1⟩ := exq ((e - g9).toNat);obtain ⟨k2, hk2⟩ := exq ((f - g9).toNat);have hee := dn_exp A.out;have hff := dn_exp B.out;have hbx := (lim_bits x.natAbs).1 A.out.zn.lim;have hby := (lim_bits y.natAbs).1 B.out.zn.lim
 have u1 : wrap64 (e - g9) = (k1 : Int) := by simp only [wrap64]; omega
 have u2 : IntKind.i64.wrap (e - g9) = (k1 : Int) := by simp [IntKind.wrap, IntKind.signed, IntKind.bits]; omega
 have u3 : wrap64 (f - g9) = (k2 : Int) := by simp only [wrap64]; omega
 have u4 : IntKind.i64.wrap (f - g9) = (k2 : Int) := by simp [IntKind.wrap, IntKind.signed, IntKind.bits]; omega
 have HK : Hid (k1 ≤ 524288 ∧ k2 ≤ 524288) := by have h1 := HS.out.2.2; unfold topI at h1; show _ ∧ _; omega
 have HR : Hid (cmpI (dv x e) (dv y f) = cmpI (x * 2 ^ k1) (y * 2 ^ k2)) := by rw [hk1, hk2]; exact (cmp_same (by omega) (by omega) (by omega)).symm
 clear hg9 hk1 hk2 hee hff hbx hby;obtain ⟨W3, hW3⟩ := exq v6.drew
 have hbd : Below v6.heap.size v6 W3 := by rw [hW3]; exact bDrew1 (Below.refl _ _)
 replace Xa := B3q.b Xa hbd;replace Xb := B3q.b Xb hbd;replace hbw := bon hbw hbd;clear hbd
 have HJ : Hid ((fun W' : World => W'.cell? ⟨ga, 0, none⟩ = some (.bool s) ∧ W'.cell? ⟨ga, 1, none⟩ = some (.slice p m c) ∧ W'.cell? ⟨ga, 2, none⟩ = some (.int .i64 e) ∧ W'.cell? ⟨gb, 0, none⟩ = some (.bool t) ∧ W'.cell? ⟨gb, 1, none⟩ = some (.slice q n d) ∧ W'.cell? ⟨gb, 2, none⟩ = some (.int .i64 f)) W3) := ⟨Xa.out.c0, Xa.out.c1, Xa.out.c2, Xb.out.c0, Xb.out.c1, Xb.out.c2⟩
 refine wp_region_J (fun W' => W'.cell? ⟨ga, 0, none⟩ = some (.bool s) ∧ W'.cell? ⟨ga, 1, none⟩ = some (.slice p m c) ∧ W'.cell? ⟨ga, 2, none⟩ = some (.int .i64 e) ∧ W'.cell? ⟨gb, 0, none⟩ = some (.bool t) ∧ W'.cell? ⟨gb, 1, none⟩ = some (.slice q n d) ∧ W'.cell? ⟨gb, 2, none⟩ = some (.int .i64 f)) (by kernel_rfl) ?_
 rw [← hW3];clear hW3
 refine wpJ_tq 0 rfl HJ.out ?_
 refine wpJ_tq 1 rfl HJ.out ?_
 refine wpJ_tq 3 rfl HJ.out ?_
 refine wpJ_tq 4 rfl HJ.out ?_
 refine wpJ_tq 5 rfl HJ.out ?_
 go_simp
 refine wpJ_tq 6 rfl HJ.out ?_
 refine wpJ_tq 8 rfl HJ.out ?_
 refine wpJ_tq 9 rfl HJ.out ?_
 refine wpJ_tq 11 rfl HJ.out ?_
 refine wpJ_tq 12 rfl HJ.out ?_
 go_simp
 refine wpJ_tq 13 rfl HJ.out ?_
 refine wpJ_tq 14 rfl HJ.out ?_
 refine wpJ_on 2 rfl fun KJ hK => ?_
 go_simp
 refine (rfromD (A.out.below hbw)).mono ?_
 rintro e2 v7 ⟨s7, p7, m7, rfl, hz7, hl7, hb7⟩;replace Xa := B3q.b Xa hb7;replace Xb := B3q.b Xb hb7;replace hbw := bon hbw hb7;clear hb7;have Z7 := hdQ hz7;have HL7 : Hid (m7 ≤ 16384) := hl7;clear hz7 hl7
 refine hK _ _ ⟨Xa.out.c0, Xa.out.c1, Xa.out.c2, Xb.out.c0, Xb.out.c1, Xb.out.c2⟩ ?_
 clear hK
 refine wpJ_on 7 rfl fun KJ hK => ?_
 go_simp
 refine (rshl04 s7 Z7.out HL7.out k1 (.inl HK.out.1)).mono ?_
 rintro e v8 ⟨v, rfl, hv, hb8⟩;obtain ⟨s8, g8, m8, rfl, hg8, hz8, hl8⟩ := hv;have HN8 : Hid (v7.heap.size ≤ g8) := hg8;have HB8 : Hid (v7.heap.size ≤ v8.heap.size) := hb8.size;replace Xa := B3q.b Xa hb8;replace Xb := B3q.b Xb hb8;replace Z7 := ZR.b Z7 hb8;replace hbw := bon hbw hb8;clear hb8;have Z8 := hdQ hz8;have HL8 : Hid (m8 ≤ 40000) := hl8;clear hz8 hl8 hg8
 refine hK _ _ ⟨Xa.out.c0, Xa.out.c1, Xa.out.c2, Xb.out.c0, Xb.out.c1, Xb.out.c2⟩ ?_
 clear hK
 refine wpJ_on 10 rfl fun KJ hK => ?_
 go_simp
 refine (rfromD (B.out.below hbw)).mono ?_
 rintro e2 v9 ⟨s9, p9, m9, rfl, hz9, hl9, hb9⟩;replace Xa := B3q.b Xa hb9;replace Xb := B3q.b Xb hb9;replace Z7 := ZR.b Z7 hb9;replace Z8 := ZR.b Z8 hb9;replace hbw := bon hbw hb9;clear hb9;have Z9 := hdQ hz9;have HL9 : Hid (m9 ≤ 16384) := hl9;clear hz9 hl9
 refine hK _ _ ⟨Xa.out.c0, Xa.out.c1, Xa.out.c2, Xb.out.c0, Xb.out.c1, Xb.out.c2⟩ ?_
 clear hK
 refine wpJ_on 15 rfl fun KJ hK => ?_
 go_simp
 refine (rshl04 s9 Z9.out HL9.out k2 (.inl HK.out.2)).mono ?_
 rintro e v10 ⟨v, rfl, hv, hb10⟩;obtain ⟨s10, g10, m10, rfl, hg10, hz10, hl10⟩ := hv;have HN10 : Hid (v9.heap.size ≤ g10) := hg10;have HB10 : Hid (v9.heap.size ≤ v10.heap.size) := hb10.size;replace Xa := B3q.b Xa hb10;replace Xb := B3q.b Xb hb10;replace Z7 := ZR.b Z7 hb10;replace Z8 := ZR.b Z8 hb10;replace Z9 := ZR.b Z9 hb10;replace hbw := bon hbw hb10;clear hb10;have Z10 := hdQ hz10;have HL10 : Hid (m10 ≤ 40000) := hl10;clear hz10 hl10 hg10
 refine hK _ _ ⟨Xa.out.c0, Xa.out.c1, Xa.out.c2, Xb.out.c0, Xb.out.c1, Xb.out.c2⟩ ?_
 clear hK
 refine wpJ_on 16 rfl fun KJ hK => ?_
 go_simp
 refine (rcmp04 s8 s10 Z8.out Z10.out (by have := HL8.out; omega) (by have := HL10.out; omega)).mono ?_
 rintro e v11 ⟨rfl, hb11⟩;replace Xa := B3q.b Xa hb11;replace Xb := B3q.b Xb hb11;replace Z7 := ZR.b Z7 hb11;replace Z8 := ZR.b Z8 hb11;replace Z9 := ZR.b Z9 hb11;replace Z10 := ZR.b Z10 hb11;replace hbw := bon hbw hb11;clear hb11 HJ
 have HJ : Hid ((fun W' : World => W'.cell? ⟨ga, 0, none⟩ = some (.bool s) ∧ W'.cell? ⟨ga, 1, none⟩ = some (.slice p m c) ∧ W'.cell? ⟨ga, 2, none⟩ = some (.int .i64 e) ∧ W'.cell? ⟨gb, 0, none⟩ = some (.bool t) ∧ W'.cell? ⟨gb, 1, none⟩ = some (.slice q n d) ∧ W'.cell? ⟨gb, 2, none⟩ = some (.int .i64 f)) v11) := ⟨Xa.out.c0, Xa.out.c1, Xa.out.c2, Xb.out.c0, Xb.out.c1, Xb.out.c2⟩
 refine hK _ _ HJ.out ?_
 clear hK
 refine wpJ_tq 17 rfl HJ.out ?_
 refine wpJ_tq 18 rfl HJ.out ?_
 refine wpJ_done (by kernel_rfl) ?_ _
 clear HJ;go_wp2_with fail
 go_ret2
 exact ⟨by rw [HR.out]; rfl, hbw⟩
theorem rdc {p q : Option Addr} {m c n d : Nat} {w : World} {e f : Int} {s t : Bool} {x y : Int} (h : DN w s p m c e x) (k : DN w t q n d f y) :
  Calls Tryz.prog 45 #[DV s p m c e, DV t q n d f] w fun en w' => en = .returned (.tuple #[.int .i64 (cmpI (dv x e) (dv y f)), .int .i64 0]) ∧ Below w.heap.size w w' := by
 by_cases h1 : sgnI x ≠ sgnI y ∨ sgnI x = 0
 ·exact rdc_s h k h1
 ·have h2 : sgnI x = sgnI y := Decidable.byContradiction fun h => h1 (.inl h)
  have h3 : sgnI x ≠ 0 := fun h => h1 (.inr h)
  by_cases h4 : topI x e = topI y f
  ·exact rdc_e h k h2 h3 h4
  ·exact rdc_t h k h2 h3 h4
end Go.Proofs.YtpdelpakgdanlaaGreatDoor
