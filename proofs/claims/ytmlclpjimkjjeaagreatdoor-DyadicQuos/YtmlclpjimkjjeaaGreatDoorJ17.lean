import Derived.Test.YtmlclpjimkjjeaaGreatDoorJ16
import Derived.Test.YtmlclpjimkjjeaaGreatDoorJ11
import Derived.Test.YtmlclpjimkjjeaaGreatDoorJ12
import Derived.Test.YtmlclpjimkjjeaaGreatDoorJ15
import Derived.Test.YtmlclpjimkjjeaaGreatDoorJ9
namespace Go.Proofs.YtmlclpjimkjjeaaGreatDoor
open Go.RowKit Go.Shelf
set_option maxRecDepth 20000
set_option maxHeartbeats 0
theorem rFs_zero (x : Int) : rFs x 0 = x := by
  unfold rFs fl;rw [Nat.pow_zero, Nat.div_one, Nat.mod_one]
  simp
  exact iv_abs x
theorem rfloorshr04_z {p : Option Addr} {m : Nat} {w : World} {x : Int} (s : Bool) (h : ZR w s p m x) (hm : m ≤ 16384) :
  Calls Tryz.prog 150 #[.agg #[.bool s, .slice p m m], .int .i64 0] w fun e w' => ∃ v, e = .returned v ∧ GotR w.heap.size w' v (x) (m + 4) ∧ Below w.heap.size w w' := by
 obtain ⟨xs, hAx, hNx⟩ := h.ex;have HA := hdQ h;have AX := hdQ hAx;have NX := hdQ hNx;have HM : Hid (m ≤ 16384) := hm;clear h hm hAx hNx
 go_enter Tryz.func150, Tryz.ntmps150
 go_wp2_with fail;obtain ⟨W0, hW0⟩ := exq ((w.alloc (.cells #[.bool s, .slice p m m] 56)).alloc (.cells #[.bool false, .slice none 0 0] 56))
 have Xa : Hid (Box W0 (w.heap.size) (.bool s) (.slice p m m)) := by rw [hW0]; constructor <;> go_simp
 have Xr : Hid (Box W0 (w.heap.size + 1) (.bool false) (.slice none 0 0)) := by rw [hW0]; constructor <;> go_simp
 have hb0 := bq2 hW0;rw [← hW0];clear hW0;have hbw := brf w;obtain ⟨gr, hgr⟩ := exq (w.heap.size + 1);have HGr : Hid (w.heap.size ≤ gr) := hgl hgr;rw [← hgr] at Xr
 try rw [← hgr]
 obtain ⟨ga, hga⟩ := exq w.heap.size;have HGa : Hid (w.heap.size ≤ ga) := hgl hga;rw [← hga] at Xa
 try rw [← hga]
 have HGD : Hid (ga ≠ gr ∧ gr ≠ ga) := by rw [hga, hgr]; show _ ∧ _; omega
 clear hga hgr;replace hbw := bon hbw hb0;clear hb0;have HRB : Hid (gr < W0.heap.size ∧ w.heap.size ≤ W0.heap.size) := ⟨Xr.out.lt, hbw.size⟩;have AX1 := AX.out.below hbw
 refine (rmk_any s AX1 NX.out (by have := HM.out; omega)).mono ?_
 rintro e v9 ⟨v, rfl, hv, hb9⟩;obtain ⟨s9, g9, m9, rfl, hg9, hz9, hl9⟩ := hv;have HN9 := hdQ hg9;replace Xa := Box.b Xa hb9;replace Xr := Box.b Xr hb9;replace hbw := bon hbw hb9;clear hb9;have Z9 := hdQ hz9;have HL9 : Hid (m9 ≤ m) := hl9;clear hz9 hl9 hg9;have Z9' := Z9.out.cast HA.out.iv;clear Z9;have Z9 : Hid (ZR v9 s9 (some ⟨g9, 0, none⟩) m9 x) := Z9';clear Z9' AX1;obtain ⟨cr0, cr1, fr0, fr1⟩ := Xr.out;have hner := Xr.out.lt;go_wp2_with fail
 refine bodyPost_ret (v := .agg #[.bool s9, .slice (some ⟨g9, 0, none⟩) m9 m9]) (by rw [results_cell1 rfl]; go_simp) rfl ⟨_, rfl, ⟨s9, g9, m9, rfl, Nat.le_trans HRB.out.2 HN9.out, ?_, Nat.le_trans HL9.out (Nat.le_add_right _ _)⟩, ?_⟩
 ·have := HN9.out; have := HRB.out.1
  exact (Z9.out.set _ _ _ (by omega)).set _ _ _ (by omega)
 ·exact bSet (bSet hbw _ _ _ HGr.out) _ _ _ HGr.out
theorem rfloorshr04_p {p : Option Addr} {m : Nat} {w : World} {x : Int} (h : ZR w false p m x) (hm : m ≤ 16384) (k : Nat) (hk : 0 < k) (hk2 : k ≤ 9223372036854775807) :
  Calls Tryz.prog 150 #[.agg #[.bool false, .slice p m m], .int .i64 k] w fun e w' => ∃ v, e = .returned v ∧ GotR w.heap.size w' v (rFs x k) (m + 4) ∧ Below w.heap.size w w' := by
 obtain ⟨xs, hAx, hNx⟩ := h.ex;have HA := hdQ h;have AX := hdQ hAx;have NX := hdQ hNx;have HM : Hid (m ≤ 16384) := hm;have HK : Hid (0 < k ∧ k ≤ 9223372036854775807) := ⟨hk, hk2⟩
 have h1 : ¬ (k : Int) ≤ 0 := by omega
 have HRV : Hid (rFs x k = iv false (x.natAbs / 2 ^ k)) := by show _ = _; unfold rFs fl; rw [← HA.out.sg]; simp
 rw [HRV.out];clear HRV h hm hAx hNx hk hk2
 go_enter Tryz.func150, Tryz.ntmps150
 go_wp2_with fail;obtain ⟨W0, hW0⟩ := exq ((w.alloc (.cells #[.bool false, .slice p m m] 56)).alloc (.cells #[.bool false, .slice none 0 0] 56))
 have Xa : Hid (Box W0 (w.heap.size) (.bool false) (.slice p m m)) := by rw [hW0]; constructor <;> go_simp
 have Xr : Hid (Box W0 (w.heap.size + 1) (.bool false) (.slice none 0 0)) := by rw [hW0]; constructor <;> go_simp
 have hb0 := bq2 hW0;rw [← hW0];clear hW0;have hbw := brf w;obtain ⟨gr, hgr⟩ := exq (w.heap.size + 1);have HGr : Hid (w.heap.size ≤ gr) := hgl hgr;rw [← hgr] at Xr
 try rw [← hgr]
 obtain ⟨ga, hga⟩ := exq w.heap.size;have HGa : Hid (w.heap.size ≤ ga) := hgl hga;rw [← hga] at Xa
 try rw [← hga]
 have HGD : Hid (ga ≠ gr ∧ gr ≠ ga) := by rw [hga, hgr]; show _ ∧ _; omega
 clear hga hgr;replace hbw := bon hbw hb0;clear hb0;obtain ⟨W1, hW1⟩ := exq W0.drew
 have hbd : Below W0.heap.size W0 W1 := by rw [hW1]; exact bDrew1 (Below.refl _ _)
 replace Xa := Box.b Xa hbd;replace Xr := Box.b Xr hbd;replace hbw := bon hbw hbd;clear hbd
 have HJ : Hid ((fun W' : World => W'.cell? ⟨ga, 0, none⟩ = some (.bool false) ∧ W'.cell? ⟨ga, 1, none⟩ = some (.slice p m m)) W1) := ⟨Xa.out.c0, Xa.out.c1⟩
 refine wp_region_J (fun W' => W'.cell? ⟨ga, 0, none⟩ = some (.bool false) ∧ W'.cell? ⟨ga, 1, none⟩ = some (.slice p m m)) (by kernel_rfl) ?_
 rw [← hW1];clear hW1
 refine wpJ_tq 0 rfl HJ.out ?_
 refine wpJ_tq 1 rfl HJ.out ?_
 refine wpJ_tq 2 rfl HJ.out ?_
 refine wpJ_tq 3 rfl HJ.out ?_
 refine wpJ_tq 4 rfl HJ.out ?_
 refine wpJ_cutA (fun a0 a' W' => ∃ gq s4 g4 m4 p2 m2, a' = (((a0.put (some 18) (.slice p2 m2 m2)).put (some 19) (.agg #[.bool s4, .slice (some ⟨g4, 0, none⟩) m4 m4])).put (some 5) (.pointer (some ⟨gq, 0, none⟩))) ∧ Box W' ga (.bool false) (.slice p m m) ∧ Box W' gr (.bool false) (.slice none 0 0) ∧ Box W' gq (.bool s4) (.slice (some ⟨g4, 0, none⟩) m4 m4) ∧ ZR W' s4 (some ⟨g4, 0, none⟩) m4 (iv false (x.natAbs / 2 ^ k)) ∧ m4 ≤ m ∧ w.heap.size ≤ g4 ∧ gr < g4 ∧ gr ≠ gq ∧ Below w.heap.size w W') ?_ ?_
 ·rintro a' Wc ⟨gq, s4, g4, m4, p2, m2, rfl, xa, xr, xq, z4, hHLq, hHN4, hHR4, hHDrq, hbc⟩
  have Ca := hdQ xa;have Cr := hdQ xr;have Cq := hdQ xq;have Z4 := hdQ z4;have HLq : Hid (m4 ≤ m) := hHLq;have HN4 : Hid (w.heap.size ≤ g4) := hHN4;have HR4 : Hid (gr < g4) := hHR4;have HDrq : Hid (gr ≠ gq) := hHDrq;clear hbw HJ Xa Xr xa xr xq z4 hHLq hHN4 hHR4 hHDrq;have hbw := hbc;have Xa := Ca;have Xr := Cr;have Xq := Cq;clear hbc Ca Cr Cq;obtain ⟨ca0, ca1, fa0, fa1⟩ := Xa.out;have hnea := Xa.out.lt;obtain ⟨cq0, cq1, fq0, fq1⟩ := Xq.out;have hneq := Xq.out.lt;obtain ⟨cr0, cr1, fr0, fr1⟩ := Xr.out;have hner := Xr.out.lt;go_wp2_with fail
  refine bodyPost_ret (v := .agg #[.bool s4, .slice (some ⟨g4, 0, none⟩) m4 m4]) (by rw [results_cell1 rfl]; go_simp) rfl ⟨_, rfl, ⟨s4, g4, m4, rfl, HN4.out, ?_, Nat.le_trans HLq.out (Nat.le_add_right _ _)⟩, ?_⟩
  ·have := HR4.out
   exact (Z4.out.set _ _ _ (by omega)).set _ _ _ (by omega)
  ·exact bSet (bSet hbw _ _ _ HGr.out) _ _ _ HGr.out
 ·skip
  refine wpJ_two (i := 5) (k := 7) (by kernel_rfl) rfl rfl (by kernel_rfl) (by kernel_rfl) (fun KJ hK => ?_) (fun KJ hK => ?_)
  ·go_simp
   refine (rfshr_any (AX.out.below hbw) NX.out HM.out k HK.out.1 HK.out.2).mono ?_
   rintro e v2 ⟨p2, m2, z2, rfl, hA2, hN2, hl2, hb2⟩;replace Xa := Box.b Xa hb2;replace Xr := Box.b Xr hb2;replace hbw := bon hbw hb2;clear hb2;have A2 := hdQ hA2;have N2 : Hid (Nf B32 z2 (x.natAbs / 2 ^ k) ∧ m2 ≤ m) := ⟨hN2, hl2⟩;clear hA2 hN2 hl2 HJ
   have HJ : Hid ((fun W' : World => W'.cell? ⟨ga, 0, none⟩ = some (.bool false) ∧ W'.cell? ⟨ga, 1, none⟩ = some (.slice p m m)) v2) := ⟨Xa.out.c0, Xa.out.c1⟩
   refine hK _ _ HJ.out ?_
   clear hK
   refine wpJ_two (i := 6) (k := 7) (by kernel_rfl) rfl rfl (by kernel_rfl) (by kernel_rfl) (fun KJ hK => ?_) (fun KJ hK => ?_)
   ·go_simp
    refine (rmk_any false A2.out N2.out.1 (by have := N2.out.2; have := HM.out; omega)).mono ?_
    rintro e v4 ⟨v, rfl, hv, hb4⟩;obtain ⟨s4, g4, m4, rfl, hg4, hz4, hl4⟩ := hv;have HN4 : Hid (w.heap.size ≤ g4) := Nat.le_trans hbw.size hg4;have HR4 : Hid (gr < g4) := Nat.lt_of_lt_of_le Xr.out.lt hg4;replace Xa := Box.b Xa hb4;replace Xr := Box.b Xr hb4;replace A2 := At32.b A2 hb4;replace hbw := bon hbw hb4;clear hb4;have Z4 := hdQ hz4;have HL4 : Hid (m4 ≤ m2) := hl4;clear hz4 hl4 hg4;have HLq : Hid (m4 ≤ m) := Nat.le_trans HL4.out N2.out.2;clear HL4 N2
    refine hK _ _ ⟨Xa.out.c0, Xa.out.c1⟩ ?_
    clear hK
    refine wpJ_on 7 rfl fun KJ hK => ?_
    go_simp;have HDq : Hid (ga ≠ v4.heap.size ∧ gr ≠ v4.heap.size) := ⟨Nat.ne_of_lt Xa.out.lt, Nat.ne_of_lt Xr.out.lt⟩;have HO4q : Hid (OffR g4 m4 v4.heap.size) := Z4.out.off_new;have HDrq : Hid (gr ≠ v4.heap.size) := Nat.ne_of_lt Xr.out.lt;have Xq0 : Hid (Box (v4.alloc (.cells #[.bool false, .slice none 0 0] 56)) v4.heap.size (.bool false) (.slice none 0 0)) := Box.new v4 _ _ _;have hbn : Below v4.heap.size v4 (v4.alloc (.cells #[.bool false, .slice none 0 0] 56)) := below1 v4 _;generalize v4.alloc (.cells #[.bool false, .slice none 0 0] 56) = Wq at *;have HGq : Hid (w.heap.size ≤ v4.heap.size) := hbw.size;replace Xa := Box.b Xa hbn;replace Xr := Box.b Xr hbn;replace A2 := At32.b A2 hbn;replace Z4 := ZR.b Z4 hbn;replace hbw := bon hbw hbn;clear hbn;generalize v4.heap.size = gq at *;have Xq := Xq0;clear Xq0
    refine hK _ _ ⟨Xa.out.c0, Xa.out.c1⟩ ?_
    clear hK;obtain ⟨cq0, cq1, fq0, fq1⟩ := Xq.out;have hneq := Xq.out.lt;obtain ⟨ca0, ca1, fa0, fa1⟩ := Xa.out;have hnea := Xa.out.lt;obtain ⟨cr0, cr1, fr0, fr1⟩ := Xr.out;have hner := Xr.out.lt;have qqa : ga ≠ gq := HDq.out.1
    have qaq : gq ≠ ga := fun h => qqa h.symm
    have qqr : gr ≠ gq := HDq.out.2
    have qrq : gq ≠ gr := fun h => qqr h.symm
    refine wpJ_on 8 rfl fun KJ hK => ?_
    go_simp
    have HJ2 : Hid ((fun W' : World => W'.cell? ⟨ga, 0, none⟩ = some (.bool false) ∧ W'.cell? ⟨ga, 1, none⟩ = some (.slice p m m)) ((Wq.setCell ⟨gq, 0, none⟩ (.bool s4)).setCell ⟨gq, 1, none⟩ (.slice (some ⟨g4, 0, none⟩) m4 m4))) := ⟨by go_simp, by go_simp⟩
    have Xq2 : Hid (Box ((Wq.setCell ⟨gq, 0, none⟩ (.bool s4)).setCell ⟨gq, 1, none⟩ (.slice (some ⟨g4, 0, none⟩) m4 m4)) gq (.bool s4) (.slice (some ⟨g4, 0, none⟩) m4 m4)) := ⟨by go_simp, by go_simp, by go_simp, by go_simp⟩
    have Xa2 : Hid (Box ((Wq.setCell ⟨gq, 0, none⟩ (.bool s4)).setCell ⟨gq, 1, none⟩ (.slice (some ⟨g4, 0, none⟩) m4 m4)) ga (.bool false) (.slice p m m)) := ⟨by go_simp, by go_simp, by go_simp, by go_simp⟩
    have Xr2 : Hid (Box ((Wq.setCell ⟨gq, 0, none⟩ (.bool s4)).setCell ⟨gq, 1, none⟩ (.slice (some ⟨g4, 0, none⟩) m4 m4)) gr (.bool false) (.slice none 0 0)) := ⟨by go_simp, by go_simp, by go_simp, by go_simp⟩
    have Z42 : Hid (ZR ((Wq.setCell ⟨gq, 0, none⟩ (.bool s4)).setCell ⟨gq, 1, none⟩ (.slice (some ⟨g4, 0, none⟩) m4 m4)) s4 (some ⟨g4, 0, none⟩) m4 (iv false (x.natAbs / 2 ^ k))) := (Z4.out.setOff HO4q.out _ _).setOff HO4q.out _ _;have hbw2 : Below w.heap.size w ((Wq.setCell ⟨gq, 0, none⟩ (.bool s4)).setCell ⟨gq, 1, none⟩ (.slice (some ⟨g4, 0, none⟩) m4 m4)) := bSet (bSet hbw _ _ _ HGq.out) _ _ _ HGq.out
    refine hK _ _ HJ2.out ?_
    clear hK HJ;have HJ := HJ2;clear HJ2 hbw A2 Z4 cq0 cq1 fq0 fq1 hneq ca0 ca1 fa0 fa1 hnea cr0 cr1 fr0 fr1 hner qqa qaq qqr qrq Xq Xa Xr;generalize ((Wq.setCell ⟨gq, 0, none⟩ (.bool s4)).setCell ⟨gq, 1, none⟩ (.slice (some ⟨g4, 0, none⟩) m4 m4)) = Ws0 at *;have hbw := hbw2;have Z4 := Z42;have Xq := Xq2;have Xa := Xa2;have Xr := Xr2;clear hbw2 Z42 Xq2 Xa2 Xr2
    refine wpJ_done (by kernel_rfl) ?_ _
    exact ⟨rfl, gq, s4, g4, m4, p2, m2, by kernel_rfl, Xa.out, Xr.out, Xq.out, Z4.out, HLq.out, HN4.out, HR4.out, HDrq.out, hbw⟩
   ·go_simp
    have HDq : Hid (ga ≠ v2.heap.size ∧ gr ≠ v2.heap.size) := ⟨Nat.ne_of_lt Xa.out.lt, Nat.ne_of_lt Xr.out.lt⟩;have HDrq : Hid (gr ≠ v2.heap.size) := Nat.ne_of_lt Xr.out.lt;have Xq0 : Hid (Box (v2.alloc (.cells #[.bool false, .slice none 0 0] 56)) v2.heap.size (.bool false) (.slice none 0 0)) := Box.new v2 _ _ _;have hbn : Below v2.heap.size v2 (v2.alloc (.cells #[.bool false, .slice none 0 0] 56)) := below1 v2 _;generalize v2.alloc (.cells #[.bool false, .slice none 0 0] 56) = Wq at *;have HGq : Hid (w.heap.size ≤ v2.heap.size) := hbw.size;replace Xa := Box.b Xa hbn;replace Xr := Box.b Xr hbn;replace A2 := At32.b A2 hbn;replace hbw := bon hbw hbn;clear hbn;generalize v2.heap.size = gq at *;have Xq := Xq0;clear Xq0
    refine hK _ _ ⟨Xa.out.c0, Xa.out.c1⟩ ?_
    clear hK
    refine wpJ_on 6 rfl fun KJ hK => ?_
    go_simp
    refine (rmk_any false A2.out N2.out.1 (by have := N2.out.2; have := HM.out; omega)).mono ?_
    rintro e v4 ⟨v, rfl, hv, hb4⟩;obtain ⟨s4, g4, m4, rfl, hg4, hz4, hl4⟩ := hv;have HO4q : Hid (OffR g4 m4 gq) := .inr (Nat.ne_of_gt (Nat.lt_of_lt_of_le Xq.out.lt hg4));have HN4 : Hid (w.heap.size ≤ g4) := Nat.le_trans hbw.size hg4;have HR4 : Hid (gr < g4) := Nat.lt_of_lt_of_le Xr.out.lt hg4;replace Xa := Box.b Xa hb4;replace Xr := Box.b Xr hb4;replace Xq := Box.b Xq hb4;replace A2 := At32.b A2 hb4;replace hbw := bon hbw hb4;clear hb4;have Z4 := hdQ hz4;have HL4 : Hid (m4 ≤ m2) := hl4;clear hz4 hl4 hg4;have HLq : Hid (m4 ≤ m) := Nat.le_trans HL4.out N2.out.2;clear HL4 N2
    refine hK _ _ ⟨Xa.out.c0, Xa.out.c1⟩ ?_
    clear hK;obtain ⟨cq0, cq1, fq0, fq1⟩ := Xq.out;have hneq := Xq.out.lt;obtain ⟨ca0, ca1, fa0, fa1⟩ := Xa.out;have hnea := Xa.out.lt;obtain ⟨cr0, cr1, fr0, fr1⟩ := Xr.out;have hner := Xr.out.lt;have qqa : ga ≠ gq := HDq.out.1
    have qaq : gq ≠ ga := fun h => qqa h.symm
    have qqr : gr ≠ gq := HDq.out.2
    have qrq : gq ≠ gr := fun h => qqr h.symm
    refine wpJ_on 8 rfl fun KJ hK => ?_
    go_simp
    have HJ2 : Hid ((fun W' : World => W'.cell? ⟨ga, 0, none⟩ = some (.bool false) ∧ W'.cell? ⟨ga, 1, none⟩ = some (.slice p m m)) ((v4.setCell ⟨gq, 0, none⟩ (.bool s4)).setCell ⟨gq, 1, none⟩ (.slice (some ⟨g4, 0, none⟩) m4 m4))) := ⟨by go_simp, by go_simp⟩
    have Xq2 : Hid (Box ((v4.setCell ⟨gq, 0, none⟩ (.bool s4)).setCell ⟨gq, 1, none⟩ (.slice (some ⟨g4, 0, none⟩) m4 m4)) gq (.bool s4) (.slice (some ⟨g4, 0, none⟩) m4 m4)) := ⟨by go_simp, by go_simp, by go_simp, by go_simp⟩
    have Xa2 : Hid (Box ((v4.setCell ⟨gq, 0, none⟩ (.bool s4)).setCell ⟨gq, 1, none⟩ (.slice (some ⟨g4, 0, none⟩) m4 m4)) ga (.bool false) (.slice p m m)) := ⟨by go_simp, by go_simp, by go_simp, by go_simp⟩
    have Xr2 : Hid (Box ((v4.setCell ⟨gq, 0, none⟩ (.bool s4)).setCell ⟨gq, 1, none⟩ (.slice (some ⟨g4, 0, none⟩) m4 m4)) gr (.bool false) (.slice none 0 0)) := ⟨by go_simp, by go_simp, by go_simp, by go_simp⟩
    have Z42 : Hid (ZR ((v4.setCell ⟨gq, 0, none⟩ (.bool s4)).setCell ⟨gq, 1, none⟩ (.slice (some ⟨g4, 0, none⟩) m4 m4)) s4 (some ⟨g4, 0, none⟩) m4 (iv false (x.natAbs / 2 ^ k))) := (Z4.out.setOff HO4q.out _ _).setOff HO4q.out _ _;have hbw2 : Below w.heap.size w ((v4.setCell ⟨gq, 0, none⟩ (.bool s4)).setCell ⟨gq, 1, none⟩ (.slice (some ⟨g4, 0, none⟩) m4 m4)) := bSet (bSet hbw _ _ _ HGq.out) _ _ _ HGq.out
    refine hK _ _ HJ2.out ?_
    clear hK HJ;have HJ := HJ2;clear HJ2 hbw A2 Z4 cq0 cq1 fq0 fq1 hneq ca0 ca1 fa0 fa1 hnea cr0 cr1 fr0 fr1 hner qqa qaq qqr qrq Xq Xa Xr;generalize ((v4.setCell ⟨gq, 0, none⟩ (.bool s4)).setCell ⟨gq, 1, none⟩ (.slice (some ⟨g4, 0, none⟩) m4 m4)) = Ws0 at *;have hbw := hbw2;have Z4 := Z42;have Xq := Xq2;have Xa := Xa2;have Xr := Xr2;clear hbw2 Z42 Xq2 Xa2 Xr2
    refine wpJ_done (by kernel_rfl) ?_ _
    exact ⟨rfl, gq, s4, g4, m4, p2, m2, by kernel_rfl, Xa.out, Xr.out, Xq.out, Z4.out, HLq.out, HN4.out, HR4.out, HDrq.out, hbw⟩
  ·go_simp
   have HDq : Hid (ga ≠ W1.heap.size ∧ gr ≠ W1.heap.size) := ⟨Nat.ne_of_lt Xa.out.lt, Nat.ne_of_lt Xr.out.lt⟩;have HDrq : Hid (gr ≠ W1.heap.size) := Nat.ne_of_lt Xr.out.lt;have Xq0 : Hid (Box (W1.alloc (.cells #[.bool false, .slice none 0 0] 56)) W1.heap.size (.bool false) (.slice none 0 0)) := Box.new W1 _ _ _;have hbn : Below W1.heap.size W1 (W1.alloc (.cells #[.bool false, .slice none 0 0] 56)) := below1 W1 _;generalize W1.alloc (.cells #[.bool false, .slice none 0 0] 56) = Wq at *;have HGq : Hid (w.heap.size ≤ W1.heap.size) := hbw.size;replace Xa := Box.b Xa hbn;replace Xr := Box.b Xr hbn;replace hbw := bon hbw hbn;clear hbn;generalize W1.heap.size = gq at *;have Xq := Xq0;clear Xq0
   refine hK _ _ ⟨Xa.out.c0, Xa.out.c1⟩ ?_
   clear hK
   refine wpJ_on 5 rfl fun KJ hK => ?_
   go_simp
   refine (rfshr_any (AX.out.below hbw) NX.out HM.out k HK.out.1 HK.out.2).mono ?_
   rintro e v2 ⟨p2, m2, z2, rfl, hA2, hN2, hl2, hb2⟩;replace Xa := Box.b Xa hb2;replace Xr := Box.b Xr hb2;replace Xq := Box.b Xq hb2;replace hbw := bon hbw hb2;clear hb2;have A2 := hdQ hA2;have N2 : Hid (Nf B32 z2 (x.natAbs / 2 ^ k) ∧ m2 ≤ m) := ⟨hN2, hl2⟩;clear hA2 hN2 hl2
   refine hK _ _ ⟨Xa.out.c0, Xa.out.c1⟩ ?_
   clear hK
   refine wpJ_on 6 rfl fun KJ hK => ?_
   go_simp
   refine (rmk_any false A2.out N2.out.1 (by have := N2.out.2; have := HM.out; omega)).mono ?_
   rintro e v4 ⟨v, rfl, hv, hb4⟩;obtain ⟨s4, g4, m4, rfl, hg4, hz4, hl4⟩ := hv;have HO4q : Hid (OffR g4 m4 gq) := .inr (Nat.ne_of_gt (Nat.lt_of_lt_of_le Xq.out.lt hg4));have HN4 : Hid (w.heap.size ≤ g4) := Nat.le_trans hbw.size hg4;have HR4 : Hid (gr < g4) := Nat.lt_of_lt_of_le Xr.out.lt hg4;replace Xa := Box.b Xa hb4;replace Xr := Box.b Xr hb4;replace Xq := Box.b Xq hb4;replace A2 := At32.b A2 hb4;replace hbw := bon hbw hb4;clear hb4;have Z4 := hdQ hz4;have HL4 : Hid (m4 ≤ m2) := hl4;clear hz4 hl4 hg4;have HLq : Hid (m4 ≤ m) := Nat.le_trans HL4.out N2.out.2;clear HL4 N2
   refine hK _ _ ⟨Xa.out.c0, Xa.out.c1⟩ ?_
   clear hK;obtain ⟨cq0, cq1, fq0, fq1⟩ := Xq.out;have hneq := Xq.out.lt;obtain ⟨ca0, ca1, fa0, fa1⟩ := Xa.out;have hnea := Xa.out.lt;obtain ⟨cr0, cr1, fr0, fr1⟩ := Xr.out;have hner := Xr.out.lt;have qqa : ga ≠ gq := HDq.out.1
   have qaq : gq ≠ ga := fun h => qqa h.symm
   have qqr : gr ≠ gq := HDq.out.2
   have qrq : gq ≠ gr := fun h => qqr h.symm
   refine wpJ_on 8 rfl fun KJ hK => ?_
   go_simp
   have HJ2 : Hid ((fun W' : World => W'.cell? ⟨ga, 0, none⟩ = some (.bool false) ∧ W'.cell? ⟨ga, 1, none⟩ = some (.slice p m m)) ((v4.setCell ⟨gq, 0, none⟩ (.bool s4)).setCell ⟨gq, 1, none⟩ (.slice (some ⟨g4, 0, none⟩) m4 m4))) := ⟨by go_simp, by go_simp⟩
   have Xq2 : Hid (Box ((v4.setCell ⟨gq, 0, none⟩ (.bool s4)).setCell ⟨gq, 1, none⟩ (.slice (some ⟨g4, 0, none⟩) m4 m4)) gq (.bool s4) (.slice (some ⟨g4, 0, none⟩) m4 m4)) := ⟨by go_simp, by go_simp, by go_simp, by go_simp⟩
   have Xa2 : Hid (Box ((v4.setCell ⟨gq, 0, none⟩ (.bool s4)).setCell ⟨gq, 1, none⟩ (.slice (some ⟨g4, 0, none⟩) m4 m4)) ga (.bool false) (.slice p m m)) := ⟨by go_simp, by go_simp, by go_simp, by go_simp⟩
   have Xr2 : Hid (Box ((v4.setCell ⟨gq, 0, none⟩ (.bool s4)).setCell ⟨gq, 1, none⟩ (.slice (some ⟨g4, 0, none⟩) m4 m4)) gr (.bool false) (.slice none 0 0)) := ⟨by go_simp, by go_simp, by go_simp, by go_simp⟩
   have Z42 : Hid (ZR ((v4.setCell ⟨gq, 0, none⟩ (.bool s4)).setCell ⟨gq, 1, none⟩ (.slice (some ⟨g4, 0, none⟩) m4 m4)) s4 (some ⟨g4, 0, none⟩) m4 (iv false (x.natAbs / 2 ^ k))) := (Z4.out.setOff HO4q.out _ _).setOff HO4q.out _ _;have hbw2 : Below w.heap.size w ((v4.setCell ⟨gq, 0, none⟩ (.bool s4)).setCell ⟨gq, 1, none⟩ (.slice (some ⟨g4, 0, none⟩) m4 m4)) := bSet (bSet hbw _ _ _ HGq.out) _ _ _ HGq.out
   refine hK _ _ HJ2.out ?_
   clear hK HJ;have HJ := HJ2;clear HJ2 hbw A2 Z4 cq0 cq1 fq0 fq1 hneq ca0 ca1 fa0 fa1 hnea cr0 cr1 fr0 fr1 hner qqa qaq qqr qrq Xq Xa Xr;generalize ((v4.setCell ⟨gq, 0, none⟩ (.bool s4)).setCell ⟨gq, 1, none⟩ (.slice (some ⟨g4, 0, none⟩) m4 m4)) = Ws0 at *;have hbw := hbw2;have Z4 := Z42;have Xq := Xq2;have Xa := Xa2;have Xr := Xr2;clear hbw2 Z42 Xq2 Xa2 Xr2
   refine wpJ_done (by kernel_rfl) ?_ _
   exact ⟨rfl, gq, s4, g4, m4, p2, m2, by kernel_rfl, Xa.out, Xr.out, Xq.out, Z4.out, HLq.out, HN4.out, HR4.out, HDrq.out, hbw⟩
theorem rfloorshr04_n0 {p : Option Addr} {m : Nat} {w : World} {x : Int} (h : ZR w true p m x) (hm : m ≤ 16384) (k : Nat) (hk : 0 < k) (hk2 : k ≤ 9223372036854775807) (hlo : x.natAbs % 2 ^ k = 0) :
  Calls Tryz.prog 150 #[.agg #[.bool true, .slice p m m], .int .i64 k] w fun e w' => ∃ v, e = .returned v ∧ GotR w.heap.size w' v (rFs x k) (m + 4) ∧ Below w.heap.size w w' := by
 obtain ⟨xs, hAx, hNx⟩ := h.ex;have HA := hdQ h;have AX := hdQ hAx;have NX := hdQ hNx;have HM : Hid (m ≤ 16384) := hm;have HK : Hid (0 < k ∧ k ≤ 9223372036854775807) := ⟨hk, hk2⟩
 have h1 : ¬ (k : Int) ≤ 0 := by omega
 have HLO : Hid (x.natAbs % 2 ^ k = 0) := hlo
 have HRV : Hid (rFs x k = iv true (x.natAbs / 2 ^ k)) := by show _ = _; unfold rFs fl; rw [← HA.out.sg, HLO.out]; simp
 rw [HRV.out];clear HRV h hm hAx hNx hk hk2 hlo
 go_enter Tryz.func150, Tryz.ntmps150
 go_wp2_with fail;obtain ⟨W0, hW0⟩ := exq ((w.alloc (.cells #[.bool true, .slice p m m] 56)).alloc (.cells #[.bool false, .slice none 0 0] 56))
 have Xa : Hid (Box W0 (w.heap.size) (.bool true) (.slice p m m)) := by rw [hW0]; constructor <;> go_simp
 have Xr : Hid (Box W0 (w.heap.size + 1) (.bool false) (.slice none 0 0)) := by rw [hW0]; constructor <;> go_simp
 have hb0 := bq2 hW0;rw [← hW0];clear hW0;have hbw := brf w;obtain ⟨gr, hgr⟩ := exq (w.heap.size + 1);have HGr : Hid (w.heap.size ≤ gr) := hgl hgr;rw [← hgr] at Xr
 try rw [← hgr]
 obtain ⟨ga, hga⟩ := exq w.heap.size;have HGa : Hid (w.heap.size ≤ ga) := hgl hga;rw [← hga] at Xa
 try rw [← hga]
 have HGD : Hid (ga ≠ gr ∧ gr ≠ ga) := by rw [hga, hgr]; show _ ∧ _; omega
 clear hga hgr;replace hbw := bon hbw hb0;clear hb0;obtain ⟨W1, hW1⟩ := exq W0.drew
 have hbd : Below W0.heap.size W0 W1 := by rw [hW1]; exact bDrew1 (Below.refl _ _)
 replace Xa := Box.b Xa hbd;replace Xr := Box.b Xr hbd;replace hbw := bon hbw hbd;clear hbd
 have HJ : Hid ((fun W' : World => W'.cell? ⟨ga, 0, none⟩ = some (.bool true) ∧ W'.cell? ⟨ga, 1, none⟩ = some (.slice p m m)) W1) := ⟨Xa.out.c0, Xa.out.c1⟩
 refine wp_region_J (fun W' => W'.cell? ⟨ga, 0, none⟩ = some (.bool true) ∧ W'.cell? ⟨ga, 1, none⟩ = some (.slice p m m)) (by kernel_rfl) ?_
 rw [← hW1];clear hW1
 refine wpJ_tq 0 rfl HJ.out ?_
 refine wpJ_tq 1 rfl HJ.out ?_
 refine wpJ_tq 2 rfl HJ.out ?_
 refine wpJ_tq 3 rfl HJ.out ?_
 refine wpJ_tq 4 rfl HJ.out ?_
 refine wpJ_cutA (fun a0 a' W' => ∃ gq s4 g4 m4 p2 m2, a' = (((a0.put (some 18) (.slice p2 m2 m2)).put (some 19) (.agg #[.bool s4, .slice (some ⟨g4, 0, none⟩) m4 m4])).put (some 5) (.pointer (some ⟨gq, 0, none⟩))) ∧ Box W' ga (.bool true) (.slice p m m) ∧ Box W' gr (.bool false) (.slice none 0 0) ∧ Box W' gq (.bool s4) (.slice (some ⟨g4, 0, none⟩) m4 m4) ∧ ZR W' s4 (some ⟨g4, 0, none⟩) m4 (iv true (x.natAbs / 2 ^ k)) ∧ m4 ≤ m ∧ w.heap.size ≤ g4 ∧ gr < g4 ∧ gr ≠ gq ∧ Below w.heap.size w W') ?_ ?_
 ·rintro a' Wc ⟨gq, s4, g4, m4, p2, m2, rfl, xa, xr, xq, z4, hHLq, hHN4, hHR4, hHDrq, hbc⟩
  have Ca := hdQ xa;have Cr := hdQ xr;have Cq := hdQ xq;have Z4 := hdQ z4;have HLq : Hid (m4 ≤ m) := hHLq;have HN4 : Hid (w.heap.size ≤ g4) := hHN4;have HR4 : Hid (gr < g4) := hHR4;have HDrq : Hid (gr ≠ gq) := hHDrq;clear hbw HJ Xa Xr xa xr xq z4 hHLq hHN4 hHR4 hHDrq;have hbw := hbc;have Xa := Ca;have Xr := Cr;have Xq := Cq;clear hbc Ca Cr Cq;obtain ⟨ca0, ca1, fa0, fa1⟩ := Xa.out;have hnea := Xa.out.lt;go_wp2_with fail;clear ca0 ca1 fa0 fa1 hnea
  refine (rlow_any (AX.out.below hbw) NX.out HM.out k HK.out.1 HK.out.2).mono ?_
  rintro e v5 ⟨p5, m5, z5, rfl, hA5, hN5, hl5, hb5⟩;replace Xa := Box.b Xa hb5;replace Xr := Box.b Xr hb5;replace Xq := Box.b Xq hb5;replace Z4 := ZR.b Z4 hb5;replace hbw := bon hbw hb5;clear hb5
  have hm5 : m5 = 0 := by
   have h6 := hN5.zero_iff B32_one;have h7 := hA5.len;have h8 := HLO.out;rw [h6.2 h8] at h7
   exact h7.symm
  clear hA5 hN5 hl5;subst hm5;obtain ⟨cq0, cq1, fq0, fq1⟩ := Xq.out;have hneq := Xq.out.lt;obtain ⟨cr0, cr1, fr0, fr1⟩ := Xr.out;have hner := Xr.out.lt;go_wp2_with fail
  refine bodyPost_ret (v := .agg #[.bool s4, .slice (some ⟨g4, 0, none⟩) m4 m4]) (by rw [results_cell1 rfl]; go_simp) rfl ⟨_, rfl, ⟨s4, g4, m4, rfl, HN4.out, ?_, Nat.le_trans HLq.out (Nat.le_add_right _ _)⟩, ?_⟩
  ·have := HR4.out
   exact (Z4.out.set _ _ _ (by omega)).set _ _ _ (by omega)
  ·exact bSet (bSet hbw _ _ _ HGr.out) _ _ _ HGr.out
 ·skip
  refine wpJ_two (i := 5) (k := 7) (by kernel_rfl) rfl rfl (by kernel_rfl) (by kernel_rfl) (fun KJ hK => ?_) (fun KJ hK => ?_)
  ·go_simp
   refine (rfshr_any (AX.out.below hbw) NX.out HM.out k HK.out.1 HK.out.2).mono ?_
   rintro e v2 ⟨p2, m2, z2, rfl, hA2, hN2, hl2, hb2⟩;replace Xa := Box.b Xa hb2;replace Xr := Box.b Xr hb2;replace hbw := bon hbw hb2;clear hb2;have A2 := hdQ hA2;have N2 : Hid (Nf B32 z2 (x.natAbs / 2 ^ k) ∧ m2 ≤ m) := ⟨hN2, hl2⟩;clear hA2 hN2 hl2 HJ
   have HJ : Hid ((fun W' : World => W'.cell? ⟨ga, 0, none⟩ = some (.bool true) ∧ W'.cell? ⟨ga, 1, none⟩ = some (.slice p m m)) v2) := ⟨Xa.out.c0, Xa.out.c1⟩
   refine hK _ _ HJ.out ?_
   clear hK
   refine wpJ_two (i := 6) (k := 7) (by kernel_rfl) rfl rfl (by kernel_rfl) (by kernel_rfl) (fun KJ hK => ?_) (fun KJ hK => ?_)
   ·go_simp
    refine (rmk_any true A2.out N2.out.1 (by have := N2.out.2; have := HM.out; omega)).mono ?_
    rintro e v4 ⟨v, rfl, hv, hb4⟩;obtain ⟨s4, g4, m4, rfl, hg4, hz4, hl4⟩ := hv;have HN4 : Hid (w.heap.size ≤ g4) := Nat.le_trans hbw.size hg4;have HR4 : Hid (gr < g4) := Nat.lt_of_lt_of_le Xr.out.lt hg4;replace Xa := Box.b Xa hb4;replace Xr := Box.b Xr hb4;replace A2 := At32.b A2 hb4;replace hbw := bon hbw hb4;clear hb4;have Z4 := hdQ hz4;have HL4 : Hid (m4 ≤ m2) := hl4;clear hz4 hl4 hg4;have HLq : Hid (m4 ≤ m) := Nat.le_trans HL4.out N2.out.2;clear HL4 N2
    refine hK _ _ ⟨Xa.out.c0, Xa.out.c1⟩ ?_
    clear hK
    refine wpJ_on 7 rfl fun KJ hK => ?_
    go_simp;have HDq : Hid (ga ≠ v4.heap.size ∧ gr ≠ v4.heap.size) := ⟨Nat.ne_of_lt Xa.out.lt, Nat.ne_of_lt Xr.out.lt⟩;have HO4q : Hid (OffR g4 m4 v4.heap.size) := Z4.out.off_new;have HDrq : Hid (gr ≠ v4.heap.size) := Nat.ne_of_lt Xr.out.lt;have Xq0 : Hid (Box (v4.alloc (.cells #[.bool false, .slice none 0 0] 56)) v4.heap.size (.bool false) (.slice none 0 0)) := Box.new v4 _ _ _;have hbn : Below v4.heap.size v4 (v4.alloc (.cells #[.bool false, .slice none 0 0] 56)) := below1 v4 _;generalize v4.alloc (.cells #[.bool false, .slice none 0 0] 56) = Wq at *;have HGq : Hid (w.heap.size ≤ v4.heap.size) := hbw.size;replace Xa := Box.b Xa hbn;replace Xr := Box.b Xr hbn;replace A2 := At32.b A2 hbn;replace Z4 := ZR.b Z4 hbn;replace hbw := bon hbw hbn;clear hbn;generalize v4.heap.size = gq at *;have Xq := Xq0;clear Xq0
    refine hK _ _ ⟨Xa.out.c0, Xa.out.c1⟩ ?_
    clear hK;obtain ⟨cq0, cq1, fq0, fq1⟩ := Xq.out;have hneq := Xq.out.lt;obtain ⟨ca0, ca1, fa0, fa1⟩ := Xa.out;have hnea := Xa.out.lt;obtain ⟨cr0, cr1, fr0, fr1⟩ := Xr.out;have hner := Xr.out.lt;have qqa : ga ≠ gq := HDq.out.1
    have qaq : gq ≠ ga := fun h => qqa h.symm
    have qqr : gr ≠ gq := HDq.out.2
    have qrq : gq ≠ gr := fun h => qqr h.symm
    refine wpJ_on 8 rfl fun KJ hK => ?_
    go_simp
    have HJ2 : Hid ((fun W' : World => W'.cell? ⟨ga, 0, none⟩ = some (.bool true) ∧ W'.cell? ⟨ga, 1, none⟩ = some (.slice p m m)) ((Wq.setCell ⟨gq, 0, none⟩ (.bool s4)).setCell ⟨gq, 1, none⟩ (.slice (some ⟨g4, 0, none⟩) m4 m4))) := ⟨by go_simp, by go_simp⟩
    have Xq2 : Hid (Box ((Wq.setCell ⟨gq, 0, none⟩ (.bool s4)).setCell ⟨gq, 1, none⟩ (.slice (some ⟨g4, 0, none⟩) m4 m4)) gq (.bool s4) (.slice (some ⟨g4, 0, none⟩) m4 m4)) := ⟨by go_simp, by go_simp, by go_simp, by go_simp⟩
    have Xa2 : Hid (Box ((Wq.setCell ⟨gq, 0, none⟩ (.bool s4)).setCell ⟨gq, 1, none⟩ (.slice (some ⟨g4, 0, none⟩) m4 m4)) ga (.bool true) (.slice p m m)) := ⟨by go_simp, by go_simp, by go_simp, by go_simp⟩
    have Xr2 : Hid (Box ((Wq.setCell ⟨gq, 0, none⟩ (.bool s4)).setCell ⟨gq, 1, none⟩ (.slice (some ⟨g4, 0, none⟩) m4 m4)) gr (.bool false) (.slice none 0 0)) := ⟨by go_simp, by go_simp, by go_simp, by go_simp⟩
    have Z42 : Hid (ZR ((Wq.setCell ⟨gq, 0, none⟩ (.bool s4)).setCell ⟨gq, 1, none⟩ (.slice (some ⟨g4, 0, none⟩) m4 m4)) s4 (some ⟨g4, 0, none⟩) m4 (iv true (x.natAbs / 2 ^ k))) := (Z4.out.setOff HO4q.out _ _).setOff HO4q.out _ _;have hbw2 : Below w.heap.size w ((Wq.setCell ⟨gq, 0, none⟩ (.bool s4)).setCell ⟨gq, 1, none⟩ (.slice (some ⟨g4, 0, none⟩) m4 m4)) := bSet (bSet hbw _ _ _ HGq.out) _ _ _ HGq.out
    refine hK _ _ HJ2.out ?_
    clear hK HJ;have HJ := HJ2;clear HJ2 hbw A2 Z4 cq0 cq1 fq0 fq1 hneq ca0 ca1 fa0 fa1 hnea cr0 cr1 fr0 fr1 hner qqa qaq qqr qrq Xq Xa Xr;generalize ((Wq.setCell ⟨gq, 0, none⟩ (.bool s4)).setCell ⟨gq, 1, none⟩ (.slice (some ⟨g4, 0, none⟩) m4 m4)) = Ws0 at *;have hbw := hbw2;have Z4 := Z42;have Xq := Xq2;have Xa := Xa2;have Xr := Xr2;clear hbw2 Z42 Xq2 Xa2 Xr2
    refine wpJ_done (by kernel_rfl) ?_ _
    exact ⟨rfl, gq, s4, g4, m4, p2, m2, by kernel_rfl, Xa.out, Xr.out, Xq.out, Z4.out, HLq.out, HN4.out, HR4.out, HDrq.out, hbw⟩
   ·go_simp
    have HDq : Hid (ga ≠ v2.heap.size ∧ gr ≠ v2.heap.size) := ⟨Nat.ne_of_lt Xa.out.lt, Nat.ne_of_lt Xr.out.lt⟩;have HDrq : Hid (gr ≠ v2.heap.size) := Nat.ne_of_lt Xr.out.lt;have Xq0 : Hid (Box (v2.alloc (.cells #[.bool false, .slice none 0 0] 56)) v2.heap.size (.bool false) (.slice none 0 0)) := Box.new v2 _ _ _;have hbn : Below v2.heap.size v2 (v2.alloc (.cells #[.bool false, .slice none 0 0] 56)) := below1 v2 _;generalize v2.alloc (.cells #[.bool false, .slice none 0 0] 56) = Wq at *;have HGq : Hid (w.heap.size ≤ v2.heap.size) := hbw.size;replace Xa := Box.b Xa hbn;replace Xr := Box.b Xr hbn;replace A2 := At32.b A2 hbn;replace hbw := bon hbw hbn;clear hbn;generalize v2.heap.size = gq at *;have Xq := Xq0;clear Xq0
    refine hK _ _ ⟨Xa.out.c0, Xa.out.c1⟩ ?_
    clear hK
    refine wpJ_on 6 rfl fun KJ hK => ?_
    go_simp
    refine (rmk_any true A2.out N2.out.1 (by have := N2.out.2; have := HM.out; omega)).mono ?_
    rintro e v4 ⟨v, rfl, hv, hb4⟩;obtain ⟨s4, g4, m4, rfl, hg4, hz4, hl4⟩ := hv;have HO4q : Hid (OffR g4 m4 gq) := .inr (Nat.ne_of_gt (Nat.lt_of_lt_of_le Xq.out.lt hg4));have HN4 : Hid (w.heap.size ≤ g4) := Nat.le_trans hbw.size hg4;have HR4 : Hid (gr < g4) := Nat.lt_of_lt_of_le Xr.out.lt hg4;replace Xa := Box.b Xa hb4;replace Xr := Box.b Xr hb4;replace Xq := Box.b Xq hb4;replace A2 := At32.b A2 hb4;replace hbw := bon hbw hb4;clear hb4;have Z4 := hdQ hz4;have HL4 : Hid (m4 ≤ m2) := hl4;clear hz4 hl4 hg4;have HLq : Hid (m4 ≤ m) := Nat.le_trans HL4.out N2.out.2;clear HL4 N2
    refine hK _ _ ⟨Xa.out.c0, Xa.out.c1⟩ ?_
    clear hK;obtain ⟨cq0, cq1, fq0, fq1⟩ := Xq.out;have hneq := Xq.out.lt;obtain ⟨ca0, ca1, fa0, fa1⟩ := Xa.out;have hnea := Xa.out.lt;obtain ⟨cr0, cr1, fr0, fr1⟩ := Xr.out;have hner := Xr.out.lt;have qqa : ga ≠ gq := HDq.out.1
    have qaq : gq ≠ ga := fun h => qqa h.symm
    have qqr : gr ≠ gq := HDq.out.2
    have qrq : gq ≠ gr := fun h => qqr h.symm
    refine wpJ_on 8 rfl fun KJ hK => ?_
    go_simp
    have HJ2 : Hid ((fun W' : World => W'.cell? ⟨ga, 0, none⟩ = some (.bool true) ∧ W'.cell? ⟨ga, 1, none⟩ = some (.slice p m m)) ((v4.setCell ⟨gq, 0, none⟩ (.bool s4)).setCell ⟨gq, 1, none⟩ (.slice (some ⟨g4, 0, none⟩) m4 m4))) := ⟨by go_simp, by go_simp⟩
    have Xq2 : Hid (Box ((v4.setCell ⟨gq, 0, none⟩ (.bool s4)).setCell ⟨gq, 1, none⟩ (.slice (some ⟨g4, 0, none⟩) m4 m4)) gq (.bool s4) (.slice (some ⟨g4, 0, none⟩) m4 m4)) := ⟨by go_simp, by go_simp, by go_simp, by go_simp⟩
    have Xa2 : Hid (Box ((v4.setCell ⟨gq, 0, none⟩ (.bool s4)).setCell ⟨gq, 1, none⟩ (.slice (some ⟨g4, 0, none⟩) m4 m4)) ga (.bool true) (.slice p m m)) := ⟨by go_simp, by go_simp, by go_simp, by go_simp⟩
    have Xr2 : Hid (Box ((v4.setCell ⟨gq, 0, none⟩ (.bool s4)).setCell ⟨gq, 1, none⟩ (.slice (some ⟨g4, 0, none⟩) m4 m4)) gr (.bool false) (.slice none 0 0)) := ⟨by go_simp, by go_simp, by go_simp, by go_simp⟩
    have Z42 : Hid (ZR ((v4.setCell ⟨gq, 0, none⟩ (.bool s4)).setCell ⟨gq, 1, none⟩ (.slice (some ⟨g4, 0, none⟩) m4 m4)) s4 (some ⟨g4, 0, none⟩) m4 (iv true (x.natAbs / 2 ^ k))) := (Z4.out.setOff HO4q.out _ _).setOff HO4q.out _ _;have hbw2 : Below w.heap.size w ((v4.setCell ⟨gq, 0, none⟩ (.bool s4)).setCell ⟨gq, 1, none⟩ (.slice (some ⟨g4, 0, none⟩) m4 m4)) := bSet (bSet hbw _ _ _ HGq.out) _ _ _ HGq.out
    refine hK _ _ HJ2.out ?_
    clear hK HJ;have HJ := HJ2;clear HJ2 hbw A2 Z4 cq0 cq1 fq0 fq1 hneq ca0 ca1 fa0 fa1 hnea cr0 cr1 fr0 fr1 hner qqa qaq qqr qrq Xq Xa Xr;generalize ((v4.setCell ⟨gq, 0, none⟩ (.bool s4)).setCell ⟨gq, 1, none⟩ (.slice (some ⟨g4, 0, none⟩) m4 m4)) = Ws0 at *;have hbw := hbw2;have Z4 := Z42;have Xq := Xq2;have Xa := Xa2;have Xr := Xr2;clear hbw2 Z42 Xq2 Xa2 Xr2
    refine wpJ_done (by kernel_rfl) ?_ _
    exact ⟨rfl, gq, s4, g4, m4, p2, m2, by kernel_rfl, Xa.out, Xr.out, Xq.out, Z4.out, HLq.out, HN4.out, HR4.out, HDrq.out, hbw⟩
  ·go_simp
   have HDq : Hid (ga ≠ W1.heap.size ∧ gr ≠ W1.heap.size) := ⟨Nat.ne_of_lt Xa.out.lt, Nat.ne_of_lt Xr.out.lt⟩;have HDrq : Hid (gr ≠ W1.heap.size) := Nat.ne_of_lt Xr.out.lt;have Xq0 : Hid (Box (W1.alloc (.cells #[.bool false, .slice none 0 0] 56)) W1.heap.size (.bool false) (.slice none 0 0)) := Box.new W1 _ _ _;have hbn : Below W1.heap.size W1 (W1.alloc (.cells #[.bool false, .slice none 0 0] 56)) := below1 W1 _;generalize W1.alloc (.cells #[.bool false, .slice none 0 0] 56) = Wq at *;have HGq : Hid (w.heap.size ≤ W1.heap.size) := hbw.size;replace Xa := Box.b Xa hbn;replace Xr := Box.b Xr hbn;replace hbw := bon hbw hbn;clear hbn;generalize W1.heap.size = gq at *;have Xq := Xq0;clear Xq0
   refine hK _ _ ⟨Xa.out.c0, Xa.out.c1⟩ ?_
   clear hK
   refine wpJ_on 5 rfl fun KJ hK => ?_
   go_simp
   refine (rfshr_any (AX.out.below hbw) NX.out HM.out k HK.out.1 HK.out.2).mono ?_
   rintro e v2 ⟨p2, m2, z2, rfl, hA2, hN2, hl2, hb2⟩;replace Xa := Box.b Xa hb2;replace Xr := Box.b Xr hb2;replace Xq := Box.b Xq hb2;replace hbw := bon hbw hb2;clear hb2;have A2 := hdQ hA2;have N2 : Hid (Nf B32 z2 (x.natAbs / 2 ^ k) ∧ m2 ≤ m) := ⟨hN2, hl2⟩;clear hA2 hN2 hl2
   refine hK _ _ ⟨Xa.out.c0, Xa.out.c1⟩ ?_
   clear hK
   refine wpJ_on 6 rfl fun KJ hK => ?_
   go_simp
   refine (rmk_any true A2.out N2.out.1 (by have := N2.out.2; have := HM.out; omega)).mono ?_
   rintro e v4 ⟨v, rfl, hv, hb4⟩;obtain ⟨s4, g4, m4, rfl, hg4, hz4, hl4⟩ := hv;have HO4q : Hid (OffR g4 m4 gq) := .inr (Nat.ne_of_gt (Nat.lt_of_lt_of_le Xq.out.lt hg4));have HN4 : Hid (w.heap.size ≤ g4) := Nat.le_trans hbw.size hg4;have HR4 : Hid (gr < g4) := Nat.lt_of_lt_of_le Xr.out.lt hg4;replace Xa := Box.b Xa hb4;replace Xr := Box.b Xr hb4;replace Xq := Box.b Xq hb4;replace A2 := At32.b A2 hb4;replace hbw := bon hbw hb4;clear hb4;have Z4 := hdQ hz4;have HL4 : Hid (m4 ≤ m2) := hl4;clear hz4 hl4 hg4;have HLq : Hid (m4 ≤ m) := Nat.le_trans HL4.out N2.out.2;clear HL4 N2
   refine hK _ _ ⟨Xa.out.c0, Xa.out.c1⟩ ?_
   clear hK;obtain ⟨cq0, cq1, fq0, fq1⟩ := Xq.out;have hneq := Xq.out.lt;obtain ⟨ca0, ca1, fa0, fa1⟩ := Xa.out;have hnea := Xa.out.lt;obtain ⟨cr0, cr1, fr0, fr1⟩ := Xr.out;have hner := Xr.out.lt;have qqa : ga ≠ gq := HDq.out.1
   have qaq : gq ≠ ga := fun h => qqa h.symm
   have qqr : gr ≠ gq := HDq.out.2
   have qrq : gq ≠ gr := fun h => qqr h.symm
   refine wpJ_on 8 rfl fun KJ hK => ?_
   go_simp
   have HJ2 : Hid ((fun W' : World => W'.cell? ⟨ga, 0, none⟩ = some (.bool true) ∧ W'.cell? ⟨ga, 1, none⟩ = some (.slice p m m)) ((v4.setCell ⟨gq, 0, none⟩ (.bool s4)).setCell ⟨gq, 1, none⟩ (.slice (some ⟨g4, 0, none⟩) m4 m4))) := ⟨by go_simp, by go_simp⟩
   have Xq2 : Hid (Box ((v4.setCell ⟨gq, 0, none⟩ (.bool s4)).setCell ⟨gq, 1, none⟩ (.slice (some ⟨g4, 0, none⟩) m4 m4)) gq (.bool s4) (.slice (some ⟨g4, 0, none⟩) m4 m4)) := ⟨by go_simp, by go_simp, by go_simp, by go_simp⟩
   have Xa2 : Hid (Box ((v4.setCell ⟨gq, 0, none⟩ (.bool s4)).setCell ⟨gq, 1, none⟩ (.slice (some ⟨g4, 0, none⟩) m4 m4)) ga (.bool true) (.slice p m m)) := ⟨by go_simp, by go_simp, by go_simp, by go_simp⟩
   have Xr2 : Hid (Box ((v4.setCell ⟨gq, 0, none⟩ (.bool s4)).setCell ⟨gq, 1, none⟩ (.slice (some ⟨g4, 0, none⟩) m4 m4)) gr (.bool false) (.slice none 0 0)) := ⟨by go_simp, by go_simp, by go_simp, by go_simp⟩
   have Z42 : Hid (ZR ((v4.setCell ⟨gq, 0, none⟩ (.bool s4)).setCell ⟨gq, 1, none⟩ (.slice (some ⟨g4, 0, none⟩) m4 m4)) s4 (some ⟨g4, 0, none⟩) m4 (iv true (x.natAbs / 2 ^ k))) := (Z4.out.setOff HO4q.out _ _).setOff HO4q.out _ _;have hbw2 : Below w.heap.size w ((v4.setCell ⟨gq, 0, none⟩ (.bool s4)).setCell ⟨gq, 1, none⟩ (.slice (some ⟨g4, 0, none⟩) m4 m4)) := bSet (bSet hbw _ _ _ HGq.out) _ _ _ HGq.out
   refine hK _ _ HJ2.out ?_
   clear hK HJ;have HJ := HJ2;clear HJ2 hbw A2 Z4 cq0 cq1 fq0 fq1 hneq ca0 ca1 fa0 fa1 hnea cr0 cr1 fr0 fr1 hner qqa qaq qqr qrq Xq Xa Xr;generalize ((v4.setCell ⟨gq, 0, none⟩ (.bool s4)).setCell ⟨gq, 1, none⟩ (.slice (some ⟨g4, 0, none⟩) m4 m4)) = Ws0 at *;have hbw := hbw2;have Z4 := Z42;have Xq := Xq2;have Xa := Xa2;have Xr := Xr2;clear hbw2 Z42 Xq2 Xa2 Xr2
   refine wpJ_done (by kernel_rfl) ?_ _
   exact ⟨rfl, gq, s4, g4, m4, p2, m2, by kernel_rfl, Xa.out, Xr.out, Xq.out, Z4.out, HLq.out, HN4.out, HR4.out, HDrq.out, hbw⟩
theorem rfloorshr04_n1 {p : Option Addr} {m : Nat} {w : World} {x : Int} (h : ZR w true p m x) (hm : m ≤ 16384) (k : Nat) (hk : 0 < k) (hk2 : k ≤ 9223372036854775807) (hlo : x.natAbs % 2 ^ k ≠ 0) :
  Calls Tryz.prog 150 #[.agg #[.bool true, .slice p m m], .int .i64 k] w fun e w' => ∃ v, e = .returned v ∧ GotR w.heap.size w' v (rFs x k) (m + 4) ∧ Below w.heap.size w w' := by
 obtain ⟨xs, hAx, hNx⟩ := h.ex;have HA := hdQ h;have AX := hdQ hAx;have NX := hdQ hNx;have HM : Hid (m ≤ 16384) := hm;have HK : Hid (0 < k ∧ k ≤ 9223372036854775807) := ⟨hk, hk2⟩
 have h1 : ¬ (k : Int) ≤ 0 := by omega
 have HLO : Hid (x.natAbs % 2 ^ k ≠ 0) := hlo
 have HRV : Hid (rFs x k = iv true (x.natAbs / 2 ^ k) - 1) := by show _ = _; unfold rFs fl; rw [← HA.out.sg, decide_eq_true HLO.out]; simp [iv]; omega
 rw [HRV.out];clear HRV h hm hAx hNx hk hk2 hlo
 go_enter Tryz.func150, Tryz.ntmps150
 go_wp2_with fail;obtain ⟨W0, hW0⟩ := exq ((w.alloc (.cells #[.bool true, .slice p m m] 56)).alloc (.cells #[.bool false, .slice none 0 0] 56))
 have Xa : Hid (Box W0 (w.heap.size) (.bool true) (.slice p m m)) := by rw [hW0]; constructor <;> go_simp
 have Xr : Hid (Box W0 (w.heap.size + 1) (.bool false) (.slice none 0 0)) := by rw [hW0]; constructor <;> go_simp
 have hb0 := bq2 hW0;rw [← hW0];clear hW0;have hbw := brf w;obtain ⟨gr, hgr⟩ := exq (w.heap.size + 1);have HGr : Hid (w.heap.size ≤ gr) := hgl hgr;rw [← hgr] at Xr
 try rw [← hgr]
 obtain ⟨ga, hga⟩ := exq w.heap.size;have HGa : Hid (w.heap.size ≤ ga) := hgl hga;rw [← hga] at Xa
 try rw [← hga]
 have HGD : Hid (ga ≠ gr ∧ gr ≠ ga) := by rw [hga, hgr]; show _ ∧ _; omega
 clear hga hgr;replace hbw := bon hbw hb0;clear hb0;obtain ⟨W1, hW1⟩ := exq W0.drew
 have hbd : Below W0.heap.size W0 W1 := by rw [hW1]; exact bDrew1 (Below.refl _ _)
 replace Xa := Box.b Xa hbd;replace Xr := Box.b Xr hbd;replace hbw := bon hbw hbd;clear hbd
 have HJ : Hid ((fun W' : World => W'.cell? ⟨ga, 0, none⟩ = some (.bool true) ∧ W'.cell? ⟨ga, 1, none⟩ = some (.slice p m m)) W1) := ⟨Xa.out.c0, Xa.out.c1⟩
 refine wp_region_J (fun W' => W'.cell? ⟨ga, 0, none⟩ = some (.bool true) ∧ W'.cell? ⟨ga, 1, none⟩ = some (.slice p m m)) (by kernel_rfl) ?_
 rw [← hW1];clear hW1
 refine wpJ_tq 0 rfl HJ.out ?_
 refine wpJ_tq 1 rfl HJ.out ?_
 refine wpJ_tq 2 rfl HJ.out ?_
 refine wpJ_tq 3 rfl HJ.out ?_
 refine wpJ_tq 4 rfl HJ.out ?_
 refine wpJ_cutA (fun a0 a' W' => ∃ gq s4 g4 m4 p2 m2, a' = (((a0.put (some 18) (.slice p2 m2 m2)).put (some 19) (.agg #[.bool s4, .slice (some ⟨g4, 0, none⟩) m4 m4])).put (some 5) (.pointer (some ⟨gq, 0, none⟩))) ∧ Box W' ga (.bool true) (.slice p m m) ∧ Box W' gr (.bool false) (.slice none 0 0) ∧ Box W' gq (.bool s4) (.slice (some ⟨g4, 0, none⟩) m4 m4) ∧ ZR W' s4 (some ⟨g4, 0, none⟩) m4 (iv true (x.natAbs / 2 ^ k)) ∧ m4 ≤ m ∧ w.heap.size ≤ g4 ∧ gr < g4 ∧ gr ≠ gq ∧ Below w.heap.size w W') ?_ ?_
 ·rintro a' Wc ⟨gq, s4, g4, m4, p2, m2, rfl, xa, xr, xq, z4, hHLq, hHN4, hHR4, hHDrq, hbc⟩
  have Ca := hdQ xa;have Cr := hdQ xr;have Cq := hdQ xq;have Z4 := hdQ z4;have HLq : Hid (m4 ≤ m) := hHLq;have HN4 : Hid (w.heap.size ≤ g4) := hHN4;have HR4 : Hid (gr < g4) := hHR4;have HDrq : Hid (gr ≠ gq) := hHDrq;clear hbw HJ Xa Xr xa xr xq z4 hHLq hHN4 hHR4 hHDrq;have hbw := hbc;have Xa := Ca;have Xr := Cr;have Xq := Cq;clear hbc Ca Cr Cq;obtain ⟨ca0, ca1, fa0, fa1⟩ := Xa.out;have hnea := Xa.out.lt;go_wp2_with fail;clear ca0 ca1 fa0 fa1 hnea
  refine (rlow_any (AX.out.below hbw) NX.out HM.out k HK.out.1 HK.out.2).mono ?_
  rintro e v5 ⟨p5, m5, z5, rfl, hA5, hN5, hl5, hb5⟩;replace Xa := Box.b Xa hb5;replace Xr := Box.b Xr hb5;replace Xq := Box.b Xq hb5;replace Z4 := ZR.b Z4 hb5;replace hbw := bon hbw hb5;clear hb5
  have hm5 : m5 ≠ 0 := by
   have h6 := hN5.zero_iff B32_one;have h7 := hA5.len;have h8 := HLO.out
   intro e5
   exact h8 (h6.1 (List.eq_nil_of_length_eq_zero (by omega)))
  clear hA5 hN5 hl5
  have hm6 : (0 : Int) < (m5 : Int) := by omega
  have hm7 : 0 < m5 := by omega
  clear hm5;go_wp2_with fail;clear hm6 hm7;obtain ⟨W7, hW7⟩ := exq v5.drew
  have hbd : Below v5.heap.size v5 W7 := by rw [hW7]; exact bDrew1 (Below.refl _ _)
  replace Xa := Box.b Xa hbd;replace Xr := Box.b Xr hbd;replace Xq := Box.b Xq hbd;replace Z4 := ZR.b Z4 hbd;replace hbw := bon hbw hbd;clear hbd
  have HJ : Hid ((fun W' : World => W'.cell? ⟨gq, 0, none⟩ = some (.bool s4) ∧ W'.cell? ⟨gq, 1, none⟩ = some (.slice (some ⟨g4, 0, none⟩) m4 m4)) W7) := ⟨Xq.out.c0, Xq.out.c1⟩
  refine wp_region_J (fun W' => W'.cell? ⟨gq, 0, none⟩ = some (.bool s4) ∧ W'.cell? ⟨gq, 1, none⟩ = some (.slice (some ⟨g4, 0, none⟩) m4 m4)) (by kernel_rfl) ?_
  rw [← hW7];clear hW7
  refine wpJ_tq 0 rfl HJ.out ?_
  refine wpJ_on 1 rfl fun KJ hK => ?_
  go_simp
  refine (rof04 1 _ (by decide) (by decide)).mono ?_
  rintro e v6 ⟨s6, g6, m6, rfl, hz6, hl6, hb6⟩;replace Xa := Box.b Xa hb6;replace Xr := Box.b Xr hb6;replace Xq := Box.b Xq hb6;replace Z4 := ZR.b Z4 hb6;replace hbw := bon hbw hb6;clear hb6;have Z6 := hdQ hz6;have HL6 : Hid (m6 ≤ 3) := hl6;clear hz6 hl6
  refine hK _ _ ⟨Xq.out.c0, Xq.out.c1⟩ ?_
  clear hK;have HRB : Hid (gr < v6.heap.size ∧ w.heap.size ≤ v6.heap.size) := ⟨Xr.out.lt, hbw.size⟩
  refine wpJ_on 2 rfl fun KJ hK => ?_
  go_simp
  refine (rsub04 s4 s6 Z4.out Z6.out (by have := HLq.out; have := HM.out; omega) (by have := HL6.out; omega)).mono ?_
  rintro e v9 ⟨v, rfl, hv, hb9⟩;obtain ⟨s9, g9, m9, rfl, hg9, hz9, hl9⟩ := hv;have HN9 : Hid (v6.heap.size ≤ g9) := hg9;replace Xa := Box.b Xa hb9;replace Xr := Box.b Xr hb9;replace Xq := Box.b Xq hb9;replace Z4 := ZR.b Z4 hb9;replace Z6 := ZR.b Z6 hb9;replace hbw := bon hbw hb9;clear hb9;have Z9 := hdQ hz9;have HL9 : Hid (m9 ≤ max m4 m6 + 1) := hl9;clear hz9 hl9 hg9
  refine hK _ _ ⟨Xq.out.c0, Xq.out.c1⟩ ?_
  clear hK;have hq1 := HDrq.out
  have hq2 : gq ≠ gr := fun h => hq1 h.symm
  obtain ⟨cr0, cr1, fr0, fr1⟩ := Xr.out;have hner := Xr.out.lt;obtain ⟨cq0, cq1, fq0, fq1⟩ := Xq.out;have hneq := Xq.out.lt;obtain ⟨hgd0, hgd1⟩ := HGD.out
  refine wpJ_on 3 rfl fun KJ hK => ?_
  go_simp
  have HJ2 : Hid ((fun W' : World => W'.cell? ⟨gq, 0, none⟩ = some (.bool s4) ∧ W'.cell? ⟨gq, 1, none⟩ = some (.slice (some ⟨g4, 0, none⟩) m4 m4)) ((v9.setCell ⟨gr, 0, none⟩ (.bool s9)).setCell ⟨gr, 1, none⟩ (.slice (some ⟨g9, 0, none⟩) m9 m9))) := ⟨by go_simp, by go_simp⟩
  refine hK _ _ HJ2.out ?_
  clear hK HJ;have HJ := HJ2;clear HJ2
  refine wpJ_done (by kernel_rfl) ?_ _
  clear HJ;go_wp2_with fail
  refine bodyPost_ret (v := .agg #[.bool s9, .slice (some ⟨g9, 0, none⟩) m9 m9]) (by rw [results_cell1 rfl]; go_simp) rfl ⟨_, rfl, ⟨s9, g9, m9, rfl, Nat.le_trans HRB.out.2 HN9.out, ?_, ?_⟩, ?_⟩
  ·have := HN9.out; have := HRB.out.1
   exact (Z9.out.set _ _ _ (by omega)).set _ _ _ (by omega)
  ·have := HL9.out; have := HL6.out; have := HLq.out; omega
  ·exact bSet (bSet hbw _ _ _ HGr.out) _ _ _ HGr.out
 ·skip
  refine wpJ_two (i := 5) (k := 7) (by kernel_rfl) rfl rfl (by kernel_rfl) (by kernel_rfl) (fun KJ hK => ?_) (fun KJ hK => ?_)
  ·go_simp
   refine (rfshr_any (AX.out.below hbw) NX.out HM.out k HK.out.1 HK.out.2).mono ?_
   rintro e v2 ⟨p2, m2, z2, rfl, hA2, hN2, hl2, hb2⟩;replace Xa := Box.b Xa hb2;replace Xr := Box.b Xr hb2;replace hbw := bon hbw hb2;clear hb2;have A2 := hdQ hA2;have N2 : Hid (Nf B32 z2 (x.natAbs / 2 ^ k) ∧ m2 ≤ m) := ⟨hN2, hl2⟩;clear hA2 hN2 hl2 HJ
   have HJ : Hid ((fun W' : World => W'.cell? ⟨ga, 0, none⟩ = some (.bool true) ∧ W'.cell? ⟨ga, 1, none⟩ = some (.slice p m m)) v2) := ⟨Xa.out.c0, Xa.out.c1⟩
   refine hK _ _ HJ.out ?_
   clear hK
   refine wpJ_two (i := 6) (k := 7) (by kernel_rfl) rfl rfl (by kernel_rfl) (by kernel_rfl) (fun KJ hK => ?_) (fun KJ hK => ?_)
   ·go_simp
    refine (rmk_any true A2.out N2.out.1 (by have := N2.out.2; have := HM.out; omega)).mono ?_
    rintro e v4 ⟨v, rfl, hv, hb4⟩;obtain ⟨s4, g4, m4, rfl, hg4, hz4, hl4⟩ := hv;have HN4 : Hid (w.heap.size ≤ g4) := Nat.le_trans hbw.size hg4;have HR4 : Hid (gr < g4) := Nat.lt_of_lt_of_le Xr.out.lt hg4;replace Xa := Box.b Xa hb4;replace Xr := Box.b Xr hb4;replace A2 := At32.b A2 hb4;replace hbw := bon hbw hb4;clear hb4;have Z4 := hdQ hz4;have HL4 : Hid (m4 ≤ m2) := hl4;clear hz4 hl4 hg4;have HLq : Hid (m4 ≤ m) := Nat.le_trans HL4.out N2.out.2;clear HL4 N2
    refine hK _ _ ⟨Xa.out.c0, Xa.out.c1⟩ ?_
    clear hK
    refine wpJ_on 7 rfl fun KJ hK => ?_
    go_simp;have HDq : Hid (ga ≠ v4.heap.size ∧ gr ≠ v4.heap.size) := ⟨Nat.ne_of_lt Xa.out.lt, Nat.ne_of_lt Xr.out.lt⟩;have HO4q : Hid (OffR g4 m4 v4.heap.size) := Z4.out.off_new;have HDrq : Hid (gr ≠ v4.heap.size) := Nat.ne_of_lt Xr.out.lt;have Xq0 : Hid (Box (v4.alloc (.cells #[.bool false, .slice none 0 0] 56)) v4.heap.size (.bool false) (.slice none 0 0)) := Box.new v4 _ _ _;have hbn : Below v4.heap.size v4 (v4.alloc (.cells #[.bool false, .slice none 0 0] 56)) := below1 v4 _;generalize v4.alloc (.cells #[.bool false, .slice none 0 0] 56) = Wq at *;have HGq : Hid (w.heap.size ≤ v4.heap.size) := hbw.size;replace Xa := Box.b Xa hbn;replace Xr := Box.b Xr hbn;replace A2 := At32.b A2 hbn;replace Z4 := ZR.b Z4 hbn;replace hbw := bon hbw hbn;clear hbn;generalize v4.heap.size = gq at *;have Xq := Xq0;clear Xq0
    refine hK _ _ ⟨Xa.out.c0, Xa.out.c1⟩ ?_
    clear hK;obtain ⟨cq0, cq1, fq0, fq1⟩ := Xq.out;have hneq := Xq.out.lt;obtain ⟨ca0, ca1, fa0, fa1⟩ := Xa.out;have hnea := Xa.out.lt;obtain ⟨cr0, cr1, fr0, fr1⟩ := Xr.out;have hner := Xr.out.lt;have qqa : ga ≠ gq := HDq.out.1
    have qaq : gq ≠ ga := fun h => qqa h.symm
    have qqr : gr ≠ gq := HDq.out.2
    have qrq : gq ≠ gr := fun h => qqr h.symm
    refine wpJ_on 8 rfl fun KJ hK => ?_
    go_simp
    have HJ2 : Hid ((fun W' : World => W'.cell? ⟨ga, 0, none⟩ = some (.bool true) ∧ W'.cell? ⟨ga, 1, none⟩ = some (.slice p m m)) ((Wq.setCell ⟨gq, 0, none⟩ (.bool s4)).setCell ⟨gq, 1, none⟩ (.slice (some ⟨g4, 0, none⟩) m4 m4))) := ⟨by go_simp, by go_simp⟩
    have Xq2 : Hid (Box ((Wq.setCell ⟨gq, 0, none⟩ (.bool s4)).setCell ⟨gq, 1, none⟩ (.slice (some ⟨g4, 0, none⟩) m4 m4)) gq (.bool s4) (.slice (some ⟨g4, 0, none⟩) m4 m4)) := ⟨by go_simp, by go_simp, by go_simp, by go_simp⟩
    have Xa2 : Hid (Box ((Wq.setCell ⟨gq, 0, none⟩ (.bool s4)).setCell ⟨gq, 1, none⟩ (.slice (some ⟨g4, 0, none⟩) m4 m4)) ga (.bool true) (.slice p m m)) := ⟨by go_simp, by go_simp, by go_simp, by go_simp⟩
    have Xr2 : Hid (Box ((Wq.setCell ⟨gq, 0, none⟩ (.bool s4)).setCell ⟨gq, 1, none⟩ (.slice (some ⟨g4, 0, none⟩) m4 m4)) gr (.bool false) (.slice none 0 0)) := ⟨by go_simp, by go_simp, by go_simp, by go_simp⟩
    have Z42 : Hid (ZR ((Wq.setCell ⟨gq, 0, none⟩ (.bool s4)).setCell ⟨gq, 1, none⟩ (.slice (some ⟨g4, 0, none⟩) m4 m4)) s4 (some ⟨g4, 0, none⟩) m4 (iv true (x.natAbs / 2 ^ k))) := (Z4.out.setOff HO4q.out _ _).setOff HO4q.out _ _;have hbw2 : Below w.heap.size w ((Wq.setCell ⟨gq, 0, none⟩ (.bool s4)).setCell ⟨gq, 1, none⟩ (.slice (some ⟨g4, 0, none⟩) m4 m4)) := bSet (bSet hbw _ _ _ HGq.out) _ _ _ HGq.out
    refine hK _ _ HJ2.out ?_
    clear hK HJ;have HJ := HJ2;clear HJ2 hbw A2 Z4 cq0 cq1 fq0 fq1 hneq ca0 ca1 fa0 fa1 hnea cr0 cr1 fr0 fr1 hner qqa qaq qqr qrq Xq Xa Xr;generalize ((Wq.setCell ⟨gq, 0, none⟩ (.bool s4)).setCell ⟨gq, 1, none⟩ (.slice (some ⟨g4, 0, none⟩) m4 m4)) = Ws0 at *;have hbw := hbw2;have Z4 := Z42;have Xq := Xq2;have Xa := Xa2;have Xr := Xr2;clear hbw2 Z42 Xq2 Xa2 Xr2
    refine wpJ_done (by kernel_rfl) ?_ _
    exact ⟨rfl, gq, s4, g4, m4, p2, m2, by kernel_rfl, Xa.out, Xr.out, Xq.out, Z4.out, HLq.out, HN4.out, HR4.out, HDrq.out, hbw⟩
   ·go_simp
    have HDq : Hid (ga ≠ v2.heap.size ∧ gr ≠ v2.heap.size) := ⟨Nat.ne_of_lt Xa.out.lt, Nat.ne_of_lt Xr.out.lt⟩;have HDrq : Hid (gr ≠ v2.heap.size) := Nat.ne_of_lt Xr.out.lt;have Xq0 : Hid (Box (v2.alloc (.cells #[.bool false, .slice none 0 0] 56)) v2.heap.size (.bool false) (.slice none 0 0)) := Box.new v2 _ _ _;have hbn : Below v2.heap.size v2 (v2.alloc (.cells #[.bool false, .slice none 0 0] 56)) := below1 v2 _;generalize v2.alloc (.cells #[.bool false, .slice none 0 0] 56) = Wq at *;have HGq : Hid (w.heap.size ≤ v2.heap.size) := hbw.size;replace Xa := Box.b Xa hbn;replace Xr := Box.b Xr hbn;replace A2 := At32.b A2 hbn;replace hbw := bon hbw hbn;clear hbn;generalize v2.heap.size = gq at *;have Xq := Xq0;clear Xq0
    refine hK _ _ ⟨Xa.out.c0, Xa.out.c1⟩ ?_
    clear hK
    refine wpJ_on 6 rfl fun KJ hK => ?_
    go_simp
    refine (rmk_any true A2.out N2.out.1 (by have := N2.out.2; have := HM.out; omega)).mono ?_
    rintro e v4 ⟨v, rfl, hv, hb4⟩;obtain ⟨s4, g4, m4, rfl, hg4, hz4, hl4⟩ := hv;have HO4q : Hid (OffR g4 m4 gq) := .inr (Nat.ne_of_gt (Nat.lt_of_lt_of_le Xq.out.lt hg4));have HN4 : Hid (w.heap.size ≤ g4) := Nat.le_trans hbw.size hg4;have HR4 : Hid (gr < g4) := Nat.lt_of_lt_of_le Xr.out.lt hg4;replace Xa := Box.b Xa hb4;replace Xr := Box.b Xr hb4;replace Xq := Box.b Xq hb4;replace A2 := At32.b A2 hb4;replace hbw := bon hbw hb4;clear hb4;have Z4 := hdQ hz4;have HL4 : Hid (m4 ≤ m2) := hl4;clear hz4 hl4 hg4;have HLq : Hid (m4 ≤ m) := Nat.le_trans HL4.out N2.out.2;clear HL4 N2
    refine hK _ _ ⟨Xa.out.c0, Xa.out.c1⟩ ?_
    clear hK;obtain ⟨cq0, cq1, fq0, fq1⟩ := Xq.out;have hneq := Xq.out.lt;obtain ⟨ca0, ca1, fa0, fa1⟩ := Xa.out;have hnea := Xa.out.lt;obtain ⟨cr0, cr1, fr0, fr1⟩ := Xr.out;have hner := Xr.out.lt;have qqa : ga ≠ gq := HDq.out.1
    have qaq : gq ≠ ga := fun h => qqa h.symm
    have qqr : gr ≠ gq := HDq.out.2
    have qrq : gq ≠ gr := fun h => qqr h.symm
    refine wpJ_on 8 rfl fun KJ hK => ?_
    go_simp
    have HJ2 : Hid ((fun W' : World => W'.cell? ⟨ga, 0, none⟩ = some (.bool true) ∧ W'.cell? ⟨ga, 1, none⟩ = some (.slice p m m)) ((v4.setCell ⟨gq, 0, none⟩ (.bool s4)).setCell ⟨gq, 1, none⟩ (.slice (some ⟨g4, 0, none⟩) m4 m4))) := ⟨by go_simp, by go_simp⟩
    have Xq2 : Hid (Box ((v4.setCell ⟨gq, 0, none⟩ (.bool s4)).setCell ⟨gq, 1, none⟩ (.slice (some ⟨g4, 0, none⟩) m4 m4)) gq (.bool s4) (.slice (some ⟨g4, 0, none⟩) m4 m4)) := ⟨by go_simp, by go_simp, by go_simp, by go_simp⟩
    have Xa2 : Hid (Box ((v4.setCell ⟨gq, 0, none⟩ (.bool s4)).setCell ⟨gq, 1, none⟩ (.slice (some ⟨g4, 0, none⟩) m4 m4)) ga (.bool true) (.slice p m m)) := ⟨by go_simp, by go_simp, by go_simp, by go_simp⟩
    have Xr2 : Hid (Box ((v4.setCell ⟨gq, 0, none⟩ (.bool s4)).setCell ⟨gq, 1, none⟩ (.slice (some ⟨g4, 0, none⟩) m4 m4)) gr (.bool false) (.slice none 0 0)) := ⟨by go_simp, by go_simp, by go_simp, by go_simp⟩
    have Z42 : Hid (ZR ((v4.setCell ⟨gq, 0, none⟩ (.bool s4)).setCell ⟨gq, 1, none⟩ (.slice (some ⟨g4, 0, none⟩) m4 m4)) s4 (some ⟨g4, 0, none⟩) m4 (iv true (x.natAbs / 2 ^ k))) := (Z4.out.setOff HO4q.out _ _).setOff HO4q.out _ _;have hbw2 : Below w.heap.size w ((v4.setCell ⟨gq, 0, none⟩ (.bool s4)).setCell ⟨gq, 1, none⟩ (.slice (some ⟨g4, 0, none⟩) m4 m4)) := bSet (bSet hbw _ _ _ HGq.out) _ _ _ HGq.out
    refine hK _ _ HJ2.out ?_
    clear hK HJ;have HJ := HJ2;clear HJ2 hbw A2 Z4 cq0 cq1 fq0 fq1 hneq ca0 ca1 fa0 fa1 hnea cr0 cr1 fr0 fr1 hner qqa qaq qqr qrq Xq Xa Xr;generalize ((v4.setCell ⟨gq, 0, none⟩ (.bool s4)).setCell ⟨gq, 1, none⟩ (.slice (some ⟨g4, 0, none⟩) m4 m4)) = Ws0 at *;have hbw := hbw2;have Z4 := Z42;have Xq := Xq2;have Xa := Xa2;have Xr := Xr2;clear hbw2 Z42 Xq2 Xa2 Xr2
    refine wpJ_done (by kernel_rfl) ?_ _
    exact ⟨rfl, gq, s4, g4, m4, p2, m2, by kernel_rfl, Xa.out, Xr.out, Xq.out, Z4.out, HLq.out, HN4.out, HR4.out, HDrq.out, hbw⟩
  ·go_simp
   have HDq : Hid (ga ≠ W1.heap.size ∧ gr ≠ W1.heap.size) := ⟨Nat.ne_of_lt Xa.out.lt, Nat.ne_of_lt Xr.out.lt⟩;have HDrq : Hid (gr ≠ W1.heap.size) := Nat.ne_of_lt Xr.out.lt;have Xq0 : Hid (Box (W1.alloc (.cells #[.bool false, .slice none 0 0] 56)) W1.heap.size (.bool false) (.slice none 0 0)) := Box.new W1 _ _ _;have hbn : Below W1.heap.size W1 (W1.alloc (.cells #[.bool false, .slice none 0 0] 56)) := below1 W1 _;generalize W1.alloc (.cells #[.bool false, .slice none 0 0] 56) = Wq at *;have HGq : Hid (w.heap.size ≤ W1.heap.size) := hbw.size;replace Xa := Box.b Xa hbn;replace Xr := Box.b Xr hbn;replace hbw := bon hbw hbn;clear hbn;generalize W1.heap.size = gq at *;have Xq := Xq0;clear Xq0
   refine hK _ _ ⟨Xa.out.c0, Xa.out.c1⟩ ?_
   clear hK
   refine wpJ_on 5 rfl fun KJ hK => ?_
   go_simp
   refine (rfshr_any (AX.out.below hbw) NX.out HM.out k HK.out.1 HK.out.2).mono ?_
   rintro e v2 ⟨p2, m2, z2, rfl, hA2, hN2, hl2, hb2⟩;replace Xa := Box.b Xa hb2;replace Xr := Box.b Xr hb2;replace Xq := Box.b Xq hb2;replace hbw := bon hbw hb2;clear hb2;have A2 := hdQ hA2;have N2 : Hid (Nf B32 z2 (x.natAbs / 2 ^ k) ∧ m2 ≤ m) := ⟨hN2, hl2⟩;clear hA2 hN2 hl2
   refine hK _ _ ⟨Xa.out.c0, Xa.out.c1⟩ ?_
   clear hK
   refine wpJ_on 6 rfl fun KJ hK => ?_
   go_simp
   refine (rmk_any true A2.out N2.out.1 (by have := N2.out.2; have := HM.out; omega)).mono ?_
   rintro e v4 ⟨v, rfl, hv, hb4⟩;obtain ⟨s4, g4, m4, rfl, hg4, hz4, hl4⟩ := hv;have HO4q : Hid (OffR g4 m4 gq) := .inr (Nat.ne_of_gt (Nat.lt_of_lt_of_le Xq.out.lt hg4));have HN4 : Hid (w.heap.size ≤ g4) := Nat.le_trans hbw.size hg4;have HR4 : Hid (gr < g4) := Nat.lt_of_lt_of_le Xr.out.lt hg4;replace Xa := Box.b Xa hb4;replace Xr := Box.b Xr hb4;replace Xq := Box.b Xq hb4;replace A2 := At32.b A2 hb4;replace hbw := bon hbw hb4;clear hb4;have Z4 := hdQ hz4;have HL4 : Hid (m4 ≤ m2) := hl4;clear hz4 hl4 hg4;have HLq : Hid (m4 ≤ m) := Nat.le_trans HL4.out N2.out.2;clear HL4 N2
   refine hK _ _ ⟨Xa.out.c0, Xa.out.c1⟩ ?_
   clear hK;obtain ⟨cq0, cq1, fq0, fq1⟩ := Xq.out;have hneq := Xq.out.lt;obtain ⟨ca0, ca1, fa0, fa1⟩ := Xa.out;have hnea := Xa.out.lt;obtain ⟨cr0, cr1, fr0, fr1⟩ := Xr.out;have hner := Xr.out.lt;have qqa : ga ≠ gq := HDq.out.1
   have qaq : gq ≠ ga := fun h => qqa h.symm
   have qqr : gr ≠ gq := HDq.out.2
   have qrq : gq ≠ gr := fun h => qqr h.symm
   refine wpJ_on 8 rfl fun KJ hK => ?_
   go_simp
   have HJ2 : Hid ((fun W' : World => W'.cell? ⟨ga, 0, none⟩ = some (.bool true) ∧ W'.cell? ⟨ga, 1, none⟩ = some (.slice p m m)) ((v4.setCell ⟨gq, 0, none⟩ (.bool s4)).setCell ⟨gq, 1, none⟩ (.slice (some ⟨g4, 0, none⟩) m4 m4))) := ⟨by go_simp, by go_simp⟩
   have Xq2 : Hid (Box ((v4.setCell ⟨gq, 0, none⟩ (.bool s4)).setCell ⟨gq, 1, none⟩ (.slice (some ⟨g4, 0, none⟩) m4 m4)) gq (.bool s4) (.slice (some ⟨g4, 0, none⟩) m4 m4)) := ⟨by go_simp, by go_simp, by go_simp, by go_simp⟩
   have Xa2 : Hid (Box ((v4.setCell ⟨gq, 0, none⟩ (.bool s4)).setCell ⟨gq, 1, none⟩ (.slice (some ⟨g4, 0, none⟩) m4 m4)) ga (.bool true) (.slice p m m)) := ⟨by go_simp, by go_simp, by go_simp, by go_simp⟩
   have Xr2 : Hid (Box ((v4.setCell ⟨gq, 0, none⟩ (.bool s4)).setCell ⟨gq, 1, none⟩ (.slice (some ⟨g4, 0, none⟩) m4 m4)) gr (.bool false) (.slice none 0 0)) := ⟨by go_simp, by go_simp, by go_simp, by go_simp⟩
   have Z42 : Hid (ZR ((v4.setCell ⟨gq, 0, none⟩ (.bool s4)).setCell ⟨gq, 1, none⟩ (.slice (some ⟨g4, 0, none⟩) m4 m4)) s4 (some ⟨g4, 0, none⟩) m4 (iv true (x.natAbs / 2 ^ k))) := (Z4.out.setOff HO4q.out _ _).setOff HO4q.out _ _;have hbw2 : Below w.heap.size w ((v4.setCell ⟨gq, 0, none⟩ (.bool s4)).setCell ⟨gq, 1, none⟩ (.slice (some ⟨g4, 0, none⟩) m4 m4)) := bSet (bSet hbw _ _ _ HGq.out) _ _ _ HGq.out
   refine hK _ _ HJ2.out ?_
   clear hK HJ;have HJ := HJ2;clear HJ2 hbw A2 Z4 cq0 cq1 fq0 fq1 hneq ca0 ca1 fa0 fa1 hnea cr0 cr1 fr0 fr1 hner qqa qaq qqr qrq Xq Xa Xr;generalize ((v4.setCell ⟨gq, 0, none⟩ (.bool s4)).setCell ⟨gq, 1, none⟩ (.slice (some ⟨g4, 0, none⟩) m4 m4)) = Ws0 at *;have hbw := hbw2;have Z4 := Z42;have Xq := Xq2;have Xa := Xa2;have Xr := Xr2;clear hbw2 Z42 Xq2 Xa2 Xr2
   refine wpJ_done (by kernel_rfl) ?_ _
   exact ⟨rfl, gq, s4, g4, m4, p2, m2, by kernel_rfl, Xa.out, Xr.out, Xq.out, Z4.out, HLq.out, HN4.out, HR4.out, HDrq.out, hbw⟩
theorem rfloorshr04 {p : Option Addr} {m : Nat} {w : World} {x : Int} (s : Bool) (h : ZR w s p m x) (hm : m ≤ 16384) (k : Nat) (hk : k ≤ 9223372036854775807) :
  Calls Tryz.prog 150 #[.agg #[.bool s, .slice p m m], .int .i64 k] w fun e w' => ∃ v, e = .returned v ∧ GotR w.heap.size w' v (rFs x k) (m + 4) ∧ Below w.heap.size w w' := by
 rcases Nat.eq_zero_or_pos k with rfl | h0
 ·rw [rFs_zero]
  exact rfloorshr04_z s h hm
 ·cases s
  ·exact rfloorshr04_p h hm k h0 hk
  ·by_cases hl : x.natAbs % 2 ^ k = 0
   ·exact rfloorshr04_n0 h hm k h0 hk hl
   ·exact rfloorshr04_n1 h hm k h0 hk hl
theorem results_cell2 {fn : Func} {p u : Tmp} {ty ty2 : TypeId} (h : fn.results = #[.cell p ty, .cell u ty2]) (tmps : Array Value) (P : Program) (w : World) :
  (results fn tmps).run P w = ((asAddr (tmps.getD p undef)).run P w).andThen fun a w₁ => ((loadVar ty a).run P w₁).andThen fun v w₂ => ((asAddr (tmps.getD u undef)).run P w₂).andThen fun b w₃ => ((loadVar ty2 b).run P w₃).andThen fun v2 w₄ => .ok (.tuple #[v, v2]) w₄ := by
 simp only [results, h]
 simp [Sem.run_bind, Result.andThen]
theorem rfloor04_p {p q : Option Addr} {m n : Nat} {w : World} {x y : Int} (h : ZR w false p m x) (k : ZR w false q n y) (hm : m ≤ 16384) (hn : n ≤ 40000) (hy : 0 < y) :
  Calls Tryz.prog 151 #[.agg #[.bool false, .slice p m m], .agg #[.bool false, .slice q n n]] w fun e w' => ∃ s1 g1 m1 s2 g2 m2, e = .returned (.tuple #[.agg #[.bool s1, .slice (some ⟨g1, 0, none⟩) m1 m1], .agg #[.bool s2, .slice (some ⟨g2, 0, none⟩) m2 m2]]) ∧ w.heap.size ≤ g1 ∧ w.heap.size ≤ g2 ∧ ZR w' s1 (some ⟨g1, 0, none⟩) m1 (rFd x y) ∧ ZR w' s2 (some ⟨g2, 0, none⟩) m2 (rMo x y) ∧ m1 ≤ 20000 ∧ m2 ≤ 40000 ∧ Below w.heap.size w w' := by
 have hyd : decide (y < 0) = false := decide_eq_false (by omega)
 have HQ : Hid (rFd x y = iv false (x.natAbs / y.natAbs)) := by show _ = _; unfold rFd fl; rw [← h.sg, hyd]; simp
 have HR : Hid (rMo x y = iv false (x.natAbs % y.natAbs)) := by show _ = _; unfold rMo mo; rw [← h.sg, hyd]; simp
 rw [HQ.out, HR.out];clear HQ HR hyd;obtain ⟨xs, hAx, hNx⟩ := h.ex;obtain ⟨ys, hAy, hNy⟩ := k.ex;have HZ := hdQ k;have AX : Hid (At32 w p m m xs ∧ At32 w q n n ys) := ⟨hAx, hAy⟩;have NX : Hid (Nf B32 xs x.natAbs ∧ Nf B32 ys y.natAbs) := ⟨hNx, hNy⟩;have HM : Hid (m ≤ 16384 ∧ n ≤ 40000 ∧ 0 < y) := ⟨hm, hn, hy⟩;clear h k hm hn hy hAx hAy hNx hNy
 go_enter Tryz.func151, Tryz.ntmps151
 go_wp2_with fail;obtain ⟨W0, hW0⟩ := exq ((((w.alloc (.cells #[.bool false, .slice p m m] 56)).alloc (.cells #[.bool false, .slice q n n] 56)).alloc (.cells #[.bool false, .slice none 0 0] 56)).alloc (.cells #[.bool false, .slice none 0 0] 56))
 have Xa : Hid (Box W0 (w.heap.size) (.bool false) (.slice p m m)) := by rw [hW0]; constructor <;> go_simp
 have Xb : Hid (Box W0 (w.heap.size + 1) (.bool false) (.slice q n n)) := by rw [hW0]; constructor <;> go_simp
 have Xr : Hid (Box W0 (w.heap.size + 1 + 1) (.bool false) (.slice none 0 0)) := by rw [hW0]; constructor <;> go_simp
 have Xu : Hid (Box W0 (w.heap.size + 1 + 1 + 1) (.bool false) (.slice none 0 0)) := by rw [hW0]; constructor <;> go_simp
 have hb0 : Below w.heap.size w W0 := by rw [hW0]; exact below4 w _ _ _ _
 rw [← hW0];clear hW0;have hbw := brf w;obtain ⟨gu, hgu⟩ := exq (w.heap.size + 1 + 1 + 1);have HGu : Hid (w.heap.size ≤ gu) := hgl hgu;rw [← hgu] at Xu
 try rw [← hgu]
 obtain ⟨gr, hgr⟩ := exq (w.heap.size + 1 + 1);have HGr : Hid (w.heap.size ≤ gr) := hgl hgr;rw [← hgr] at Xr
 try rw [← hgr]
 obtain ⟨gb, hgb⟩ := exq (w.heap.size + 1);have HGb : Hid (w.heap.size ≤ gb) := hgl hgb;rw [← hgb] at Xb
 try rw [← hgb]
 obtain ⟨ga, hga⟩ := exq w.heap.size;have HGa : Hid (w.heap.size ≤ ga) := hgl hga;rw [← hga] at Xa
 try rw [← hga]
 have HGD : Hid (ga ≠ gb ∧ ga ≠ gr ∧ ga ≠ gu ∧ gb ≠ ga ∧ gb ≠ gr ∧ gb ≠ gu ∧ gr ≠ ga ∧ gr ≠ gb ∧ gr ≠ gu ∧ gu ≠ ga ∧ gu ≠ gb ∧ gu ≠ gr) := by rw [hga, hgb, hgr, hgu]; show _ ∧ _; omega
 clear hga hgb hgr hgu;replace hbw := bon hbw hb0;clear hb0
 refine (rsign04 false (HZ.out.below hbw)).mono ?_
 rintro e v1 ⟨rfl, hb1⟩
 rw [show sgnI y = 1 from by have := HM.out.2.2; unfold sgnI; rw [if_neg (by omega), if_neg (by omega)]]
 replace Xa := Box.b Xa hb1;replace Xb := Box.b Xb hb1;replace Xr := Box.b Xr hb1;replace Xu := Box.b Xu hb1;replace hbw := bon hbw hb1;clear hb1;obtain ⟨ca0, ca1, fa0, fa1⟩ := Xa.out;have hnea := Xa.out.lt;obtain ⟨cb0, cb1, fb0, fb1⟩ := Xb.out;have hneb := Xb.out.lt;go_wp2_with fail;clear ca0 ca1 fa0 fa1 hnea cb0 cb1 fb0 fb1 hneb
 refine (rdivmod04 (AX.out.1.below hbw) (AX.out.2.below hbw) NX.out.1 NX.out.2 HM.out.1 HM.out.2.1 (by have := HM.out.2.2; omega)).mono ?_
 rintro e v2 ⟨p2, m2, z2, p3, m3, z3, rfl, hA2, hN2, hA3, hN3, hl2, hl3, hb2⟩;replace Xa := Box.b Xa hb2;replace Xb := Box.b Xb hb2;replace Xr := Box.b Xr hb2;replace Xu := Box.b Xu hb2;replace hbw := bon hbw hb2;clear hb2;have A2 := hdQ hA2;have A3 := hdQ hA3;have N2 : Hid (Nf B32 z2 (x.natAbs / y.natAbs) ∧ Nf B32 z3 (x.natAbs % y.natAbs) ∧ m2 ≤ m ∧ m3 ≤ m) := ⟨hN2, hN3, hl2, hl3⟩;clear hA2 hN2 hA3 hN3 hl2 hl3;obtain ⟨ca0, ca1, fa0, fa1⟩ := Xa.out;have hnea := Xa.out.lt;go_wp2_with fail;clear ca0 ca1 fa0 fa1 hnea;have HRB : Hid (gr < v2.heap.size ∧ gu < v2.heap.size ∧ w.heap.size ≤ v2.heap.size) := ⟨Xr.out.lt, Xu.out.lt, hbw.size⟩
 refine (rmk_any false A2.out N2.out.1 (by have := N2.out; have := HM.out; omega)).mono ?_
 rintro e v5 ⟨v, rfl, hv, hb5⟩;obtain ⟨s5, g5, m5, rfl, hg5, hz5, hl5⟩ := hv;have HN5 : Hid (v2.heap.size ≤ g5) := hg5;have HB5 : Hid (v2.heap.size ≤ v5.heap.size) := hb5.size;replace Xa := Box.b Xa hb5;replace Xb := Box.b Xb hb5;replace Xr := Box.b Xr hb5;replace Xu := Box.b Xu hb5;replace A2 := At32.b A2 hb5;replace A3 := At32.b A3 hb5;replace hbw := bon hbw hb5;clear hb5;have Z5 := hdQ hz5;have HL5 : Hid (m5 ≤ m2) := hl5;clear hz5 hl5 hg5;have HBV : Hid (v2.heap.size ≤ v5.heap.size) := HB5.out;go_wp2_with fail
 refine (rmk_any false A3.out N2.out.2.1 (by have := N2.out; have := HM.out; omega)).mono ?_
 rintro e v6 ⟨v, rfl, hv, hb6⟩;obtain ⟨s6, g6, m6, rfl, hg6, hz6, hl6⟩ := hv;have HN6 : Hid (v5.heap.size ≤ g6) := hg6;have HB6 : Hid (v5.heap.size ≤ v6.heap.size) := hb6.size;replace Xa := Box.b Xa hb6;replace Xb := Box.b Xb hb6;replace Xr := Box.b Xr hb6;replace Xu := Box.b Xu hb6;replace A2 := At32.b A2 hb6;replace A3 := At32.b A3 hb6;replace Z5 := ZR.b Z5 hb6;replace hbw := bon hbw hb6;clear hb6;have Z6 := hdQ hz6;have HL6 : Hid (m6 ≤ m3) := hl6;clear hz6 hl6 hg6;obtain ⟨hgd0, hgd1, hgd2, hgd3, hgd4, hgd5, hgd6, hgd7, hgd8, hgd9, hgd10, hgd11⟩ := HGD.out;obtain ⟨cr0, cr1, fr0, fr1⟩ := Xr.out;have hner := Xr.out.lt;obtain ⟨cu0, cu1, fu0, fu1⟩ := Xu.out;have hneu := Xu.out.lt;go_wp2_with fail
 refine bodyPost_ret (v := .tuple #[.agg #[.bool s5, .slice (some ⟨g5, 0, none⟩) m5 m5], .agg #[.bool s6, .slice (some ⟨g6, 0, none⟩) m6 m6]]) (by rw [results_cell2 rfl]; go_simp) rfl ⟨s5, g5, m5, s6, g6, m6, rfl, Nat.le_trans HRB.out.2.2 HN5.out, Nat.le_trans HRB.out.2.2 (Nat.le_trans HBV.out HN6.out), ?_, ?_, ?_, ?_, ?_⟩
 ·clear hgd0 hgd1 hgd2 hgd3 hgd4 hgd5 hgd6 hgd7 hgd8 hgd9 hgd10 hgd11
  have := HN5.out; have := HRB.out
  exact (((Z5.out.set _ _ _ (by omega)).set _ _ _ (by omega)).set _ _ _ (by omega)).set _ _ _ (by omega)
 ·clear hgd0 hgd1 hgd2 hgd3 hgd4 hgd5 hgd6 hgd7 hgd8 hgd9 hgd10 hgd11
  have := HN6.out; have := HBV.out; have := HRB.out
  exact (((Z6.out.set _ _ _ (by omega)).set _ _ _ (by omega)).set _ _ _ (by omega)).set _ _ _ (by omega)
 ·clear hgd0 hgd1 hgd2 hgd3 hgd4 hgd5 hgd6 hgd7 hgd8 hgd9 hgd10 hgd11
  have := HL5.out; have := N2.out; have := HM.out; omega
 ·clear hgd0 hgd1 hgd2 hgd3 hgd4 hgd5 hgd6 hgd7 hgd8 hgd9 hgd10 hgd11
  have := HL6.out; have := N2.out; have := HM.out; omega
 ·exact bSet (bSet (bSet (bSet hbw _ _ _ HGr.out) _ _ _ HGr.out) _ _ _ HGu.out) _ _ _ HGu.out
theorem rfloor04_n0 {p q : Option Addr} {m n : Nat} {w : World} {x y : Int} (h : ZR w true p m x) (k : ZR w false q n y) (hm : m ≤ 16384) (hn : n ≤ 40000) (hy : 0 < y) (hr : x.natAbs % y.natAbs = 0) :
  Calls Tryz.prog 151 #[.agg #[.bool true, .slice p m m], .agg #[.bool false, .slice q n n]] w fun e w' => ∃ s1 g1 m1 s2 g2 m2, e = .returned (.tuple #[.agg #[.bool s1, .slice (some ⟨g1, 0, none⟩) m1 m1], .agg #[.bool s2, .slice (some ⟨g2, 0, none⟩) m2 m2]]) ∧ w.heap.size ≤ g1 ∧ w.heap.size ≤ g2 ∧ ZR w' s1 (some ⟨g1, 0, none⟩) m1 (rFd x y) ∧ ZR w' s2 (some ⟨g2, 0, none⟩) m2 (rMo x y) ∧ m1 ≤ 20000 ∧ m2 ≤ 40000 ∧ Below w.heap.size w w' := by
 have hyd : decide (y < 0) = false := decide_eq_false (by omega)
 have HQ : Hid (rFd x y = iv true (x.natAbs / y.natAbs)) := by show _ = _; unfold rFd fl; rw [← h.sg, hyd, hr]; simp
 have HR : Hid (rMo x y = iv false (x.natAbs % y.natAbs)) := by show _ = _; unfold rMo mo; rw [← h.sg, hyd, hr]; simp
 rw [HQ.out, HR.out];clear HQ HR hyd;obtain ⟨xs, hAx, hNx⟩ := h.ex;obtain ⟨ys, hAy, hNy⟩ := k.ex;have HZ := hdQ k;have AX : Hid (At32 w p m m xs ∧ At32 w q n n ys) := ⟨hAx, hAy⟩;have NX : Hid (Nf B32 xs x.natAbs ∧ Nf B32 ys y.natAbs) := ⟨hNx, hNy⟩;have HM : Hid (m ≤ 16384 ∧ n ≤ 40000 ∧ 0 < y) := ⟨hm, hn, hy⟩;have HLO : Hid (x.natAbs % y.natAbs = 0) := hr;clear h k hm hn hy hAx hAy hNx hNy hr
 go_enter Tryz.func151, Tryz.ntmps151
 go_wp2_with fail;obtain ⟨W0, hW0⟩ := exq ((((w.alloc (.cells #[.bool true, .slice p m m] 56)).alloc (.cells #[.bool false, .slice q n n] 56)).alloc (.cells #[.bool false, .slice none 0 0] 56)).alloc (.cells #[.bool false, .slice none 0 0] 56))
 have Xa : Hid (Box W0 (w.heap.size) (.bool true) (.slice p m m)) := by rw [hW0]; constructor <;> go_simp
 have Xb : Hid (Box W0 (w.heap.size + 1) (.bool false) (.slice q n n)) := by rw [hW0]; constructor <;> go_simp
 have Xr : Hid (Box W0 (w.heap.size + 1 + 1) (.bool false) (.slice none 0 0)) := by rw [hW0]; constructor <;> go_simp
 have Xu : Hid (Box W0 (w.heap.size + 1 + 1 + 1) (.bool false) (.slice none 0 0)) := by rw [hW0]; constructor <;> go_simp
 have hb0 : Below w.heap.size w W0 := by rw [hW0]; exact below4 w _ _ _ _
 rw [← hW0];clear hW0;have hbw := brf w;obtain ⟨gu, hgu⟩ := exq (w.heap.size + 1 + 1 + 1);have HGu : Hid (w.heap.size ≤ gu) := hgl hgu;rw [← hgu] at Xu
 try rw [← hgu]
 obtain ⟨gr, hgr⟩ := exq (w.heap.size + 1 + 1);have HGr : Hid (w.heap.size ≤ gr) := hgl hgr;rw [← hgr] at Xr
 try rw [← hgr]
 obtain ⟨gb, hgb⟩ := exq (w.heap.size + 1);have HGb : Hid (w.heap.size ≤ gb) := hgl hgb;rw [← hgb] at Xb
 try rw [← hgb]
 obtain ⟨ga, hga⟩ := exq w.heap.size;have HGa : Hid (w.heap.size ≤ ga) := hgl hga;rw [← hga] at Xa
 try rw [← hga]
 have HGD : Hid (ga ≠ gb ∧ ga ≠ gr ∧ ga ≠ gu ∧ gb ≠ ga ∧ gb ≠ gr ∧ gb ≠ gu ∧ gr ≠ ga ∧ gr ≠ gb ∧ gr ≠ gu ∧ gu ≠ ga ∧ gu ≠ gb ∧ gu ≠ gr) := by rw [hga, hgb, hgr, hgu]; show _ ∧ _; omega
 clear hga hgb hgr hgu;replace hbw := bon hbw hb0;clear hb0
 refine (rsign04 false (HZ.out.below hbw)).mono ?_
 rintro e v1 ⟨rfl, hb1⟩
 rw [show sgnI y = 1 from by have := HM.out.2.2; unfold sgnI; rw [if_neg (by omega), if_neg (by omega)]]
 replace Xa := Box.b Xa hb1;replace Xb := Box.b Xb hb1;replace Xr := Box.b Xr hb1;replace Xu := Box.b Xu hb1;replace hbw := bon hbw hb1;clear hb1;obtain ⟨ca0, ca1, fa0, fa1⟩ := Xa.out;have hnea := Xa.out.lt;obtain ⟨cb0, cb1, fb0, fb1⟩ := Xb.out;have hneb := Xb.out.lt;go_wp2_with fail;clear ca0 ca1 fa0 fa1 hnea cb0 cb1 fb0 fb1 hneb
 refine (rdivmod04 (AX.out.1.below hbw) (AX.out.2.below hbw) NX.out.1 NX.out.2 HM.out.1 HM.out.2.1 (by have := HM.out.2.2; omega)).mono ?_
 rintro e v2 ⟨p2, m2, z2, p3, m3, z3, rfl, hA2, hN2, hA3, hN3, hl2, hl3, hb2⟩;replace Xa := Box.b Xa hb2;replace Xb := Box.b Xb hb2;replace Xr := Box.b Xr hb2;replace Xu := Box.b Xu hb2;replace hbw := bon hbw hb2;clear hb2;have A2 := hdQ hA2;have A3 := hdQ hA3;have N2 : Hid (Nf B32 z2 (x.natAbs / y.natAbs) ∧ Nf B32 z3 (x.natAbs % y.natAbs) ∧ m2 ≤ m ∧ m3 ≤ m) := ⟨hN2, hN3, hl2, hl3⟩
 obtain rfl : m3 = 0 := by rw [← hA3.len, (hN3.zero_iff B32_one).2 HLO.out]; rfl
 clear hA2 hN2 hA3 hN3 hl2 hl3;obtain ⟨ca0, ca1, fa0, fa1⟩ := Xa.out;have hnea := Xa.out.lt;go_wp2_with fail;clear ca0 ca1 fa0 fa1 hnea;have HRB : Hid (gr < v2.heap.size ∧ gu < v2.heap.size ∧ w.heap.size ≤ v2.heap.size) := ⟨Xr.out.lt, Xu.out.lt, hbw.size⟩
 refine (rmk_any true A2.out N2.out.1 (by have := N2.out; have := HM.out; omega)).mono ?_
 rintro e v5 ⟨v, rfl, hv, hb5⟩;obtain ⟨s5, g5, m5, rfl, hg5, hz5, hl5⟩ := hv;have HN5 : Hid (v2.heap.size ≤ g5) := hg5;have HB5 : Hid (v2.heap.size ≤ v5.heap.size) := hb5.size;replace Xa := Box.b Xa hb5;replace Xb := Box.b Xb hb5;replace Xr := Box.b Xr hb5;replace Xu := Box.b Xu hb5;replace A2 := At32.b A2 hb5;replace A3 := At32.b A3 hb5;replace hbw := bon hbw hb5;clear hb5;have Z5 := hdQ hz5;have HL5 : Hid (m5 ≤ m2) := hl5;clear hz5 hl5 hg5;have HBV : Hid (v2.heap.size ≤ v5.heap.size) := HB5.out;go_wp2_with fail
 refine (rmk_any false A3.out N2.out.2.1 (by have := N2.out; have := HM.out; omega)).mono ?_
 rintro e v6 ⟨v, rfl, hv, hb6⟩;obtain ⟨s6, g6, m6, rfl, hg6, hz6, hl6⟩ := hv;have HN6 : Hid (v5.heap.size ≤ g6) := hg6;have HB6 : Hid (v5.heap.size ≤ v6.heap.size) := hb6.size;replace Xa := Box.b Xa hb6;replace Xb := Box.b Xb hb6;replace Xr := Box.b Xr hb6;replace Xu := Box.b Xu hb6;replace A2 := At32.b A2 hb6;replace A3 := At32.b A3 hb6;replace Z5 := ZR.b Z5 hb6;replace hbw := bon hbw hb6;clear hb6;have Z6 := hdQ hz6;have HL6 : Hid (m6 ≤ 0) := hl6;clear hz6 hl6 hg6;obtain ⟨hgd0, hgd1, hgd2, hgd3, hgd4, hgd5, hgd6, hgd7, hgd8, hgd9, hgd10, hgd11⟩ := HGD.out;obtain ⟨cr0, cr1, fr0, fr1⟩ := Xr.out;have hner := Xr.out.lt;obtain ⟨cu0, cu1, fu0, fu1⟩ := Xu.out;have hneu := Xu.out.lt;go_wp2_with fail
 refine bodyPost_ret (v := .tuple #[.agg #[.bool s5, .slice (some ⟨g5, 0, none⟩) m5 m5], .agg #[.bool s6, .slice (some ⟨g6, 0, none⟩) m6 m6]]) (by rw [results_cell2 rfl]; go_simp) rfl ⟨s5, g5, m5, s6, g6, m6, rfl, Nat.le_trans HRB.out.2.2 HN5.out, Nat.le_trans HRB.out.2.2 (Nat.le_trans HBV.out HN6.out), ?_, ?_, ?_, ?_, ?_⟩
 ·clear hgd0 hgd1 hgd2 hgd3 hgd4 hgd5 hgd6 hgd7 hgd8 hgd9 hgd10 hgd11
  have := HN5.out; have := HRB.out
  exact (((Z5.out.set _ _ _ (by omega)).set _ _ _ (by omega)).set _ _ _ (by omega)).set _ _ _ (by omega)
 ·clear hgd0 hgd1 hgd2 hgd3 hgd4 hgd5 hgd6 hgd7 hgd8 hgd9 hgd10 hgd11
  have := HN6.out; have := HBV.out; have := HRB.out
  exact (((Z6.out.set _ _ _ (by omega)).set _ _ _ (by omega)).set _ _ _ (by omega)).set _ _ _ (by omega)
 ·clear hgd0 hgd1 hgd2 hgd3 hgd4 hgd5 hgd6 hgd7 hgd8 hgd9 hgd10 hgd11
  have := HL5.out; have := N2.out; have := HM.out; omega
 ·clear hgd0 hgd1 hgd2 hgd3 hgd4 hgd5 hgd6 hgd7 hgd8 hgd9 hgd10 hgd11
  have := HL6.out; have := N2.out; have := HM.out; omega
 ·exact bSet (bSet (bSet (bSet hbw _ _ _ HGr.out) _ _ _ HGr.out) _ _ _ HGu.out) _ _ _ HGu.out
theorem rfloor04_n1 {p q : Option Addr} {m n : Nat} {w : World} {x y : Int} (h : ZR w true p m x) (k : ZR w false q n y) (hm : m ≤ 16384) (hn : n ≤ 40000) (hy : 0 < y) (hr : x.natAbs % y.natAbs ≠ 0) :
  Calls Tryz.prog 151 #[.agg #[.bool true, .slice p m m], .agg #[.bool false, .slice q n n]] w fun e w' => ∃ s1 g1 m1 s2 g2 m2, e = .returned (.tuple #[.agg #[.bool s1, .slice (some ⟨g1, 0, none⟩) m1 m1], .agg #[.bool s2, .slice (some ⟨g2, 0, none⟩) m2 m2]]) ∧ w.heap.size ≤ g1 ∧ w.heap.size ≤ g2 ∧ ZR w' s1 (some ⟨g1, 0, none⟩) m1 (rFd x y) ∧ ZR w' s2 (some ⟨g2, 0, none⟩) m2 (rMo x y) ∧ m1 ≤ 20000 ∧ m2 ≤ 40000 ∧ Below w.heap.size w w' := by
 have hyd : decide (y < 0) = false := decide_eq_false (by omega)
 have HQ : Hid (rFd x y = iv true (x.natAbs / y.natAbs + 1)) := by show _ = _; unfold rFd fl; rw [← h.sg, hyd, decide_eq_true hr]; simp
 have HR : Hid (rMo x y = iv false (y.natAbs - x.natAbs % y.natAbs)) := by show _ = _; unfold rMo mo; rw [← h.sg, hyd, decide_eq_true hr]; simp
 rw [HQ.out, HR.out];clear HQ HR hyd;obtain ⟨xs, hAx, hNx⟩ := h.ex;obtain ⟨ys, hAy, hNy⟩ := k.ex;have HZ := hdQ k;have AX : Hid (At32 w p m m xs ∧ At32 w q n n ys) := ⟨hAx, hAy⟩;have NX : Hid (Nf B32 xs x.natAbs ∧ Nf B32 ys y.natAbs) := ⟨hNx, hNy⟩;have HM : Hid (m ≤ 16384 ∧ n ≤ 40000 ∧ 0 < y) := ⟨hm, hn, hy⟩;have HLO : Hid (x.natAbs % y.natAbs ≠ 0) := hr;clear h k hm hn hy hAx hAy hNx hNy hr
 go_enter Tryz.func151, Tryz.ntmps151
 go_wp2_with fail;obtain ⟨W0, hW0⟩ := exq ((((w.alloc (.cells #[.bool true, .slice p m m] 56)).alloc (.cells #[.bool false, .slice q n n] 56)).alloc (.cells #[.bool false, .slice none 0 0] 56)).alloc (.cells #[.bool false, .slice none 0 0] 56))
 have Xa : Hid (Box W0 (w.heap.size) (.bool true) (.slice p m m)) := by rw [hW0]; constructor <;> go_simp
 have Xb : Hid (Box W0 (w.heap.size + 1) (.bool false) (.slice q n n)) := by rw [hW0]; constructor <;> go_simp
 have Xr : Hid (Box W0 (w.heap.size + 1 + 1) (.bool false) (.slice none 0 0)) := by rw [hW0]; constructor <;> go_simp
 have Xu : Hid (Box W0 (w.heap.size + 1 + 1 + 1) (.bool false) (.slice none 0 0)) := by rw [hW0]; constructor <;> go_simp
 have hb0 : Below w.heap.size w W0 := by rw [hW0]; exact below4 w _ _ _ _
 rw [← hW0];clear hW0;have hbw := brf w;obtain ⟨gu, hgu⟩ := exq (w.heap.size + 1 + 1 + 1);have HGu : Hid (w.heap.size ≤ gu) := hgl hgu;rw [← hgu] at Xu
 try rw [← hgu]
 obtain ⟨gr, hgr⟩ := exq (w.heap.size + 1 + 1);have HGr : Hid (w.heap.size ≤ gr) := hgl hgr;rw [← hgr] at Xr
 try rw [← hgr]
 obtain ⟨gb, hgb⟩ := exq (w.heap.size + 1);have HGb : Hid (w.heap.size ≤ gb) := hgl hgb;rw [← hgb] at Xb
 try rw [← hgb]
 obtain ⟨ga, hga⟩ := exq w.heap.size;have HGa : Hid (w.heap.size ≤ ga) := hgl hga;rw [← hga] at Xa
 try rw [← hga]
 have HGD : Hid (ga ≠ gb ∧ ga ≠ gr ∧ ga ≠ gu ∧ gb ≠ ga ∧ gb ≠ gr ∧ gb ≠ gu ∧ gr ≠ ga ∧ gr ≠ gb ∧ gr ≠ gu ∧ gu ≠ ga ∧ gu ≠ gb ∧ gu ≠ gr) := by rw [hga, hgb, hgr, hgu]; show _ ∧ _; omega
 clear hga hgb hgr hgu;replace hbw := bon hbw hb0;clear hb0
 refine (rsign04 false (HZ.out.below hbw)).mono ?_
 rintro e v1 ⟨rfl, hb1⟩
 rw [show sgnI y = 1 from by have := HM.out.2.2; unfold sgnI; rw [if_neg (by omega), if_neg (by omega)]]
 replace Xa := Box.b Xa hb1;replace Xb := Box.b Xb hb1;replace Xr := Box.b Xr hb1;replace Xu := Box.b Xu hb1;replace hbw := bon hbw hb1;clear hb1;obtain ⟨ca0, ca1, fa0, fa1⟩ := Xa.out;have hnea := Xa.out.lt;obtain ⟨cb0, cb1, fb0, fb1⟩ := Xb.out;have hneb := Xb.out.lt;go_wp2_with fail;clear ca0 ca1 fa0 fa1 hnea cb0 cb1 fb0 fb1 hneb
 refine (rdivmod04 (AX.out.1.below hbw) (AX.out.2.below hbw) NX.out.1 NX.out.2 HM.out.1 HM.out.2.1 (by have := HM.out.2.2; omega)).mono ?_
 rintro e v2 ⟨p2, m2, z2, p3, m3, z3, rfl, hA2, hN2, hA3, hN3, hl2, hl3, hb2⟩;replace Xa := Box.b Xa hb2;replace Xb := Box.b Xb hb2;replace Xr := Box.b Xr hb2;replace Xu := Box.b Xu hb2;replace hbw := bon hbw hb2;clear hb2;have A2 := hdQ hA2;have A3 := hdQ hA3;have N2 : Hid (Nf B32 z2 (x.natAbs / y.natAbs) ∧ Nf B32 z3 (x.natAbs % y.natAbs) ∧ m2 ≤ m ∧ m3 ≤ m) := ⟨hN2, hN3, hl2, hl3⟩
 have hm3 : ¬ m3 = 0 := fun e => HLO.out ((hN3.zero_iff B32_one).1 (List.eq_nil_of_length_eq_zero (by rw [hA3.len]; exact e)))
 have hm3b : ((m3 : Int) == 0) = false := by simp; omega
 clear hA2 hN2 hA3 hN3 hl2 hl3;obtain ⟨ca0, ca1, fa0, fa1⟩ := Xa.out;have hnea := Xa.out.lt;go_wp2_with fail;clear ca0 ca1 fa0 fa1 hnea hm3 hm3b;obtain ⟨W4, hW4⟩ := exq v2.drew
 have hbd : Below v2.heap.size v2 W4 := by rw [hW4]; exact bDrew1 (Below.refl _ _)
 replace Xa := Box.b Xa hbd;replace Xb := Box.b Xb hbd;replace Xr := Box.b Xr hbd;replace Xu := Box.b Xu hbd;replace A2 := At32.b A2 hbd;replace A3 := At32.b A3 hbd;replace hbw := bon hbw hbd;clear hbd
 have HJ : Hid ((fun W' : World => W'.cell? ⟨gb, 1, none⟩ = some (.slice q n n)) W4) := Xb.out.c1
 refine wp_region_J (fun W' => W'.cell? ⟨gb, 1, none⟩ = some (.slice q n n)) (by kernel_rfl) ?_
 rw [← hW4];clear hW4
 refine wpJ_tk 0 (v := ?v1x0) rfl ?hy1x0 HJ.out ?_
 case hy1x0 => (intro W' hJ; have j0 := hJ; go_simp; first | done | with_reducible rfl)
 refine wpJ_tk 4 (v := ?v2x4) rfl ?hy2x4 HJ.out ?_
 case hy2x4 => (intro W' hJ; have j0 := hJ; go_simp; first | done | with_reducible rfl)
 refine wpJ_tk 5 (v := ?v3x5) rfl ?hy3x5 HJ.out ?_
 case hy3x5 => (intro W' hJ; have j0 := hJ; go_simp; first | done | with_reducible rfl)
 refine wpJ_tk 6 (v := ?v4x6) rfl ?hy4x6 HJ.out ?_
 case hy4x6 => (intro W' hJ; have j0 := hJ; go_simp; first | done | with_reducible rfl)
 refine wpJ_on 1 rfl fun KJ hK => ?_
 go_simp
 refine (rword 1 (by rw [B64_eq]; decide) _).mono ?_
 rintro e v4 ⟨g4, z4, rfl, hl4, hA4, hN4, hb4⟩;replace Xa := Box.b Xa hb4;replace Xb := Box.b Xb hb4;replace Xr := Box.b Xr hb4;replace Xu := Box.b Xu hb4;replace A2 := At32.b A2 hb4;replace A3 := At32.b A3 hb4;replace hbw := bon hbw hb4;clear hb4;have A4 := hdQ hA4;have N4 : Hid (Nf B32 z4 1 ∧ z4.length ≤ 2) := ⟨hN4, hl4⟩;clear hA4 hN4 hl4
 refine hK _ _ Xb.out.c1 ?_
 clear hK
 refine wpJ_on 2 rfl fun KJ hK => ?_
 go_simp
 refine (radd_any A2.out A4.out N2.out.1 N4.out.1 (by have := N2.out; have := HM.out; omega) (by have := N4.out; omega)).mono ?_
 rintro e v5 ⟨p5, m5, z5, rfl, hA5, hN5, hb5⟩
 have hl5 : m5 ≤ m2 + 1 := by
  have h1 := (N2.out.1.len_le B32_one (k := m2)).1 (by rw [A2.out.len]; exact Nat.le_refl _)
  have h2 := (hN5.len_le B32_one (k := m2 + 1)).2 (by rw [Nat.pow_succ]; have h3 : 1 < B32 := B32_one; have h4 : 0 < B32 ^ m2 := Nat.pow_pos (by omega); have h5 : B32 ^ m2 * 2 ≤ B32 ^ m2 * B32 := Nat.mul_le_mul_left _ h3; omega)
  rw [hA5.len] at h2
  exact h2
 replace Xa := Box.b Xa hb5;replace Xb := Box.b Xb hb5;replace Xr := Box.b Xr hb5;replace Xu := Box.b Xu hb5;replace A2 := At32.b A2 hb5;replace A3 := At32.b A3 hb5;replace A4 := At32.b A4 hb5;replace hbw := bon hbw hb5;clear hb5;have A5 := hdQ hA5;have N5 : Hid (Nf B32 z5 (x.natAbs / y.natAbs + 1) ∧ m5 ≤ m2 + 1) := ⟨hN5, hl5⟩;clear hA5 hN5 hl5
 refine hK _ _ Xb.out.c1 ?_
 clear hK;have HRB : Hid (gr < v5.heap.size ∧ gu < v5.heap.size ∧ w.heap.size ≤ v5.heap.size) := ⟨Xr.out.lt, Xu.out.lt, hbw.size⟩
 refine wpJ_on 3 rfl fun KJ hK => ?_
 go_simp
 refine (rmk_any true A5.out N5.out.1 (by have := N5.out; have := N2.out; have := HM.out; omega)).mono ?_
 rintro e v6 ⟨v, rfl, hv, hb6⟩;obtain ⟨s6, g6, m6, rfl, hg6, hz6, hl6⟩ := hv;have HN6 : Hid (v5.heap.size ≤ g6) := hg6;have HB6 : Hid (v5.heap.size ≤ v6.heap.size) := hb6.size;replace Xa := Box.b Xa hb6;replace Xb := Box.b Xb hb6;replace Xr := Box.b Xr hb6;replace Xu := Box.b Xu hb6;replace A2 := At32.b A2 hb6;replace A3 := At32.b A3 hb6;replace A4 := At32.b A4 hb6;replace A5 := At32.b A5 hb6;replace hbw := bon hbw hb6;clear hb6;have Z6 := hdQ hz6;have HL6 : Hid (m6 ≤ m5) := hl6;clear hz6 hl6 hg6
 refine hK _ _ Xb.out.c1 ?_
 clear hK
 refine wpJ_on 7 rfl fun KJ hK => ?_
 go_simp
 refine (rsub_any (AX.out.2.below hbw) A3.out NX.out.2 N2.out.2.1 (by have := HM.out; omega) (Nat.le_of_lt (Nat.mod_lt _ (by have := HM.out.2.2; omega)))).mono ?_
 rintro e v7 ⟨p7, m7, z7, rfl, hA7, hN7, hl7, hb7⟩;have HB7 : Hid (v6.heap.size ≤ v7.heap.size) := hb7.size;replace Xa := Box.b Xa hb7;replace Xb := Box.b Xb hb7;replace Xr := Box.b Xr hb7;replace Xu := Box.b Xu hb7;replace A2 := At32.b A2 hb7;replace A3 := At32.b A3 hb7;replace A4 := At32.b A4 hb7;replace A5 := At32.b A5 hb7;replace Z6 := ZR.b Z6 hb7;replace hbw := bon hbw hb7;clear hb7;have A7 := hdQ hA7;have N7 : Hid (Nf B32 z7 (y.natAbs - x.natAbs % y.natAbs) ∧ m7 ≤ n) := ⟨hN7, hl7⟩;clear hA7 hN7 hl7
 refine hK _ _ Xb.out.c1 ?_
 clear hK;have HBV : Hid (v5.heap.size ≤ v7.heap.size) := Nat.le_trans HB6.out HB7.out
 refine wpJ_on 8 rfl fun KJ hK => ?_
 go_simp
 refine (rmk_any false A7.out N7.out.1 (by have := N7.out; have := HM.out; omega)).mono ?_
 rintro e v8 ⟨v, rfl, hv, hb8⟩;obtain ⟨s8, g8, m8, rfl, hg8, hz8, hl8⟩ := hv;have HN8 : Hid (v7.heap.size ≤ g8) := hg8;have HB8 : Hid (v7.heap.size ≤ v8.heap.size) := hb8.size;replace Xa := Box.b Xa hb8;replace Xb := Box.b Xb hb8;replace Xr := Box.b Xr hb8;replace Xu := Box.b Xu hb8;replace A2 := At32.b A2 hb8;replace A3 := At32.b A3 hb8;replace A4 := At32.b A4 hb8;replace A5 := At32.b A5 hb8;replace Z6 := ZR.b Z6 hb8;replace A7 := At32.b A7 hb8;replace hbw := bon hbw hb8;clear hb8;have Z8 := hdQ hz8;have HL8 : Hid (m8 ≤ m7) := hl8;clear hz8 hl8 hg8
 refine hK _ _ Xb.out.c1 ?_
 clear hK;obtain ⟨cr0, cr1, fr0, fr1⟩ := Xr.out;have hner := Xr.out.lt;obtain ⟨cu0, cu1, fu0, fu1⟩ := Xu.out;have hneu := Xu.out.lt;obtain ⟨cb0, cb1, fb0, fb1⟩ := Xb.out;have hneb := Xb.out.lt;obtain ⟨hgd0, hgd1, hgd2, hgd3, hgd4, hgd5, hgd6, hgd7, hgd8, hgd9, hgd10, hgd11⟩ := HGD.out
 refine wpJ_on 9 rfl fun KJ hK => ?_
 go_simp
 have HJ2 : Hid ((fun W' : World => W'.cell? ⟨gb, 1, none⟩ = some (.slice q n n)) ((v8.setCell ⟨gr, 0, none⟩ (.bool s6)).setCell ⟨gr, 1, none⟩ (.slice (some ⟨g6, 0, none⟩) m6 m6))) := by show World.cell? _ _ = _; go_simp
 refine hK _ _ HJ2.out ?_
 clear hK HJ;have HJ := HJ2;clear HJ2
 refine wpJ_on 10 rfl fun KJ hK => ?_
 go_simp
 have HJ2 : Hid ((fun W' : World => W'.cell? ⟨gb, 1, none⟩ = some (.slice q n n)) ((((v8.setCell ⟨gr, 0, none⟩ (.bool s6)).setCell ⟨gr, 1, none⟩ (.slice (some ⟨g6, 0, none⟩) m6 m6)).setCell ⟨gu, 0, none⟩ (.bool s8)).setCell ⟨gu, 1, none⟩ (.slice (some ⟨g8, 0, none⟩) m8 m8))) := by show World.cell? _ _ = _; go_simp
 refine hK _ _ HJ2.out ?_
 clear hK HJ;have HJ := HJ2;clear HJ2
 refine wpJ_done (by kernel_rfl) ?_ _
 clear HJ;go_wp2_with fail
 refine bodyPost_ret (v := .tuple #[.agg #[.bool s6, .slice (some ⟨g6, 0, none⟩) m6 m6], .agg #[.bool s8, .slice (some ⟨g8, 0, none⟩) m8 m8]]) (by rw [results_cell2 rfl]; go_simp) rfl ⟨s6, g6, m6, s8, g8, m8, rfl, Nat.le_trans HRB.out.2.2 HN6.out, Nat.le_trans HRB.out.2.2 (Nat.le_trans HBV.out HN8.out), ?_, ?_, ?_, ?_, ?_⟩
 ·clear hgd0 hgd1 hgd2 hgd3 hgd4 hgd5 hgd6 hgd7 hgd8 hgd9 hgd10 hgd11
  have := HN6.out; have := HRB.out
  exact (((Z6.out.set _ _ _ (by omega)).set _ _ _ (by omega)).set _ _ _ (by omega)).set _ _ _ (by omega)
 ·clear hgd0 hgd1 hgd2 hgd3 hgd4 hgd5 hgd6 hgd7 hgd8 hgd9 hgd10 hgd11
  have := HN8.out; have := HBV.out; have := HRB.out
  exact (((Z8.out.set _ _ _ (by omega)).set _ _ _ (by omega)).set _ _ _ (by omega)).set _ _ _ (by omega)
 ·clear hgd0 hgd1 hgd2 hgd3 hgd4 hgd5 hgd6 hgd7 hgd8 hgd9 hgd10 hgd11
  have := HL6.out; have := N5.out; have := N2.out; have := HM.out; omega
 ·clear hgd0 hgd1 hgd2 hgd3 hgd4 hgd5 hgd6 hgd7 hgd8 hgd9 hgd10 hgd11
  have := HL8.out; have := N7.out; have := HM.out; omega
 ·exact bSet (bSet (bSet (bSet hbw _ _ _ HGr.out) _ _ _ HGr.out) _ _ _ HGu.out) _ _ _ HGu.out
theorem rfloor04 {p q : Option Addr} {m n : Nat} {w : World} {x y : Int} (s : Bool) (h : ZR w s p m x) (k : ZR w false q n y) (hm : m ≤ 16384) (hn : n ≤ 40000) (hy : 0 < y) :
  Calls Tryz.prog 151 #[.agg #[.bool s, .slice p m m], .agg #[.bool false, .slice q n n]] w fun e w' => ∃ s1 g1 m1 s2 g2 m2, e = .returned (.tuple #[.agg #[.bool s1, .slice (some ⟨g1, 0, none⟩) m1 m1], .agg #[.bool s2, .slice (some ⟨g2, 0, none⟩) m2 m2]]) ∧ w.heap.size ≤ g1 ∧ w.heap.size ≤ g2 ∧ ZR w' s1 (some ⟨g1, 0, none⟩) m1 (rFd x y) ∧ ZR w' s2 (some ⟨g2, 0, none⟩) m2 (rMo x y) ∧ m1 ≤ 20000 ∧ m2 ≤ 40000 ∧ Below w.heap.size w w' := by
 cases s
 ·exact rfloor04_p h k hm hn hy
 ·by_cases hr : x.natAbs % y.natAbs = 0
  ·exact rfloor04_n0 h k hm hn hy hr
  ·exact rfloor04_n1 h k hm hn hy hr
theorem rCs_flip (x : Int) (k : Nat) : -(rFs (-x) k) = rCs x k := by
  unfold rFs rCs
  by_cases h : x = 0
  · subst h; simp [fl, ce, iv]
  · rw [show decide (-x < 0) = !decide (x < 0) from by by_cases h1 : x < 0 <;> simp [h1] <;> omega, Int.natAbs_neg, fl_not, Int.neg_neg]
theorem rceilshr04 {p : Option Addr} {m : Nat} {w : World} {x : Int} (s : Bool) (h : ZR w s p m x) (hm : m ≤ 16384) (k : Nat) (hk : k ≤ 9223372036854775807) :
  Calls Tryz.prog 149 #[.agg #[.bool s, .slice p m m], .int .i64 k] w fun e w' => ∃ v, e = .returned v ∧ GotR w.heap.size w' v (rCs x k) (m + 4) ∧ Below w.heap.size w w' := by
 rw [← rCs_flip];have HA := hdQ h;have HM : Hid (m ≤ 16384) := hm;have HK : Hid (k ≤ 9223372036854775807) := hk;clear h hm hk
 go_enter Tryz.func149, Tryz.ntmps149
 go_wp2_with fail;obtain ⟨W0, hW0⟩ := exq ((w.alloc (.cells #[.bool s, .slice p m m] 56)).alloc (.cells #[.bool false, .slice none 0 0] 56))
 have Xa : Hid (Box W0 (w.heap.size) (.bool s) (.slice p m m)) := by rw [hW0]; constructor <;> go_simp
 have Xr : Hid (Box W0 (w.heap.size + 1) (.bool false) (.slice none 0 0)) := by rw [hW0]; constructor <;> go_simp
 have hb0 := bq2 hW0;rw [← hW0];clear hW0;have hbw := brf w;obtain ⟨gr, hgr⟩ := exq (w.heap.size + 1);have HGr : Hid (w.heap.size ≤ gr) := hgl hgr;rw [← hgr] at Xr
 try rw [← hgr]
 obtain ⟨ga, hga⟩ := exq w.heap.size;have HGa : Hid (w.heap.size ≤ ga) := hgl hga;rw [← hga] at Xa
 try rw [← hga]
 have HGD : Hid (ga ≠ gr ∧ gr ≠ ga) := by rw [hga, hgr]; show _ ∧ _; omega
 clear hga hgr;replace hbw := bon hbw hb0;clear hb0
 refine (rflip_any s (HA.out.below hbw) (by have := HM.out; omega)).mono ?_
 rintro e v1 ⟨v, rfl, hv, hb1⟩;obtain ⟨s1, g1, m1, rfl, hg1, hz1, hl1⟩ := hv;have HN1 := hdQ hg1;have HB1 : Hid (W0.heap.size ≤ v1.heap.size) := hb1.size;replace Xa := Box.b Xa hb1;replace Xr := Box.b Xr hb1;replace hbw := bon hbw hb1;clear hb1;have Z1 := hdQ hz1;have HL1 : Hid (m1 ≤ m) := hl1;clear hz1 hl1 hg1;go_wp2_with fail
 refine (rfloorshr04 s1 Z1.out (Nat.le_trans HL1.out HM.out) k HK.out).mono ?_
 rintro e v2 ⟨v, rfl, hv, hb2⟩;obtain ⟨s2, g2, m2, rfl, hg2, hz2, hl2⟩ := hv;have HN2 : Hid (v1.heap.size ≤ g2) := hg2;have HB2 : Hid (v1.heap.size ≤ v2.heap.size) := hb2.size;replace Xa := Box.b Xa hb2;replace Xr := Box.b Xr hb2;replace Z1 := ZR.b Z1 hb2;replace hbw := bon hbw hb2;clear hb2;have Z2 := hdQ hz2;have HL2 : Hid (m2 ≤ m1 + 4) := hl2;clear hz2 hl2 hg2;go_wp2_with fail;have HRB : Hid (gr < v2.heap.size ∧ w.heap.size ≤ v2.heap.size) := ⟨Xr.out.lt, hbw.size⟩
 refine (rflip_any s2 Z2.out (by have := HL2.out; have := HL1.out; have := HM.out; omega)).mono ?_
 rintro e v3 ⟨v, rfl, hv, hb3⟩;obtain ⟨s3, g3, m3, rfl, hg3, hz3, hl3⟩ := hv;have HN3 : Hid (v2.heap.size ≤ g3) := hg3;have HB3 : Hid (v2.heap.size ≤ v3.heap.size) := hb3.size;replace Xa := Box.b Xa hb3;replace Xr := Box.b Xr hb3;replace Z1 := ZR.b Z1 hb3;replace Z2 := ZR.b Z2 hb3;replace hbw := bon hbw hb3;clear hb3;have Z3 := hdQ hz3;have HL3 : Hid (m3 ≤ m2) := hl3;clear hz3 hl3 hg3;obtain ⟨cr0, cr1, fr0, fr1⟩ := Xr.out;have hner := Xr.out.lt;go_wp2_with fail
 refine bodyPost_ret (v := .agg #[.bool s3, .slice (some ⟨g3, 0, none⟩) m3 m3]) (by rw [results_cell1 rfl]; go_simp) rfl ⟨_, rfl, ⟨s3, g3, m3, rfl, Nat.le_trans HRB.out.2 HN3.out, ?_, by have := HL3.out; have := HL2.out; have := HL1.out; omega⟩, ?_⟩
 ·have := HN3.out; have := HRB.out.1
  exact (Z3.out.set _ _ _ (by omega)).set _ _ _ (by omega)
 ·exact bSet (bSet hbw _ _ _ HGr.out) _ _ _ HGr.out
theorem rshr_alle {p : Option Addr} {n : Nat} {xs : List Nat} {v : Nat} {w : World} (h : At32 w p n n xs) (hx : Nf B32 xs v) (hn : n ≤ 16384) (N : Nat) (hN2 : N ≤ 9223372036854775807) :
  Calls Tryz.prog 47 #[.slice p n n, .int .i64 N] w fun e w' => ∃ p' m' zs, e = .returned (.slice p' m' m') ∧ At32 w' p' m' m' zs ∧ Nf B32 zs (v / 2 ^ N) ∧ m' ≤ n ∧ Below w.heap.size w w' := by
 rcases Nat.eq_zero_or_pos N with h0 | h0
 ·subst h0
  refine (rshr_0 h hx hn).mono ?_
  rintro e w' ⟨g, rfl, h1, hb⟩
  exact ⟨_, n, xs, rfl, h1, by rw [Nat.pow_zero, Nat.div_one]; exact hx, Nat.le_refl _, hb⟩
 ·exact rfshr_any h hx hn N h0 hN2
theorem tz_vale {z : Int} {k : Nat} (_hz : z ≠ 0) (h : TzIs z.natAbs k) : ∃ zo : Int, zo.natAbs = z.natAbs / 2 ^ k ∧ zo % 2 = 1 ∧ zo * ((2 ^ k : Nat) : Int) = z ∧ decide (zo < 0) = decide (z < 0) ∧ iv (decide (z < 0)) (z.natAbs / 2 ^ k) = zo := by
  have h1 := Nat.div_add_mod z.natAbs (2 ^ k);rw [h.1, Nat.add_zero, Nat.mul_comm] at h1;have h2 := h.2;generalize z.natAbs / 2 ^ k = A at h1 h2 ⊢;have hp : 0 < 2 ^ k := Nat.two_pow_pos k
  have hA : 0 < A := by omega
  rcases Int.lt_or_le z 0 with hn | hn
  · refine ⟨-(A : Int), by omega, by omega, ?_, ?_, ?_⟩
    · rw [Int.neg_mul, ← Int.natCast_mul, h1]; omega
    · rw [decide_eq_true hn]; exact decide_eq_true (by omega)
    · rw [decide_eq_true hn]; rfl
  · refine ⟨(A : Int), by omega, by omega, ?_, ?_, ?_⟩
    · rw [← Int.natCast_mul, h1]; omega
    · rw [decide_eq_false (show ¬ z < 0 by omega)]; exact decide_eq_false (by omega)
    · rw [decide_eq_false (show ¬ z < 0 by omega)]; rfl
theorem toldA_z {p : Option Addr} {w : World} {z e : Int} (s : Bool) (hz : z = 0) :
  Calls Tryz.prog 24 #[.agg #[.bool s, .slice p 0 0], .int .i64 e] w fun en w' => ∃ zo eo er, SaidD w.heap.size w' en zo eo er ∧ MkR z e zo eo er ∧ Below w.heap.size w w' := by
 have HZ : Hid (z = 0) := hz;clear hz;obtain ⟨BB, hBB⟩ := exq w.heap.size;rw [← hBB];have HBB := hdQ hBB;clear hBB
 go_enter Tryz.func24, Tryz.ntmps24
 go_wp2_with fail;obtain ⟨W0, hW0⟩ := exq ((w.alloc (.cells #[.bool s, .slice p 0 0] 56)).alloc (.cells #[.bool false, .slice none 0 0, .int .i64 0] 27))
 have Xm : Hid (Box W0 (w.heap.size) (.bool s) (.slice p 0 0)) := by rw [hW0]; constructor <;> go_simp
 have Xr : Hid (B3q W0 (w.heap.size + 1) (.bool false) (.slice none 0 0) (.int .i64 0)) := by rw [hW0]; constructor <;> go_simp
 have hb0 := bq2 hW0;rw [← hW0];clear hW0;have hbw := brf w;obtain ⟨gr, hgr⟩ := exq (w.heap.size + 1);have HGr : Hid (w.heap.size ≤ gr) := hgl hgr;rw [← hgr] at Xr
 try rw [← hgr]
 obtain ⟨gm, hgm⟩ := exq w.heap.size;have HGm : Hid (w.heap.size ≤ gm) := hgl hgm;rw [← hgm] at Xm
 try rw [← hgm]
 have HGD : Hid (gm ≠ gr ∧ gr ≠ gm) := by rw [hgm, hgr]; show _ ∧ _; omega
 clear hgm hgr;replace hbw := bon hbw hb0;clear hb0;obtain ⟨cm0, cm1, fm0, fm1⟩ := Xm.out;have hnem := Xm.out.lt;obtain ⟨cr0, cr1, cr2, fr0, fr1, fr2⟩ := Xr.out;have hner : gr < W0.heap.size := blt cr0;go_wp2_with fail
 refine bodyPost_ret (v := .tuple #[DV false none 0 0 0, .int .i64 0]) (by rw [results_cell_tmp rfl]; go_simp) rfl ⟨0, 0, 0, SaidD.err _ _ _, .inl ⟨HZ.out, rfl, rfl, rfl⟩, ?_⟩
 rw [HBB.out]
 first | exact hbw | exact bSet (bSet (bSet hbw _ _ _ HGr.out) _ _ _ HGr.out) _ _ _ HGr.out
theorem toldA_g {p : Option Addr} {m K : Nat} {w : World} {z e : Int} (s : Bool) (h : ZR w s p m z) (hz : z ≠ 0) (hK : TzIs z.natAbs K) (hK2 : K ≤ 10000000) (he : 1048576 < e) :
  Calls Tryz.prog 24 #[.agg #[.bool s, .slice p m m], .int .i64 e] w fun en w' => ∃ zo eo er, SaidD w.heap.size w' en zo eo er ∧ MkR z e zo eo er ∧ Below w.heap.size w w' := by
 have HZ : Hid (z ≠ 0 ∧ TzIs z.natAbs K ∧ ¬ (-1048576 ≤ e + K ∧ e + K ≤ 1048576)) := ⟨hz, hK, by omega⟩
 have hm0 : ¬ m = 0 := fun e0 => by have := h.zero.1 e0; omega
 have hm1 : ((m : Int) == 0) = false := by simp; omega
 clear h hz hK hK2;obtain ⟨BB, hBB⟩ := exq w.heap.size;rw [← hBB];have HBB := hdQ hBB;clear hBB
 go_enter Tryz.func24, Tryz.ntmps24
 go_wp2_with fail;obtain ⟨W0, hW0⟩ := exq ((w.alloc (.cells #[.bool s, .slice p m m] 56)).alloc (.cells #[.bool false, .slice none 0 0, .int .i64 0] 27))
 have Xm : Hid (Box W0 (w.heap.size) (.bool s) (.slice p m m)) := by rw [hW0]; constructor <;> go_simp
 have Xr : Hid (B3q W0 (w.heap.size + 1) (.bool false) (.slice none 0 0) (.int .i64 0)) := by rw [hW0]; constructor <;> go_simp
 have hb0 := bq2 hW0;rw [← hW0];clear hW0;have hbw := brf w;obtain ⟨gr, hgr⟩ := exq (w.heap.size + 1);have HGr : Hid (w.heap.size ≤ gr) := hgl hgr;rw [← hgr] at Xr
 try rw [← hgr]
 obtain ⟨gm, hgm⟩ := exq w.heap.size;have HGm : Hid (w.heap.size ≤ gm) := hgl hgm;rw [← hgm] at Xm
 try rw [← hgm]
 have HGD : Hid (gm ≠ gr ∧ gr ≠ gm) := by rw [hgm, hgr]; show _ ∧ _; omega
 clear hgm hgr;replace hbw := bon hbw hb0;clear hb0;obtain ⟨cm0, cm1, fm0, fm1⟩ := Xm.out;have hnem := Xm.out.lt;obtain ⟨cr0, cr1, cr2, fr0, fr1, fr2⟩ := Xr.out;have hner : gr < W0.heap.size := blt cr0;go_wp2_with fail
 refine bodyPost_ret (v := .tuple #[DV false none 0 0 0, .int .i64 5]) (by rw [results_cell_tmp rfl]; go_simp) rfl ⟨0, 0, 5, SaidD.err _ _ _, .inr ⟨HZ.out.1, K, HZ.out.2.1, .inr ⟨HZ.out.2.2, rfl, rfl, rfl⟩⟩, ?_⟩
 rw [HBB.out]
 first | exact hbw | exact bSet (bSet (bSet hbw _ _ _ HGr.out) _ _ _ HGr.out) _ _ _ HGr.out
theorem toldA_l {p : Option Addr} {m K : Nat} {w : World} {z e : Int} (s : Bool) (h : ZR w s p m z) (hz : z ≠ 0) (hK : TzIs z.natAbs K) (hK2 : K ≤ 10000000) (he : ¬ 1048576 < e ∧ e < -1099511627776) :
  Calls Tryz.prog 24 #[.agg #[.bool s, .slice p m m], .int .i64 e] w fun en w' => ∃ zo eo er, SaidD w.heap.size w' en zo eo er ∧ MkR z e zo eo er ∧ Below w.heap.size w w' := by
 have HZ : Hid (z ≠ 0 ∧ TzIs z.natAbs K ∧ ¬ (-1048576 ≤ e + K ∧ e + K ≤ 1048576)) := ⟨hz, hK, by omega⟩
 have hm0 : ¬ m = 0 := fun e0 => by have := h.zero.1 e0; omega
 have hm1 : ((m : Int) == 0) = false := by simp; omega
 have g0 := he.1;have g1 := he.2;clear h hz hK hK2;obtain ⟨BB, hBB⟩ := exq w.heap.size;rw [← hBB];have HBB := hdQ hBB;clear hBB
 go_enter Tryz.func24, Tryz.ntmps24
 go_wp2_with fail;obtain ⟨W0, hW0⟩ := exq ((w.alloc (.cells #[.bool s, .slice p m m] 56)).alloc (.cells #[.bool false, .slice none 0 0, .int .i64 0] 27))
 have Xm : Hid (Box W0 (w.heap.size) (.bool s) (.slice p m m)) := by rw [hW0]; constructor <;> go_simp
 have Xr : Hid (B3q W0 (w.heap.size + 1) (.bool false) (.slice none 0 0) (.int .i64 0)) := by rw [hW0]; constructor <;> go_simp
 have hb0 := bq2 hW0;rw [← hW0];clear hW0;have hbw := brf w;obtain ⟨gr, hgr⟩ := exq (w.heap.size + 1);have HGr : Hid (w.heap.size ≤ gr) := hgl hgr;rw [← hgr] at Xr
 try rw [← hgr]
 obtain ⟨gm, hgm⟩ := exq w.heap.size;have HGm : Hid (w.heap.size ≤ gm) := hgl hgm;rw [← hgm] at Xm
 try rw [← hgm]
 have HGD : Hid (gm ≠ gr ∧ gr ≠ gm) := by rw [hgm, hgr]; show _ ∧ _; omega
 clear hgm hgr;replace hbw := bon hbw hb0;clear hb0;obtain ⟨cm0, cm1, fm0, fm1⟩ := Xm.out;have hnem := Xm.out.lt;obtain ⟨cr0, cr1, cr2, fr0, fr1, fr2⟩ := Xr.out;have hner : gr < W0.heap.size := blt cr0;go_wp2_with fail
 refine bodyPost_ret (v := .tuple #[DV false none 0 0 0, .int .i64 5]) (by rw [results_cell_tmp rfl]; go_simp) rfl ⟨0, 0, 5, SaidD.err _ _ _, .inr ⟨HZ.out.1, K, HZ.out.2.1, .inr ⟨HZ.out.2.2, rfl, rfl, rfl⟩⟩, ?_⟩
 rw [HBB.out]
 first | exact hbw | exact bSet (bSet (bSet hbw _ _ _ HGr.out) _ _ _ HGr.out) _ _ _ HGr.out
theorem toldA_x {p : Option Addr} {m K : Nat} {w : World} {z e : Int} (s : Bool) (h : ZR w s p m z) (hz : z ≠ 0) (hK : TzIs z.natAbs K) (hm : m ≤ 16384) (hK2 : K ≤ 10000000) (he : -1099511627776 ≤ e ∧ e ≤ 1048576) (hc : e + K < -1048576) :
  Calls Tryz.prog 24 #[.agg #[.bool s, .slice p m m], .int .i64 e] w fun en w' => ∃ zo eo er, SaidD w.heap.size w' en zo eo er ∧ MkR z e zo eo er ∧ Below w.heap.size w w' := by
 obtain ⟨xs, hA, hN⟩ := h.ex;have AX := hdQ hA;have NX := hdQ hN
 have HZ : Hid (TzIs z.natAbs K ∧ 0 < z.natAbs ∧ m ≤ 16384 ∧ K ≤ 10000000 ∧ z ≠ 0 ∧ ¬ (-1048576 ≤ e + K ∧ e + K ≤ 1048576)) := ⟨hK, by omega, hm, hK2, hz, by omega⟩
 have g5 : wrap64 (e + K) = e + K := by simp only [wrap64]; omega
 have g6 : IntKind.i64.wrap (e + K) = e + K := by simp [IntKind.wrap, IntKind.signed, IntKind.bits]; omega
 have g3 : e + (K : Int) < -1048576 := hc
 have hm0 : ¬ m = 0 := fun e0 => by have := h.zero.1 e0; omega
 have hm1 : ((m : Int) == 0) = false := by simp; omega
 have g1 : ¬ 1048576 < e := by omega
 have g2 : ¬ e < -1099511627776 := by omega
 clear h hz hm hA hN he hK hK2
 try clear hc
 go_enter Tryz.func24, Tryz.ntmps24
 go_wp2_with fail;obtain ⟨W0, hW0⟩ := exq ((w.alloc (.cells #[.bool s, .slice p m m] 56)).alloc (.cells #[.bool false, .slice none 0 0, .int .i64 0] 27))
 have Xm : Hid (Box W0 (w.heap.size) (.bool s) (.slice p m m)) := by rw [hW0]; constructor <;> go_simp
 have Xr : Hid (B3q W0 (w.heap.size + 1) (.bool false) (.slice none 0 0) (.int .i64 0)) := by rw [hW0]; constructor <;> go_simp
 have hb0 := bq2 hW0;rw [← hW0];clear hW0;have hbw := brf w;obtain ⟨gr, hgr⟩ := exq (w.heap.size + 1);have HGr : Hid (w.heap.size ≤ gr) := hgl hgr;rw [← hgr] at Xr
 try rw [← hgr]
 obtain ⟨gm, hgm⟩ := exq w.heap.size;have HGm : Hid (w.heap.size ≤ gm) := hgl hgm;rw [← hgm] at Xm
 try rw [← hgm]
 have HGD : Hid (gm ≠ gr ∧ gr ≠ gm) := by rw [hgm, hgr]; show _ ∧ _; omega
 clear hgm hgr;replace hbw := bon hbw hb0;clear hb0;obtain ⟨cm0, cm1, fm0, fm1⟩ := Xm.out;have hnem := Xm.out.lt;go_wp2_with fail;clear cm0 cm1 fm0 fm1 hnem
 refine (rzeros_any (k := K) (AX.out.below hbw) NX.out (by have := HZ.out; omega) HZ.out.1 HZ.out.2.1).mono ?_
 rintro e2 v1 ⟨rfl, hw⟩;obtain rfl := hw.symm;clear hw;obtain ⟨cm0, cm1, fm0, fm1⟩ := Xm.out;have hnem := Xm.out.lt;go_wp2_with fail;clear cm0 cm1 fm0 fm1 hnem
 refine (rshr_alle (AX.out.below hbw) NX.out HZ.out.2.2.1 K (by have := HZ.out; omega)).mono ?_
 rintro e2 v3 ⟨p3, m3, z3, rfl, hA3, hN3, hl3, hb3⟩
 have g4 : ¬ (16384 : Int) < (m3 : Int) := by have := HZ.out; omega
 replace Xm := Box.b Xm hb3;replace Xr := B3q.b Xr hb3;replace hbw := bon hbw hb3;clear hb3 hA3 hN3 hl3;obtain ⟨cm0, cm1, fm0, fm1⟩ := Xm.out;have hnem := Xm.out.lt;obtain ⟨cr0, cr1, cr2, fr0, fr1, fr2⟩ := Xr.out;have hner : gr < v3.heap.size := blt cr0;go_wp2_with fail
 refine bodyPost_ret (v := .tuple #[DV false none 0 0 0, .int .i64 5]) (by rw [results_cell_tmp rfl]; go_simp) rfl ⟨0, 0, 5, SaidD.err _ _ _, .inr ⟨HZ.out.2.2.2.2.1, K, HZ.out.1, .inr ⟨HZ.out.2.2.2.2.2, rfl, rfl, rfl⟩⟩, ?_⟩
 first | exact hbw | exact bSet (bSet (bSet hbw _ _ _ HGr.out) _ _ _ HGr.out) _ _ _ HGr.out
theorem toldA_y {p : Option Addr} {m K : Nat} {w : World} {z e : Int} (s : Bool) (h : ZR w s p m z) (hz : z ≠ 0) (hK : TzIs z.natAbs K) (hm : m ≤ 16384) (hK2 : K ≤ 10000000) (he : -1099511627776 ≤ e ∧ e ≤ 1048576) (hc : ¬ e + K < -1048576 ∧ 1048576 < e + K) :
  Calls Tryz.prog 24 #[.agg #[.bool s, .slice p m m], .int .i64 e] w fun en w' => ∃ zo eo er, SaidD w.heap.size w' en zo eo er ∧ MkR z e zo eo er ∧ Below w.heap.size w w' := by
 obtain ⟨xs, hA, hN⟩ := h.ex;have AX := hdQ hA;have NX := hdQ hN
 have HZ : Hid (TzIs z.natAbs K ∧ 0 < z.natAbs ∧ m ≤ 16384 ∧ K ≤ 10000000 ∧ z ≠ 0 ∧ ¬ (-1048576 ≤ e + K ∧ e + K ≤ 1048576)) := ⟨hK, by omega, hm, hK2, hz, by omega⟩
 have g5 : wrap64 (e + K) = e + K := by simp only [wrap64]; omega
 have g6 : IntKind.i64.wrap (e + K) = e + K := by simp [IntKind.wrap, IntKind.signed, IntKind.bits]; omega
 have g3 := hc.1;have g7 : 1048576 < e + (K : Int) := hc.2
 have hm0 : ¬ m = 0 := fun e0 => by have := h.zero.1 e0; omega
 have hm1 : ((m : Int) == 0) = false := by simp; omega
 have g1 : ¬ 1048576 < e := by omega
 have g2 : ¬ e < -1099511627776 := by omega
 clear h hz hm hA hN he hK hK2
 try clear hc
 go_enter Tryz.func24, Tryz.ntmps24
 go_wp2_with fail;obtain ⟨W0, hW0⟩ := exq ((w.alloc (.cells #[.bool s, .slice p m m] 56)).alloc (.cells #[.bool false, .slice none 0 0, .int .i64 0] 27))
 have Xm : Hid (Box W0 (w.heap.size) (.bool s) (.slice p m m)) := by rw [hW0]; constructor <;> go_simp
 have Xr : Hid (B3q W0 (w.heap.size + 1) (.bool false) (.slice none 0 0) (.int .i64 0)) := by rw [hW0]; constructor <;> go_simp
 have hb0 := bq2 hW0;rw [← hW0];clear hW0;have hbw := brf w;obtain ⟨gr, hgr⟩ := exq (w.heap.size + 1);have HGr : Hid (w.heap.size ≤ gr) := hgl hgr;rw [← hgr] at Xr
 try rw [← hgr]
 obtain ⟨gm, hgm⟩ := exq w.heap.size;have HGm : Hid (w.heap.size ≤ gm) := hgl hgm;rw [← hgm] at Xm
 try rw [← hgm]
 have HGD : Hid (gm ≠ gr ∧ gr ≠ gm) := by rw [hgm, hgr]; show _ ∧ _; omega
 clear hgm hgr;replace hbw := bon hbw hb0;clear hb0;obtain ⟨cm0, cm1, fm0, fm1⟩ := Xm.out;have hnem := Xm.out.lt;go_wp2_with fail;clear cm0 cm1 fm0 fm1 hnem
 refine (rzeros_any (k := K) (AX.out.below hbw) NX.out (by have := HZ.out; omega) HZ.out.1 HZ.out.2.1).mono ?_
 rintro e2 v1 ⟨rfl, hw⟩;obtain rfl := hw.symm;clear hw;obtain ⟨cm0, cm1, fm0, fm1⟩ := Xm.out;have hnem := Xm.out.lt;go_wp2_with fail;clear cm0 cm1 fm0 fm1 hnem
 refine (rshr_alle (AX.out.below hbw) NX.out HZ.out.2.2.1 K (by have := HZ.out; omega)).mono ?_
 rintro e2 v3 ⟨p3, m3, z3, rfl, hA3, hN3, hl3, hb3⟩
 have g4 : ¬ (16384 : Int) < (m3 : Int) := by have := HZ.out; omega
 replace Xm := Box.b Xm hb3;replace Xr := B3q.b Xr hb3;replace hbw := bon hbw hb3;clear hb3 hA3 hN3 hl3;obtain ⟨cm0, cm1, fm0, fm1⟩ := Xm.out;have hnem := Xm.out.lt;obtain ⟨cr0, cr1, cr2, fr0, fr1, fr2⟩ := Xr.out;have hner : gr < v3.heap.size := blt cr0;go_wp2_with fail
 refine bodyPost_ret (v := .tuple #[DV false none 0 0 0, .int .i64 5]) (by rw [results_cell_tmp rfl]; go_simp) rfl ⟨0, 0, 5, SaidD.err _ _ _, .inr ⟨HZ.out.2.2.2.2.1, K, HZ.out.1, .inr ⟨HZ.out.2.2.2.2.2, rfl, rfl, rfl⟩⟩, ?_⟩
 first | exact hbw | exact bSet (bSet (bSet hbw _ _ _ HGr.out) _ _ _ HGr.out) _ _ _ HGr.out
theorem toldA_n {p : Option Addr} {m K : Nat} {w : World} {z zo e : Int} (s : Bool) (h : ZR w s p m z) (hz : z ≠ 0) (hK : TzIs z.natAbs K) (hzo : zo.natAbs = z.natAbs / 2 ^ K ∧ zo % 2 = 1 ∧ decide (zo < 0) = decide (z < 0) ∧ iv (decide (z < 0)) (z.natAbs / 2 ^ K) = zo) (hm : m ≤ 16384) (he : -1099511627776 ≤ e ∧ e ≤ 1048576) (he2 : -1048576 ≤ e + K ∧ e + K ≤ 1048576) :
  Calls Tryz.prog 24 #[.agg #[.bool s, .slice p m m], .int .i64 e] w fun en w' => ∃ g m' c', en = .returned (.tuple #[DV s (some ⟨g, 0, none⟩) m' c' (e + K), .int .i64 0]) ∧ w.heap.size ≤ g ∧ DN w' s (some ⟨g, 0, none⟩) m' c' (e + K) zo ∧ Below w.heap.size w w' := by
 obtain ⟨xs, hA, hN⟩ := h.ex;have AX := hdQ hA;have NX := hdQ hN
 have HZ : Hid (TzIs z.natAbs K ∧ 0 < z.natAbs ∧ s = decide (z < 0) ∧ m ≤ 16384 ∧ K ≤ 9223372036854775807) := ⟨hK, by omega, h.sg, hm, by omega⟩
 have HO : Hid (zo.natAbs = z.natAbs / 2 ^ K ∧ zo % 2 = 1 ∧ decide (zo < 0) = decide (z < 0) ∧ iv (decide (z < 0)) (z.natAbs / 2 ^ K) = zo) := hzo;have HE : Hid (-1048576 ≤ e + K ∧ e + K ≤ 1048576) := he2
 have hm0 : ¬ m = 0 := fun e0 => by have := h.zero.1 e0; omega
 have hm1 : ((m : Int) == 0) = false := by simp; omega
 have g1 : ¬ 1048576 < e := by omega
 have g2 : ¬ e < -1099511627776 := by omega
 have g5 : wrap64 (e + K) = e + K := by simp only [wrap64]; omega
 have g6 : IntKind.i64.wrap (e + K) = e + K := by simp [IntKind.wrap, IntKind.signed, IntKind.bits]; omega
 have g3 : ¬ e + (K : Int) < -1048576 := by omega
 have g7 : ¬ 1048576 < e + (K : Int) := by omega
 clear h hz hm hA hN he he2 hzo hK
 go_enter Tryz.func24, Tryz.ntmps24
 go_wp2_with fail;obtain ⟨W0, hW0⟩ := exq ((w.alloc (.cells #[.bool s, .slice p m m] 56)).alloc (.cells #[.bool false, .slice none 0 0, .int .i64 0] 27))
 have Xm : Hid (Box W0 (w.heap.size) (.bool s) (.slice p m m)) := by rw [hW0]; constructor <;> go_simp
 have Xr : Hid (B3q W0 (w.heap.size + 1) (.bool false) (.slice none 0 0) (.int .i64 0)) := by rw [hW0]; constructor <;> go_simp
 have hb0 := bq2 hW0;rw [← hW0];clear hW0;have hbw := brf w;obtain ⟨gr, hgr⟩ := exq (w.heap.size + 1);have HGr : Hid (w.heap.size ≤ gr) := hgl hgr;rw [← hgr] at Xr
 try rw [← hgr]
 obtain ⟨gm, hgm⟩ := exq w.heap.size;have HGm : Hid (w.heap.size ≤ gm) := hgl hgm;rw [← hgm] at Xm
 try rw [← hgm]
 have HGD : Hid (gm ≠ gr ∧ gr ≠ gm) := by rw [hgm, hgr]; show _ ∧ _; omega
 clear hgm hgr;replace hbw := bon hbw hb0;clear hb0;obtain ⟨cm0, cm1, fm0, fm1⟩ := Xm.out;have hnem := Xm.out.lt;go_wp2_with fail;clear cm0 cm1 fm0 fm1 hnem
 refine (rzeros_any (k := K) (AX.out.below hbw) NX.out (by have := HZ.out; omega) HZ.out.1 HZ.out.2.1).mono ?_
 rintro e2 v1 ⟨rfl, hw⟩;obtain rfl := hw.symm;clear hw;obtain ⟨cm0, cm1, fm0, fm1⟩ := Xm.out;have hnem := Xm.out.lt;go_wp2_with fail;clear cm0 cm1 fm0 fm1 hnem
 refine (rshr_alle (AX.out.below hbw) NX.out (by have := HZ.out; omega) K HZ.out.2.2.2.2).mono ?_
 rintro e2 v3 ⟨p3, m3, z3, rfl, hA3, hN3, hl3, hb3⟩
 have g4 : ¬ (16384 : Int) < (m3 : Int) := by have := HZ.out; omega
 have N3 : Hid (Nf B32 z3 (z.natAbs / 2 ^ K) ∧ m3 ≤ m) := ⟨hN3, hl3⟩;replace Xm := Box.b Xm hb3;replace Xr := B3q.b Xr hb3;replace hbw := bon hbw hb3;clear hb3;have A3 := hdQ hA3;clear hA3 hN3 hl3;obtain ⟨cm0, cm1, fm0, fm1⟩ := Xm.out;have hnem := Xm.out.lt;go_wp2_with fail;clear cm0 cm1 fm0 fm1 hnem
 refine (rmk_any s A3.out N3.out.1 (by have := HZ.out; have := N3.out; omega)).mono ?_
 rintro e v5 ⟨v, rfl, hv, hb5⟩;obtain ⟨s5, g5, m5, rfl, hg5, hz5, hl5⟩ := hv;have HN5 : Hid (v3.heap.size ≤ g5) := hg5;have HB5 : Hid (v3.heap.size ≤ v5.heap.size) := hb5.size;replace Xm := Box.b Xm hb5;replace Xr := B3q.b Xr hb5;replace A3 := At32.b A3 hb5;replace hbw := bon hbw hb5;clear hb5;have Z5 := hdQ hz5;have HL5 : Hid (m5 ≤ m3) := hl5;clear hz5 hl5 hg5
 have hz5 := Z5.out.cast (show iv s (z.natAbs / 2 ^ K) = zo from by rw [HZ.out.2.2.1]; exact HO.out.2.2.2)
 obtain rfl : s5 = s := by rw [hz5.sg, HZ.out.2.2.1]; exact HO.out.2.2.1
 obtain ⟨zs, hA5, hN5⟩ := hz5.ex
 have h05 : s5 = true → 0 < m5 := fun h8 => Nat.pos_of_ne_zero fun e0 => by have := hz5.zero.1 e0; have := HO.out.2.1; omega
 have HZ5 : Hid (At32 v5 (some ⟨g5, 0, none⟩) m5 m5 zs ∧ Nf B32 zs zo.natAbs ∧ (s5 = true → 0 < m5) ∧ m5 ≤ m) := ⟨hA5, hN5, h05, Nat.le_trans HL5.out N3.out.2⟩;clear hz5 hA5 hN5 h05 Z5;go_wp2_with fail;have HRL : Hid (gr < v5.heap.size ∧ w.heap.size ≤ v5.heap.size) := ⟨Xr.out.lt, hbw.size⟩
 refine (to04_any s5 HZ5.out.1 HZ5.out.2.1 (by have := HZ5.out; have := HZ.out; omega) HZ5.out.2.2.1).mono ?_
 rintro e2 v6 ⟨g6, k6, c6, us, rfl, hA6, hN6, hg6, hb6⟩;replace Xm := Box.b Xm hb6;replace Xr := B3q.b Xr hb6;replace A3 := At32.b A3 hb6;replace hbw := bon hbw hb6;clear hb6;have A6 := hdQ hA6;have N6 : Hid (Nf B64 us zo.natAbs ∧ gr < g6) := ⟨hN6, Nat.lt_of_lt_of_le HRL.out.1 hg6⟩;clear hA6 hN6 hg6;obtain ⟨cr0, cr1, cr2, fr0, fr1, fr2⟩ := Xr.out;have hner : gr < v6.heap.size := blt cr0;go_wp2_with fail
 refine bodyPost_ret (v := .tuple #[DV s5 (some ⟨g6, 0, none⟩) k6 c6 (e + K), .int .i64 0]) (by rw [results_cell_tmp rfl]; go_simp) rfl ⟨g6, k6, c6, rfl, Nat.le_trans HGr.out (Nat.le_of_lt N6.out.2), ⟨⟨⟨us, ?_, N6.out.1, ?_⟩, by rw [HZ.out.2.2.1]; exact HO.out.2.2.1.symm⟩, .inr ⟨HO.out.2.1, HE.out⟩⟩, ?_⟩
 ·have := N6.out.2
  exact ((A6.out.setOther _ _ _ (by omega)).setOther _ _ _ (by omega)).setOther _ _ _ (by omega)
 ·have h1 := (lim32 HZ5.out.2.1).1 (by rw [HZ5.out.1.len]; have := HZ5.out; have := HZ.out; omega)
  have h2 := N6.out.1.lim.2 h1;rw [A6.out.len] at h2
  exact h2
 ·exact bSet (bSet (bSet hbw _ _ _ HGr.out) _ _ _ HGr.out) _ _ _ HGr.out
theorem tz_small {z : Int} {K L : Nat} (hK : TzIs z.natAbs K) (hL : z.natAbs < 2 ^ L) : K < L := by
  have h1 : 2 ^ K ≤ z.natAbs := by
    rcases Nat.lt_or_ge z.natAbs (2 ^ K) with h | h
    · have := hK.2
      rw [Nat.div_eq_of_lt h] at this
      omega
    · exact h
  exact (Nat.pow_lt_pow_iff_right (by decide)).1 (Nat.lt_of_le_of_lt h1 hL)
theorem told_a {p : Option Addr} {m : Nat} {w : World} {z e : Int} (s : Bool) (h : ZR w s p m z) (hm : m ≤ 16384) :
  Calls Tryz.prog 24 #[.agg #[.bool s, .slice p m m], .int .i64 e] w fun en w' => ∃ zo eo er, SaidD w.heap.size w' en zo eo er ∧ MkR z e zo eo er ∧ Below w.heap.size w w' := by
 by_cases hz : z = 0
 ·obtain rfl : m = 0 := h.zero.2 hz
  exact toldA_z s hz
 obtain ⟨K, hK⟩ := TzO.ex z.natAbs;have hK := hK.is hz
 have hK2 : K ≤ 524288 := by
  obtain ⟨xs, hA, hN⟩ := h.ex
  have h1 := (lim_bits z.natAbs).1 ((lim32 hN).1 (by rw [hA.len]; exact hm))
  have h2 := tz_small hK (bitsN_lt z.natAbs)
  omega
 by_cases g1 : 1048576 < e
 ·exact toldA_g s h hz hK (by omega) g1
 by_cases g2 : e < -1099511627776
 ·exact toldA_l s h hz hK (by omega) ⟨g1, g2⟩
 by_cases g3 : e + K < -1048576
 ·exact toldA_x s h hz hK hm (by omega) (by omega) g3
 by_cases g4 : 1048576 < e + K
 ·exact toldA_y s h hz hK hm (by omega) (by omega) ⟨g3, g4⟩
 obtain ⟨zo, o1, o2, o3, o4, o5⟩ := tz_vale hz hK
 refine (toldA_n s h hz hK ⟨o1, o2, o4, o5⟩ hm (by omega) (by omega)).mono ?_
 rintro en w' ⟨g, m', c', rfl, hg, hd, hb⟩
 exact ⟨zo, e + K, 0, ⟨_, _, _, _, rfl, hd, .inr ⟨g, rfl, hg⟩⟩, .inr ⟨hz, K, hK, .inl ⟨by omega, by omega, o3, rfl, rfl⟩⟩, hb⟩
end Go.Proofs.YtmlclpjimkjjeaaGreatDoor
