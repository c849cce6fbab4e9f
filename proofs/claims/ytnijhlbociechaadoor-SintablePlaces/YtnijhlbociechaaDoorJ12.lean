import Derived.Test.YtnijhlbociechaaDoorJ11
import Derived.Test.YtnijhlbociechaaDoorJ9
import Derived.Test.YtnijhlbociechaaDoorJ8
import Derived.Test.YtnijhlbociechaaDoorJ10
namespace Go.Proofs.YtnijhlbociechaaDoor
open Go.RowKit Go.Shelf
set_option maxRecDepth 20000
set_option maxHeartbeats 0
theorem rFs_zero (x : Int) : rFs x 0 = x := by
  unfold rFs fl
  rw [Nat.pow_zero, Nat.div_one, Nat.mod_one]
  simp
  exact iv_abs x
theorem rfloorshr04_z {p : Option Addr} {m : Nat} {w : World} {x : Int} (s : Bool) (h : ZR w s p m x) (hm : m ≤ 16384) :
    Calls Tryd.prog 16 #[.agg #[.bool s, .slice p m m], .int .i64 0] w fun e w' => ∃ v, e = .returned v ∧ GotR w.heap.size w' v (x) (m + 4) ∧ Below w.heap.size w w' := by
  obtain ⟨xs, hAx, hNx⟩ := h.ex
  have HA : Hid (ZR w s p m x) := h
  have AX : Hid (At32 w p m m xs) := hAx
  have NX : Hid (Nf B32 xs x.natAbs) := hNx
  have HM : Hid (m ≤ 16384) := hm
  clear h hm hAx hNx
  go_enter Tryd.func16, Tryd.ntmps16
  go_wp2_with fail
  obtain ⟨W0, hW0⟩ : ∃ W0, W0 = ((w.alloc (.cells #[.bool s, .slice p m m] 45)).alloc (.cells #[.bool false, .slice none 0 0] 45)) := ⟨_, rfl⟩
  have Xa : Hid (Box W0 (w.heap.size) (.bool s) (.slice p m m)) := by rw [hW0]; exact ⟨by go_simp, by go_simp, by go_simp, by go_simp⟩
  have Xr : Hid (Box W0 (w.heap.size + 1) (.bool false) (.slice none 0 0)) := by rw [hW0]; exact ⟨by go_simp, by go_simp, by go_simp, by go_simp⟩
  have hb0 : Below w.heap.size w W0 := by rw [hW0]; exact below2 w _ _
  rw [← hW0]
  clear hW0
  have hbw : Below w.heap.size w w := Below.refl _ _
  obtain ⟨gr, hgr⟩ : ∃ g, g = w.heap.size + 1 := ⟨_, rfl⟩
  have HGr : Hid (w.heap.size ≤ gr) := by rw [hgr]; show _ ≤ _; omega
  rw [← hgr] at Xr
  try rw [← hgr]
  obtain ⟨ga, hga⟩ : ∃ g, g = w.heap.size := ⟨_, rfl⟩
  have HGa : Hid (w.heap.size ≤ ga) := by rw [hga]; show _ ≤ _; omega
  rw [← hga] at Xa
  try rw [← hga]
  have HGD : Hid (ga ≠ gr ∧ gr ≠ ga) := by rw [hga, hgr]; exact ⟨by omega, by omega⟩
  clear hga hgr
  replace hbw := Below.on hbw hb0
  clear hb0
  have HRB : Hid (gr < W0.heap.size ∧ w.heap.size ≤ W0.heap.size) := ⟨Xr.out.lt, hbw.size⟩
  have AX1 := AX.out.below hbw
  refine (rmk_any s AX1 NX.out (by have := HM.out; omega)).mono ?_
  rintro e v9 ⟨v, rfl, hv, hb9⟩
  obtain ⟨s9, g9, m9, rfl, hg9, hz9, hl9⟩ := hv
  have HN9 : Hid (W0.heap.size ≤ g9) := hg9
  replace Xa : Hid _ := Xa.out.below hb9
  replace Xr : Hid _ := Xr.out.below hb9
  replace hbw := Below.on hbw hb9
  clear hb9
  have Z9 : Hid (ZR v9 s9 (some ⟨g9, 0, none⟩) m9 (iv s x.natAbs)) := hz9
  have HL9 : Hid (m9 ≤ m) := hl9
  clear hz9 hl9 hg9
  have Z9' := Z9.out.cast HA.out.iv
  clear Z9
  have Z9 : Hid (ZR v9 s9 (some ⟨g9, 0, none⟩) m9 x) := Z9'
  clear Z9' AX1
  obtain ⟨cr0, cr1, fr0, fr1⟩ := Xr.out
  have hner := Xr.out.lt
  go_wp2_with fail
  refine bodyPost_ret (v := .agg #[.bool s9, .slice (some ⟨g9, 0, none⟩) m9 m9]) (by rw [results_cell1 rfl]; go_simp) rfl ⟨_, rfl, ⟨s9, g9, m9, rfl, Nat.le_trans HRB.out.2 HN9.out, ?_, Nat.le_trans HL9.out (Nat.le_add_right _ _)⟩, ?_⟩
  · have := HN9.out; have := HRB.out.1
    exact (Z9.out.set _ _ _ (by omega)).set _ _ _ (by omega)
  · exact bSet (bSet hbw _ _ _ HGr.out) _ _ _ HGr.out
theorem rfloorshr04_p {p : Option Addr} {m : Nat} {w : World} {x : Int} (h : ZR w false p m x) (hm : m ≤ 16384) (k : Nat) (hk : 0 < k) (hk2 : k ≤ 9223372036854775807) :
    Calls Tryd.prog 16 #[.agg #[.bool false, .slice p m m], .int .i64 k] w fun e w' => ∃ v, e = .returned v ∧ GotR w.heap.size w' v (rFs x k) (m + 4) ∧ Below w.heap.size w w' := by
  obtain ⟨xs, hAx, hNx⟩ := h.ex
  have HA : Hid (ZR w false p m x) := h
  have AX : Hid (At32 w p m m xs) := hAx
  have NX : Hid (Nf B32 xs x.natAbs) := hNx
  have HM : Hid (m ≤ 16384) := hm
  have HK : Hid (0 < k ∧ k ≤ 9223372036854775807) := ⟨hk, hk2⟩
  have h1 : ¬ (k : Int) ≤ 0 := by omega
  have HRV : Hid (rFs x k = iv false (x.natAbs / 2 ^ k)) := by show _ = _; unfold rFs fl; rw [← HA.out.sg]; simp
  rw [HRV.out]
  clear HRV
  clear h hm hAx hNx hk hk2
  go_enter Tryd.func16, Tryd.ntmps16
  go_wp2_with fail
  obtain ⟨W0, hW0⟩ : ∃ W0, W0 = ((w.alloc (.cells #[.bool false, .slice p m m] 45)).alloc (.cells #[.bool false, .slice none 0 0] 45)) := ⟨_, rfl⟩
  have Xa : Hid (Box W0 (w.heap.size) (.bool false) (.slice p m m)) := by rw [hW0]; exact ⟨by go_simp, by go_simp, by go_simp, by go_simp⟩
  have Xr : Hid (Box W0 (w.heap.size + 1) (.bool false) (.slice none 0 0)) := by rw [hW0]; exact ⟨by go_simp, by go_simp, by go_simp, by go_simp⟩
  have hb0 : Below w.heap.size w W0 := by rw [hW0]; exact below2 w _ _
  rw [← hW0]
  clear hW0
  have hbw : Below w.heap.size w w := Below.refl _ _
  obtain ⟨gr, hgr⟩ : ∃ g, g = w.heap.size + 1 := ⟨_, rfl⟩
  have HGr : Hid (w.heap.size ≤ gr) := by rw [hgr]; show _ ≤ _; omega
  rw [← hgr] at Xr
  try rw [← hgr]
  obtain ⟨ga, hga⟩ : ∃ g, g = w.heap.size := ⟨_, rfl⟩
  have HGa : Hid (w.heap.size ≤ ga) := by rw [hga]; show _ ≤ _; omega
  rw [← hga] at Xa
  try rw [← hga]
  have HGD : Hid (ga ≠ gr ∧ gr ≠ ga) := by rw [hga, hgr]; exact ⟨by omega, by omega⟩
  clear hga hgr
  replace hbw := Below.on hbw hb0
  clear hb0
  obtain ⟨W1, hW1⟩ : ∃ W1, W1 = W0.drew := ⟨_, rfl⟩
  have hbd : Below W0.heap.size W0 W1 := by rw [hW1]; exact bDrew1 (Below.refl _ _)
  replace Xa : Hid _ := Xa.out.below hbd
  replace Xr : Hid _ := Xr.out.below hbd
  replace hbw := Below.on hbw hbd
  clear hbd
  have HJ : Hid ((fun W' : World => W'.cell? ⟨ga, 0, none⟩ = some (.bool false) ∧ W'.cell? ⟨ga, 1, none⟩ = some (.slice p m m)) W1) := ⟨Xa.out.c0, Xa.out.c1⟩
  refine wp_region_J (fun W' => W'.cell? ⟨ga, 0, none⟩ = some (.bool false) ∧ W'.cell? ⟨ga, 1, none⟩ = some (.slice p m m)) (by kernel_rfl) ?_
  rw [← hW1]
  clear hW1
  refine wpJ_tq 0 rfl HJ.out ?_
  refine wpJ_tq 1 rfl HJ.out ?_
  refine wpJ_tq 2 rfl HJ.out ?_
  refine wpJ_tq 3 rfl HJ.out ?_
  refine wpJ_tq 4 rfl HJ.out ?_
  refine wpJ_cutA (fun a0 a' W' => ∃ gq s4 g4 m4 p2 m2, a' = (((a0.put (some 18) (.slice p2 m2 m2)).put (some 19) (.agg #[.bool s4, .slice (some ⟨g4, 0, none⟩) m4 m4])).put (some 5) (.pointer (some ⟨gq, 0, none⟩))) ∧ Box W' ga (.bool false) (.slice p m m) ∧ Box W' gr (.bool false) (.slice none 0 0) ∧ Box W' gq (.bool s4) (.slice (some ⟨g4, 0, none⟩) m4 m4) ∧ ZR W' s4 (some ⟨g4, 0, none⟩) m4 (iv false (x.natAbs / 2 ^ k)) ∧ m4 ≤ m ∧ w.heap.size ≤ g4 ∧ gr < g4 ∧ gr ≠ gq ∧ Below w.heap.size w W') ?_ ?_
  · rintro a' Wc ⟨gq, s4, g4, m4, p2, m2, rfl, xa, xr, xq, z4, hHLq, hHN4, hHR4, hHDrq, hbc⟩
    have Ca : Hid (Box Wc ga (.bool false) (.slice p m m)) := xa
    have Cr : Hid (Box Wc gr (.bool false) (.slice none 0 0)) := xr
    have Cq : Hid (Box Wc gq (.bool s4) (.slice (some ⟨g4, 0, none⟩) m4 m4)) := xq
    have Z4 : Hid (ZR Wc s4 (some ⟨g4, 0, none⟩) m4 (iv false (x.natAbs / 2 ^ k))) := z4
    have HLq : Hid (m4 ≤ m) := hHLq
    have HN4 : Hid (w.heap.size ≤ g4) := hHN4
    have HR4 : Hid (gr < g4) := hHR4
    have HDrq : Hid (gr ≠ gq) := hHDrq
    clear hbw HJ Xa Xr xa xr xq z4 hHLq hHN4 hHR4 hHDrq
    have hbw := hbc
    have Xa := Ca
    have Xr := Cr
    have Xq := Cq
    clear hbc Ca Cr Cq
    obtain ⟨ca0, ca1, fa0, fa1⟩ := Xa.out
    have hnea := Xa.out.lt
    obtain ⟨cq0, cq1, fq0, fq1⟩ := Xq.out
    have hneq := Xq.out.lt
    obtain ⟨cr0, cr1, fr0, fr1⟩ := Xr.out
    have hner := Xr.out.lt
    go_wp2_with fail
    refine bodyPost_ret (v := .agg #[.bool s4, .slice (some ⟨g4, 0, none⟩) m4 m4]) (by rw [results_cell1 rfl]; go_simp) rfl ⟨_, rfl, ⟨s4, g4, m4, rfl, HN4.out, ?_, Nat.le_trans HLq.out (Nat.le_add_right _ _)⟩, ?_⟩
    · have := HR4.out
      exact (Z4.out.set _ _ _ (by omega)).set _ _ _ (by omega)
    · exact bSet (bSet hbw _ _ _ HGr.out) _ _ _ HGr.out
  · skip
    refine wpJ_two (i := 5) (k := 7) (by kernel_rfl) rfl rfl (by kernel_rfl) (by kernel_rfl) (fun KJ hK => ?_) (fun KJ hK => ?_)
    · go_simp
      refine (rfshr_any (AX.out.below hbw) NX.out HM.out k HK.out.1 HK.out.2).mono ?_
      rintro e v2 ⟨p2, m2, z2, rfl, hA2, hN2, hl2, hb2⟩
      replace Xa : Hid _ := Xa.out.below hb2
      replace Xr : Hid _ := Xr.out.below hb2
      replace hbw := Below.on hbw hb2
      clear hb2
      have A2 : Hid (At32 v2 p2 m2 m2 z2) := hA2
      have N2 : Hid (Nf B32 z2 (x.natAbs / 2 ^ k) ∧ m2 ≤ m) := ⟨hN2, hl2⟩
      clear hA2 hN2 hl2
      clear HJ
      have HJ : Hid ((fun W' : World => W'.cell? ⟨ga, 0, none⟩ = some (.bool false) ∧ W'.cell? ⟨ga, 1, none⟩ = some (.slice p m m)) v2) := ⟨Xa.out.c0, Xa.out.c1⟩
      refine hK _ _ HJ.out ?_
      clear hK
      refine wpJ_two (i := 6) (k := 7) (by kernel_rfl) rfl rfl (by kernel_rfl) (by kernel_rfl) (fun KJ hK => ?_) (fun KJ hK => ?_)
      · go_simp
        refine (rmk_any false A2.out N2.out.1 (by have := N2.out.2; have := HM.out; omega)).mono ?_
        rintro e v4 ⟨v, rfl, hv, hb4⟩
        obtain ⟨s4, g4, m4, rfl, hg4, hz4, hl4⟩ := hv
        have HN4 : Hid (w.heap.size ≤ g4) := Nat.le_trans hbw.size hg4
        have HR4 : Hid (gr < g4) := Nat.lt_of_lt_of_le Xr.out.lt hg4
        replace Xa : Hid _ := Xa.out.below hb4
        replace Xr : Hid _ := Xr.out.below hb4
        replace A2 : Hid _ := A2.out.below hb4
        replace hbw := Below.on hbw hb4
        clear hb4
        have Z4 : Hid (ZR v4 s4 (some ⟨g4, 0, none⟩) m4 (iv false (x.natAbs / 2 ^ k))) := hz4
        have HL4 : Hid (m4 ≤ m2) := hl4
        clear hz4 hl4 hg4
        have HLq : Hid (m4 ≤ m) := Nat.le_trans HL4.out N2.out.2
        clear HL4 N2
        refine hK _ _ ⟨Xa.out.c0, Xa.out.c1⟩ ?_
        clear hK
        refine wpJ_on 7 rfl fun KJ hK => ?_
        go_simp
        have HDq : Hid (ga ≠ v4.heap.size ∧ gr ≠ v4.heap.size) := ⟨Nat.ne_of_lt Xa.out.lt, Nat.ne_of_lt Xr.out.lt⟩
        have HO4q : Hid (OffR g4 m4 v4.heap.size) := Z4.out.off_new
        have HDrq : Hid (gr ≠ v4.heap.size) := Nat.ne_of_lt Xr.out.lt
        have Xq0 : Hid (Box (v4.alloc (.cells #[.bool false, .slice none 0 0] 45)) v4.heap.size (.bool false) (.slice none 0 0)) := Box.new v4 _ _ _
        have hbn : Below v4.heap.size v4 (v4.alloc (.cells #[.bool false, .slice none 0 0] 45)) := below1 v4 _
        generalize v4.alloc (.cells #[.bool false, .slice none 0 0] 45) = Wq at *
        have HGq : Hid (w.heap.size ≤ v4.heap.size) := hbw.size
        replace Xa : Hid _ := Xa.out.below hbn
        replace Xr : Hid _ := Xr.out.below hbn
        replace A2 : Hid _ := A2.out.below hbn
        replace Z4 : Hid _ := Z4.out.below hbn
        replace hbw := Below.on hbw hbn
        clear hbn
        generalize v4.heap.size = gq at *
        have Xq := Xq0
        clear Xq0
        refine hK _ _ ⟨Xa.out.c0, Xa.out.c1⟩ ?_
        clear hK
        obtain ⟨cq0, cq1, fq0, fq1⟩ := Xq.out
        have hneq := Xq.out.lt
        obtain ⟨ca0, ca1, fa0, fa1⟩ := Xa.out
        have hnea := Xa.out.lt
        obtain ⟨cr0, cr1, fr0, fr1⟩ := Xr.out
        have hner := Xr.out.lt
        have qqa : ga ≠ gq := HDq.out.1
        have qaq : gq ≠ ga := fun h => qqa h.symm
        have qqr : gr ≠ gq := HDq.out.2
        have qrq : gq ≠ gr := fun h => qqr h.symm
        refine wpJ_on 8 rfl fun KJ hK => ?_
        go_simp
        have HJ2 : Hid ((fun W' : World => W'.cell? ⟨ga, 0, none⟩ = some (.bool false) ∧ W'.cell? ⟨ga, 1, none⟩ = some (.slice p m m)) ((Wq.setCell ⟨gq, 0, none⟩ (.bool s4)).setCell ⟨gq, 1, none⟩ (.slice (some ⟨g4, 0, none⟩) m4 m4))) := ⟨by go_simp, by go_simp⟩
        have Xq2 : Hid (Box ((Wq.setCell ⟨gq, 0, none⟩ (.bool s4)).setCell ⟨gq, 1, none⟩ (.slice (some ⟨g4, 0, none⟩) m4 m4)) gq (.bool s4) (.slice (some ⟨g4, 0, none⟩) m4 m4)) := ⟨by go_simp, by go_simp, by go_simp, by go_simp⟩
        have Xa2 : Hid (Box ((Wq.setCell ⟨gq, 0, none⟩ (.bool s4)).setCell ⟨gq, 1, none⟩ (.slice (some ⟨g4, 0, none⟩) m4 m4)) ga (.bool false) (.slice p m m)) := ⟨by go_simp, by go_simp, by go_simp, by go_simp⟩
        have Xr2 : Hid (Box ((Wq.setCell ⟨gq, 0, none⟩ (.bool s4)).setCell ⟨gq, 1, none⟩ (.slice (some ⟨g4, 0, none⟩) m4 m4)) gr (.bool false) (.slice none 0 0)) := ⟨by go_simp, by go_simp, by go_simp, by go_simp⟩
        have Z42 : Hid (ZR ((Wq.setCell ⟨gq, 0, none⟩ (.bool s4)).setCell ⟨gq, 1, none⟩ (.slice (some ⟨g4, 0, none⟩) m4 m4)) s4 (some ⟨g4, 0, none⟩) m4 (iv false (x.natAbs / 2 ^ k))) := (Z4.out.setOff HO4q.out _ _).setOff HO4q.out _ _
        have hbw2 : Below w.heap.size w ((Wq.setCell ⟨gq, 0, none⟩ (.bool s4)).setCell ⟨gq, 1, none⟩ (.slice (some ⟨g4, 0, none⟩) m4 m4)) := bSet (bSet hbw _ _ _ HGq.out) _ _ _ HGq.out
        refine hK _ _ HJ2.out ?_
        clear hK HJ
        have HJ := HJ2
        clear HJ2 hbw A2 Z4
        clear cq0 cq1 fq0 fq1 hneq
        clear ca0 ca1 fa0 fa1 hnea
        clear cr0 cr1 fr0 fr1 hner
        clear qqa qaq qqr qrq Xq Xa Xr
        generalize ((Wq.setCell ⟨gq, 0, none⟩ (.bool s4)).setCell ⟨gq, 1, none⟩ (.slice (some ⟨g4, 0, none⟩) m4 m4)) = Ws0 at *
        have hbw := hbw2
        have Z4 := Z42
        have Xq := Xq2
        have Xa := Xa2
        have Xr := Xr2
        clear hbw2 Z42 Xq2 Xa2 Xr2
        refine wpJ_done (by kernel_rfl) ?_ _
        exact ⟨rfl, gq, s4, g4, m4, p2, m2, by kernel_rfl, Xa.out, Xr.out, Xq.out, Z4.out, HLq.out, HN4.out, HR4.out, HDrq.out, hbw⟩
      · go_simp
        have HDq : Hid (ga ≠ v2.heap.size ∧ gr ≠ v2.heap.size) := ⟨Nat.ne_of_lt Xa.out.lt, Nat.ne_of_lt Xr.out.lt⟩
        have HDrq : Hid (gr ≠ v2.heap.size) := Nat.ne_of_lt Xr.out.lt
        have Xq0 : Hid (Box (v2.alloc (.cells #[.bool false, .slice none 0 0] 45)) v2.heap.size (.bool false) (.slice none 0 0)) := Box.new v2 _ _ _
        have hbn : Below v2.heap.size v2 (v2.alloc (.cells #[.bool false, .slice none 0 0] 45)) := below1 v2 _
        generalize v2.alloc (.cells #[.bool false, .slice none 0 0] 45) = Wq at *
        have HGq : Hid (w.heap.size ≤ v2.heap.size) := hbw.size
        replace Xa : Hid _ := Xa.out.below hbn
        replace Xr : Hid _ := Xr.out.below hbn
        replace A2 : Hid _ := A2.out.below hbn
        replace hbw := Below.on hbw hbn
        clear hbn
        generalize v2.heap.size = gq at *
        have Xq := Xq0
        clear Xq0
        refine hK _ _ ⟨Xa.out.c0, Xa.out.c1⟩ ?_
        clear hK
        refine wpJ_on 6 rfl fun KJ hK => ?_
        go_simp
        refine (rmk_any false A2.out N2.out.1 (by have := N2.out.2; have := HM.out; omega)).mono ?_
        rintro e v4 ⟨v, rfl, hv, hb4⟩
        obtain ⟨s4, g4, m4, rfl, hg4, hz4, hl4⟩ := hv
        have HO4q : Hid (OffR g4 m4 gq) := .inr (Nat.ne_of_gt (Nat.lt_of_lt_of_le Xq.out.lt hg4))
        have HN4 : Hid (w.heap.size ≤ g4) := Nat.le_trans hbw.size hg4
        have HR4 : Hid (gr < g4) := Nat.lt_of_lt_of_le Xr.out.lt hg4
        replace Xa : Hid _ := Xa.out.below hb4
        replace Xr : Hid _ := Xr.out.below hb4
        replace Xq : Hid _ := Xq.out.below hb4
        replace A2 : Hid _ := A2.out.below hb4
        replace hbw := Below.on hbw hb4
        clear hb4
        have Z4 : Hid (ZR v4 s4 (some ⟨g4, 0, none⟩) m4 (iv false (x.natAbs / 2 ^ k))) := hz4
        have HL4 : Hid (m4 ≤ m2) := hl4
        clear hz4 hl4 hg4
        have HLq : Hid (m4 ≤ m) := Nat.le_trans HL4.out N2.out.2
        clear HL4 N2
        refine hK _ _ ⟨Xa.out.c0, Xa.out.c1⟩ ?_
        clear hK
        obtain ⟨cq0, cq1, fq0, fq1⟩ := Xq.out
        have hneq := Xq.out.lt
        obtain ⟨ca0, ca1, fa0, fa1⟩ := Xa.out
        have hnea := Xa.out.lt
        obtain ⟨cr0, cr1, fr0, fr1⟩ := Xr.out
        have hner := Xr.out.lt
        have qqa : ga ≠ gq := HDq.out.1
        have qaq : gq ≠ ga := fun h => qqa h.symm
        have qqr : gr ≠ gq := HDq.out.2
        have qrq : gq ≠ gr := fun h => qqr h.symm
        refine wpJ_on 8 rfl fun KJ hK => ?_
        go_simp
        have HJ2 : Hid ((fun W' : World => W'.cell? ⟨ga, 0, none⟩ = some (.bool false) ∧ W'.cell? ⟨ga, 1, none⟩ = some (.slice p m m)) ((v4.setCell ⟨gq, 0, none⟩ (.bool s4)).setCell ⟨gq, 1, none⟩ (.slice (some ⟨g4, 0, none⟩) m4 m4))) := ⟨by go_simp, by go_simp⟩
        have Xq2 : Hid (Box ((v4.setCell ⟨gq, 0, none⟩ (.bool s4)).setCell ⟨gq, 1, none⟩ (.slice (some ⟨g4, 0, none⟩) m4 m4)) gq (.bool s4) (.slice (some ⟨g4, 0, none⟩) m4 m4)) := ⟨by go_simp, by go_simp, by go_simp, by go_simp⟩
        have Xa2 : Hid (Box ((v4.setCell ⟨gq, 0, none⟩ (.bool s4)).setCell ⟨gq, 1, none⟩ (.slice (some ⟨g4, 0, none⟩) m4 m4)) ga (.bool false) (.slice p m m)) := ⟨by go_simp, by go_simp, by go_simp, by go_simp⟩
        have Xr2 : Hid (Box ((v4.setCell ⟨gq, 0, none⟩ (.bool s4)).setCell ⟨gq, 1, none⟩ (.slice (some ⟨g4, 0, none⟩) m4 m4)) gr (.bool false) (.slice none 0 0)) := ⟨by go_simp, by go_simp, by go_simp, by go_simp⟩
        have Z42 : Hid (ZR ((v4.setCell ⟨gq, 0, none⟩ (.bool s4)).setCell ⟨gq, 1, none⟩ (.slice (some ⟨g4, 0, none⟩) m4 m4)) s4 (some ⟨g4, 0, none⟩) m4 (iv false (x.natAbs / 2 ^ k))) := (Z4.out.setOff HO4q.out _ _).setOff HO4q.out _ _
        have hbw2 : Below w.heap.size w ((v4.setCell ⟨gq, 0, none⟩ (.bool s4)).setCell ⟨gq, 1, none⟩ (.slice (some ⟨g4, 0, none⟩) m4 m4)) := bSet (bSet hbw _ _ _ HGq.out) _ _ _ HGq.out
        refine hK _ _ HJ2.out ?_
        clear hK HJ
        have HJ := HJ2
        clear HJ2 hbw A2 Z4
        clear cq0 cq1 fq0 fq1 hneq
        clear ca0 ca1 fa0 fa1 hnea
        clear cr0 cr1 fr0 fr1 hner
        clear qqa qaq qqr qrq Xq Xa Xr
        generalize ((v4.setCell ⟨gq, 0, none⟩ (.bool s4)).setCell ⟨gq, 1, none⟩ (.slice (some ⟨g4, 0, none⟩) m4 m4)) = Ws0 at *
        have hbw := hbw2
        have Z4 := Z42
        have Xq := Xq2
        have Xa := Xa2
        have Xr := Xr2
        clear hbw2 Z42 Xq2 Xa2 Xr2
        refine wpJ_done (by kernel_rfl) ?_ _
        exact ⟨rfl, gq, s4, g4, m4, p2, m2, by kernel_rfl, Xa.out, Xr.out, Xq.out, Z4.out, HLq.out, HN4.out, HR4.out, HDrq.out, hbw⟩
    · go_simp
      have HDq : Hid (ga ≠ W1.heap.size ∧ gr ≠ W1.heap.size) := ⟨Nat.ne_of_lt Xa.out.lt, Nat.ne_of_lt Xr.out.lt⟩
      have HDrq : Hid (gr ≠ W1.heap.size) := Nat.ne_of_lt Xr.out.lt
      have Xq0 : Hid (Box (W1.alloc (.cells #[.bool false, .slice none 0 0] 45)) W1.heap.size (.bool false) (.slice none 0 0)) := Box.new W1 _ _ _
      have hbn : Below W1.heap.size W1 (W1.alloc (.cells #[.bool false, .slice none 0 0] 45)) := below1 W1 _
      generalize W1.alloc (.cells #[.bool false, .slice none 0 0] 45) = Wq at *
      have HGq : Hid (w.heap.size ≤ W1.heap.size) := hbw.size
      replace Xa : Hid _ := Xa.out.below hbn
      replace Xr : Hid _ := Xr.out.below hbn
      replace hbw := Below.on hbw hbn
      clear hbn
      generalize W1.heap.size = gq at *
      have Xq := Xq0
      clear Xq0
      refine hK _ _ ⟨Xa.out.c0, Xa.out.c1⟩ ?_
      clear hK
      refine wpJ_on 5 rfl fun KJ hK => ?_
      go_simp
      refine (rfshr_any (AX.out.below hbw) NX.out HM.out k HK.out.1 HK.out.2).mono ?_
      rintro e v2 ⟨p2, m2, z2, rfl, hA2, hN2, hl2, hb2⟩
      replace Xa : Hid _ := Xa.out.below hb2
      replace Xr : Hid _ := Xr.out.below hb2
      replace Xq : Hid _ := Xq.out.below hb2
      replace hbw := Below.on hbw hb2
      clear hb2
      have A2 : Hid (At32 v2 p2 m2 m2 z2) := hA2
      have N2 : Hid (Nf B32 z2 (x.natAbs / 2 ^ k) ∧ m2 ≤ m) := ⟨hN2, hl2⟩
      clear hA2 hN2 hl2
      refine hK _ _ ⟨Xa.out.c0, Xa.out.c1⟩ ?_
      clear hK
      refine wpJ_on 6 rfl fun KJ hK => ?_
      go_simp
      refine (rmk_any false A2.out N2.out.1 (by have := N2.out.2; have := HM.out; omega)).mono ?_
      rintro e v4 ⟨v, rfl, hv, hb4⟩
      obtain ⟨s4, g4, m4, rfl, hg4, hz4, hl4⟩ := hv
      have HO4q : Hid (OffR g4 m4 gq) := .inr (Nat.ne_of_gt (Nat.lt_of_lt_of_le Xq.out.lt hg4))
      have HN4 : Hid (w.heap.size ≤ g4) := Nat.le_trans hbw.size hg4
      have HR4 : Hid (gr < g4) := Nat.lt_of_lt_of_le Xr.out.lt hg4
      replace Xa : Hid _ := Xa.out.below hb4
      replace Xr : Hid _ := Xr.out.below hb4
      replace Xq : Hid _ := Xq.out.below hb4
      replace A2 : Hid _ := A2.out.below hb4
      replace hbw := Below.on hbw hb4
      clear hb4
      have Z4 : Hid (ZR v4 s4 (some ⟨g4, 0, none⟩) m4 (iv false (x.natAbs / 2 ^ k))) := hz4
      have HL4 : Hid (m4 ≤ m2) := hl4
      clear hz4 hl4 hg4
      have HLq : Hid (m4 ≤ m) := Nat.le_trans HL4.out N2.out.2
      clear HL4 N2
      refine hK _ _ ⟨Xa.out.c0, Xa.out.c1⟩ ?_
      clear hK
      obtain ⟨cq0, cq1, fq0, fq1⟩ := Xq.out
      have hneq := Xq.out.lt
      obtain ⟨ca0, ca1, fa0, fa1⟩ := Xa.out
      have hnea := Xa.out.lt
      obtain ⟨cr0, cr1, fr0, fr1⟩ := Xr.out
      have hner := Xr.out.lt
      have qqa : ga ≠ gq := HDq.out.1
      have qaq : gq ≠ ga := fun h => qqa h.symm
      have qqr : gr ≠ gq := HDq.out.2
      have qrq : gq ≠ gr := fun h => qqr h.symm
      refine wpJ_on 8 rfl fun KJ hK => ?_
      go_simp
      have HJ2 : Hid ((fun W' : World => W'.cell? ⟨ga, 0, none⟩ = some (.bool false) ∧ W'.cell? ⟨ga, 1, none⟩ = some (.slice p m m)) ((v4.setCell ⟨gq, 0, none⟩ (.bool s4)).setCell ⟨gq, 1, none⟩ (.slice (some ⟨g4, 0, none⟩) m4 m4))) := ⟨by go_simp, by go_simp⟩
      have Xq2 : Hid (Box ((v4.setCell ⟨gq, 0, none⟩ (.bool s4)).setCell ⟨gq, 1, none⟩ (.slice (some ⟨g4, 0, none⟩) m4 m4)) gq (.bool s4) (.slice (some ⟨g4, 0, none⟩) m4 m4)) := ⟨by go_simp, by go_simp, by go_simp, by go_simp⟩
      have Xa2 : Hid (Box ((v4.setCell ⟨gq, 0, none⟩ (.bool s4)).setCell ⟨gq, 1, none⟩ (.slice (some ⟨g4, 0, none⟩) m4 m4)) ga (.bool false) (.slice p m m)) := ⟨by go_simp, by go_simp, by go_simp, by go_simp⟩
      have Xr2 : Hid (Box ((v4.setCell ⟨gq, 0, none⟩ (.bool s4)).setCell ⟨gq, 1, none⟩ (.slice (some ⟨g4, 0, none⟩) m4 m4)) gr (.bool false) (.slice none 0 0)) := ⟨by go_simp, by go_simp, by go_simp, by go_simp⟩
      have Z42 : Hid (ZR ((v4.setCell ⟨gq, 0, none⟩ (.bool s4)).setCell ⟨gq, 1, none⟩ (.slice (some ⟨g4, 0, none⟩) m4 m4)) s4 (some ⟨g4, 0, none⟩) m4 (iv false (x.natAbs / 2 ^ k))) := (Z4.out.setOff HO4q.out _ _).setOff HO4q.out _ _
      have hbw2 : Below w.heap.size w ((v4.setCell ⟨gq, 0, none⟩ (.bool s4)).setCell ⟨gq, 1, none⟩ (.slice (some ⟨g4, 0, none⟩) m4 m4)) := bSet (bSet hbw _ _ _ HGq.out) _ _ _ HGq.out
      refine hK _ _ HJ2.out ?_
      clear hK HJ
      have HJ := HJ2
      clear HJ2 hbw A2 Z4
      clear cq0 cq1 fq0 fq1 hneq
      clear ca0 ca1 fa0 fa1 hnea
      clear cr0 cr1 fr0 fr1 hner
      clear qqa qaq qqr qrq Xq Xa Xr
      generalize ((v4.setCell ⟨gq, 0, none⟩ (.bool s4)).setCell ⟨gq, 1, none⟩ (.slice (some ⟨g4, 0, none⟩) m4 m4)) = Ws0 at *
      have hbw := hbw2
      have Z4 := Z42
      have Xq := Xq2
      have Xa := Xa2
      have Xr := Xr2
      clear hbw2 Z42 Xq2 Xa2 Xr2
      refine wpJ_done (by kernel_rfl) ?_ _
      exact ⟨rfl, gq, s4, g4, m4, p2, m2, by kernel_rfl, Xa.out, Xr.out, Xq.out, Z4.out, HLq.out, HN4.out, HR4.out, HDrq.out, hbw⟩
theorem rfloorshr04_n0 {p : Option Addr} {m : Nat} {w : World} {x : Int} (h : ZR w true p m x) (hm : m ≤ 16384) (k : Nat) (hk : 0 < k) (hk2 : k ≤ 9223372036854775807) (hlo : x.natAbs % 2 ^ k = 0) :
    Calls Tryd.prog 16 #[.agg #[.bool true, .slice p m m], .int .i64 k] w fun e w' => ∃ v, e = .returned v ∧ GotR w.heap.size w' v (rFs x k) (m + 4) ∧ Below w.heap.size w w' := by
  obtain ⟨xs, hAx, hNx⟩ := h.ex
  have HA : Hid (ZR w true p m x) := h
  have AX : Hid (At32 w p m m xs) := hAx
  have NX : Hid (Nf B32 xs x.natAbs) := hNx
  have HM : Hid (m ≤ 16384) := hm
  have HK : Hid (0 < k ∧ k ≤ 9223372036854775807) := ⟨hk, hk2⟩
  have h1 : ¬ (k : Int) ≤ 0 := by omega
  have HLO : Hid (x.natAbs % 2 ^ k = 0) := hlo
  have HRV : Hid (rFs x k = iv true (x.natAbs / 2 ^ k)) := by show _ = _; unfold rFs fl; rw [← HA.out.sg, HLO.out]; simp
  rw [HRV.out]
  clear HRV
  clear h hm hAx hNx hk hk2 hlo
  go_enter Tryd.func16, Tryd.ntmps16
  go_wp2_with fail
  obtain ⟨W0, hW0⟩ : ∃ W0, W0 = ((w.alloc (.cells #[.bool true, .slice p m m] 45)).alloc (.cells #[.bool false, .slice none 0 0] 45)) := ⟨_, rfl⟩
  have Xa : Hid (Box W0 (w.heap.size) (.bool true) (.slice p m m)) := by rw [hW0]; exact ⟨by go_simp, by go_simp, by go_simp, by go_simp⟩
  have Xr : Hid (Box W0 (w.heap.size + 1) (.bool false) (.slice none 0 0)) := by rw [hW0]; exact ⟨by go_simp, by go_simp, by go_simp, by go_simp⟩
  have hb0 : Below w.heap.size w W0 := by rw [hW0]; exact below2 w _ _
  rw [← hW0]
  clear hW0
  have hbw : Below w.heap.size w w := Below.refl _ _
  obtain ⟨gr, hgr⟩ : ∃ g, g = w.heap.size + 1 := ⟨_, rfl⟩
  have HGr : Hid (w.heap.size ≤ gr) := by rw [hgr]; show _ ≤ _; omega
  rw [← hgr] at Xr
  try rw [← hgr]
  obtain ⟨ga, hga⟩ : ∃ g, g = w.heap.size := ⟨_, rfl⟩
  have HGa : Hid (w.heap.size ≤ ga) := by rw [hga]; show _ ≤ _; omega
  rw [← hga] at Xa
  try rw [← hga]
  have HGD : Hid (ga ≠ gr ∧ gr ≠ ga) := by rw [hga, hgr]; exact ⟨by omega, by omega⟩
  clear hga hgr
  replace hbw := Below.on hbw hb0
  clear hb0
  obtain ⟨W1, hW1⟩ : ∃ W1, W1 = W0.drew := ⟨_, rfl⟩
  have hbd : Below W0.heap.size W0 W1 := by rw [hW1]; exact bDrew1 (Below.refl _ _)
  replace Xa : Hid _ := Xa.out.below hbd
  replace Xr : Hid _ := Xr.out.below hbd
  replace hbw := Below.on hbw hbd
  clear hbd
  have HJ : Hid ((fun W' : World => W'.cell? ⟨ga, 0, none⟩ = some (.bool true) ∧ W'.cell? ⟨ga, 1, none⟩ = some (.slice p m m)) W1) := ⟨Xa.out.c0, Xa.out.c1⟩
  refine wp_region_J (fun W' => W'.cell? ⟨ga, 0, none⟩ = some (.bool true) ∧ W'.cell? ⟨ga, 1, none⟩ = some (.slice p m m)) (by kernel_rfl) ?_
  rw [← hW1]
  clear hW1
  refine wpJ_tq 0 rfl HJ.out ?_
  refine wpJ_tq 1 rfl HJ.out ?_
  refine wpJ_tq 2 rfl HJ.out ?_
  refine wpJ_tq 3 rfl HJ.out ?_
  refine wpJ_tq 4 rfl HJ.out ?_
  refine wpJ_cutA (fun a0 a' W' => ∃ gq s4 g4 m4 p2 m2, a' = (((a0.put (some 18) (.slice p2 m2 m2)).put (some 19) (.agg #[.bool s4, .slice (some ⟨g4, 0, none⟩) m4 m4])).put (some 5) (.pointer (some ⟨gq, 0, none⟩))) ∧ Box W' ga (.bool true) (.slice p m m) ∧ Box W' gr (.bool false) (.slice none 0 0) ∧ Box W' gq (.bool s4) (.slice (some ⟨g4, 0, none⟩) m4 m4) ∧ ZR W' s4 (some ⟨g4, 0, none⟩) m4 (iv true (x.natAbs / 2 ^ k)) ∧ m4 ≤ m ∧ w.heap.size ≤ g4 ∧ gr < g4 ∧ gr ≠ gq ∧ Below w.heap.size w W') ?_ ?_
  · rintro a' Wc ⟨gq, s4, g4, m4, p2, m2, rfl, xa, xr, xq, z4, hHLq, hHN4, hHR4, hHDrq, hbc⟩
    have Ca : Hid (Box Wc ga (.bool true) (.slice p m m)) := xa
    have Cr : Hid (Box Wc gr (.bool false) (.slice none 0 0)) := xr
    have Cq : Hid (Box Wc gq (.bool s4) (.slice (some ⟨g4, 0, none⟩) m4 m4)) := xq
    have Z4 : Hid (ZR Wc s4 (some ⟨g4, 0, none⟩) m4 (iv true (x.natAbs / 2 ^ k))) := z4
    have HLq : Hid (m4 ≤ m) := hHLq
    have HN4 : Hid (w.heap.size ≤ g4) := hHN4
    have HR4 : Hid (gr < g4) := hHR4
    have HDrq : Hid (gr ≠ gq) := hHDrq
    clear hbw HJ Xa Xr xa xr xq z4 hHLq hHN4 hHR4 hHDrq
    have hbw := hbc
    have Xa := Ca
    have Xr := Cr
    have Xq := Cq
    clear hbc Ca Cr Cq
    obtain ⟨ca0, ca1, fa0, fa1⟩ := Xa.out
    have hnea := Xa.out.lt
    go_wp2_with fail
    clear ca0 ca1 fa0 fa1 hnea
    refine (rlow_any (AX.out.below hbw) NX.out HM.out k HK.out.1 HK.out.2).mono ?_
    rintro e v5 ⟨p5, m5, z5, rfl, hA5, hN5, hl5, hb5⟩
    replace Xa : Hid _ := Xa.out.below hb5
    replace Xr : Hid _ := Xr.out.below hb5
    replace Xq : Hid _ := Xq.out.below hb5
    replace Z4 : Hid _ := Z4.out.below hb5
    replace hbw := Below.on hbw hb5
    clear hb5
    have hm5 : m5 = 0 := by
      have h6 := hN5.zero_iff B32_one
      have h7 := hA5.len
      have h8 := HLO.out
      rw [h6.2 h8] at h7
      exact h7.symm
    clear hA5 hN5 hl5
    subst hm5
    obtain ⟨cq0, cq1, fq0, fq1⟩ := Xq.out
    have hneq := Xq.out.lt
    obtain ⟨cr0, cr1, fr0, fr1⟩ := Xr.out
    have hner := Xr.out.lt
    go_wp2_with fail
    refine bodyPost_ret (v := .agg #[.bool s4, .slice (some ⟨g4, 0, none⟩) m4 m4]) (by rw [results_cell1 rfl]; go_simp) rfl ⟨_, rfl, ⟨s4, g4, m4, rfl, HN4.out, ?_, Nat.le_trans HLq.out (Nat.le_add_right _ _)⟩, ?_⟩
    · have := HR4.out
      exact (Z4.out.set _ _ _ (by omega)).set _ _ _ (by omega)
    · exact bSet (bSet hbw _ _ _ HGr.out) _ _ _ HGr.out
  · skip
    refine wpJ_two (i := 5) (k := 7) (by kernel_rfl) rfl rfl (by kernel_rfl) (by kernel_rfl) (fun KJ hK => ?_) (fun KJ hK => ?_)
    · go_simp
      refine (rfshr_any (AX.out.below hbw) NX.out HM.out k HK.out.1 HK.out.2).mono ?_
      rintro e v2 ⟨p2, m2, z2, rfl, hA2, hN2, hl2, hb2⟩
      replace Xa : Hid _ := Xa.out.below hb2
      replace Xr : Hid _ := Xr.out.below hb2
      replace hbw := Below.on hbw hb2
      clear hb2
      have A2 : Hid (At32 v2 p2 m2 m2 z2) := hA2
      have N2 : Hid (Nf B32 z2 (x.natAbs / 2 ^ k) ∧ m2 ≤ m) := ⟨hN2, hl2⟩
      clear hA2 hN2 hl2
      clear HJ
      have HJ : Hid ((fun W' : World => W'.cell? ⟨ga, 0, none⟩ = some (.bool true) ∧ W'.cell? ⟨ga, 1, none⟩ = some (.slice p m m)) v2) := ⟨Xa.out.c0, Xa.out.c1⟩
      refine hK _ _ HJ.out ?_
      clear hK
      refine wpJ_two (i := 6) (k := 7) (by kernel_rfl) rfl rfl (by kernel_rfl) (by kernel_rfl) (fun KJ hK => ?_) (fun KJ hK => ?_)
      · go_simp
        refine (rmk_any true A2.out N2.out.1 (by have := N2.out.2; have := HM.out; omega)).mono ?_
        rintro e v4 ⟨v, rfl, hv, hb4⟩
        obtain ⟨s4, g4, m4, rfl, hg4, hz4, hl4⟩ := hv
        have HN4 : Hid (w.heap.size ≤ g4) := Nat.le_trans hbw.size hg4
        have HR4 : Hid (gr < g4) := Nat.lt_of_lt_of_le Xr.out.lt hg4
        replace Xa : Hid _ := Xa.out.below hb4
        replace Xr : Hid _ := Xr.out.below hb4
        replace A2 : Hid _ := A2.out.below hb4
        replace hbw := Below.on hbw hb4
        clear hb4
        have Z4 : Hid (ZR v4 s4 (some ⟨g4, 0, none⟩) m4 (iv true (x.natAbs / 2 ^ k))) := hz4
        have HL4 : Hid (m4 ≤ m2) := hl4
        clear hz4 hl4 hg4
        have HLq : Hid (m4 ≤ m) := Nat.le_trans HL4.out N2.out.2
        clear HL4 N2
        refine hK _ _ ⟨Xa.out.c0, Xa.out.c1⟩ ?_
        clear hK
        refine wpJ_on 7 rfl fun KJ hK => ?_
        go_simp
        have HDq : Hid (ga ≠ v4.heap.size ∧ gr ≠ v4.heap.size) := ⟨Nat.ne_of_lt Xa.out.lt, Nat.ne_of_lt Xr.out.lt⟩
        have HO4q : Hid (OffR g4 m4 v4.heap.size) := Z4.out.off_new
        have HDrq : Hid (gr ≠ v4.heap.size) := Nat.ne_of_lt Xr.out.lt
        have Xq0 : Hid (Box (v4.alloc (.cells #[.bool false, .slice none 0 0] 45)) v4.heap.size (.bool false) (.slice none 0 0)) := Box.new v4 _ _ _
        have hbn : Below v4.heap.size v4 (v4.alloc (.cells #[.bool false, .slice none 0 0] 45)) := below1 v4 _
        generalize v4.alloc (.cells #[.bool false, .slice none 0 0] 45) = Wq at *
        have HGq : Hid (w.heap.size ≤ v4.heap.size) := hbw.size
        replace Xa : Hid _ := Xa.out.below hbn
        replace Xr : Hid _ := Xr.out.below hbn
        replace A2 : Hid _ := A2.out.below hbn
        replace Z4 : Hid _ := Z4.out.below hbn
        replace hbw := Below.on hbw hbn
        clear hbn
        generalize v4.heap.size = gq at *
        have Xq := Xq0
        clear Xq0
        refine hK _ _ ⟨Xa.out.c0, Xa.out.c1⟩ ?_
        clear hK
        obtain ⟨cq0, cq1, fq0, fq1⟩ := Xq.out
        have hneq := Xq.out.lt
        obtain ⟨ca0, ca1, fa0, fa1⟩ := Xa.out
        have hnea := Xa.out.lt
        obtain ⟨cr0, cr1, fr0, fr1⟩ := Xr.out
        have hner := Xr.out.lt
        have qqa : ga ≠ gq := HDq.out.1
        have qaq : gq ≠ ga := fun h => qqa h.symm
        have qqr : gr ≠ gq := HDq.out.2
        have qrq : gq ≠ gr := fun h => qqr h.symm
        refine wpJ_on 8 rfl fun KJ hK => ?_
        go_simp
        have HJ2 : Hid ((fun W' : World => W'.cell? ⟨ga, 0, none⟩ = some (.bool true) ∧ W'.cell? ⟨ga, 1, none⟩ = some (.slice p m m)) ((Wq.setCell ⟨gq, 0, none⟩ (.bool s4)).setCell ⟨gq, 1, none⟩ (.slice (some ⟨g4, 0, none⟩) m4 m4))) := ⟨by go_simp, by go_simp⟩
        have Xq2 : Hid (Box ((Wq.setCell ⟨gq, 0, none⟩ (.bool s4)).setCell ⟨gq, 1, none⟩ (.slice (some ⟨g4, 0, none⟩) m4 m4)) gq (.bool s4) (.slice (some ⟨g4, 0, none⟩) m4 m4)) := ⟨by go_simp, by go_simp, by go_simp, by go_simp⟩
        have Xa2 : Hid (Box ((Wq.setCell ⟨gq, 0, none⟩ (.bool s4)).setCell ⟨gq, 1, none⟩ (.slice (some ⟨g4, 0, none⟩) m4 m4)) ga (.bool true) (.slice p m m)) := ⟨by go_simp, by go_simp, by go_simp, by go_simp⟩
        have Xr2 : Hid (Box ((Wq.setCell ⟨gq, 0, none⟩ (.bool s4)).setCell ⟨gq, 1, none⟩ (.slice (some ⟨g4, 0, none⟩) m4 m4)) gr (.bool false) (.slice none 0 0)) := ⟨by go_simp, by go_simp, by go_simp, by go_simp⟩
        have Z42 : Hid (ZR ((Wq.setCell ⟨gq, 0, none⟩ (.bool s4)).setCell ⟨gq, 1, none⟩ (.slice (some ⟨g4, 0, none⟩) m4 m4)) s4 (some ⟨g4, 0, none⟩) m4 (iv true (x.natAbs / 2 ^ k))) := (Z4.out.setOff HO4q.out _ _).setOff HO4q.out _ _
        have hbw2 : Below w.heap.size w ((Wq.setCell ⟨gq, 0, none⟩ (.bool s4)).setCell ⟨gq, 1, none⟩ (.slice (some ⟨g4, 0, none⟩) m4 m4)) := bSet (bSet hbw _ _ _ HGq.out) _ _ _ HGq.out
        refine hK _ _ HJ2.out ?_
        clear hK HJ
        have HJ := HJ2
        clear HJ2 hbw A2 Z4
        clear cq0 cq1 fq0 fq1 hneq
        clear ca0 ca1 fa0 fa1 hnea
        clear cr0 cr1 fr0 fr1 hner
        clear qqa qaq qqr qrq Xq Xa Xr
        generalize ((Wq.setCell ⟨gq, 0, none⟩ (.bool s4)).setCell ⟨gq, 1, none⟩ (.slice (some ⟨g4, 0, none⟩) m4 m4)) = Ws0 at *
        have hbw := hbw2
        have Z4 := Z42
        have Xq := Xq2
        have Xa := Xa2
        have Xr := Xr2
        clear hbw2 Z42 Xq2 Xa2 Xr2
        refine wpJ_done (by kernel_rfl) ?_ _
        exact ⟨rfl, gq, s4, g4, m4, p2, m2, by kernel_rfl, Xa.out, Xr.out, Xq.out, Z4.out, HLq.out, HN4.out, HR4.out, HDrq.out, hbw⟩
      · go_simp
        have HDq : Hid (ga ≠ v2.heap.size ∧ gr ≠ v2.heap.size) := ⟨Nat.ne_of_lt Xa.out.lt, Nat.ne_of_lt Xr.out.lt⟩
        have HDrq : Hid (gr ≠ v2.heap.size) := Nat.ne_of_lt Xr.out.lt
        have Xq0 : Hid (Box (v2.alloc (.cells #[.bool false, .slice none 0 0] 45)) v2.heap.size (.bool false) (.slice none 0 0)) := Box.new v2 _ _ _
        have hbn : Below v2.heap.size v2 (v2.alloc (.cells #[.bool false, .slice none 0 0] 45)) := below1 v2 _
        generalize v2.alloc (.cells #[.bool false, .slice none 0 0] 45) = Wq at *
        have HGq : Hid (w.heap.size ≤ v2.heap.size) := hbw.size
        replace Xa : Hid _ := Xa.out.below hbn
        replace Xr : Hid _ := Xr.out.below hbn
        replace A2 : Hid _ := A2.out.below hbn
        replace hbw := Below.on hbw hbn
        clear hbn
        generalize v2.heap.size = gq at *
        have Xq := Xq0
        clear Xq0
        refine hK _ _ ⟨Xa.out.c0, Xa.out.c1⟩ ?_
        clear hK
        refine wpJ_on 6 rfl fun KJ hK => ?_
        go_simp
        refine (rmk_any true A2.out N2.out.1 (by have := N2.out.2; have := HM.out; omega)).mono ?_
        rintro e v4 ⟨v, rfl, hv, hb4⟩
        obtain ⟨s4, g4, m4, rfl, hg4, hz4, hl4⟩ := hv
        have HO4q : Hid (OffR g4 m4 gq) := .inr (Nat.ne_of_gt (Nat.lt_of_lt_of_le Xq.out.lt hg4))
        have HN4 : Hid (w.heap.size ≤ g4) := Nat.le_trans hbw.size hg4
        have HR4 : Hid (gr < g4) := Nat.lt_of_lt_of_le Xr.out.lt hg4
        replace Xa : Hid _ := Xa.out.below hb4
        replace Xr : Hid _ := Xr.out.below hb4
        replace Xq : Hid _ := Xq.out.below hb4
        replace A2 : Hid _ := A2.out.below hb4
        replace hbw := Below.on hbw hb4
        clear hb4
        have Z4 : Hid (ZR v4 s4 (some ⟨g4, 0, none⟩) m4 (iv true (x.natAbs / 2 ^ k))) := hz4
        have HL4 : Hid (m4 ≤ m2) := hl4
        clear hz4 hl4 hg4
        have HLq : Hid (m4 ≤ m) := Nat.le_trans HL4.out N2.out.2
        clear HL4 N2
        refine hK _ _ ⟨Xa.out.c0, Xa.out.c1⟩ ?_
        clear hK
        obtain ⟨cq0, cq1, fq0, fq1⟩ := Xq.out
        have hneq := Xq.out.lt
        obtain ⟨ca0, ca1, fa0, fa1⟩ := Xa.out
        have hnea := Xa.out.lt
        obtain ⟨cr0, cr1, fr0, fr1⟩ := Xr.out
        have hner := Xr.out.lt
        have qqa : ga ≠ gq := HDq.out.1
        have qaq : gq ≠ ga := fun h => qqa h.symm
        have qqr : gr ≠ gq := HDq.out.2
        have qrq : gq ≠ gr := fun h => qqr h.symm
        refine wpJ_on 8 rfl fun KJ hK => ?_
        go_simp
        have HJ2 : Hid ((fun W' : World => W'.cell? ⟨ga, 0, none⟩ = some (.bool true) ∧ W'.cell? ⟨ga, 1, none⟩ = some (.slice p m m)) ((v4.setCell ⟨gq, 0, none⟩ (.bool s4)).setCell ⟨gq, 1, none⟩ (.slice (some ⟨g4, 0, none⟩) m4 m4))) := ⟨by go_simp, by go_simp⟩
        have Xq2 : Hid (Box ((v4.setCell ⟨gq, 0, none⟩ (.bool s4)).setCell ⟨gq, 1, none⟩ (.slice (some ⟨g4, 0, none⟩) m4 m4)) gq (.bool s4) (.slice (some ⟨g4, 0, none⟩) m4 m4)) := ⟨by go_simp, by go_simp, by go_simp, by go_simp⟩
        have Xa2 : Hid (Box ((v4.setCell ⟨gq, 0, none⟩ (.bool s4)).setCell ⟨gq, 1, none⟩ (.slice (some ⟨g4, 0, none⟩) m4 m4)) ga (.bool true) (.slice p m m)) := ⟨by go_simp, by go_simp, by go_simp, by go_simp⟩
        have Xr2 : Hid (Box ((v4.setCell ⟨gq, 0, none⟩ (.bool s4)).setCell ⟨gq, 1, none⟩ (.slice (some ⟨g4, 0, none⟩) m4 m4)) gr (.bool false) (.slice none 0 0)) := ⟨by go_simp, by go_simp, by go_simp, by go_simp⟩
        have Z42 : Hid (ZR ((v4.setCell ⟨gq, 0, none⟩ (.bool s4)).setCell ⟨gq, 1, none⟩ (.slice (some ⟨g4, 0, none⟩) m4 m4)) s4 (some ⟨g4, 0, none⟩) m4 (iv true (x.natAbs / 2 ^ k))) := (Z4.out.setOff HO4q.out _ _).setOff HO4q.out _ _
        have hbw2 : Below w.heap.size w ((v4.setCell ⟨gq, 0, none⟩ (.bool s4)).setCell ⟨gq, 1, none⟩ (.slice (some ⟨g4, 0, none⟩) m4 m4)) := bSet (bSet hbw _ _ _ HGq.out) _ _ _ HGq.out
        refine hK _ _ HJ2.out ?_
        clear hK HJ
        have HJ := HJ2
        clear HJ2 hbw A2 Z4
        clear cq0 cq1 fq0 fq1 hneq
        clear ca0 ca1 fa0 fa1 hnea
        clear cr0 cr1 fr0 fr1 hner
        clear qqa qaq qqr qrq Xq Xa Xr
        generalize ((v4.setCell ⟨gq, 0, none⟩ (.bool s4)).setCell ⟨gq, 1, none⟩ (.slice (some ⟨g4, 0, none⟩) m4 m4)) = Ws0 at *
        have hbw := hbw2
        have Z4 := Z42
        have Xq := Xq2
        have Xa := Xa2
        have Xr := Xr2
        clear hbw2 Z42 Xq2 Xa2 Xr2
        refine wpJ_done (by kernel_rfl) ?_ _
        exact ⟨rfl, gq, s4, g4, m4, p2, m2, by kernel_rfl, Xa.out, Xr.out, Xq.out, Z4.out, HLq.out, HN4.out, HR4.out, HDrq.out, hbw⟩
    · go_simp
      have HDq : Hid (ga ≠ W1.heap.size ∧ gr ≠ W1.heap.size) := ⟨Nat.ne_of_lt Xa.out.lt, Nat.ne_of_lt Xr.out.lt⟩
      have HDrq : Hid (gr ≠ W1.heap.size) := Nat.ne_of_lt Xr.out.lt
      have Xq0 : Hid (Box (W1.alloc (.cells #[.bool false, .slice none 0 0] 45)) W1.heap.size (.bool false) (.slice none 0 0)) := Box.new W1 _ _ _
      have hbn : Below W1.heap.size W1 (W1.alloc (.cells #[.bool false, .slice none 0 0] 45)) := below1 W1 _
      generalize W1.alloc (.cells #[.bool false, .slice none 0 0] 45) = Wq at *
      have HGq : Hid (w.heap.size ≤ W1.heap.size) := hbw.size
      replace Xa : Hid _ := Xa.out.below hbn
      replace Xr : Hid _ := Xr.out.below hbn
      replace hbw := Below.on hbw hbn
      clear hbn
      generalize W1.heap.size = gq at *
      have Xq := Xq0
      clear Xq0
      refine hK _ _ ⟨Xa.out.c0, Xa.out.c1⟩ ?_
      clear hK
      refine wpJ_on 5 rfl fun KJ hK => ?_
      go_simp
      refine (rfshr_any (AX.out.below hbw) NX.out HM.out k HK.out.1 HK.out.2).mono ?_
      rintro e v2 ⟨p2, m2, z2, rfl, hA2, hN2, hl2, hb2⟩
      replace Xa : Hid _ := Xa.out.below hb2
      replace Xr : Hid _ := Xr.out.below hb2
      replace Xq : Hid _ := Xq.out.below hb2
      replace hbw := Below.on hbw hb2
      clear hb2
      have A2 : Hid (At32 v2 p2 m2 m2 z2) := hA2
      have N2 : Hid (Nf B32 z2 (x.natAbs / 2 ^ k) ∧ m2 ≤ m) := ⟨hN2, hl2⟩
      clear hA2 hN2 hl2
      refine hK _ _ ⟨Xa.out.c0, Xa.out.c1⟩ ?_
      clear hK
      refine wpJ_on 6 rfl fun KJ hK => ?_
      go_simp
      refine (rmk_any true A2.out N2.out.1 (by have := N2.out.2; have := HM.out; omega)).mono ?_
      rintro e v4 ⟨v, rfl, hv, hb4⟩
      obtain ⟨s4, g4, m4, rfl, hg4, hz4, hl4⟩ := hv
      have HO4q : Hid (OffR g4 m4 gq) := .inr (Nat.ne_of_gt (Nat.lt_of_lt_of_le Xq.out.lt hg4))
      have HN4 : Hid (w.heap.size ≤ g4) := Nat.le_trans hbw.size hg4
      have HR4 : Hid (gr < g4) := Nat.lt_of_lt_of_le Xr.out.lt hg4
      replace Xa : Hid _ := Xa.out.below hb4
      replace Xr : Hid _ := Xr.out.below hb4
      replace Xq : Hid _ := Xq.out.below hb4
      replace A2 : Hid _ := A2.out.below hb4
      replace hbw := Below.on hbw hb4
      clear hb4
      have Z4 : Hid (ZR v4 s4 (some ⟨g4, 0, none⟩) m4 (iv true (x.natAbs / 2 ^ k))) := hz4
      have HL4 : Hid (m4 ≤ m2) := hl4
      clear hz4 hl4 hg4
      have HLq : Hid (m4 ≤ m) := Nat.le_trans HL4.out N2.out.2
      clear HL4 N2
      refine hK _ _ ⟨Xa.out.c0, Xa.out.c1⟩ ?_
      clear hK
      obtain ⟨cq0, cq1, fq0, fq1⟩ := Xq.out
      have hneq := Xq.out.lt
      obtain ⟨ca0, ca1, fa0, fa1⟩ := Xa.out
      have hnea := Xa.out.lt
      obtain ⟨cr0, cr1, fr0, fr1⟩ := Xr.out
      have hner := Xr.out.lt
      have qqa : ga ≠ gq := HDq.out.1
      have qaq : gq ≠ ga := fun h => qqa h.symm
      have qqr : gr ≠ gq := HDq.out.2
      have qrq : gq ≠ gr := fun h => qqr h.symm
      refine wpJ_on 8 rfl fun KJ hK => ?_
      go_simp
      have HJ2 : Hid ((fun W' : World => W'.cell? ⟨ga, 0, none⟩ = some (.bool true) ∧ W'.cell? ⟨ga, 1, none⟩ = some (.slice p m m)) ((v4.setCell ⟨gq, 0, none⟩ (.bool s4)).setCell ⟨gq, 1, none⟩ (.slice (some ⟨g4, 0, none⟩) m4 m4))) := ⟨by go_simp, by go_simp⟩
      have Xq2 : Hid (Box ((v4.setCell ⟨gq, 0, none⟩ (.bool s4)).setCell ⟨gq, 1, none⟩ (.slice (some ⟨g4, 0, none⟩) m4 m4)) gq (.bool s4) (.slice (some ⟨g4, 0, none⟩) m4 m4)) := ⟨by go_simp, by go_simp, by go_simp, by go_simp⟩
      have Xa2 : Hid (Box ((v4.setCell ⟨gq, 0, none⟩ (.bool s4)).setCell ⟨gq, 1, none⟩ (.slice (some ⟨g4, 0, none⟩) m4 m4)) ga (.bool true) (.slice p m m)) := ⟨by go_simp, by go_simp, by go_simp, by go_simp⟩
      have Xr2 : Hid (Box ((v4.setCell ⟨gq, 0, none⟩ (.bool s4)).setCell ⟨gq, 1, none⟩ (.slice (some ⟨g4, 0, none⟩) m4 m4)) gr (.bool false) (.slice none 0 0)) := ⟨by go_simp, by go_simp, by go_simp, by go_simp⟩
      have Z42 : Hid (ZR ((v4.setCell ⟨gq, 0, none⟩ (.bool s4)).setCell ⟨gq, 1, none⟩ (.slice (some ⟨g4, 0, none⟩) m4 m4)) s4 (some ⟨g4, 0, none⟩) m4 (iv true (x.natAbs / 2 ^ k))) := (Z4.out.setOff HO4q.out _ _).setOff HO4q.out _ _
      have hbw2 : Below w.heap.size w ((v4.setCell ⟨gq, 0, none⟩ (.bool s4)).setCell ⟨gq, 1, none⟩ (.slice (some ⟨g4, 0, none⟩) m4 m4)) := bSet (bSet hbw _ _ _ HGq.out) _ _ _ HGq.out
      refine hK _ _ HJ2.out ?_
      clear hK HJ
      have HJ := HJ2
      clear HJ2 hbw A2 Z4
      clear cq0 cq1 fq0 fq1 hneq
      clear ca0 ca1 fa0 fa1 hnea
      clear cr0 cr1 fr0 fr1 hner
      clear qqa qaq qqr qrq Xq Xa Xr
      generalize ((v4.setCell ⟨gq, 0, none⟩ (.bool s4)).setCell ⟨gq, 1, none⟩ (.slice (some ⟨g4, 0, none⟩) m4 m4)) = Ws0 at *
      have hbw := hbw2
      have Z4 := Z42
      have Xq := Xq2
      have Xa := Xa2
      have Xr := Xr2
      clear hbw2 Z42 Xq2 Xa2 Xr2
      refine wpJ_done (by kernel_rfl) ?_ _
      exact ⟨rfl, gq, s4, g4, m4, p2, m2, by kernel_rfl, Xa.out, Xr.out, Xq.out, Z4.out, HLq.out, HN4.out, HR4.out, HDrq.out, hbw⟩
theorem rfloorshr04_n1 {p : Option Addr} {m : Nat} {w : World} {x : Int} (h : ZR w true p m x) (hm : m ≤ 16384) (k : Nat) (hk : 0 < k) (hk2 : k ≤ 9223372036854775807) (hlo : x.natAbs % 2 ^ k ≠ 0) :
    Calls Tryd.prog 16 #[.agg #[.bool true, .slice p m m], .int .i64 k] w fun e w' => ∃ v, e = .returned v ∧ GotR w.heap.size w' v (rFs x k) (m + 4) ∧ Below w.heap.size w w' := by
  obtain ⟨xs, hAx, hNx⟩ := h.ex
  have HA : Hid (ZR w true p m x) := h
  have AX : Hid (At32 w p m m xs) := hAx
  have NX : Hid (Nf B32 xs x.natAbs) := hNx
  have HM : Hid (m ≤ 16384) := hm
  have HK : Hid (0 < k ∧ k ≤ 9223372036854775807) := ⟨hk, hk2⟩
  have h1 : ¬ (k : Int) ≤ 0 := by omega
  have HLO : Hid (x.natAbs % 2 ^ k ≠ 0) := hlo
  have HRV : Hid (rFs x k = iv true (x.natAbs / 2 ^ k) - 1) := by show _ = _; unfold rFs fl; rw [← HA.out.sg, decide_eq_true HLO.out]; simp [iv]; omega
  rw [HRV.out]
  clear HRV
  clear h hm hAx hNx hk hk2 hlo
  go_enter Tryd.func16, Tryd.ntmps16
  go_wp2_with fail
  obtain ⟨W0, hW0⟩ : ∃ W0, W0 = ((w.alloc (.cells #[.bool true, .slice p m m] 45)).alloc (.cells #[.bool false, .slice none 0 0] 45)) := ⟨_, rfl⟩
  have Xa : Hid (Box W0 (w.heap.size) (.bool true) (.slice p m m)) := by rw [hW0]; exact ⟨by go_simp, by go_simp, by go_simp, by go_simp⟩
  have Xr : Hid (Box W0 (w.heap.size + 1) (.bool false) (.slice none 0 0)) := by rw [hW0]; exact ⟨by go_simp, by go_simp, by go_simp, by go_simp⟩
  have hb0 : Below w.heap.size w W0 := by rw [hW0]; exact below2 w _ _
  rw [← hW0]
  clear hW0
  have hbw : Below w.heap.size w w := Below.refl _ _
  obtain ⟨gr, hgr⟩ : ∃ g, g = w.heap.size + 1 := ⟨_, rfl⟩
  have HGr : Hid (w.heap.size ≤ gr) := by rw [hgr]; show _ ≤ _; omega
  rw [← hgr] at Xr
  try rw [← hgr]
  obtain ⟨ga, hga⟩ : ∃ g, g = w.heap.size := ⟨_, rfl⟩
  have HGa : Hid (w.heap.size ≤ ga) := by rw [hga]; show _ ≤ _; omega
  rw [← hga] at Xa
  try rw [← hga]
  have HGD : Hid (ga ≠ gr ∧ gr ≠ ga) := by rw [hga, hgr]; exact ⟨by omega, by omega⟩
  clear hga hgr
  replace hbw := Below.on hbw hb0
  clear hb0
  obtain ⟨W1, hW1⟩ : ∃ W1, W1 = W0.drew := ⟨_, rfl⟩
  have hbd : Below W0.heap.size W0 W1 := by rw [hW1]; exact bDrew1 (Below.refl _ _)
  replace Xa : Hid _ := Xa.out.below hbd
  replace Xr : Hid _ := Xr.out.below hbd
  replace hbw := Below.on hbw hbd
  clear hbd
  have HJ : Hid ((fun W' : World => W'.cell? ⟨ga, 0, none⟩ = some (.bool true) ∧ W'.cell? ⟨ga, 1, none⟩ = some (.slice p m m)) W1) := ⟨Xa.out.c0, Xa.out.c1⟩
  refine wp_region_J (fun W' => W'.cell? ⟨ga, 0, none⟩ = some (.bool true) ∧ W'.cell? ⟨ga, 1, none⟩ = some (.slice p m m)) (by kernel_rfl) ?_
  rw [← hW1]
  clear hW1
  refine wpJ_tq 0 rfl HJ.out ?_
  refine wpJ_tq 1 rfl HJ.out ?_
  refine wpJ_tq 2 rfl HJ.out ?_
  refine wpJ_tq 3 rfl HJ.out ?_
  refine wpJ_tq 4 rfl HJ.out ?_
  refine wpJ_cutA (fun a0 a' W' => ∃ gq s4 g4 m4 p2 m2, a' = (((a0.put (some 18) (.slice p2 m2 m2)).put (some 19) (.agg #[.bool s4, .slice (some ⟨g4, 0, none⟩) m4 m4])).put (some 5) (.pointer (some ⟨gq, 0, none⟩))) ∧ Box W' ga (.bool true) (.slice p m m) ∧ Box W' gr (.bool false) (.slice none 0 0) ∧ Box W' gq (.bool s4) (.slice (some ⟨g4, 0, none⟩) m4 m4) ∧ ZR W' s4 (some ⟨g4, 0, none⟩) m4 (iv true (x.natAbs / 2 ^ k)) ∧ m4 ≤ m ∧ w.heap.size ≤ g4 ∧ gr < g4 ∧ gr ≠ gq ∧ Below w.heap.size w W') ?_ ?_
  · rintro a' Wc ⟨gq, s4, g4, m4, p2, m2, rfl, xa, xr, xq, z4, hHLq, hHN4, hHR4, hHDrq, hbc⟩
    have Ca : Hid (Box Wc ga (.bool true) (.slice p m m)) := xa
    have Cr : Hid (Box Wc gr (.bool false) (.slice none 0 0)) := xr
    have Cq : Hid (Box Wc gq (.bool s4) (.slice (some ⟨g4, 0, none⟩) m4 m4)) := xq
    have Z4 : Hid (ZR Wc s4 (some ⟨g4, 0, none⟩) m4 (iv true (x.natAbs / 2 ^ k))) := z4
    have HLq : Hid (m4 ≤ m) := hHLq
    have HN4 : Hid (w.heap.size ≤ g4) := hHN4
    have HR4 : Hid (gr < g4) := hHR4
    have HDrq : Hid (gr ≠ gq) := hHDrq
    clear hbw HJ Xa Xr xa xr xq z4 hHLq hHN4 hHR4 hHDrq
    have hbw := hbc
    have Xa := Ca
    have Xr := Cr
    have Xq := Cq
    clear hbc Ca Cr Cq
    obtain ⟨ca0, ca1, fa0, fa1⟩ := Xa.out
    have hnea := Xa.out.lt
    go_wp2_with fail
    clear ca0 ca1 fa0 fa1 hnea
    refine (rlow_any (AX.out.below hbw) NX.out HM.out k HK.out.1 HK.out.2).mono ?_
    rintro e v5 ⟨p5, m5, z5, rfl, hA5, hN5, hl5, hb5⟩
    replace Xa : Hid _ := Xa.out.below hb5
    replace Xr : Hid _ := Xr.out.below hb5
    replace Xq : Hid _ := Xq.out.below hb5
    replace Z4 : Hid _ := Z4.out.below hb5
    replace hbw := Below.on hbw hb5
    clear hb5
    have hm5 : m5 ≠ 0 := by
      have h6 := hN5.zero_iff B32_one
      have h7 := hA5.len
      have h8 := HLO.out
      intro e5
      exact h8 (h6.1 (List.eq_nil_of_length_eq_zero (by omega)))
    clear hA5 hN5 hl5
    have hm6 : (0 : Int) < (m5 : Int) := by omega
    have hm7 : 0 < m5 := by omega
    clear hm5
    go_wp2_with fail
    clear hm6 hm7
    obtain ⟨W7, hW7⟩ : ∃ W1, W1 = v5.drew := ⟨_, rfl⟩
    have hbd : Below v5.heap.size v5 W7 := by rw [hW7]; exact bDrew1 (Below.refl _ _)
    replace Xa : Hid _ := Xa.out.below hbd
    replace Xr : Hid _ := Xr.out.below hbd
    replace Xq : Hid _ := Xq.out.below hbd
    replace Z4 : Hid _ := Z4.out.below hbd
    replace hbw := Below.on hbw hbd
    clear hbd
    have HJ : Hid ((fun W' : World => W'.cell? ⟨gq, 0, none⟩ = some (.bool s4) ∧ W'.cell? ⟨gq, 1, none⟩ = some (.slice (some ⟨g4, 0, none⟩) m4 m4)) W7) := ⟨Xq.out.c0, Xq.out.c1⟩
    refine wp_region_J (fun W' => W'.cell? ⟨gq, 0, none⟩ = some (.bool s4) ∧ W'.cell? ⟨gq, 1, none⟩ = some (.slice (some ⟨g4, 0, none⟩) m4 m4)) (by kernel_rfl) ?_
    rw [← hW7]
    clear hW7
    refine wpJ_tq 0 rfl HJ.out ?_
    refine wpJ_on 1 rfl fun KJ hK => ?_
    go_simp
    refine (rof04 1 _ (by decide) (by decide)).mono ?_
    rintro e v6 ⟨s6, g6, m6, rfl, hz6, hl6, hb6⟩
    replace Xa : Hid _ := Xa.out.below hb6
    replace Xr : Hid _ := Xr.out.below hb6
    replace Xq : Hid _ := Xq.out.below hb6
    replace Z4 : Hid _ := Z4.out.below hb6
    replace hbw := Below.on hbw hb6
    clear hb6
    have Z6 : Hid (ZR v6 s6 (some ⟨g6, 0, none⟩) m6 1) := hz6
    have HL6 : Hid (m6 ≤ 3) := hl6
    clear hz6 hl6
    refine hK _ _ ⟨Xq.out.c0, Xq.out.c1⟩ ?_
    clear hK
    have HRB : Hid (gr < v6.heap.size ∧ w.heap.size ≤ v6.heap.size) := ⟨Xr.out.lt, hbw.size⟩
    refine wpJ_on 2 rfl fun KJ hK => ?_
    go_simp
    refine (rsub04 s4 s6 Z4.out Z6.out (by have := HLq.out; have := HM.out; omega) (by have := HL6.out; omega)).mono ?_
    rintro e v9 ⟨v, rfl, hv, hb9⟩
    obtain ⟨s9, g9, m9, rfl, hg9, hz9, hl9⟩ := hv
    have HN9 : Hid (v6.heap.size ≤ g9) := hg9
    replace Xa : Hid _ := Xa.out.below hb9
    replace Xr : Hid _ := Xr.out.below hb9
    replace Xq : Hid _ := Xq.out.below hb9
    replace Z4 : Hid _ := Z4.out.below hb9
    replace Z6 : Hid _ := Z6.out.below hb9
    replace hbw := Below.on hbw hb9
    clear hb9
    have Z9 : Hid (ZR v9 s9 (some ⟨g9, 0, none⟩) m9 (iv true (x.natAbs / 2 ^ k) - 1)) := hz9
    have HL9 : Hid (m9 ≤ max m4 m6 + 1) := hl9
    clear hz9 hl9 hg9
    refine hK _ _ ⟨Xq.out.c0, Xq.out.c1⟩ ?_
    clear hK
    have hq1 := HDrq.out
    have hq2 : gq ≠ gr := fun h => hq1 h.symm
    obtain ⟨cr0, cr1, fr0, fr1⟩ := Xr.out
    have hner := Xr.out.lt
    obtain ⟨cq0, cq1, fq0, fq1⟩ := Xq.out
    have hneq := Xq.out.lt
    obtain ⟨hgd0, hgd1⟩ := HGD.out
    refine wpJ_on 3 rfl fun KJ hK => ?_
    go_simp
    have HJ2 : Hid ((fun W' : World => W'.cell? ⟨gq, 0, none⟩ = some (.bool s4) ∧ W'.cell? ⟨gq, 1, none⟩ = some (.slice (some ⟨g4, 0, none⟩) m4 m4)) ((v9.setCell ⟨gr, 0, none⟩ (.bool s9)).setCell ⟨gr, 1, none⟩ (.slice (some ⟨g9, 0, none⟩) m9 m9))) := ⟨by go_simp, by go_simp⟩
    refine hK _ _ HJ2.out ?_
    clear hK HJ
    have HJ := HJ2
    clear HJ2
    refine wpJ_done (by kernel_rfl) ?_ _
    clear HJ
    go_wp2_with fail
    refine bodyPost_ret (v := .agg #[.bool s9, .slice (some ⟨g9, 0, none⟩) m9 m9]) (by rw [results_cell1 rfl]; go_simp) rfl ⟨_, rfl, ⟨s9, g9, m9, rfl, Nat.le_trans HRB.out.2 HN9.out, ?_, ?_⟩, ?_⟩
    · have := HN9.out; have := HRB.out.1
      exact (Z9.out.set _ _ _ (by omega)).set _ _ _ (by omega)
    · have := HL9.out; have := HL6.out; have := HLq.out; omega
    · exact bSet (bSet hbw _ _ _ HGr.out) _ _ _ HGr.out
  · skip
    refine wpJ_two (i := 5) (k := 7) (by kernel_rfl) rfl rfl (by kernel_rfl) (by kernel_rfl) (fun KJ hK => ?_) (fun KJ hK => ?_)
    · go_simp
      refine (rfshr_any (AX.out.below hbw) NX.out HM.out k HK.out.1 HK.out.2).mono ?_
      rintro e v2 ⟨p2, m2, z2, rfl, hA2, hN2, hl2, hb2⟩
      replace Xa : Hid _ := Xa.out.below hb2
      replace Xr : Hid _ := Xr.out.below hb2
      replace hbw := Below.on hbw hb2
      clear hb2
      have A2 : Hid (At32 v2 p2 m2 m2 z2) := hA2
      have N2 : Hid (Nf B32 z2 (x.natAbs / 2 ^ k) ∧ m2 ≤ m) := ⟨hN2, hl2⟩
      clear hA2 hN2 hl2
      clear HJ
      have HJ : Hid ((fun W' : World => W'.cell? ⟨ga, 0, none⟩ = some (.bool true) ∧ W'.cell? ⟨ga, 1, none⟩ = some (.slice p m m)) v2) := ⟨Xa.out.c0, Xa.out.c1⟩
      refine hK _ _ HJ.out ?_
      clear hK
      refine wpJ_two (i := 6) (k := 7) (by kernel_rfl) rfl rfl (by kernel_rfl) (by kernel_rfl) (fun KJ hK => ?_) (fun KJ hK => ?_)
      · go_simp
        refine (rmk_any true A2.out N2.out.1 (by have := N2.out.2; have := HM.out; omega)).mono ?_
        rintro e v4 ⟨v, rfl, hv, hb4⟩
        obtain ⟨s4, g4, m4, rfl, hg4, hz4, hl4⟩ := hv
        have HN4 : Hid (w.heap.size ≤ g4) := Nat.le_trans hbw.size hg4
        have HR4 : Hid (gr < g4) := Nat.lt_of_lt_of_le Xr.out.lt hg4
        replace Xa : Hid _ := Xa.out.below hb4
        replace Xr : Hid _ := Xr.out.below hb4
        replace A2 : Hid _ := A2.out.below hb4
        replace hbw := Below.on hbw hb4
        clear hb4
        have Z4 : Hid (ZR v4 s4 (some ⟨g4, 0, none⟩) m4 (iv true (x.natAbs / 2 ^ k))) := hz4
        have HL4 : Hid (m4 ≤ m2) := hl4
        clear hz4 hl4 hg4
        have HLq : Hid (m4 ≤ m) := Nat.le_trans HL4.out N2.out.2
        clear HL4 N2
        refine hK _ _ ⟨Xa.out.c0, Xa.out.c1⟩ ?_
        clear hK
        refine wpJ_on 7 rfl fun KJ hK => ?_
        go_simp
        have HDq : Hid (ga ≠ v4.heap.size ∧ gr ≠ v4.heap.size) := ⟨Nat.ne_of_lt Xa.out.lt, Nat.ne_of_lt Xr.out.lt⟩
        have HO4q : Hid (OffR g4 m4 v4.heap.size) := Z4.out.off_new
        have HDrq : Hid (gr ≠ v4.heap.size) := Nat.ne_of_lt Xr.out.lt
        have Xq0 : Hid (Box (v4.alloc (.cells #[.bool false, .slice none 0 0] 45)) v4.heap.size (.bool false) (.slice none 0 0)) := Box.new v4 _ _ _
        have hbn : Below v4.heap.size v4 (v4.alloc (.cells #[.bool false, .slice none 0 0] 45)) := below1 v4 _
        generalize v4.alloc (.cells #[.bool false, .slice none 0 0] 45) = Wq at *
        have HGq : Hid (w.heap.size ≤ v4.heap.size) := hbw.size
        replace Xa : Hid _ := Xa.out.below hbn
        replace Xr : Hid _ := Xr.out.below hbn
        replace A2 : Hid _ := A2.out.below hbn
        replace Z4 : Hid _ := Z4.out.below hbn
        replace hbw := Below.on hbw hbn
        clear hbn
        generalize v4.heap.size = gq at *
        have Xq := Xq0
        clear Xq0
        refine hK _ _ ⟨Xa.out.c0, Xa.out.c1⟩ ?_
        clear hK
        obtain ⟨cq0, cq1, fq0, fq1⟩ := Xq.out
        have hneq := Xq.out.lt
        obtain ⟨ca0, ca1, fa0, fa1⟩ := Xa.out
        have hnea := Xa.out.lt
        obtain ⟨cr0, cr1, fr0, fr1⟩ := Xr.out
        have hner := Xr.out.lt
        have qqa : ga ≠ gq := HDq.out.1
        have qaq : gq ≠ ga := fun h => qqa h.symm
        have qqr : gr ≠ gq := HDq.out.2
        have qrq : gq ≠ gr := fun h => qqr h.symm
        refine wpJ_on 8 rfl fun KJ hK => ?_
        go_simp
        have HJ2 : Hid ((fun W' : World => W'.cell? ⟨ga, 0, none⟩ = some (.bool true) ∧ W'.cell? ⟨ga, 1, none⟩ = some (.slice p m m)) ((Wq.setCell ⟨gq, 0, none⟩ (.bool s4)).setCell ⟨gq, 1, none⟩ (.slice (some ⟨g4, 0, none⟩) m4 m4))) := ⟨by go_simp, by go_simp⟩
        have Xq2 : Hid (Box ((Wq.setCell ⟨gq, 0, none⟩ (.bool s4)).setCell ⟨gq, 1, none⟩ (.slice (some ⟨g4, 0, none⟩) m4 m4)) gq (.bool s4) (.slice (some ⟨g4, 0, none⟩) m4 m4)) := ⟨by go_simp, by go_simp, by go_simp, by go_simp⟩
        have Xa2 : Hid (Box ((Wq.setCell ⟨gq, 0, none⟩ (.bool s4)).setCell ⟨gq, 1, none⟩ (.slice (some ⟨g4, 0, none⟩) m4 m4)) ga (.bool true) (.slice p m m)) := ⟨by go_simp, by go_simp, by go_simp, by go_simp⟩
        have Xr2 : Hid (Box ((Wq.setCell ⟨gq, 0, none⟩ (.bool s4)).setCell ⟨gq, 1, none⟩ (.slice (some ⟨g4, 0, none⟩) m4 m4)) gr (.bool false) (.slice none 0 0)) := ⟨by go_simp, by go_simp, by go_simp, by go_simp⟩
        have Z42 : Hid (ZR ((Wq.setCell ⟨gq, 0, none⟩ (.bool s4)).setCell ⟨gq, 1, none⟩ (.slice (some ⟨g4, 0, none⟩) m4 m4)) s4 (some ⟨g4, 0, none⟩) m4 (iv true (x.natAbs / 2 ^ k))) := (Z4.out.setOff HO4q.out _ _).setOff HO4q.out _ _
        have hbw2 : Below w.heap.size w ((Wq.setCell ⟨gq, 0, none⟩ (.bool s4)).setCell ⟨gq, 1, none⟩ (.slice (some ⟨g4, 0, none⟩) m4 m4)) := bSet (bSet hbw _ _ _ HGq.out) _ _ _ HGq.out
        refine hK _ _ HJ2.out ?_
        clear hK HJ
        have HJ := HJ2
        clear HJ2 hbw A2 Z4
        clear cq0 cq1 fq0 fq1 hneq
        clear ca0 ca1 fa0 fa1 hnea
        clear cr0 cr1 fr0 fr1 hner
        clear qqa qaq qqr qrq Xq Xa Xr
        generalize ((Wq.setCell ⟨gq, 0, none⟩ (.bool s4)).setCell ⟨gq, 1, none⟩ (.slice (some ⟨g4, 0, none⟩) m4 m4)) = Ws0 at *
        have hbw := hbw2
        have Z4 := Z42
        have Xq := Xq2
        have Xa := Xa2
        have Xr := Xr2
        clear hbw2 Z42 Xq2 Xa2 Xr2
        refine wpJ_done (by kernel_rfl) ?_ _
        exact ⟨rfl, gq, s4, g4, m4, p2, m2, by kernel_rfl, Xa.out, Xr.out, Xq.out, Z4.out, HLq.out, HN4.out, HR4.out, HDrq.out, hbw⟩
      · go_simp
        have HDq : Hid (ga ≠ v2.heap.size ∧ gr ≠ v2.heap.size) := ⟨Nat.ne_of_lt Xa.out.lt, Nat.ne_of_lt Xr.out.lt⟩
        have HDrq : Hid (gr ≠ v2.heap.size) := Nat.ne_of_lt Xr.out.lt
        have Xq0 : Hid (Box (v2.alloc (.cells #[.bool false, .slice none 0 0] 45)) v2.heap.size (.bool false) (.slice none 0 0)) := Box.new v2 _ _ _
        have hbn : Below v2.heap.size v2 (v2.alloc (.cells #[.bool false, .slice none 0 0] 45)) := below1 v2 _
        generalize v2.alloc (.cells #[.bool false, .slice none 0 0] 45) = Wq at *
        have HGq : Hid (w.heap.size ≤ v2.heap.size) := hbw.size
        replace Xa : Hid _ := Xa.out.below hbn
        replace Xr : Hid _ := Xr.out.below hbn
        replace A2 : Hid _ := A2.out.below hbn
        replace hbw := Below.on hbw hbn
        clear hbn
        generalize v2.heap.size = gq at *
        have Xq := Xq0
        clear Xq0
        refine hK _ _ ⟨Xa.out.c0, Xa.out.c1⟩ ?_
        clear hK
        refine wpJ_on 6 rfl fun KJ hK => ?_
        go_simp
        refine (rmk_any true A2.out N2.out.1 (by have := N2.out.2; have := HM.out; omega)).mono ?_
        rintro e v4 ⟨v, rfl, hv, hb4⟩
        obtain ⟨s4, g4, m4, rfl, hg4, hz4, hl4⟩ := hv
        have HO4q : Hid (OffR g4 m4 gq) := .inr (Nat.ne_of_gt (Nat.lt_of_lt_of_le Xq.out.lt hg4))
        have HN4 : Hid (w.heap.size ≤ g4) := Nat.le_trans hbw.size hg4
        have HR4 : Hid (gr < g4) := Nat.lt_of_lt_of_le Xr.out.lt hg4
        replace Xa : Hid _ := Xa.out.below hb4
        replace Xr : Hid _ := Xr.out.below hb4
        replace Xq : Hid _ := Xq.out.below hb4
        replace A2 : Hid _ := A2.out.below hb4
        replace hbw := Below.on hbw hb4
        clear hb4
        have Z4 : Hid (ZR v4 s4 (some ⟨g4, 0, none⟩) m4 (iv true (x.natAbs / 2 ^ k))) := hz4
        have HL4 : Hid (m4 ≤ m2) := hl4
        clear hz4 hl4 hg4
        have HLq : Hid (m4 ≤ m) := Nat.le_trans HL4.out N2.out.2
        clear HL4 N2
        refine hK _ _ ⟨Xa.out.c0, Xa.out.c1⟩ ?_
        clear hK
        obtain ⟨cq0, cq1, fq0, fq1⟩ := Xq.out
        have hneq := Xq.out.lt
        obtain ⟨ca0, ca1, fa0, fa1⟩ := Xa.out
        have hnea := Xa.out.lt
        obtain ⟨cr0, cr1, fr0, fr1⟩ := Xr.out
        have hner := Xr.out.lt
        have qqa : ga ≠ gq := HDq.out.1
        have qaq : gq ≠ ga := fun h => qqa h.symm
        have qqr : gr ≠ gq := HDq.out.2
        have qrq : gq ≠ gr := fun h => qqr h.symm
        refine wpJ_on 8 rfl fun KJ hK => ?_
        go_simp
        have HJ2 : Hid ((fun W' : World => W'.cell? ⟨ga, 0, none⟩ = some (.bool true) ∧ W'.cell? ⟨ga, 1, none⟩ = some (.slice p m m)) ((v4.setCell ⟨gq, 0, none⟩ (.bool s4)).setCell ⟨gq, 1, none⟩ (.slice (some ⟨g4, 0, none⟩) m4 m4))) := ⟨by go_simp, by go_simp⟩
        have Xq2 : Hid (Box ((v4.setCell ⟨gq, 0, none⟩ (.bool s4)).setCell ⟨gq, 1, none⟩ (.slice (some ⟨g4, 0, none⟩) m4 m4)) gq (.bool s4) (.slice (some ⟨g4, 0, none⟩) m4 m4)) := ⟨by go_simp, by go_simp, by go_simp, by go_simp⟩
        have Xa2 : Hid (Box ((v4.setCell ⟨gq, 0, none⟩ (.bool s4)).setCell ⟨gq, 1, none⟩ (.slice (some ⟨g4, 0, none⟩) m4 m4)) ga (.bool true) (.slice p m m)) := ⟨by go_simp, by go_simp, by go_simp, by go_simp⟩
        have Xr2 : Hid (Box ((v4.setCell ⟨gq, 0, none⟩ (.bool s4)).setCell ⟨gq, 1, none⟩ (.slice (some ⟨g4, 0, none⟩) m4 m4)) gr (.bool false) (.slice none 0 0)) := ⟨by go_simp, by go_simp, by go_simp, by go_simp⟩
        have Z42 : Hid (ZR ((v4.setCell ⟨gq, 0, none⟩ (.bool s4)).setCell ⟨gq, 1, none⟩ (.slice (some ⟨g4, 0, none⟩) m4 m4)) s4 (some ⟨g4, 0, none⟩) m4 (iv true (x.natAbs / 2 ^ k))) := (Z4.out.setOff HO4q.out _ _).setOff HO4q.out _ _
        have hbw2 : Below w.heap.size w ((v4.setCell ⟨gq, 0, none⟩ (.bool s4)).setCell ⟨gq, 1, none⟩ (.slice (some ⟨g4, 0, none⟩) m4 m4)) := bSet (bSet hbw _ _ _ HGq.out) _ _ _ HGq.out
        refine hK _ _ HJ2.out ?_
        clear hK HJ
        have HJ := HJ2
        clear HJ2 hbw A2 Z4
        clear cq0 cq1 fq0 fq1 hneq
        clear ca0 ca1 fa0 fa1 hnea
        clear cr0 cr1 fr0 fr1 hner
        clear qqa qaq qqr qrq Xq Xa Xr
        generalize ((v4.setCell ⟨gq, 0, none⟩ (.bool s4)).setCell ⟨gq, 1, none⟩ (.slice (some ⟨g4, 0, none⟩) m4 m4)) = Ws0 at *
        have hbw := hbw2
        have Z4 := Z42
        have Xq := Xq2
        have Xa := Xa2
        have Xr := Xr2
        clear hbw2 Z42 Xq2 Xa2 Xr2
        refine wpJ_done (by kernel_rfl) ?_ _
        exact ⟨rfl, gq, s4, g4, m4, p2, m2, by kernel_rfl, Xa.out, Xr.out, Xq.out, Z4.out, HLq.out, HN4.out, HR4.out, HDrq.out, hbw⟩
    · go_simp
      have HDq : Hid (ga ≠ W1.heap.size ∧ gr ≠ W1.heap.size) := ⟨Nat.ne_of_lt Xa.out.lt, Nat.ne_of_lt Xr.out.lt⟩
      have HDrq : Hid (gr ≠ W1.heap.size) := Nat.ne_of_lt Xr.out.lt
      have Xq0 : Hid (Box (W1.alloc (.cells #[.bool false, .slice none 0 0] 45)) W1.heap.size (.bool false) (.slice none 0 0)) := Box.new W1 _ _ _
      have hbn : Below W1.heap.size W1 (W1.alloc (.cells #[.bool false, .slice none 0 0] 45)) := below1 W1 _
      generalize W1.alloc (.cells #[.bool false, .slice none 0 0] 45) = Wq at *
      have HGq : Hid (w.heap.size ≤ W1.heap.size) := hbw.size
      replace Xa : Hid _ := Xa.out.below hbn
      replace Xr : Hid _ := Xr.out.below hbn
      replace hbw := Below.on hbw hbn
      clear hbn
      generalize W1.heap.size = gq at *
      have Xq := Xq0
      clear Xq0
      refine hK _ _ ⟨Xa.out.c0, Xa.out.c1⟩ ?_
      clear hK
      refine wpJ_on 5 rfl fun KJ hK => ?_
      go_simp
      refine (rfshr_any (AX.out.below hbw) NX.out HM.out k HK.out.1 HK.out.2).mono ?_
      rintro e v2 ⟨p2, m2, z2, rfl, hA2, hN2, hl2, hb2⟩
      replace Xa : Hid _ := Xa.out.below hb2
      replace Xr : Hid _ := Xr.out.below hb2
      replace Xq : Hid _ := Xq.out.below hb2
      replace hbw := Below.on hbw hb2
      clear hb2
      have A2 : Hid (At32 v2 p2 m2 m2 z2) := hA2
      have N2 : Hid (Nf B32 z2 (x.natAbs / 2 ^ k) ∧ m2 ≤ m) := ⟨hN2, hl2⟩
      clear hA2 hN2 hl2
      refine hK _ _ ⟨Xa.out.c0, Xa.out.c1⟩ ?_
      clear hK
      refine wpJ_on 6 rfl fun KJ hK => ?_
      go_simp
      refine (rmk_any true A2.out N2.out.1 (by have := N2.out.2; have := HM.out; omega)).mono ?_
      rintro e v4 ⟨v, rfl, hv, hb4⟩
      obtain ⟨s4, g4, m4, rfl, hg4, hz4, hl4⟩ := hv
      have HO4q : Hid (OffR g4 m4 gq) := .inr (Nat.ne_of_gt (Nat.lt_of_lt_of_le Xq.out.lt hg4))
      have HN4 : Hid (w.heap.size ≤ g4) := Nat.le_trans hbw.size hg4
      have HR4 : Hid (gr < g4) := Nat.lt_of_lt_of_le Xr.out.lt hg4
      replace Xa : Hid _ := Xa.out.below hb4
      replace Xr : Hid _ := Xr.out.below hb4
      replace Xq : Hid _ := Xq.out.below hb4
      replace A2 : Hid _ := A2.out.below hb4
      replace hbw := Below.on hbw hb4
      clear hb4
      have Z4 : Hid (ZR v4 s4 (some ⟨g4, 0, none⟩) m4 (iv true (x.natAbs / 2 ^ k))) := hz4
      have HL4 : Hid (m4 ≤ m2) := hl4
      clear hz4 hl4 hg4
      have HLq : Hid (m4 ≤ m) := Nat.le_trans HL4.out N2.out.2
      clear HL4 N2
      refine hK _ _ ⟨Xa.out.c0, Xa.out.c1⟩ ?_
      clear hK
      obtain ⟨cq0, cq1, fq0, fq1⟩ := Xq.out
      have hneq := Xq.out.lt
      obtain ⟨ca0, ca1, fa0, fa1⟩ := Xa.out
      have hnea := Xa.out.lt
      obtain ⟨cr0, cr1, fr0, fr1⟩ := Xr.out
      have hner := Xr.out.lt
      have qqa : ga ≠ gq := HDq.out.1
      have qaq : gq ≠ ga := fun h => qqa h.symm
      have qqr : gr ≠ gq := HDq.out.2
      have qrq : gq ≠ gr := fun h => qqr h.symm
      refine wpJ_on 8 rfl fun KJ hK => ?_
      go_simp
      have HJ2 : Hid ((fun W' : World => W'.cell? ⟨ga, 0, none⟩ = some (.bool true) ∧ W'.cell? ⟨ga, 1, none⟩ = some (.slice p m m)) ((v4.setCell ⟨gq, 0, none⟩ (.bool s4)).setCell ⟨gq, 1, none⟩ (.slice (some ⟨g4, 0, none⟩) m4 m4))) := ⟨by go_simp, by go_simp⟩
      have Xq2 : Hid (Box ((v4.setCell ⟨gq, 0, none⟩ (.bool s4)).setCell ⟨gq, 1, none⟩ (.slice (some ⟨g4, 0, none⟩) m4 m4)) gq (.bool s4) (.slice (some ⟨g4, 0, none⟩) m4 m4)) := ⟨by go_simp, by go_simp, by go_simp, by go_simp⟩
      have Xa2 : Hid (Box ((v4.setCell ⟨gq, 0, none⟩ (.bool s4)).setCell ⟨gq, 1, none⟩ (.slice (some ⟨g4, 0, none⟩) m4 m4)) ga (.bool true) (.slice p m m)) := ⟨by go_simp, by go_simp, by go_simp, by go_simp⟩
      have Xr2 : Hid (Box ((v4.setCell ⟨gq, 0, none⟩ (.bool s4)).setCell ⟨gq, 1, none⟩ (.slice (some ⟨g4, 0, none⟩) m4 m4)) gr (.bool false) (.slice none 0 0)) := ⟨by go_simp, by go_simp, by go_simp, by go_simp⟩
      have Z42 : Hid (ZR ((v4.setCell ⟨gq, 0, none⟩ (.bool s4)).setCell ⟨gq, 1, none⟩ (.slice (some ⟨g4, 0, none⟩) m4 m4)) s4 (some ⟨g4, 0, none⟩) m4 (iv true (x.natAbs / 2 ^ k))) := (Z4.out.setOff HO4q.out _ _).setOff HO4q.out _ _
      have hbw2 : Below w.heap.size w ((v4.setCell ⟨gq, 0, none⟩ (.bool s4)).setCell ⟨gq, 1, none⟩ (.slice (some ⟨g4, 0, none⟩) m4 m4)) := bSet (bSet hbw _ _ _ HGq.out) _ _ _ HGq.out
      refine hK _ _ HJ2.out ?_
      clear hK HJ
      have HJ := HJ2
      clear HJ2 hbw A2 Z4
      clear cq0 cq1 fq0 fq1 hneq
      clear ca0 ca1 fa0 fa1 hnea
      clear cr0 cr1 fr0 fr1 hner
      clear qqa qaq qqr qrq Xq Xa Xr
      generalize ((v4.setCell ⟨gq, 0, none⟩ (.bool s4)).setCell ⟨gq, 1, none⟩ (.slice (some ⟨g4, 0, none⟩) m4 m4)) = Ws0 at *
      have hbw := hbw2
      have Z4 := Z42
      have Xq := Xq2
      have Xa := Xa2
      have Xr := Xr2
      clear hbw2 Z42 Xq2 Xa2 Xr2
      refine wpJ_done (by kernel_rfl) ?_ _
      exact ⟨rfl, gq, s4, g4, m4, p2, m2, by kernel_rfl, Xa.out, Xr.out, Xq.out, Z4.out, HLq.out, HN4.out, HR4.out, HDrq.out, hbw⟩
theorem rfloorshr04 {p : Option Addr} {m : Nat} {w : World} {x : Int} (s : Bool) (h : ZR w s p m x) (hm : m ≤ 16384) (k : Nat) (hk : k ≤ 9223372036854775807) :
    Calls Tryd.prog 16 #[.agg #[.bool s, .slice p m m], .int .i64 k] w fun e w' => ∃ v, e = .returned v ∧ GotR w.heap.size w' v (rFs x k) (m + 4) ∧ Below w.heap.size w w' := by
  rcases Nat.eq_zero_or_pos k with rfl | h0
  · rw [rFs_zero]
    exact rfloorshr04_z s h hm
  · cases s
    · exact rfloorshr04_p h hm k h0 hk
    · by_cases hl : x.natAbs % 2 ^ k = 0
      · exact rfloorshr04_n0 h hm k h0 hk hl
      · exact rfloorshr04_n1 h hm k h0 hk hl
theorem rpow2t (w : World) (k : Nat) (hk : k ≤ 524288) :
    Calls Tryd.prog 20 #[.int .i64 k] w fun e w' => ∃ p' m' zs, e = .returned (.slice p' m' m') ∧ At32 w' p' m' m' zs ∧ Nf B32 zs (2 ^ k) ∧ m' ≤ 40000 ∧ Below w.heap.size w w' := by
  have HK : Hid (k ≤ 524288) := hk
  clear hk
  have hbw : Below w.heap.size w w := Below.refl _ _
  go_enter Tryd.func20, Tryd.ntmps20
  go_wp2_with fail
  refine (rword 1 (by rw [B64_eq]; decide) _).mono ?_
  rintro e v4 ⟨g4, z4, rfl, hl4, hA4, hN4, hb4⟩
  replace hbw := Below.on hbw hb4
  clear hb4
  have A4 : Hid (At32 v4 (some ⟨g4, 0, none⟩) z4.length z4.length z4) := hA4
  have N4 : Hid (Nf B32 z4 1 ∧ z4.length ≤ 2) := ⟨hN4, hl4⟩
  clear hA4 hN4 hl4
  go_wp2_with fail
  refine (rshl_all A4.out N4.out.1 (by have := N4.out; omega) k (.inl HK.out)).mono ?_
  rintro e v5 ⟨p5, m5, z5, rfl, hA5, hN5, hl5, hb5⟩
  replace A4 : Hid _ := A4.out.below hb5
  replace hbw := Below.on hbw hb5
  clear hb5
  have A5 : Hid (At32 v5 p5 m5 m5 z5) := hA5
  have N5 : Hid (Nf B32 z5 (2 ^ k) ∧ m5 ≤ 40000) := ⟨by rw [Nat.one_mul] at hN5; exact hN5, hl5⟩
  clear hA5 hN5 hl5
  go_wp2_with fail
  go_ret
  exact ⟨p5, m5, z5, rfl, A5.out, N5.out.1, N5.out.2, hbw⟩
theorem rfitst {p : Option Addr} {n c : Nat} {xs : List Nat} {w : World} (h : At32 w p n c xs) (hn : n ≤ 35184372088832) :
    Calls Tryd.prog 27 #[.slice p n c] w fun e w' => e = .returned (if valB B32 xs < B64 then .tuple #[U (valB B32 xs), .bool true] else .tuple #[.int .u64 0, .bool false]) ∧ Below w.heap.size w w' := by
  have H : Hid (At32 w p n c xs) := h
  clear h
  obtain ⟨rv, hrv⟩ : ∃ rv : Value, rv = (if valB B32 xs < B64 then .tuple #[U (valB B32 xs), .bool true] else .tuple #[.int .u64 0, .bool false]) := ⟨_, rfl⟩
  rw [← hrv]
  have HRV : Hid (rv = (if valB B32 xs < B64 then .tuple #[U (valB B32 xs), .bool true] else .tuple #[.int .u64 0, .bool false])) := hrv
  clear hrv
  go_enter Tryd.func27, Tryd.ntmps27
  go_wp2_with fail
  refine (rto_any H.out hn).mono ?_
  rintro e w1 ⟨g1, k1, N1, us, rfl, hg1, hA1, hn1, hb1⟩
  have hl := hA1.len
  match k1, us, hl with
  | 0, [], _ =>
    have HV : Hid (valB B32 xs = 0) := by show _ = _; rw [← hn1.val]; rfl
    clear hA1 hn1 hg1
    go_wp2_with fail
    go_ret2
    refine ⟨?_, hb1⟩
    rw [HRV.out, HV.out, if_pos (by rw [B64_eq]; decide)]
    rfl
  | 1, [u], _ =>
    have HV : Hid (valB B32 xs = u ∧ u < B64) := ⟨by rw [← hn1.val]; simp [valB], hA1.dig u (by simp)⟩
    have hc := hA1.cellAt 0 (by omega)
    have hc2 : w1.cell? ⟨g1, 0, none⟩ = some (U u) := hc
    have hlt := World.block_lt_of_cell? w1 _ hc2
    clear hA1 hn1 hg1 hc
    go_wp2_with fail
    go_ret2
    refine ⟨?_, hb1⟩
    rw [HRV.out, HV.out.1, if_pos HV.out.2]
    rfl
  | k + 2, us, hl =>
    have HV : Hid (¬ valB B32 xs < B64) := by
      intro hlt
      have := (hn1.len_le B64_one (k := 1)).2 (by rw [Nat.pow_one]; exact hlt)
      omega
    have h0 : (((k + 2 : Nat) : Int) == 0) = false := by simp; omega
    have h1 : (((k + 2 : Nat) : Int) == 1) = false := by simp; omega
    clear hA1 hn1 hg1
    go_wp2_with fail
    go_ret2
    refine ⟨?_, hb1⟩
    rw [HRV.out, if_neg HV.out]
    rfl
theorem rint04_pt {p : Option Addr} {m : Nat} {w : World} {z : Int}  (h : ZR w false p m z) (hm : m ≤ 50000) (ha : z.natAbs < 9223372036854775808) (ha2 : z = (z.natAbs : Int)) :
    Calls Tryd.prog 15 #[.agg #[.bool false, .slice p m m]] w fun e w' => e = .returned (.tuple #[.int .i64 z, .bool true]) ∧ Below w.heap.size w w' := by
  obtain ⟨xs, hA, hN⟩ := h.ex
  have HA : Hid (At32 w p m m xs) := hA
  have HM : Hid (m ≤ 50000) := hm
  obtain ⟨v, hv⟩ : ∃ v, v = valB B32 xs := ⟨_, rfl⟩
  have HV : Hid (v = valB B32 xs) := hv
  have hvz : v = z.natAbs := by rw [hv]; exact hN.val
  clear h hA hm hN hv
  have HVB : Hid (v < B64) := by show _ < _; rw [B64_eq]; omega
  have f2 : decide ((9223372036854775808 : Int) ≤ (v : Int)) = false := decide_eq_false (by omega)
  have f3 : decide (9223372036854775808 ≤ v) = false := decide_eq_false (by omega)
  have d4 : ¬ 9223372036854775808 ≤ v := by omega
  have f4 : wrap64 (v : Int) = (v : Int) := by simp only [wrap64]; omega
  have f6 : z = (v : Int) := by omega
  have F6 : Hid (z = (v : Int)) := f6
  clear ha ha2 hvz f6
  go_enter Tryd.func15, Tryd.ntmps15
  go_wp2_with fail
  obtain ⟨W0, hW0⟩ : ∃ W0, W0 = (w.alloc (.cells #[.bool false, .slice p m m] 45)) := ⟨_, rfl⟩
  have Xa : Hid (Box W0 (w.heap.size) (.bool false) (.slice p m m)) := by rw [hW0]; exact ⟨by go_simp, by go_simp, by go_simp, by go_simp⟩
  have hb0 : Below w.heap.size w W0 := by rw [hW0]; exact below1 w _
  rw [← hW0]
  clear hW0
  have hbw : Below w.heap.size w w := Below.refl _ _
  obtain ⟨ga, hga⟩ : ∃ g, g = w.heap.size := ⟨_, rfl⟩
  have HGa : Hid (w.heap.size ≤ ga) := by rw [hga]; show _ ≤ _; omega
  rw [← hga] at Xa
  try rw [← hga]
  clear hga
  replace HA : Hid _ := HA.out.below hb0
  replace hbw := Below.on hbw hb0
  clear hb0
  refine (rfitst HA.out (by have := HM.out; omega)).mono ?_
  rintro e v1 ⟨rfl, hb1⟩
  rw [← HV.out, if_pos HVB.out]
  replace Xa : Hid _ := Xa.out.below hb1
  replace HA : Hid _ := HA.out.below hb1
  replace hbw := Below.on hbw hb1
  clear hb1
  obtain ⟨ca0, ca1, fa0, fa1⟩ := Xa.out
  have hnea := Xa.out.lt
  go_wp2_with fail
  clear ca0 ca1 fa0 fa1 hnea
  go_ret2
  refine ⟨?_, hbw⟩
  rw [F6.out]
  rfl
theorem sz7 {x LV LL : Nat} (h : x < 2 ^ LV) (hL : LV + 7 ≤ LL) : ((x : Int) * 2 ^ 7).natAbs < 2 ^ LL := by
  have h1 : ((x : Int) * 2 ^ 7).natAbs = x * 2 ^ 7 := by rw [Int.natAbs_mul, Int.natAbs_natCast]; rfl
  rw [h1]
  refine Nat.lt_of_lt_of_le (Nat.mul_lt_mul_of_pos_right h (by decide)) ?_
  rw [← Nat.pow_add]
  exact Nat.pow_le_pow_right (by decide) hL
theorem vs_top {s K : Nat} (hK : K = 1074) (hs : s ≤ 4605493568939753472) : vs 4503599627370496 s < 2 ^ K := by
  obtain ⟨c, hc⟩ : ∃ c, c = 1022 := ⟨_, rfl⟩
  have h1 : vs 4503599627370496 s < vs 4503599627370496 (c * 4503599627370496 + 4503599627370496) := vs_mono (by decide) (by subst hc; omega)
  rw [vs_E c _ (by omega) (by omega)] at h1
  have e2 : 4503599627370496 * 2 ^ c = 2 ^ K := by
    rw [show 4503599627370496 = 2 ^ 52 by decide, ← Nat.pow_add, show 52 + c = K by clear h1; omega]
  rw [← e2]; exact h1
theorem plc_le {s K : Nat} (hK : K = 1074) (hs : s ≤ 4605493568939753472) : plcN K s ≤ 64 := by
  have h1 := vs_top hK hs
  unfold plcN
  have h2 : 128 * vs 4503599627370496 s + 2 ^ K < 65 * 2 ^ (K + 1) := by rw [Nat.pow_succ]; omega
  have h3 := (Nat.div_lt_iff_lt_mul (Nat.two_pow_pos (K + 1))).2 h2
  omega
theorem rFs_plc (s K : Nat) : rFs ((vs 4503599627370496 s : Int) * 2 ^ 7 + iv false (2 ^ K)) (K + 1) = (plcN K s : Int) := by
  have h1 : (vs 4503599627370496 s : Int) * 2 ^ 7 + iv false (2 ^ K) = ((128 * vs 4503599627370496 s + 2 ^ K : Nat) : Int) := by
    rw [Int.natCast_add, Int.natCast_mul, show iv false (2 ^ K) = ((2 ^ K : Nat) : Int) from rfl, Int.mul_comm]; rfl
  rw [h1]
  unfold rFs
  rw [decide_eq_false (Int.not_lt.2 (Int.natCast_nonneg _)), Int.natAbs_natCast]
  rfl
theorem rpow2K {K : Nat} (hK : K = 1074) (w : World) : Calls Tryd.prog 20 #[.int .i64 1074] w fun e w' => ∃ p' m' zs, e = .returned (.slice p' m' m') ∧ At32 w' p' m' m' zs ∧ Nf B32 zs (2 ^ K) ∧ m' ≤ 40000 ∧ Below w.heap.size w w' := by
  have h := rpow2t w K (by omega)
  rw [show ((K : Nat) : Int) = 1074 by omega] at h
  exact h
theorem rfloorshrK {K : Nat} (hK : K = 1074) {p : Option Addr} {m : Nat} {w : World} {x : Int} (s : Bool) (h : ZR w s p m x) (hm : m ≤ 16384) :
    Calls Tryd.prog 16 #[.agg #[.bool s, .slice p m m], .int .i64 1075] w fun e w' => ∃ v, e = .returned v ∧ GotR w.heap.size w' v (rFs x (K + 1)) (m + 4) ∧ Below w.heap.size w w' := by
  have h := rfloorshr04 s h hm (K + 1) (by omega)
  rw [show ((K + 1 : Nat) : Int) = 1075 by omega] at h
  exact h
theorem rscaled {b : Nat} (w : World) :
    Calls Tryd.prog 14 #[U b, .int .i64 1074] w fun en w' => ∃ v, en = .returned v ∧ GotR w.heap.size w' v (svS 9223372036854775808 4503599627370496 b) 2200 ∧ Below w.heap.size w w' := by
  obtain ⟨q, hq⟩ : ∃ q, q = b % 9223372036854775808 / 4503599627370496 - 1 := ⟨_, rfl⟩
  obtain ⟨man, hman⟩ : ∃ man, man = b % 9223372036854775808 - q * 4503599627370496 := ⟨_, rfl⟩
  obtain ⟨neg, hneg⟩ : ∃ neg, neg = decide (9223372036854775808 ≤ b) := ⟨_, rfl⟩
  obtain ⟨s, hs⟩ : ∃ s, s = b % 9223372036854775808 := ⟨_, rfl⟩
  have hv : iv neg (man * 2 ^ q) = svS 9223372036854775808 4503599627370496 b := by
    rw [svS_eq, hneg, show vs 4503599627370496 (b % 9223372036854775808) = man * 2 ^ q from by unfold vs; rw [← hq, ← hman]]
    by_cases h : 9223372036854775808 ≤ b
    · rw [if_pos h, decide_eq_true h]; rfl
    · rw [if_neg h, decide_eq_false h]; rfl
  have hv2 : iv neg man * 2 ^ q = svS 9223372036854775808 4503599627370496 b := by rw [← hv, iv_mul_nat]; rfl
  have hq9 : q ≤ 2048 := by omega
  obtain ⟨ex, hex⟩ : ∃ ex : Int, ex = (-1074 : Int) + (q : Int) := ⟨_, rfl⟩
  have e2 : wrap64 (ex + 1074) = (q : Int) := by rw [hex]; simp only [wrap64]; omega
  have e3 : IntKind.i64.wrap (ex + 1074) = (q : Int) := by rw [hex]; simp [IntKind.wrap, IntKind.signed, IntKind.bits]; omega
  have e4 : decide ((q : Int) < 0) = false := decide_eq_false (by omega)
  have HV : Hid (iv neg man * 2 ^ q = svS 9223372036854775808 4503599627370496 b ∧ q ≤ 2048 ∧ man < B64 ∧ b % 9223372036854775808 = s ∧ decide (9223372036854775808 ≤ b) = neg ∧ s < 9223372036854775808 ∧ s / 4503599627370496 - 1 = q ∧ s - q * 4503599627370496 = man ∧ (-1074 : Int) + (q : Int) = ex) := ⟨hv2, hq9, by rw [B64_eq]; omega, hs.symm, hneg.symm, by omega, by rw [hs]; exact hq.symm, by rw [hs]; exact hman.symm, hex.symm⟩
  clear hq hman hneg hs hv hv2 hq9 hex
  go_enter Tryd.func14, Tryd.ntmps14
  go_wp2_with fail
  obtain ⟨W0, hW0⟩ : ∃ W0, W0 = (w.alloc (.cells #[.bool false, .slice none 0 0] 45)) := ⟨_, rfl⟩
  have Xr : Hid (Box W0 (w.heap.size) (.bool false) (.slice none 0 0)) := by rw [hW0]; exact ⟨by go_simp, by go_simp, by go_simp, by go_simp⟩
  have hb0 : Below w.heap.size w W0 := by rw [hW0]; exact below1 w _
  rw [← hW0]
  clear hW0
  have hbw : Below w.heap.size w w := Below.refl _ _
  obtain ⟨gr, hgr⟩ : ∃ g, g = w.heap.size := ⟨_, rfl⟩
  have HGr : Hid (w.heap.size ≤ gr) := by rw [hgr]; show _ ≤ _; omega
  rw [← hgr] at Xr
  try rw [← hgr]
  clear hgr
  replace hbw := Below.on hbw hb0
  clear hb0
  refine (rof_64 _).mono ?_
  rintro e v1 ⟨rfl, hb1⟩
  replace Xr : Hid _ := Xr.out.below hb1
  replace hbw := Below.on hbw hb1
  clear hb1
  go_wp2_with fail
  have Xk0 : Hid (B6q (v1.alloc (.cells #[U 9223372036854775808, .int .i64 53, .int .i64 (-1074), .int .i64 971, U 9218868437227405312, U 9221120237041090561] 58)) v1.heap.size (U 9223372036854775808) (.int .i64 53) (.int .i64 (-1074)) (.int .i64 971) (U 9218868437227405312) (U 9221120237041090561)) := B6q.new v1 _ _ _ _ _ _ _
  have hbn : Below v1.heap.size v1 (v1.alloc (.cells #[U 9223372036854775808, .int .i64 53, .int .i64 (-1074), .int .i64 971, U 9218868437227405312, U 9221120237041090561] 58)) := below1 v1 _
  generalize v1.alloc (.cells #[U 9223372036854775808, .int .i64 53, .int .i64 (-1074), .int .i64 971, U 9218868437227405312, U 9221120237041090561] 58) = Wk at *
  have HGk : Hid (w.heap.size ≤ v1.heap.size) := hbw.size
  replace Xr : Hid _ := Xr.out.below hbn
  replace hbw := Below.on hbw hbn
  clear hbn
  generalize v1.heap.size = gk at *
  have Xk := Xk0
  clear Xk0
  refine (cut_any (by decide) (by decide) b _).mono ?_
  rintro e v2 ⟨rfl, hb2⟩
  rw [HV.out.2.2.2.1, HV.out.2.2.2.2.1]
  replace Xr : Hid _ := Xr.out.below hb2
  replace Xk : Hid _ := Xk.out.below hb2
  replace hbw := Below.on hbw hb2
  clear hb2
  obtain ⟨ck0, ck1, ck2, ck3, ck4, ck5, fk0, fk1, fk2, fk3, fk4, fk5⟩ := Xk.out
  have hnek : gk < v2.heap.size := World.block_lt_of_cell? v2 _ ck0
  go_wp2_with fail
  clear ck0 ck1 ck2 ck3 ck4 ck5 fk0 fk1 fk2 fk3 fk4 fk5 hnek
  refine (rparts_all64 s HV.out.2.2.2.2.2.1 _).mono ?_
  rintro e v3 ⟨rfl, hb3⟩
  rw [HV.out.2.2.2.2.2.2.1, HV.out.2.2.2.2.2.2.2.1, HV.out.2.2.2.2.2.2.2.2]
  replace Xr : Hid _ := Xr.out.below hb3
  replace Xk : Hid _ := Xk.out.below hb3
  replace hbw := Below.on hbw hb3
  clear hb3
  obtain ⟨ck0, ck1, ck2, ck3, ck4, ck5, fk0, fk1, fk2, fk3, fk4, fk5⟩ := Xk.out
  have hnek : gk < v3.heap.size := World.block_lt_of_cell? v3 _ ck0
  go_wp2_with fail
  clear ck0 ck1 ck2 ck3 ck4 ck5 fk0 fk1 fk2 fk3 fk4 fk5 hnek
  refine (rword man HV.out.2.2.1 _).mono ?_
  rintro e v5 ⟨g5, z5, rfl, hl5, hA5, hN5, hb5⟩
  replace Xr : Hid _ := Xr.out.below hb5
  replace Xk : Hid _ := Xk.out.below hb5
  replace hbw := Below.on hbw hb5
  clear hb5
  have A5 : Hid (At32 v5 (some ⟨g5, 0, none⟩) z5.length z5.length z5) := hA5
  have N5 : Hid (Nf B32 z5 man ∧ z5.length ≤ 2) := ⟨hN5, hl5⟩
  clear hA5 hN5 hl5
  obtain ⟨l5, hl5⟩ : ∃ l9, l9 = z5.length := ⟨_, rfl⟩
  rw [← hl5] at A5 N5 ⊢
  clear hl5
  go_wp2_with fail
  refine (rmk_any neg A5.out N5.out.1 (by have := N5.out.2; omega)).mono ?_
  rintro e v6 ⟨v, rfl, hv, hb6⟩
  obtain ⟨s6, g6, m6, rfl, hg6, hz6, hl6⟩ := hv
  try clear hv
  have HN6 : Hid (v5.heap.size ≤ g6) := hg6
  have HB6 : Hid (v5.heap.size ≤ v6.heap.size) := hb6.size
  replace Xr : Hid _ := Xr.out.below hb6
  replace Xk : Hid _ := Xk.out.below hb6
  replace A5 : Hid _ := A5.out.below hb6
  replace hbw := Below.on hbw hb6
  clear hb6
  have Z6 : Hid (ZR v6 s6 (some ⟨g6, 0, none⟩) m6 (iv neg man)) := hz6
  have HL6 : Hid (m6 ≤ l5) := hl6
  clear hz6 hl6 hg6
  clear A5
  go_wp2_with fail
  have HRB : Hid (gr < v6.heap.size ∧ w.heap.size ≤ v6.heap.size) := ⟨Xr.out.lt, hbw.size⟩
  refine (rshl04 s6 Z6.out (by have := HL6.out; have := N5.out.2; omega) q (.inl (by have := HV.out.2.1; omega))).mono ?_
  rintro e v7 ⟨v, rfl, hv, hb7⟩
  rw [HV.out.1] at hv
  obtain ⟨LL, hLL⟩ : ∃ LL : Nat, LL = 2200 := ⟨_, rfl⟩
  obtain ⟨s7, g7, m7, rfl, hg7, hz7, hl7⟩ := hv.len9 (L' := LL) (svS_lt b (a := 52) (c := 2048) (by decide) (by decide) (by decide) (by decide) (by omega))
  rw [hLL] at hl7
  clear hLL
  try clear hv
  have HN7 : Hid (v6.heap.size ≤ g7) := hg7
  have HB7 : Hid (v6.heap.size ≤ v7.heap.size) := hb7.size
  replace Xr : Hid _ := Xr.out.below hb7
  replace Xk : Hid _ := Xk.out.below hb7
  replace Z6 : Hid _ := Z6.out.below hb7
  replace hbw := Below.on hbw hb7
  clear hb7
  have Z7 : Hid (ZR v7 s7 (some ⟨g7, 0, none⟩) m7 (svS 9223372036854775808 4503599627370496 b)) := hz7
  have HL7 : Hid (m7 ≤ 2200) := hl7
  clear hz7 hl7 hg7
  clear Z6
  obtain ⟨cr0, cr1, fr0, fr1⟩ := Xr.out
  have hner := Xr.out.lt
  go_wp2_with fail
  refine bodyPost_ret (v := .agg #[.bool s7, .slice (some ⟨g7, 0, none⟩) m7 m7]) (by rw [results_cell1 rfl]; go_simp) rfl ⟨_, rfl, ⟨s7, g7, m7, rfl, Nat.le_trans HRB.out.2 HN7.out, ?_, HL7.out⟩, ?_⟩
  · have := HN7.out; have := HRB.out.1
    exact (Z7.out.set _ _ _ (by omega)).set _ _ _ (by omega)
  · exact bSet (bSet hbw _ _ _ HGr.out) _ _ _ HGr.out
theorem docplace_c (b : Nat) (hc : 9218868437227405312 ≤ b % 9223372036854775808) (w : World) :
    Calls Tryd.prog 7 #[U b] w fun en w' => en = .returned (.tuple #[.int .i64 0, .int .i64 6]) ∧ Below w.heap.size w w' := by
  obtain ⟨s, hs⟩ : ∃ s, s = b % 9223372036854775808 := ⟨_, rfl⟩
  have e1 : (b : Int) % 9223372036854775808 = (s : Int) := by omega
  have e2 : decide ((9218868437227405312 : Int) ≤ (s : Int)) = true := decide_eq_true (by omega)
  clear hs hc
  have hbw : Below w.heap.size w w := Below.refl _ _
  go_enter Tryd.func7, Tryd.ntmps7
  go_wp2_with fail
  go_ret2
  exact ⟨rfl, hbw⟩
theorem docplace_l (b : Nat) (hc : b % 9223372036854775808 < 9218868437227405312) (hl : 4605493568939753472 < b % 9223372036854775808) (w : World) :
    Calls Tryd.prog 7 #[U b] w fun en w' => en = .returned (.tuple #[.int .i64 0, .int .i64 5]) ∧ Below w.heap.size w w' := by
  obtain ⟨s, hs⟩ : ∃ s, s = b % 9223372036854775808 := ⟨_, rfl⟩
  have e1 : (b : Int) % 9223372036854775808 = (s : Int) := by omega
  have e2 : decide ((9218868437227405312 : Int) ≤ (s : Int)) = false := decide_eq_false (by omega)
  have e3 : decide ((4605493568939753472 : Int) < (s : Int)) = true := decide_eq_true (by omega)
  clear hs hc hl
  have hbw : Below w.heap.size w w := Below.refl _ _
  go_enter Tryd.func7, Tryd.ntmps7
  go_wp2_with fail
  go_ret2
  exact ⟨rfl, hbw⟩
theorem docplace_ok {K : Nat} (hK : K = 1074) (b : Nat) (hl : b % 9223372036854775808 ≤ 4605493568939753472) (w : World) :
    Calls Tryd.prog 7 #[U b] w fun en w' => en = .returned (.tuple #[.int .i64 (plcN K (b % 9223372036854775808) : Int), .int .i64 0]) ∧ Below w.heap.size w w' := by
  obtain ⟨s, hs⟩ : ∃ s, s = b % 9223372036854775808 := ⟨_, rfl⟩
  have e1 : (b : Int) % 9223372036854775808 = (s : Int) := by omega
  have e2 : decide ((9218868437227405312 : Int) ≤ (s : Int)) = false := decide_eq_false (by omega)
  have e3 : decide ((4605493568939753472 : Int) < (s : Int)) = false := decide_eq_false (by omega)
  have HV : Hid (svS 9223372036854775808 4503599627370496 s = (vs 4503599627370496 s : Int) ∧ b % 9223372036854775808 = s ∧ s ≤ 4605493568939753472) := ⟨by rw [svS_eq, if_neg (by omega), Nat.mod_eq_of_lt (by omega)], hs.symm, by omega⟩
  have HK : Hid (K = 1074) := hK
  clear hs hl hK
  have hbw : Below w.heap.size w w := Below.refl _ _
  go_enter Tryd.func7, Tryd.ntmps7
  go_wp2_with fail
  refine (rscaled _).mono ?_
  rintro e v1 ⟨v, rfl, hv, hb1⟩
  rw [HV.out.1] at hv
  obtain ⟨s1, g1, m1, rfl, hg1, hz1, hl1⟩ := hv
  try clear hv
  have HN1 : Hid (w.heap.size ≤ g1) := hg1
  have HB1 : Hid (w.heap.size ≤ v1.heap.size) := hb1.size
  replace hbw := Below.on hbw hb1
  clear hb1
  have Z1 : Hid (ZR v1 s1 (some ⟨g1, 0, none⟩) m1 ((vs 4503599627370496 s : Int))) := hz1
  have HL1 : Hid (m1 ≤ 2200) := hl1
  clear hz1 hl1 hg1
  go_wp2_with fail
  have Xx0 : Hid (Box (v1.alloc (.cells #[.bool s1, .slice (some ⟨g1, 0, none⟩) m1 m1] 45)) v1.heap.size (.bool s1) (.slice (some ⟨g1, 0, none⟩) m1 m1)) := Box.new v1 _ _ _
  have hbn : Below v1.heap.size v1 (v1.alloc (.cells #[.bool s1, .slice (some ⟨g1, 0, none⟩) m1 m1] 45)) := below1 v1 _
  generalize v1.alloc (.cells #[.bool s1, .slice (some ⟨g1, 0, none⟩) m1 m1] 45) = Wx at *
  have HGx : Hid (w.heap.size ≤ v1.heap.size) := hbw.size
  replace Z1 : Hid _ := Z1.out.below hbn
  replace hbw := Below.on hbw hbn
  clear hbn
  generalize v1.heap.size = gx at *
  have Xx := Xx0
  clear Xx0
  obtain ⟨cx0, cx1, fx0, fx1⟩ := Xx.out
  have hnex := Xx.out.lt
  go_wp2_with fail
  clear cx0 cx1 fx0 fx1 hnex
  refine (rshl04 s1 Z1.out (by have := HL1.out; omega) 7 (.inl (by omega))).mono ?_
  rintro e v2 ⟨v, rfl, hv, hb2⟩
  obtain ⟨LL, hLL⟩ : ∃ LL : Nat, LL = 1100 := ⟨_, rfl⟩
  obtain ⟨s2, g2, m2, rfl, hg2, hz2, hl2⟩ := hv.len9 (L' := LL) (sz7 (vs_top HK.out HV.out.2.2) (by have := HK.out; omega))
  rw [hLL] at hl2
  clear hLL
  try clear hv
  have HN2 : Hid (Wx.heap.size ≤ g2) := hg2
  have HB2 : Hid (Wx.heap.size ≤ v2.heap.size) := hb2.size
  replace Xx : Hid _ := Xx.out.below hb2
  replace Z1 : Hid _ := Z1.out.below hb2
  replace hbw := Below.on hbw hb2
  clear hb2
  have Z2 : Hid (ZR v2 s2 (some ⟨g2, 0, none⟩) m2 ((vs 4503599627370496 s : Int) * 2 ^ 7)) := hz2
  have HL2 : Hid (m2 ≤ 1100) := hl2
  clear hz2 hl2 hg2
  obtain ⟨cx0, cx1, fx0, fx1⟩ := Xx.out
  have hnex := Xx.out.lt
  go_wp2_with fail
  clear cx0 cx1 fx0 fx1 hnex
  refine (rpow2K HK.out _).mono ?_
  rintro e v3 ⟨p3, m3, z3, rfl, hA3, hN3, hl3, hb3⟩
  replace Xx : Hid _ := Xx.out.below hb3
  replace Z1 : Hid _ := Z1.out.below hb3
  replace Z2 : Hid _ := Z2.out.below hb3
  replace hbw := Below.on hbw hb3
  clear hb3
  have A3 : Hid (At32 v3 p3 m3 m3 z3) := hA3
  have N3 : Hid (Nf B32 z3 (2 ^ K) ∧ m3 ≤ 40000) := ⟨hN3, hl3⟩
  clear hA3 hN3 hl3
  go_wp2_with fail
  refine (rmk_any false A3.out N3.out.1 (by have := N3.out.2; omega)).mono ?_
  rintro e v4 ⟨v, rfl, hv, hb4⟩
  obtain ⟨LL, hLL⟩ : ∃ LL : Nat, LL = 1100 := ⟨_, rfl⟩
  obtain ⟨s4, g4, m4, rfl, hg4, hz4, hl4⟩ := hv.len9 (L' := LL) (by rw [show (iv false (2 ^ K)).natAbs = 2 ^ K from rfl]; exact (Nat.pow_lt_pow_iff_right (by decide)).2 (by have := HK.out; omega))
  rw [hLL] at hl4
  clear hLL
  try clear hv
  have HN4 : Hid (v3.heap.size ≤ g4) := hg4
  have HB4 : Hid (v3.heap.size ≤ v4.heap.size) := hb4.size
  replace Xx : Hid _ := Xx.out.below hb4
  replace Z1 : Hid _ := Z1.out.below hb4
  replace Z2 : Hid _ := Z2.out.below hb4
  replace A3 : Hid _ := A3.out.below hb4
  replace hbw := Below.on hbw hb4
  clear hb4
  have Z4 : Hid (ZR v4 s4 (some ⟨g4, 0, none⟩) m4 (iv false (2 ^ K))) := hz4
  have HL4 : Hid (m4 ≤ 1100) := hl4
  clear hz4 hl4 hg4
  clear A3
  go_wp2_with fail
  refine (radd04 s2 s4 Z2.out Z4.out (by have := HL2.out; omega) (by have := HL4.out; omega)).mono ?_
  rintro e v5 ⟨v, rfl, hv, hb5⟩
  obtain ⟨s5, g5, m5, rfl, hg5, hz5, hl5⟩ := hv
  try clear hv
  have HN5 : Hid (v4.heap.size ≤ g5) := hg5
  have HB5 : Hid (v4.heap.size ≤ v5.heap.size) := hb5.size
  replace Xx : Hid _ := Xx.out.below hb5
  replace Z1 : Hid _ := Z1.out.below hb5
  replace Z2 : Hid _ := Z2.out.below hb5
  replace Z4 : Hid _ := Z4.out.below hb5
  replace hbw := Below.on hbw hb5
  clear hb5
  have Z5 : Hid (ZR v5 s5 (some ⟨g5, 0, none⟩) m5 ((vs 4503599627370496 s : Int) * 2 ^ 7 + iv false (2 ^ K))) := hz5
  have HL5 : Hid (m5 ≤ max m2 m4 + 1) := hl5
  clear hz5 hl5 hg5
  clear Z2
  clear Z4
  go_wp2_with fail
  refine (rfloorshrK HK.out s5 Z5.out (by have := HL5.out; have := HL2.out; have := HL4.out; omega)).mono ?_
  rintro e v6 ⟨v, rfl, hv, hb6⟩
  rw [rFs_plc] at hv
  obtain ⟨s6, g6, m6, rfl, hg6, hz6, hl6⟩ := hv
  try clear hv
  have HN6 : Hid (v5.heap.size ≤ g6) := hg6
  have HB6 : Hid (v5.heap.size ≤ v6.heap.size) := hb6.size
  replace Xx : Hid _ := Xx.out.below hb6
  replace Z1 : Hid _ := Z1.out.below hb6
  replace Z5 : Hid _ := Z5.out.below hb6
  replace hbw := Below.on hbw hb6
  clear hb6
  have Z6 : Hid (ZR v6 s6 (some ⟨g6, 0, none⟩) m6 ((plcN K s : Int))) := hz6
  have HL6 : Hid (m6 ≤ m5 + 4) := hl6
  clear hz6 hl6 hg6
  clear Z5
  go_wp2_with fail
  obtain rfl : s6 = false := Z6.out.sg.trans (decide_eq_false (by omega))
  refine (rint04_pt Z6.out (by have := HL6.out; have := HL5.out; have := HL2.out; have := HL4.out; omega) (by have := plc_le HK.out HV.out.2.2; rw [Int.natAbs_natCast]; omega) (by rw [Int.natAbs_natCast])).mono ?_
  rintro e v7 ⟨rfl, hb7⟩
  replace Xx : Hid _ := Xx.out.below hb7
  replace Z1 : Hid _ := Z1.out.below hb7
  replace Z6 : Hid _ := Z6.out.below hb7
  replace hbw := Below.on hbw hb7
  clear hb7
  go_wp2_with fail
  rw [HV.out.2.1]
  go_ret2
  exact ⟨rfl, hbw⟩
theorem lbits23 (a b c d : Nat) (w : World) :
    Calls Tryd.prog 9 #[.agg #[Fv a, Fv b], .agg #[Fv c, Fv d]] w fun en w' => en = .returned (.agg #[.int .u64 (a : Int), .int .u64 (b : Int), .int .u64 (c : Int), .int .u64 (d : Int)]) ∧ Below w.heap.size w w' := by
  have hSF : ∀ (w : World) (a : Addr) (b : Nat), (store a (Fv b)).run Tryd.prog w = stored Tryd.prog w a (Fv b) .plain := stF
  have boa : ∀ w, (callFunc 22 #[Fv a]).run Tryd.prog w = .ok (.value (.int .u64 (a : Int))) w := fun w => bitsOf a w
  have bob : ∀ w, (callFunc 22 #[Fv b]).run Tryd.prog w = .ok (.value (.int .u64 (b : Int))) w := fun w => bitsOf b w
  have boc : ∀ w, (callFunc 22 #[Fv c]).run Tryd.prog w = .ok (.value (.int .u64 (c : Int))) w := fun w => bitsOf c w
  have bod : ∀ w, (callFunc 22 #[Fv d]).run Tryd.prog w = .ok (.value (.int .u64 (d : Int))) w := fun w => bitsOf d w
  go_enter Tryd.func9, Tryd.ntmps9
  go_wp2_with fail
  obtain ⟨W0, hW0⟩ : ∃ W0, W0 = (((w.alloc (.cells #[Fv a, Fv b] 34)).alloc (.cells #[Fv c, Fv d] 34)).alloc (.cells #[.int .u64 0, .int .u64 0, .int .u64 0, .int .u64 0] 38)) := ⟨_, rfl⟩
  have Xs : Hid (Box W0 (w.heap.size) (Fv a) (Fv b)) := by rw [hW0]; exact ⟨by go_simp, by go_simp, by go_simp, by go_simp⟩
  have Xc : Hid (Box W0 (w.heap.size + 1) (Fv c) (Fv d)) := by rw [hW0]; exact ⟨by go_simp, by go_simp, by go_simp, by go_simp⟩
  have Xr : Hid (B4q W0 (w.heap.size + 1 + 1) (.int .u64 0) (.int .u64 0) (.int .u64 0) (.int .u64 0)) := by rw [hW0]; exact ⟨by go_simp, by go_simp, by go_simp, by go_simp, by go_simp, by go_simp, by go_simp, by go_simp⟩
  have hb0 : Below w.heap.size w W0 := by rw [hW0]; exact below3 w _ _ _
  rw [← hW0]
  clear hW0
  have hbw : Below w.heap.size w w := Below.refl _ _
  obtain ⟨gr, hgr⟩ : ∃ g, g = w.heap.size + 1 + 1 := ⟨_, rfl⟩
  have HGr : Hid (w.heap.size ≤ gr) := by rw [hgr]; show _ ≤ _; omega
  rw [← hgr] at Xr
  try rw [← hgr]
  obtain ⟨gc, hgc⟩ : ∃ g, g = w.heap.size + 1 := ⟨_, rfl⟩
  have HGc : Hid (w.heap.size ≤ gc) := by rw [hgc]; show _ ≤ _; omega
  rw [← hgc] at Xc
  try rw [← hgc]
  obtain ⟨gs, hgs⟩ : ∃ g, g = w.heap.size := ⟨_, rfl⟩
  have HGs : Hid (w.heap.size ≤ gs) := by rw [hgs]; show _ ≤ _; omega
  rw [← hgs] at Xs
  try rw [← hgs]
  have HGD : Hid (gs ≠ gc ∧ gs ≠ gr ∧ gc ≠ gs ∧ gc ≠ gr ∧ gr ≠ gs ∧ gr ≠ gc) := by rw [hgs, hgc, hgr]; exact ⟨by omega, by omega, by omega, by omega, by omega, by omega⟩
  clear hgs hgc hgr
  replace hbw := Below.on hbw hb0
  clear hb0
  obtain ⟨V1, hV1⟩ : ∃ W1, W1 = W0.drew := ⟨_, rfl⟩
  have hbd : Below W0.heap.size W0 V1 := by rw [hV1]; exact bDrew1 (Below.refl _ _)
  replace Xs : Hid _ := Xs.out.below hbd
  replace Xc : Hid _ := Xc.out.below hbd
  replace Xr : Hid _ := Xr.out.below hbd
  replace hbw := Below.on hbw hbd
  clear hbd
  have HJ : Hid ((fun W' : World => W'.cell? ⟨gs, 0, none⟩ = some (Fv a) ∧ W'.cell? ⟨gs, 1, none⟩ = some (Fv b) ∧ W'.cell? ⟨gc, 0, none⟩ = some (Fv c) ∧ W'.cell? ⟨gc, 1, none⟩ = some (Fv d)) V1) := ⟨Xs.out.c0, Xs.out.c1, Xc.out.c0, Xc.out.c1⟩
  refine wp_region_J (fun W' => W'.cell? ⟨gs, 0, none⟩ = some (Fv a) ∧ W'.cell? ⟨gs, 1, none⟩ = some (Fv b) ∧ W'.cell? ⟨gc, 0, none⟩ = some (Fv c) ∧ W'.cell? ⟨gc, 1, none⟩ = some (Fv d)) (by kernel_rfl) ?_
  rw [← hV1]
  clear hV1
  refine wpJ_tq 0 rfl HJ.out ?_
  refine wpJ_tq 1 rfl HJ.out ?_
  refine wpJ_tq 3 rfl HJ.out ?_
  refine wpJ_tq 4 rfl HJ.out ?_
  refine wpJ_tq 6 rfl HJ.out ?_
  go_simp
  refine wpJ_tq 7 rfl HJ.out ?_
  refine wpJ_tq 9 rfl HJ.out ?_
  refine wpJ_tq 10 rfl HJ.out ?_
  refine wpJ_on 2 rfl fun KJ hK => ?_
  go_simp
  refine hK _ _ ⟨Xs.out.c0, Xs.out.c1, Xc.out.c0, Xc.out.c1⟩ ?_
  clear hK
  refine wpJ_on 5 rfl fun KJ hK => ?_
  go_simp
  refine hK _ _ ⟨Xs.out.c0, Xs.out.c1, Xc.out.c0, Xc.out.c1⟩ ?_
  clear hK
  refine wpJ_on 8 rfl fun KJ hK => ?_
  go_simp
  refine hK _ _ ⟨Xs.out.c0, Xs.out.c1, Xc.out.c0, Xc.out.c1⟩ ?_
  clear hK
  refine wpJ_on 11 rfl fun KJ hK => ?_
  go_simp
  clear HJ
  have HJ : Hid ((fun W' : World => W'.cell? ⟨gs, 0, none⟩ = some (Fv a) ∧ W'.cell? ⟨gs, 1, none⟩ = some (Fv b) ∧ W'.cell? ⟨gc, 0, none⟩ = some (Fv c) ∧ W'.cell? ⟨gc, 1, none⟩ = some (Fv d)) V1) := ⟨Xs.out.c0, Xs.out.c1, Xc.out.c0, Xc.out.c1⟩
  refine hK _ _ HJ.out ?_
  clear hK
  refine wpJ_tq 12 rfl HJ.out ?_
  obtain ⟨cr0, cr1, cr2, cr3, fr0, fr1, fr2, fr3⟩ := Xr.out
  have hner : gr < V1.heap.size := World.block_lt_of_cell? V1 _ cr0
  obtain ⟨cs0, cs1, fs0, fs1⟩ := Xs.out
  have hnes := Xs.out.lt
  obtain ⟨cc0, cc1, fc0, fc1⟩ := Xc.out
  have hnec := Xc.out.lt
  obtain ⟨hgd0, hgd1, hgd2, hgd3, hgd4, hgd5⟩ := HGD.out
  refine wpJ_on 13 rfl fun KJ hK => ?_
  go_simp
  have HJ2 : Hid ((fun W' : World => W'.cell? ⟨gs, 0, none⟩ = some (Fv a) ∧ W'.cell? ⟨gs, 1, none⟩ = some (Fv b) ∧ W'.cell? ⟨gc, 0, none⟩ = some (Fv c) ∧ W'.cell? ⟨gc, 1, none⟩ = some (Fv d)) ((((V1.setCell ⟨gr, 0, none⟩ (.int .u64 (a : Int))).setCell ⟨gr, 1, none⟩ (.int .u64 (b : Int))).setCell ⟨gr, 2, none⟩ (.int .u64 (c : Int))).setCell ⟨gr, 3, none⟩ (.int .u64 (d : Int)))) := ⟨by go_simp, by go_simp, by go_simp, by go_simp⟩
  refine hK _ _ HJ2.out ?_
  clear hK HJ
  have HJ := HJ2
  clear HJ2
  refine wpJ_done (by kernel_rfl) ?_ _
  clear HJ
  go_wp2_with fail
  refine bodyPost_ret (v := .agg #[.int .u64 (a : Int), .int .u64 (b : Int), .int .u64 (c : Int), .int .u64 (d : Int)]) (by rw [results_cell1 rfl]; go_simp) rfl ⟨rfl, ?_⟩
  exact bSet (bSet (bSet (bSet (hbw) _ _ _ HGr.out) _ _ _ HGr.out) _ _ _ HGr.out) _ _ _ HGr.out
theorem plc_half {K : Nat} (hK : K = 1074) : plcN K 4602678819172646912 = 32 := by
  have h := plc_at K 1021 6 0 (by omega) (by omega) rfl hK
  rw [show (1016 + 6) * 4503599627370496 + 0 = 4602678819172646912 by decide] at h
  rw [h]
theorem awake23 (w : World) (hT : TabT w) :
    Calls Tryd.prog 4 #[] w fun en w' => en = .returned (.bool true) ∧ Below w.heap.size w w' := by
  have hSF : ∀ (w : World) (a : Addr) (b : Nat), (store a (Fv b)).run Tryd.prog w = stored Tryd.prog w a (Fv b) .plain := stF
  have TB : Hid (TabT w) := hT
  obtain ⟨K, hK⟩ : ∃ K, K = 1074 := ⟨_, rfl⟩
  have HP := place_ok hK 13826050856027422720 (by decide) (by decide)
  rw [show 13826050856027422720 % 9223372036854775808 = 4602678819172646912 by decide, plc_half hK, show ((32 : Nat) : Int) = 32 from rfl] at HP
  have HR := row_ok 32 (by omega) (a := 4602308182625945072) (b := 13571467409308189309) (c := 4606079780542709072) (d := 13585268877995206696) (by decide +kernel) (by decide +kernel) (by decide +kernel) (by decide +kernel)
  rw [show ((32 : Nat) : Int) = 32 from rfl] at HR
  have hbw : Below w.heap.size w w := Below.refl _ _
  clear hT hK
  go_enter Tryd.func4, Tryd.ntmps4
  go_wp2_with fail
  refine (HR _ TB.out).mono ?_
  rintro e v1 ⟨rfl, hb1⟩
  replace hbw := Below.on hbw hb1
  clear hb1
  go_wp2_with fail
  obtain ⟨Ws, hWs⟩ : ∃ W9, W9 = ((v1.alloc (.cells #[Fv 4602308182625945072, Fv 13571467409308189309] 34)).alloc (.cells #[Fv 4606079780542709072, Fv 13585268877995206696] 34)) := ⟨_, rfl⟩
  have Xs0 : Hid (Box Ws (v1.heap.size) (Fv 4602308182625945072) (Fv 13571467409308189309)) := by rw [hWs]; exact ⟨by go_simp, by go_simp, by go_simp, by go_simp⟩
  have Xc0 : Hid (Box Ws (v1.heap.size + 1) (Fv 4606079780542709072) (Fv 13585268877995206696)) := by rw [hWs]; exact ⟨by go_simp, by go_simp, by go_simp, by go_simp⟩
  have hbn : Below v1.heap.size v1 Ws := by rw [hWs]; exact below2 v1 _ _
  rw [← hWs]
  clear hWs
  obtain ⟨gc, hgc⟩ : ∃ g, g = v1.heap.size + 1 := ⟨_, rfl⟩
  have HGc : Hid (w.heap.size ≤ gc) := by rw [hgc]; have := hbw.size; show _ ≤ _; omega
  rw [← hgc] at Xc0
  try rw [← hgc]
  obtain ⟨gs, hgs⟩ : ∃ g, g = v1.heap.size := ⟨_, rfl⟩
  have HGs : Hid (w.heap.size ≤ gs) := by rw [hgs]; have := hbw.size; show _ ≤ _; omega
  rw [← hgs] at Xs0
  try rw [← hgs]
  clear hgs hgc
  replace hbw := Below.on hbw hbn
  clear hbn
  have Xs := Xs0
  clear Xs0
  have Xc := Xc0
  clear Xc0
  obtain ⟨cs0, cs1, fs0, fs1⟩ := Xs.out
  have hnes := Xs.out.lt
  obtain ⟨cc0, cc1, fc0, fc1⟩ := Xc.out
  have hnec := Xc.out.lt
  go_wp2_with fail
  clear cs0 cs1 fs0 fs1 hnes
  clear cc0 cc1 fc0 fc1 hnec
  refine (lbits23 4602308182625945072 13571467409308189309 4606079780542709072 13585268877995206696 _).mono ?_
  rintro e v2 ⟨rfl, hb2⟩
  replace Xs : Hid _ := Xs.out.below hb2
  replace Xc : Hid _ := Xc.out.below hb2
  replace hbw := Below.on hbw hb2
  clear hb2
  go_wp2_with fail
  have Xw0 : Hid (B4q (v2.alloc (.cells #[.int .u64 ((4602308182625945072 : Nat) : Int), .int .u64 ((13571467409308189309 : Nat) : Int), .int .u64 ((4606079780542709072 : Nat) : Int), .int .u64 ((13585268877995206696 : Nat) : Int)] 38)) v2.heap.size (.int .u64 ((4602308182625945072 : Nat) : Int)) (.int .u64 ((13571467409308189309 : Nat) : Int)) (.int .u64 ((4606079780542709072 : Nat) : Int)) (.int .u64 ((13585268877995206696 : Nat) : Int))) := B4q.new v2 _ _ _ _ _
  have hbn : Below v2.heap.size v2 (v2.alloc (.cells #[.int .u64 ((4602308182625945072 : Nat) : Int), .int .u64 ((13571467409308189309 : Nat) : Int), .int .u64 ((4606079780542709072 : Nat) : Int), .int .u64 ((13585268877995206696 : Nat) : Int)] 38)) := below1 v2 _
  generalize v2.alloc (.cells #[.int .u64 ((4602308182625945072 : Nat) : Int), .int .u64 ((13571467409308189309 : Nat) : Int), .int .u64 ((4606079780542709072 : Nat) : Int), .int .u64 ((13585268877995206696 : Nat) : Int)] 38) = Ww at *
  have HGw : Hid (w.heap.size ≤ v2.heap.size) := hbw.size
  replace Xs : Hid _ := Xs.out.below hbn
  replace Xc : Hid _ := Xc.out.below hbn
  replace hbw := Below.on hbw hbn
  clear hbn
  generalize v2.heap.size = gw at *
  have Xw := Xw0
  clear Xw0
  go_wp2_with fail
  refine (HP _).mono ?_
  rintro e v3 ⟨rfl, hb3⟩
  replace Xs : Hid _ := Xs.out.below hb3
  replace Xc : Hid _ := Xc.out.below hb3
  replace Xw : Hid _ := Xw.out.below hb3
  replace hbw := Below.on hbw hb3
  clear hb3
  obtain ⟨cw0, cw1, cw2, cw3, fw0, fw1, fw2, fw3⟩ := Xw.out
  have hnew : gw < v3.heap.size := World.block_lt_of_cell? v3 _ cw0
  go_wp2_with fail
  clear cw0 cw1 cw2 cw3 fw0 fw1 fw2 fw3 hnew
  go_ret
  exact ⟨by kernel_rfl, hbw⟩
theorem sintablePlaces_w {p : Option Addr} {n c : Nat} {xs : List Nat} {w : World} (h : At w p n c xs) (hn : n ≤ 17592186044416) (hT : TabT w) :
    Calls Tryd.prog 3 #[.slice p n c] w fun en w' => en = .returned (.bool true) ∧ Below w.heap.size w w' := by
  have H : Hid (At w p n c xs ∧ n ≤ 17592186044416) := ⟨h, hn⟩
  have TB : Hid (TabT w) := hT
  have hbw : Below w.heap.size w w := Below.refl _ _
  have cap := h.cap; have big := h.big
  unfold maxLen at big
  clear h hn hT
  go_enter Tryd.func3, Tryd.ntmps3
  go_wp2_with fail
  refine (awake23 _ TB.out).mono ?_
  rintro e v1 ⟨rfl, hb1⟩
  replace hbw := Below.on hbw hb1
  clear hb1
  go_wp2_with fail
  go_loopg [13] n (fun gk iv wr => ∃ k : Nat, k + gk = n ∧ iv = .int .i64 k ∧ Below w.heap.size w wr)
  case atStart => exact ⟨0, by omega, rfl, hbw⟩
  case round =>
    clear hbw
    obtain ⟨k, hkg, rfl, hbw⟩ := hrel
    cases gk with
    | zero =>
      obtain rfl : k = n := by omega
      have hnk : ¬ (k : Int) < (k : Int) := by omega
      go_wp2_with fail
      go_ret
      exact ⟨rfl, hbw⟩
    | succ gg =>
      obtain ⟨gp, off, rfl, hc⟩ := H.out.1.cells.resolve_left (by omega)
      obtain ⟨x, hx⟩ : ∃ x, x = xs.getD k 0 := ⟨_, rfl⟩
      have hcx0 : w.cell? ⟨gp, off + k, none⟩ = some (U x) := by rw [hx]; exact hc k (by omega)
      have hcx : wr.cell? ⟨gp, off + k, none⟩ = some (U x) := (hbw.cell (p := ⟨gp, off + k, none⟩) (World.block_lt_of_cell? w _ hcx0)).trans hcx0
      have HXB : Hid (x < 18446744073709551616 ∧ k < 17592186044416) := ⟨by rw [hx]; exact H.out.1.dig.getD B64_pos k, by have := H.out.2; omega⟩
      have hkk : (k : Int) < (n : Int) := by omega
      clear hc hx hcx0
      have fbx : ∀ w, (callFunc 6 #[.int .u64 (x : Int)]).run Tryd.prog w = .ok (.value (Fv x)) w := fun w => frombits x w
      have HA : Hid (∃ (q f : Int), (∀ w, Calls Tryd.prog 5 #[Fv x] w fun en w' => en = .returned (.tuple #[.int .i64 q, .int .i64 f]) ∧ Below w.heap.size w w') ∧ (∀ w, Calls Tryd.prog 7 #[U x] w fun en w' => en = .returned (.tuple #[.int .i64 q, .int .i64 f]) ∧ Below w.heap.size w w')) := by
        obtain ⟨K, hK⟩ : ∃ K, K = 1074 := ⟨_, rfl⟩
        by_cases h1 : 9218868437227405312 ≤ x % 9223372036854775808
        · exact ⟨_, _, place_c x HXB.out.1 h1, docplace_c x h1⟩
        · by_cases h2 : x % 9223372036854775808 ≤ 4605493568939753472
          · exact ⟨_, _, place_ok hK x HXB.out.1 h2, docplace_ok hK x h2⟩
          · exact ⟨_, _, place_l x HXB.out.1 (by omega) (by omega), docplace_l x (by omega) (by omega)⟩
      obtain ⟨q, f, HP, HD⟩ := HA.out
      clear HA
      go_wp2_with fail
      refine (HP _).mono ?_
      rintro e v2 ⟨rfl, hb2⟩
      replace hbw := Below.on hbw hb2
      clear hb2
      go_wp2_with fail
      refine (HD _).mono ?_
      rintro e v3 ⟨rfl, hb3⟩
      replace hbw := Below.on hbw hb3
      clear hb3
      go_wp2_with fail
      go_roundg gg
      case measure => omega
      case rel => exact ⟨k + 1, by omega, by go_num, hbw⟩
theorem sintablePlaces_walk {p : Option Addr} {n c : Nat} {xs : List Nat} {w : World} (h : At w p n c xs) (hn : n ≤ 17592186044416) (hT : TabT w) : Calls Tryd.prog 3 #[.slice p n c] w fun e w' => e = .returned (.bool true) ∧ Below w.heap.size w w' := sintablePlaces_w h hn hT
end Go.Proofs.YtnijhlbociechaaDoor
