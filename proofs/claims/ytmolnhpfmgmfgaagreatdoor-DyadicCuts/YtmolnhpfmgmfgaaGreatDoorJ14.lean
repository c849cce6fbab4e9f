import Derived.Test.YtmolnhpfmgmfgaaGreatDoorJ11
import Derived.Test.YtmolnhpfmgmfgaaGreatDoorJ10
import Derived.Test.YtmolnhpfmgmfgaaGreatDoorJ9
import Derived.Laws.Cover1
import Derived.Deep.RegionLaw
import Derived.Deep.LoopGhost
import Derived.Test.YtmolnhpfmgmfgaaGreatDoorJ8
import Derived.Laws.ResultCell
import Derived.Deep.RegionWith
import Derived.Deep.DeepCutAuto
namespace Go.Proofs.YtmolnhpfmgmfgaaGreatDoor
open Go.RowKit Go.Shelf
set_option maxRecDepth 20000
set_option maxHeartbeats 0
theorem iv_sums {s t : Bool} {x y : Int} (h1 : s = decide (x < 0)) (h2 : t = decide (y < 0)) (h3 : s = t) : iv s (x.natAbs + y.natAbs) = x + y := by
  rw [h3] at h1 ⊢
  cases t
  · have a := of_decide_eq_false h1.symm; have b := of_decide_eq_false h2.symm; rw [iv_f]; omega
  · have a := of_decide_eq_true h1.symm; have b := of_decide_eq_true h2.symm; rw [iv_t]; omega
theorem iv_sumg {s t : Bool} {x y : Int} (h1 : s = decide (x < 0)) (h2 : t = decide (y < 0)) (h3 : s ≠ t) (h4 : y.natAbs ≤ x.natAbs) : iv s (x.natAbs - y.natAbs) = x + y := by
  cases s <;> cases t
  · exact absurd rfl h3
  · have a := of_decide_eq_false h1.symm; have b := of_decide_eq_true h2.symm; rw [iv_f]; omega
  · have a := of_decide_eq_true h1.symm; have b := of_decide_eq_false h2.symm; rw [iv_t]; omega
  · exact absurd rfl h3
theorem iv_suml {s t : Bool} {x y : Int} (h1 : s = decide (x < 0)) (h2 : t = decide (y < 0)) (h3 : s ≠ t) (h4 : x.natAbs < y.natAbs) : iv t (y.natAbs - x.natAbs) = x + y := by
  cases s <;> cases t
  · exact absurd rfl h3
  · have a := of_decide_eq_false h1.symm; have b := of_decide_eq_true h2.symm; rw [iv_t]; omega
  · have a := of_decide_eq_true h1.symm; have b := of_decide_eq_false h2.symm; rw [iv_f]; omega
  · exact absurd rfl h3
theorem sum_len32 {xs ys zs : List Nat} {a b m n : Nat} (hx : Nf B32 xs a) (hy : Nf B32 ys b) (lx : xs.length = m) (ly : ys.length = n) (hz : Nf B32 zs (a + b)) : zs.length ≤ max m n + 1 := by
  refine (hz.len_le B32_one).2 ?_
  have h1 := (hx.len_le B32_one (k := max m n)).1 (by omega)
  have h2 := (hy.len_le B32_one (k := max m n)).1 (by omega)
  rw [Nat.pow_succ]
  have : B32 ^ (max m n) * 2 ≤ B32 ^ (max m n) * B32 := Nat.mul_le_mul_left _ (by rw [B32_eq]; omega)
  omega
theorem radd04_s {p q : Option Addr} {m n : Nat} {w : World} {x y : Int} (s t : Bool) (h : ZR w s p m x) (k : ZR w t q n y) (hm : m ≤ 50000) (hn : n ≤ 50000) (hst : s = t) :
    Calls Tryz.prog 112 #[.agg #[.bool s, .slice p m m], .agg #[.bool t, .slice q n n]] w fun e w' => ∃ v, e = .returned v ∧ GotR w.heap.size w' v (x + y) (max m n + 1) ∧ Below w.heap.size w w' := by
  have HA : Hid (ZR w s p m x) := h
  have HB : Hid (ZR w t q n y) := k
  have HM : Hid (m ≤ 50000 ∧ n ≤ 50000) := ⟨hm, hn⟩
  clear h k hm hn
  have hse : (s == t) = true := by simpa using hst
  have HST : Hid (s = t) := hst
  clear hst
  go_enter Tryz.func112, Tryz.ntmps112
  go_wp2_with fail
  obtain ⟨W0, hW0⟩ : ∃ W0, W0 = (((w.alloc (.cells #[.bool s, .slice p m m] 52)).alloc (.cells #[.bool t, .slice q n n] 52)).alloc (.cells #[.bool false, .slice none 0 0] 52)) := ⟨_, rfl⟩
  have Xa : Hid (Box W0 (w.heap.size) (.bool s) (.slice p m m)) := by rw [hW0]; exact ⟨by go_simp, by go_simp, by go_simp, by go_simp⟩
  have Xb : Hid (Box W0 (w.heap.size + 1) (.bool t) (.slice q n n)) := by rw [hW0]; exact ⟨by go_simp, by go_simp, by go_simp, by go_simp⟩
  have Xr : Hid (Box W0 (w.heap.size + 1 + 1) (.bool false) (.slice none 0 0)) := by rw [hW0]; exact ⟨by go_simp, by go_simp, by go_simp, by go_simp⟩
  have hb0 : Below w.heap.size w W0 := by rw [hW0]; exact below3 w _ _ _
  rw [← hW0]
  clear hW0
  have hbw : Below w.heap.size w w := Below.refl _ _
  obtain ⟨gr, hgr⟩ : ∃ g, g = w.heap.size + 1 + 1 := ⟨_, rfl⟩
  have HGr : Hid (w.heap.size ≤ gr) := by rw [hgr]; show _ ≤ _; omega
  rw [← hgr] at Xr
  try rw [← hgr]
  obtain ⟨gb, hgb⟩ : ∃ g, g = w.heap.size + 1 := ⟨_, rfl⟩
  have HGb : Hid (w.heap.size ≤ gb) := by rw [hgb]; show _ ≤ _; omega
  rw [← hgb] at Xb
  try rw [← hgb]
  obtain ⟨ga, hga⟩ : ∃ g, g = w.heap.size := ⟨_, rfl⟩
  have HGa : Hid (w.heap.size ≤ ga) := by rw [hga]; show _ ≤ _; omega
  rw [← hga] at Xa
  try rw [← hga]
  have HGD : Hid (ga ≠ gb ∧ ga ≠ gr ∧ gb ≠ ga ∧ gb ≠ gr ∧ gr ≠ ga ∧ gr ≠ gb) := by rw [hga, hgb, hgr]; exact ⟨by omega, by omega, by omega, by omega, by omega, by omega⟩
  clear hga hgb hgr
  replace HA : Hid _ := HA.out.below hb0
  replace HB : Hid _ := HB.out.below hb0
  replace hbw := Below.on hbw hb0
  clear hb0
  obtain ⟨xs, hAx, hNx⟩ := HA.out.ex
  obtain ⟨ys, hAy, hNy⟩ := HB.out.ex
  have HNX : Hid (Nf B32 xs x.natAbs ∧ Nf B32 ys y.natAbs) := ⟨hNx, hNy⟩
  clear hNx hNy
  have AX : Hid (At32 W0 p m m xs) := hAx
  have AY : Hid (At32 W0 q n n ys) := hAy
  clear hAx hAy
  have HZV : Hid (iv s (x.natAbs + y.natAbs) = x + y) := by have h1 := HA.out.sg; have h2 := HB.out.sg; have h3 := HST.out; exact iv_sums h1 h2 h3
  obtain ⟨W1, hW1⟩ : ∃ W1, W1 = W0.drew := ⟨_, rfl⟩
  have hbd : Below W0.heap.size W0 W1 := by rw [hW1]; exact bDrew1 (Below.refl _ _)
  replace Xa : Hid _ := Xa.out.below hbd
  replace Xb : Hid _ := Xb.out.below hbd
  replace Xr : Hid _ := Xr.out.below hbd
  replace HA : Hid _ := HA.out.below hbd
  replace HB : Hid _ := HB.out.below hbd
  replace AX : Hid _ := AX.out.below hbd
  replace AY : Hid _ := AY.out.below hbd
  replace hbw := Below.on hbw hbd
  clear hbd
  have HJ : Hid ((fun W' : World => W'.cell? ⟨ga, 0, none⟩ = some (.bool s) ∧ W'.cell? ⟨ga, 1, none⟩ = some (.slice p m m) ∧ W'.cell? ⟨gb, 0, none⟩ = some (.bool t) ∧ W'.cell? ⟨gb, 1, none⟩ = some (.slice q n n)) W1) := ⟨Xa.out.c0, Xa.out.c1, Xb.out.c0, Xb.out.c1⟩
  refine wp_region_J (fun W' => W'.cell? ⟨ga, 0, none⟩ = some (.bool s) ∧ W'.cell? ⟨ga, 1, none⟩ = some (.slice p m m) ∧ W'.cell? ⟨gb, 0, none⟩ = some (.bool t) ∧ W'.cell? ⟨gb, 1, none⟩ = some (.slice q n n)) (by kernel_rfl) ?_
  rw [← hW1]
  clear hW1
  refine wpJ_tq 0 rfl HJ.out ?_
  refine wpJ_tq 1 rfl HJ.out ?_
  refine wpJ_tq 2 rfl HJ.out ?_
  refine wpJ_tq 3 rfl HJ.out ?_
  refine wpJ_tq 4 rfl HJ.out ?_
  refine wpJ_tq 5 rfl HJ.out ?_
  refine wpJ_on 6 rfl fun KJ hK => ?_
  go_simp
  refine (radd_any AX.out AY.out HNX.out.1 HNX.out.2 (by have := HM.out; omega) (by have := HM.out; omega)).mono ?_
  rintro e w2 ⟨p2, m2, z2, rfl, hA2, hN2, hb2⟩
  have hl2 : m2 ≤ max m n + 1 := by rw [← hA2.len]; exact sum_len32 HNX.out.1 HNX.out.2 AX.out.len AY.out.len hN2
  replace Xa : Hid _ := Xa.out.below hb2
  replace Xb : Hid _ := Xb.out.below hb2
  replace Xr : Hid _ := Xr.out.below hb2
  replace HA : Hid _ := HA.out.below hb2
  replace HB : Hid _ := HB.out.below hb2
  replace AX : Hid _ := AX.out.below hb2
  replace AY : Hid _ := AY.out.below hb2
  replace hbw := Below.on hbw hb2
  clear hb2
  have A2 : Hid (At32 w2 p2 m2 m2 z2) := hA2
  have N2 : Hid (Nf B32 z2 (x.natAbs + y.natAbs)) := hN2
  have HLL : Hid (m2 ≤ max m n + 1) := hl2
  have HRL : Hid (gr < w2.heap.size) := Xr.out.lt
  have HBS : Hid (w.heap.size ≤ w2.heap.size) := hbw.size
  clear hA2 hN2 hl2
  refine hK _ _ ⟨Xa.out.c0, Xa.out.c1, Xb.out.c0, Xb.out.c1⟩ ?_
  clear hK
  refine wpJ_on 7 rfl fun KJ hK => ?_
  go_simp
  refine (rmk_any s A2.out N2.out (by have := HLL.out; have := HM.out; omega)).mono ?_
  rintro e w3 ⟨v, rfl, hv, hb3⟩
  rw [HZV.out] at hv
  replace Xa : Hid _ := Xa.out.below hb3
  replace Xb : Hid _ := Xb.out.below hb3
  replace Xr : Hid _ := Xr.out.below hb3
  replace HA : Hid _ := HA.out.below hb3
  replace HB : Hid _ := HB.out.below hb3
  replace AX : Hid _ := AX.out.below hb3
  replace AY : Hid _ := AY.out.below hb3
  replace A2 : Hid _ := A2.out.below hb3
  replace hbw := Below.on hbw hb3
  clear hb3
  obtain ⟨s9, g9, m9, rfl, hg9, hz9, hl9⟩ := hv
  have ZA : Hid (ZR w3 s9 (some ⟨g9, 0, none⟩) m9 (x + y)) := hz9
  have HL : Hid (m9 ≤ max m n + 1) := by have := hl9; have := HLL.out; show m9 ≤ _; omega
  have HGE : Hid (gr < g9) := Nat.lt_of_lt_of_le HRL.out hg9
  have HGB : Hid (w.heap.size ≤ g9) := Nat.le_trans HBS.out hg9
  clear hg9 hz9 hl9
  refine hK _ _ ⟨Xa.out.c0, Xa.out.c1, Xb.out.c0, Xb.out.c1⟩ ?_
  clear hK
  obtain ⟨cr0, cr1, fr0, fr1⟩ := Xr.out
  have hner := Xr.out.lt
  obtain ⟨ca0, ca1, fa0, fa1⟩ := Xa.out
  have hnea := Xa.out.lt
  obtain ⟨cb0, cb1, fb0, fb1⟩ := Xb.out
  have hneb := Xb.out.lt
  obtain ⟨hgd0, hgd1, hgd2, hgd3, hgd4, hgd5⟩ := HGD.out
  refine wpJ_on 8 rfl fun KJ hK => ?_
  go_simp
  have HJ2 : Hid ((fun W' : World => W'.cell? ⟨ga, 0, none⟩ = some (.bool s) ∧ W'.cell? ⟨ga, 1, none⟩ = some (.slice p m m) ∧ W'.cell? ⟨gb, 0, none⟩ = some (.bool t) ∧ W'.cell? ⟨gb, 1, none⟩ = some (.slice q n n)) ((w3.setCell ⟨gr, 0, none⟩ (.bool s9)).setCell ⟨gr, 1, none⟩ (.slice (some ⟨g9, 0, none⟩) m9 m9))) := ⟨by go_simp, by go_simp, by go_simp, by go_simp⟩
  refine hK _ _ HJ2.out ?_
  clear hK HJ
  have HJ := HJ2
  clear HJ2
  refine wpJ_done (by kernel_rfl) ?_ _
  clear HJ
  go_wp2_with fail
  refine bodyPost_ret (v := .agg #[.bool s9, .slice (some ⟨g9, 0, none⟩) m9 m9]) (by rw [results_cell1 rfl]; go_simp) rfl ⟨_, rfl, ⟨s9, g9, m9, rfl, HGB.out, ?_, HL.out⟩, ?_⟩
  · have := HGE.out
    exact (ZA.out.set _ _ _ (by omega)).set _ _ _ (by omega)
  · exact bSet (bSet hbw _ _ _ HGr.out) _ _ _ HGr.out
theorem radd04_g {p q : Option Addr} {m n : Nat} {w : World} {x y : Int} (s t : Bool) (h : ZR w s p m x) (k : ZR w t q n y) (hm : m ≤ 50000) (hn : n ≤ 50000) (hst : s ≠ t) (hcm : y.natAbs ≤ x.natAbs) :
    Calls Tryz.prog 112 #[.agg #[.bool s, .slice p m m], .agg #[.bool t, .slice q n n]] w fun e w' => ∃ v, e = .returned v ∧ GotR w.heap.size w' v (x + y) (max m n + 1) ∧ Below w.heap.size w w' := by
  have HA : Hid (ZR w s p m x) := h
  have HB : Hid (ZR w t q n y) := k
  have HM : Hid (m ≤ 50000 ∧ n ≤ 50000) := ⟨hm, hn⟩
  clear h k hm hn
  have hse : (s == t) = false := by simpa using hst
  have HST : Hid (s ≠ t) := hst
  have HCM : Hid (y.natAbs ≤ x.natAbs) := hcm
  clear hst hcm
  go_enter Tryz.func112, Tryz.ntmps112
  go_wp2_with fail
  obtain ⟨W0, hW0⟩ : ∃ W0, W0 = (((w.alloc (.cells #[.bool s, .slice p m m] 52)).alloc (.cells #[.bool t, .slice q n n] 52)).alloc (.cells #[.bool false, .slice none 0 0] 52)) := ⟨_, rfl⟩
  have Xa : Hid (Box W0 (w.heap.size) (.bool s) (.slice p m m)) := by rw [hW0]; exact ⟨by go_simp, by go_simp, by go_simp, by go_simp⟩
  have Xb : Hid (Box W0 (w.heap.size + 1) (.bool t) (.slice q n n)) := by rw [hW0]; exact ⟨by go_simp, by go_simp, by go_simp, by go_simp⟩
  have Xr : Hid (Box W0 (w.heap.size + 1 + 1) (.bool false) (.slice none 0 0)) := by rw [hW0]; exact ⟨by go_simp, by go_simp, by go_simp, by go_simp⟩
  have hb0 : Below w.heap.size w W0 := by rw [hW0]; exact below3 w _ _ _
  rw [← hW0]
  clear hW0
  have hbw : Below w.heap.size w w := Below.refl _ _
  obtain ⟨gr, hgr⟩ : ∃ g, g = w.heap.size + 1 + 1 := ⟨_, rfl⟩
  have HGr : Hid (w.heap.size ≤ gr) := by rw [hgr]; show _ ≤ _; omega
  rw [← hgr] at Xr
  try rw [← hgr]
  obtain ⟨gb, hgb⟩ : ∃ g, g = w.heap.size + 1 := ⟨_, rfl⟩
  have HGb : Hid (w.heap.size ≤ gb) := by rw [hgb]; show _ ≤ _; omega
  rw [← hgb] at Xb
  try rw [← hgb]
  obtain ⟨ga, hga⟩ : ∃ g, g = w.heap.size := ⟨_, rfl⟩
  have HGa : Hid (w.heap.size ≤ ga) := by rw [hga]; show _ ≤ _; omega
  rw [← hga] at Xa
  try rw [← hga]
  have HGD : Hid (ga ≠ gb ∧ ga ≠ gr ∧ gb ≠ ga ∧ gb ≠ gr ∧ gr ≠ ga ∧ gr ≠ gb) := by rw [hga, hgb, hgr]; exact ⟨by omega, by omega, by omega, by omega, by omega, by omega⟩
  clear hga hgb hgr
  replace HA : Hid _ := HA.out.below hb0
  replace HB : Hid _ := HB.out.below hb0
  replace hbw := Below.on hbw hb0
  clear hb0
  obtain ⟨xs, hAx, hNx⟩ := HA.out.ex
  obtain ⟨ys, hAy, hNy⟩ := HB.out.ex
  have HNX : Hid (Nf B32 xs x.natAbs ∧ Nf B32 ys y.natAbs) := ⟨hNx, hNy⟩
  clear hNx hNy
  have AX : Hid (At32 W0 p m m xs) := hAx
  have AY : Hid (At32 W0 q n n ys) := hAy
  clear hAx hAy
  have HZV : Hid (iv s (x.natAbs - y.natAbs) = x + y) := by have h1 := HA.out.sg; have h2 := HB.out.sg; have h3 := HST.out; exact iv_sumg h1 h2 h3 HCM.out
  obtain ⟨cm, hcm⟩ : ∃ cm, cm = cmpN x.natAbs y.natAbs := ⟨_, rfl⟩
  have HCQ : Hid (cm = cmpN x.natAbs y.natAbs) := hcm
  have hcc : decide (0 ≤ cm) = true := decide_eq_true (by rw [hcm]; have := HCM.out; unfold cmpN; split <;> (try split) <;> omega)
  clear hcm
  refine (rcmp_any AX.out AY.out HNX.out.1 HNX.out.2).mono ?_
  rintro e w9 ⟨rfl, rd, rfl⟩
  rw [← HCQ.out]
  have hbr := bDrewN (Below.refl W0.heap.size W0) rd
  generalize W0.drewN rd = W9 at *
  replace Xa : Hid _ := Xa.out.below hbr
  replace Xb : Hid _ := Xb.out.below hbr
  replace Xr : Hid _ := Xr.out.below hbr
  replace HA : Hid _ := HA.out.below hbr
  replace HB : Hid _ := HB.out.below hbr
  replace AX : Hid _ := AX.out.below hbr
  replace AY : Hid _ := AY.out.below hbr
  replace hbw := Below.on hbw hbr
  clear hbr
  obtain ⟨ca0, ca1, fa0, fa1⟩ := Xa.out
  have hnea := Xa.out.lt
  obtain ⟨cb0, cb1, fb0, fb1⟩ := Xb.out
  have hneb := Xb.out.lt
  go_wp2_with fail
  clear ca0 ca1 fa0 fa1 hnea
  clear cb0 cb1 fb0 fb1 hneb
  clear hcc
  obtain ⟨W1, hW1⟩ : ∃ W1, W1 = W9.drew := ⟨_, rfl⟩
  have hbd : Below W9.heap.size W9 W1 := by rw [hW1]; exact bDrew1 (Below.refl _ _)
  replace Xa : Hid _ := Xa.out.below hbd
  replace Xb : Hid _ := Xb.out.below hbd
  replace Xr : Hid _ := Xr.out.below hbd
  replace HA : Hid _ := HA.out.below hbd
  replace HB : Hid _ := HB.out.below hbd
  replace AX : Hid _ := AX.out.below hbd
  replace AY : Hid _ := AY.out.below hbd
  replace hbw := Below.on hbw hbd
  clear hbd
  have HJ : Hid ((fun W' : World => W'.cell? ⟨ga, 0, none⟩ = some (.bool s) ∧ W'.cell? ⟨ga, 1, none⟩ = some (.slice p m m) ∧ W'.cell? ⟨gb, 0, none⟩ = some (.bool t) ∧ W'.cell? ⟨gb, 1, none⟩ = some (.slice q n n)) W1) := ⟨Xa.out.c0, Xa.out.c1, Xb.out.c0, Xb.out.c1⟩
  refine wp_region_J (fun W' => W'.cell? ⟨ga, 0, none⟩ = some (.bool s) ∧ W'.cell? ⟨ga, 1, none⟩ = some (.slice p m m) ∧ W'.cell? ⟨gb, 0, none⟩ = some (.bool t) ∧ W'.cell? ⟨gb, 1, none⟩ = some (.slice q n n)) (by kernel_rfl) ?_
  rw [← hW1]
  clear hW1
  refine wpJ_tq 0 rfl HJ.out ?_
  refine wpJ_tq 1 rfl HJ.out ?_
  refine wpJ_tq 2 rfl HJ.out ?_
  refine wpJ_tq 3 rfl HJ.out ?_
  refine wpJ_tq 4 rfl HJ.out ?_
  refine wpJ_tq 5 rfl HJ.out ?_
  refine wpJ_on 6 rfl fun KJ hK => ?_
  go_simp
  refine (rsub_any AX.out AY.out HNX.out.1 HNX.out.2 (by have := HM.out; omega) HCM.out).mono ?_
  rintro e w2 ⟨p2, m2, z2, rfl, hA2, hN2, hl2q, hb2⟩
  have hl2 : m2 ≤ max m n + 1 := by omega
  clear hl2q
  replace Xa : Hid _ := Xa.out.below hb2
  replace Xb : Hid _ := Xb.out.below hb2
  replace Xr : Hid _ := Xr.out.below hb2
  replace HA : Hid _ := HA.out.below hb2
  replace HB : Hid _ := HB.out.below hb2
  replace AX : Hid _ := AX.out.below hb2
  replace AY : Hid _ := AY.out.below hb2
  replace hbw := Below.on hbw hb2
  clear hb2
  have A2 : Hid (At32 w2 p2 m2 m2 z2) := hA2
  have N2 : Hid (Nf B32 z2 (x.natAbs - y.natAbs)) := hN2
  have HLL : Hid (m2 ≤ max m n + 1) := hl2
  have HRL : Hid (gr < w2.heap.size) := Xr.out.lt
  have HBS : Hid (w.heap.size ≤ w2.heap.size) := hbw.size
  clear hA2 hN2 hl2
  refine hK _ _ ⟨Xa.out.c0, Xa.out.c1, Xb.out.c0, Xb.out.c1⟩ ?_
  clear hK
  refine wpJ_on 7 rfl fun KJ hK => ?_
  go_simp
  refine (rmk_any s A2.out N2.out (by have := HLL.out; have := HM.out; omega)).mono ?_
  rintro e w3 ⟨v, rfl, hv, hb3⟩
  rw [HZV.out] at hv
  replace Xa : Hid _ := Xa.out.below hb3
  replace Xb : Hid _ := Xb.out.below hb3
  replace Xr : Hid _ := Xr.out.below hb3
  replace HA : Hid _ := HA.out.below hb3
  replace HB : Hid _ := HB.out.below hb3
  replace AX : Hid _ := AX.out.below hb3
  replace AY : Hid _ := AY.out.below hb3
  replace A2 : Hid _ := A2.out.below hb3
  replace hbw := Below.on hbw hb3
  clear hb3
  obtain ⟨s9, g9, m9, rfl, hg9, hz9, hl9⟩ := hv
  have ZA : Hid (ZR w3 s9 (some ⟨g9, 0, none⟩) m9 (x + y)) := hz9
  have HL : Hid (m9 ≤ max m n + 1) := by have := hl9; have := HLL.out; show m9 ≤ _; omega
  have HGE : Hid (gr < g9) := Nat.lt_of_lt_of_le HRL.out hg9
  have HGB : Hid (w.heap.size ≤ g9) := Nat.le_trans HBS.out hg9
  clear hg9 hz9 hl9
  refine hK _ _ ⟨Xa.out.c0, Xa.out.c1, Xb.out.c0, Xb.out.c1⟩ ?_
  clear hK
  obtain ⟨cr0, cr1, fr0, fr1⟩ := Xr.out
  have hner := Xr.out.lt
  obtain ⟨ca0, ca1, fa0, fa1⟩ := Xa.out
  have hnea := Xa.out.lt
  obtain ⟨cb0, cb1, fb0, fb1⟩ := Xb.out
  have hneb := Xb.out.lt
  obtain ⟨hgd0, hgd1, hgd2, hgd3, hgd4, hgd5⟩ := HGD.out
  refine wpJ_on 8 rfl fun KJ hK => ?_
  go_simp
  have HJ2 : Hid ((fun W' : World => W'.cell? ⟨ga, 0, none⟩ = some (.bool s) ∧ W'.cell? ⟨ga, 1, none⟩ = some (.slice p m m) ∧ W'.cell? ⟨gb, 0, none⟩ = some (.bool t) ∧ W'.cell? ⟨gb, 1, none⟩ = some (.slice q n n)) ((w3.setCell ⟨gr, 0, none⟩ (.bool s9)).setCell ⟨gr, 1, none⟩ (.slice (some ⟨g9, 0, none⟩) m9 m9))) := ⟨by go_simp, by go_simp, by go_simp, by go_simp⟩
  refine hK _ _ HJ2.out ?_
  clear hK HJ
  have HJ := HJ2
  clear HJ2
  refine wpJ_done (by kernel_rfl) ?_ _
  clear HJ
  go_wp2_with fail
  refine bodyPost_ret (v := .agg #[.bool s9, .slice (some ⟨g9, 0, none⟩) m9 m9]) (by rw [results_cell1 rfl]; go_simp) rfl ⟨_, rfl, ⟨s9, g9, m9, rfl, HGB.out, ?_, HL.out⟩, ?_⟩
  · have := HGE.out
    exact (ZA.out.set _ _ _ (by omega)).set _ _ _ (by omega)
  · exact bSet (bSet hbw _ _ _ HGr.out) _ _ _ HGr.out
theorem radd04_l {p q : Option Addr} {m n : Nat} {w : World} {x y : Int} (s t : Bool) (h : ZR w s p m x) (k : ZR w t q n y) (hm : m ≤ 50000) (hn : n ≤ 50000) (hst : s ≠ t) (hcm : x.natAbs < y.natAbs) :
    Calls Tryz.prog 112 #[.agg #[.bool s, .slice p m m], .agg #[.bool t, .slice q n n]] w fun e w' => ∃ v, e = .returned v ∧ GotR w.heap.size w' v (x + y) (max m n + 1) ∧ Below w.heap.size w w' := by
  have HA : Hid (ZR w s p m x) := h
  have HB : Hid (ZR w t q n y) := k
  have HM : Hid (m ≤ 50000 ∧ n ≤ 50000) := ⟨hm, hn⟩
  clear h k hm hn
  have hse : (s == t) = false := by simpa using hst
  have HST : Hid (s ≠ t) := hst
  have HCM : Hid (x.natAbs < y.natAbs) := hcm
  clear hst hcm
  go_enter Tryz.func112, Tryz.ntmps112
  go_wp2_with fail
  obtain ⟨W0, hW0⟩ : ∃ W0, W0 = (((w.alloc (.cells #[.bool s, .slice p m m] 52)).alloc (.cells #[.bool t, .slice q n n] 52)).alloc (.cells #[.bool false, .slice none 0 0] 52)) := ⟨_, rfl⟩
  have Xa : Hid (Box W0 (w.heap.size) (.bool s) (.slice p m m)) := by rw [hW0]; exact ⟨by go_simp, by go_simp, by go_simp, by go_simp⟩
  have Xb : Hid (Box W0 (w.heap.size + 1) (.bool t) (.slice q n n)) := by rw [hW0]; exact ⟨by go_simp, by go_simp, by go_simp, by go_simp⟩
  have Xr : Hid (Box W0 (w.heap.size + 1 + 1) (.bool false) (.slice none 0 0)) := by rw [hW0]; exact ⟨by go_simp, by go_simp, by go_simp, by go_simp⟩
  have hb0 : Below w.heap.size w W0 := by rw [hW0]; exact below3 w _ _ _
  rw [← hW0]
  clear hW0
  have hbw : Below w.heap.size w w := Below.refl _ _
  obtain ⟨gr, hgr⟩ : ∃ g, g = w.heap.size + 1 + 1 := ⟨_, rfl⟩
  have HGr : Hid (w.heap.size ≤ gr) := by rw [hgr]; show _ ≤ _; omega
  rw [← hgr] at Xr
  try rw [← hgr]
  obtain ⟨gb, hgb⟩ : ∃ g, g = w.heap.size + 1 := ⟨_, rfl⟩
  have HGb : Hid (w.heap.size ≤ gb) := by rw [hgb]; show _ ≤ _; omega
  rw [← hgb] at Xb
  try rw [← hgb]
  obtain ⟨ga, hga⟩ : ∃ g, g = w.heap.size := ⟨_, rfl⟩
  have HGa : Hid (w.heap.size ≤ ga) := by rw [hga]; show _ ≤ _; omega
  rw [← hga] at Xa
  try rw [← hga]
  have HGD : Hid (ga ≠ gb ∧ ga ≠ gr ∧ gb ≠ ga ∧ gb ≠ gr ∧ gr ≠ ga ∧ gr ≠ gb) := by rw [hga, hgb, hgr]; exact ⟨by omega, by omega, by omega, by omega, by omega, by omega⟩
  clear hga hgb hgr
  replace HA : Hid _ := HA.out.below hb0
  replace HB : Hid _ := HB.out.below hb0
  replace hbw := Below.on hbw hb0
  clear hb0
  obtain ⟨xs, hAx, hNx⟩ := HA.out.ex
  obtain ⟨ys, hAy, hNy⟩ := HB.out.ex
  have HNX : Hid (Nf B32 xs x.natAbs ∧ Nf B32 ys y.natAbs) := ⟨hNx, hNy⟩
  clear hNx hNy
  have AX : Hid (At32 W0 p m m xs) := hAx
  have AY : Hid (At32 W0 q n n ys) := hAy
  clear hAx hAy
  have HZV : Hid (iv t (y.natAbs - x.natAbs) = x + y) := by have h1 := HA.out.sg; have h2 := HB.out.sg; have h3 := HST.out; exact iv_suml h1 h2 h3 HCM.out
  obtain ⟨cm, hcm⟩ : ∃ cm, cm = cmpN x.natAbs y.natAbs := ⟨_, rfl⟩
  have HCQ : Hid (cm = cmpN x.natAbs y.natAbs) := hcm
  have hcc : decide (0 ≤ cm) = false := decide_eq_false (by rw [hcm, cmpN_lt HCM.out]; omega)
  clear hcm
  refine (rcmp_any AX.out AY.out HNX.out.1 HNX.out.2).mono ?_
  rintro e w9 ⟨rfl, rd, rfl⟩
  rw [← HCQ.out]
  have hbr := bDrewN (Below.refl W0.heap.size W0) rd
  generalize W0.drewN rd = W9 at *
  replace Xa : Hid _ := Xa.out.below hbr
  replace Xb : Hid _ := Xb.out.below hbr
  replace Xr : Hid _ := Xr.out.below hbr
  replace HA : Hid _ := HA.out.below hbr
  replace HB : Hid _ := HB.out.below hbr
  replace AX : Hid _ := AX.out.below hbr
  replace AY : Hid _ := AY.out.below hbr
  replace hbw := Below.on hbw hbr
  clear hbr
  obtain ⟨ca0, ca1, fa0, fa1⟩ := Xa.out
  have hnea := Xa.out.lt
  obtain ⟨cb0, cb1, fb0, fb1⟩ := Xb.out
  have hneb := Xb.out.lt
  go_wp2_with fail
  clear ca0 ca1 fa0 fa1 hnea
  clear cb0 cb1 fb0 fb1 hneb
  clear hcc
  obtain ⟨W1, hW1⟩ : ∃ W1, W1 = W9.drew := ⟨_, rfl⟩
  have hbd : Below W9.heap.size W9 W1 := by rw [hW1]; exact bDrew1 (Below.refl _ _)
  replace Xa : Hid _ := Xa.out.below hbd
  replace Xb : Hid _ := Xb.out.below hbd
  replace Xr : Hid _ := Xr.out.below hbd
  replace HA : Hid _ := HA.out.below hbd
  replace HB : Hid _ := HB.out.below hbd
  replace AX : Hid _ := AX.out.below hbd
  replace AY : Hid _ := AY.out.below hbd
  replace hbw := Below.on hbw hbd
  clear hbd
  have HJ : Hid ((fun W' : World => W'.cell? ⟨ga, 0, none⟩ = some (.bool s) ∧ W'.cell? ⟨ga, 1, none⟩ = some (.slice p m m) ∧ W'.cell? ⟨gb, 0, none⟩ = some (.bool t) ∧ W'.cell? ⟨gb, 1, none⟩ = some (.slice q n n)) W1) := ⟨Xa.out.c0, Xa.out.c1, Xb.out.c0, Xb.out.c1⟩
  refine wp_region_J (fun W' => W'.cell? ⟨ga, 0, none⟩ = some (.bool s) ∧ W'.cell? ⟨ga, 1, none⟩ = some (.slice p m m) ∧ W'.cell? ⟨gb, 0, none⟩ = some (.bool t) ∧ W'.cell? ⟨gb, 1, none⟩ = some (.slice q n n)) (by kernel_rfl) ?_
  rw [← hW1]
  clear hW1
  refine wpJ_tq 0 rfl HJ.out ?_
  refine wpJ_tq 1 rfl HJ.out ?_
  refine wpJ_tq 2 rfl HJ.out ?_
  refine wpJ_tq 3 rfl HJ.out ?_
  refine wpJ_tq 4 rfl HJ.out ?_
  refine wpJ_tq 5 rfl HJ.out ?_
  refine wpJ_on 6 rfl fun KJ hK => ?_
  go_simp
  refine (rsub_any AY.out AX.out HNX.out.2 HNX.out.1 (by have := HM.out; omega) (Nat.le_of_lt HCM.out)).mono ?_
  rintro e w2 ⟨p2, m2, z2, rfl, hA2, hN2, hl2q, hb2⟩
  have hl2 : m2 ≤ max m n + 1 := by omega
  clear hl2q
  replace Xa : Hid _ := Xa.out.below hb2
  replace Xb : Hid _ := Xb.out.below hb2
  replace Xr : Hid _ := Xr.out.below hb2
  replace HA : Hid _ := HA.out.below hb2
  replace HB : Hid _ := HB.out.below hb2
  replace AX : Hid _ := AX.out.below hb2
  replace AY : Hid _ := AY.out.below hb2
  replace hbw := Below.on hbw hb2
  clear hb2
  have A2 : Hid (At32 w2 p2 m2 m2 z2) := hA2
  have N2 : Hid (Nf B32 z2 (y.natAbs - x.natAbs)) := hN2
  have HLL : Hid (m2 ≤ max m n + 1) := hl2
  have HRL : Hid (gr < w2.heap.size) := Xr.out.lt
  have HBS : Hid (w.heap.size ≤ w2.heap.size) := hbw.size
  clear hA2 hN2 hl2
  refine hK _ _ ⟨Xa.out.c0, Xa.out.c1, Xb.out.c0, Xb.out.c1⟩ ?_
  clear hK
  refine wpJ_on 7 rfl fun KJ hK => ?_
  go_simp
  refine (rmk_any t A2.out N2.out (by have := HLL.out; have := HM.out; omega)).mono ?_
  rintro e w3 ⟨v, rfl, hv, hb3⟩
  rw [HZV.out] at hv
  replace Xa : Hid _ := Xa.out.below hb3
  replace Xb : Hid _ := Xb.out.below hb3
  replace Xr : Hid _ := Xr.out.below hb3
  replace HA : Hid _ := HA.out.below hb3
  replace HB : Hid _ := HB.out.below hb3
  replace AX : Hid _ := AX.out.below hb3
  replace AY : Hid _ := AY.out.below hb3
  replace A2 : Hid _ := A2.out.below hb3
  replace hbw := Below.on hbw hb3
  clear hb3
  obtain ⟨s9, g9, m9, rfl, hg9, hz9, hl9⟩ := hv
  have ZA : Hid (ZR w3 s9 (some ⟨g9, 0, none⟩) m9 (x + y)) := hz9
  have HL : Hid (m9 ≤ max m n + 1) := by have := hl9; have := HLL.out; show m9 ≤ _; omega
  have HGE : Hid (gr < g9) := Nat.lt_of_lt_of_le HRL.out hg9
  have HGB : Hid (w.heap.size ≤ g9) := Nat.le_trans HBS.out hg9
  clear hg9 hz9 hl9
  refine hK _ _ ⟨Xa.out.c0, Xa.out.c1, Xb.out.c0, Xb.out.c1⟩ ?_
  clear hK
  obtain ⟨cr0, cr1, fr0, fr1⟩ := Xr.out
  have hner := Xr.out.lt
  obtain ⟨ca0, ca1, fa0, fa1⟩ := Xa.out
  have hnea := Xa.out.lt
  obtain ⟨cb0, cb1, fb0, fb1⟩ := Xb.out
  have hneb := Xb.out.lt
  obtain ⟨hgd0, hgd1, hgd2, hgd3, hgd4, hgd5⟩ := HGD.out
  refine wpJ_on 8 rfl fun KJ hK => ?_
  go_simp
  have HJ2 : Hid ((fun W' : World => W'.cell? ⟨ga, 0, none⟩ = some (.bool s) ∧ W'.cell? ⟨ga, 1, none⟩ = some (.slice p m m) ∧ W'.cell? ⟨gb, 0, none⟩ = some (.bool t) ∧ W'.cell? ⟨gb, 1, none⟩ = some (.slice q n n)) ((w3.setCell ⟨gr, 0, none⟩ (.bool s9)).setCell ⟨gr, 1, none⟩ (.slice (some ⟨g9, 0, none⟩) m9 m9))) := ⟨by go_simp, by go_simp, by go_simp, by go_simp⟩
  refine hK _ _ HJ2.out ?_
  clear hK HJ
  have HJ := HJ2
  clear HJ2
  refine wpJ_done (by kernel_rfl) ?_ _
  clear HJ
  go_wp2_with fail
  refine bodyPost_ret (v := .agg #[.bool s9, .slice (some ⟨g9, 0, none⟩) m9 m9]) (by rw [results_cell1 rfl]; go_simp) rfl ⟨_, rfl, ⟨s9, g9, m9, rfl, HGB.out, ?_, HL.out⟩, ?_⟩
  · have := HGE.out
    exact (ZA.out.set _ _ _ (by omega)).set _ _ _ (by omega)
  · exact bSet (bSet hbw _ _ _ HGr.out) _ _ _ HGr.out
theorem radd04 {p q : Option Addr} {m n : Nat} {w : World} {x y : Int} (s t : Bool) (h : ZR w s p m x) (k : ZR w t q n y) (hm : m ≤ 50000) (hn : n ≤ 50000) : Calls Tryz.prog 112 #[.agg #[.bool s, .slice p m m], .agg #[.bool t, .slice q n n]] w fun e w' => ∃ v, e = .returned v ∧ GotR w.heap.size w' v (x + y) (max m n + 1) ∧ Below w.heap.size w w' := by
  by_cases hst : s = t
  · exact radd04_s s t h k hm hn hst
  · rcases Nat.lt_or_ge x.natAbs y.natAbs with hl | hl
    · exact radd04_l s t h k hm hn hst hl
    · exact radd04_g s t h k hm hn hst hl
theorem rsub04 {p q : Option Addr} {m n : Nat} {w : World} {x y : Int} (s t : Bool) (h : ZR w s p m x) (k : ZR w t q n y) (hm : m ≤ 50000) (hn : n ≤ 50000) :
    Calls Tryz.prog 103 #[.agg #[.bool s, .slice p m m], .agg #[.bool t, .slice q n n]] w fun e w' => ∃ v, e = .returned v ∧ GotR w.heap.size w' v (x - y) (max m n + 1) ∧ Below w.heap.size w w' := by
  have HA : Hid (ZR w s p m x) := h
  have HB : Hid (ZR w t q n y) := k
  have HM : Hid (m ≤ 50000 ∧ n ≤ 50000) := ⟨hm, hn⟩
  clear h k hm hn
  go_enter Tryz.func103, Tryz.ntmps103
  go_wp2_with fail
  obtain ⟨W0, hW0⟩ : ∃ W0, W0 = (((w.alloc (.cells #[.bool s, .slice p m m] 52)).alloc (.cells #[.bool t, .slice q n n] 52)).alloc (.cells #[.bool false, .slice none 0 0] 52)) := ⟨_, rfl⟩
  have Xa : Hid (Box W0 (w.heap.size) (.bool s) (.slice p m m)) := by rw [hW0]; exact ⟨by go_simp, by go_simp, by go_simp, by go_simp⟩
  have Xb : Hid (Box W0 (w.heap.size + 1) (.bool t) (.slice q n n)) := by rw [hW0]; exact ⟨by go_simp, by go_simp, by go_simp, by go_simp⟩
  have Xr : Hid (Box W0 (w.heap.size + 1 + 1) (.bool false) (.slice none 0 0)) := by rw [hW0]; exact ⟨by go_simp, by go_simp, by go_simp, by go_simp⟩
  have hb0 : Below w.heap.size w W0 := by rw [hW0]; exact below3 w _ _ _
  rw [← hW0]
  clear hW0
  have hbw : Below w.heap.size w w := Below.refl _ _
  obtain ⟨gr, hgr⟩ : ∃ g, g = w.heap.size + 1 + 1 := ⟨_, rfl⟩
  have HGr : Hid (w.heap.size ≤ gr) := by rw [hgr]; show _ ≤ _; omega
  rw [← hgr] at Xr
  try rw [← hgr]
  obtain ⟨gb, hgb⟩ : ∃ g, g = w.heap.size + 1 := ⟨_, rfl⟩
  have HGb : Hid (w.heap.size ≤ gb) := by rw [hgb]; show _ ≤ _; omega
  rw [← hgb] at Xb
  try rw [← hgb]
  obtain ⟨ga, hga⟩ : ∃ g, g = w.heap.size := ⟨_, rfl⟩
  have HGa : Hid (w.heap.size ≤ ga) := by rw [hga]; show _ ≤ _; omega
  rw [← hga] at Xa
  try rw [← hga]
  have HGD : Hid (ga ≠ gb ∧ ga ≠ gr ∧ gb ≠ ga ∧ gb ≠ gr ∧ gr ≠ ga ∧ gr ≠ gb) := by rw [hga, hgb, hgr]; exact ⟨by omega, by omega, by omega, by omega, by omega, by omega⟩
  clear hga hgb hgr
  replace HA : Hid _ := HA.out.below hb0
  replace HB : Hid _ := HB.out.below hb0
  replace hbw := Below.on hbw hb0
  clear hb0
  obtain ⟨W1, hW1⟩ : ∃ W1, W1 = W0.drew := ⟨_, rfl⟩
  have hbd : Below W0.heap.size W0 W1 := by rw [hW1]; exact bDrew1 (Below.refl _ _)
  replace Xa : Hid _ := Xa.out.below hbd
  replace Xb : Hid _ := Xb.out.below hbd
  replace Xr : Hid _ := Xr.out.below hbd
  replace HA : Hid _ := HA.out.below hbd
  replace HB : Hid _ := HB.out.below hbd
  replace hbw := Below.on hbw hbd
  clear hbd
  have HJ : Hid ((fun W' : World => W'.cell? ⟨ga, 0, none⟩ = some (.bool s) ∧ W'.cell? ⟨ga, 1, none⟩ = some (.slice p m m) ∧ W'.cell? ⟨gb, 0, none⟩ = some (.bool t) ∧ W'.cell? ⟨gb, 1, none⟩ = some (.slice q n n)) W1) := ⟨Xa.out.c0, Xa.out.c1, Xb.out.c0, Xb.out.c1⟩
  refine wp_region_J (fun W' => W'.cell? ⟨ga, 0, none⟩ = some (.bool s) ∧ W'.cell? ⟨ga, 1, none⟩ = some (.slice p m m) ∧ W'.cell? ⟨gb, 0, none⟩ = some (.bool t) ∧ W'.cell? ⟨gb, 1, none⟩ = some (.slice q n n)) (by kernel_rfl) ?_
  rw [← hW1]
  clear hW1
  refine wpJ_tq 0 rfl HJ.out ?_
  refine wpJ_tq 1 rfl HJ.out ?_
  refine wpJ_on 2 rfl fun KJ hK => ?_
  go_simp
  refine (rflip_any t HB.out (by have := HM.out; omega)).mono ?_
  rintro e w2 ⟨v, rfl, hv, hb2⟩
  obtain ⟨s2, g2, m2, rfl, hg2, hz2, hl2⟩ := hv
  replace Xa : Hid _ := Xa.out.below hb2
  replace Xb : Hid _ := Xb.out.below hb2
  replace Xr : Hid _ := Xr.out.below hb2
  replace HA : Hid _ := HA.out.below hb2
  replace HB : Hid _ := HB.out.below hb2
  replace hbw := Below.on hbw hb2
  clear hb2
  have ZB : Hid (ZR w2 s2 (some ⟨g2, 0, none⟩) m2 (-y)) := hz2
  have HL2 : Hid (m2 ≤ n) := hl2
  have HRL : Hid (gr < w2.heap.size) := Xr.out.lt
  have HBS : Hid (w.heap.size ≤ w2.heap.size) := hbw.size
  clear hg2 hz2 hl2
  refine hK _ _ ⟨Xa.out.c0, Xa.out.c1, Xb.out.c0, Xb.out.c1⟩ ?_
  clear hK
  refine wpJ_on 3 rfl fun KJ hK => ?_
  go_simp
  refine (radd04 s s2 HA.out ZB.out HM.out.1 (Nat.le_trans HL2.out HM.out.2)).mono ?_
  rintro e w3 ⟨v, rfl, hv, hb3⟩
  rw [← Int.sub_eq_add_neg] at hv
  replace Xa : Hid _ := Xa.out.below hb3
  replace Xb : Hid _ := Xb.out.below hb3
  replace Xr : Hid _ := Xr.out.below hb3
  replace HA : Hid _ := HA.out.below hb3
  replace HB : Hid _ := HB.out.below hb3
  replace ZB : Hid _ := ZB.out.below hb3
  replace hbw := Below.on hbw hb3
  clear hb3
  have HLL : Hid (max m m2 + 1 ≤ max m n + 1) := by have := HL2.out; show _ ≤ _; omega
  obtain ⟨s9, g9, m9, rfl, hg9, hz9, hl9⟩ := hv
  have ZA : Hid (ZR w3 s9 (some ⟨g9, 0, none⟩) m9 (x - y)) := hz9
  have HL : Hid (m9 ≤ max m n + 1) := by have := hl9; have := HLL.out; show m9 ≤ _; omega
  have HGE : Hid (gr < g9) := Nat.lt_of_lt_of_le HRL.out hg9
  have HGB : Hid (w.heap.size ≤ g9) := Nat.le_trans HBS.out hg9
  clear hg9 hz9 hl9
  refine hK _ _ ⟨Xa.out.c0, Xa.out.c1, Xb.out.c0, Xb.out.c1⟩ ?_
  clear hK
  obtain ⟨cr0, cr1, fr0, fr1⟩ := Xr.out
  have hner := Xr.out.lt
  obtain ⟨ca0, ca1, fa0, fa1⟩ := Xa.out
  have hnea := Xa.out.lt
  obtain ⟨cb0, cb1, fb0, fb1⟩ := Xb.out
  have hneb := Xb.out.lt
  obtain ⟨hgd0, hgd1, hgd2, hgd3, hgd4, hgd5⟩ := HGD.out
  refine wpJ_on 4 rfl fun KJ hK => ?_
  go_simp
  have HJ2 : Hid ((fun W' : World => W'.cell? ⟨ga, 0, none⟩ = some (.bool s) ∧ W'.cell? ⟨ga, 1, none⟩ = some (.slice p m m) ∧ W'.cell? ⟨gb, 0, none⟩ = some (.bool t) ∧ W'.cell? ⟨gb, 1, none⟩ = some (.slice q n n)) ((w3.setCell ⟨gr, 0, none⟩ (.bool s9)).setCell ⟨gr, 1, none⟩ (.slice (some ⟨g9, 0, none⟩) m9 m9))) := ⟨by go_simp, by go_simp, by go_simp, by go_simp⟩
  refine hK _ _ HJ2.out ?_
  clear hK HJ
  have HJ := HJ2
  clear HJ2
  refine wpJ_done (by kernel_rfl) ?_ _
  clear HJ
  go_wp2_with fail
  refine bodyPost_ret (v := .agg #[.bool s9, .slice (some ⟨g9, 0, none⟩) m9 m9]) (by rw [results_cell1 rfl]; go_simp) rfl ⟨_, rfl, ⟨s9, g9, m9, rfl, HGB.out, ?_, HL.out⟩, ?_⟩
  · have := HGE.out
    exact (ZA.out.set _ _ _ (by omega)).set _ _ _ (by omega)
  · exact bSet (bSet hbw _ _ _ HGr.out) _ _ _ HGr.out
def NewAt (B : Nat) (w : World) (p : Option Addr) (m c : Nat) (us : List Nat) : Prop := At w p m c us ∧ (m = 0 ∨ ∃ g, p = some ⟨g, 0, none⟩ ∧ B ≤ g)
theorem NewAt.below {B : Nat} {w w' : World} {p : Option Addr} {m c : Nat} {us : List Nat} (h : NewAt B w p m c us) (hb : Below w.heap.size w w') : NewAt B w' p m c us := ⟨h.1.below hb, h.2⟩
theorem NewAt.mono {B B' : Nat} {w : World} {p : Option Addr} {m c : Nat} {us : List Nat} (h : NewAt B w p m c us) (hB : B' ≤ B) : NewAt B' w p m c us :=
  ⟨h.1, h.2.imp id (fun ⟨g, e, k⟩ => ⟨g, e, Nat.le_trans hB k⟩)⟩
theorem NewAt.set {B : Nat} {w : World} {p : Option Addr} {m c : Nat} {us : List Nat} (h : NewAt B w p m c us) {r : Nat} (hr : r < B) (o : Nat) (v : Value) : NewAt B (w.setCell ⟨r, o, none⟩ v) p m c us := by
  refine ⟨?_, h.2⟩
  rcases h.2 with h0 | ⟨g, rfl, hg⟩
  · subst h0
    obtain rfl : us = [] := List.eq_nil_of_length_eq_zero h.1.len
    exact At.empty _ _ _ h.1.big
  · exact h.1.setOther _ _ _ (by omega)
def DocZ (z : Int) (s : Bool) (us : List Nat) (er : Int) : Prop :=
  (z.natAbs < LIM ∧ s = decide (z < 0) ∧ Nf B64 us z.natAbs ∧ er = 0) ∨ (LIM ≤ z.natAbs ∧ s = false ∧ us = [] ∧ er = 5)
theorem DocZ.inj {z : Int} {s s' : Bool} {us us' : List Nat} {er er' : Int} (h : DocZ z s us er) (k : DocZ z s' us' er') : s = s' ∧ us = us' ∧ er = er' := by
  rcases h with ⟨h0, rfl, h1, rfl⟩ | ⟨h0, rfl, rfl, rfl⟩ <;> rcases k with ⟨k0, rfl, k1, rfl⟩ | ⟨k0, rfl, rfl, rfl⟩
  · exact ⟨rfl, h1.inj B64_one k1, rfl⟩
  · omega
  · omega
  · exact ⟨rfl, rfl, rfl⟩
theorem lim32 {zs : List Nat} {a : Nat} (h : Nf B32 zs a) : zs.length ≤ 16384 ↔ a < LIM := by
  rw [h.len_le B32_one]
  obtain ⟨K, hK⟩ : ∃ K, K = 8192 := ⟨_, rfl⟩
  rw [LIM_eq K hK, ← B32_two, show (16384 : Nat) = 2 * K by omega, Nat.pow_mul, Nat.pow_two]
def OneZ (r : Int → Int) (sx : Bool) (xs : List Nat) (s : Bool) (us : List Nat) (er : Int) : Prop :=
  (formZ sx xs = false ∧ s = false ∧ us = [] ∧ er = 2) ∨ (formZ sx xs = true ∧ DocZ (r (iv sx (valB B64 xs))) s us er)
def TwoZ (r : Int → Int → Int) (sx : Bool) (xs : List Nat) (sy : Bool) (ys : List Nat) (s : Bool) (us : List Nat) (er : Int) : Prop :=
  ((formZ sx xs && formZ sy ys) = false ∧ s = false ∧ us = [] ∧ er = 2) ∨ ((formZ sx xs && formZ sy ys) = true ∧ DocZ (r (iv sx (valB B64 xs)) (iv sy (valB B64 ys))) s us er)
theorem OneZ.inj {r : Int → Int} {sx : Bool} {xs : List Nat} {s s' : Bool} {us us' : List Nat} {er er' : Int} (h : OneZ r sx xs s us er) (k : OneZ r sx xs s' us' er') : s = s' ∧ us = us' ∧ er = er' := by
  rcases h with ⟨h0, rfl, rfl, rfl⟩ | ⟨h0, h1⟩ <;> rcases k with ⟨k0, rfl, rfl, rfl⟩ | ⟨k0, k1⟩
  · exact ⟨rfl, rfl, rfl⟩
  · rw [h0] at k0; cases k0
  · rw [h0] at k0; cases k0
  · exact h1.inj k1
theorem TwoZ.inj {r : Int → Int → Int} {sx sy : Bool} {xs ys : List Nat} {s s' : Bool} {us us' : List Nat} {er er' : Int} (h : TwoZ r sx xs sy ys s us er) (k : TwoZ r sx xs sy ys s' us' er') : s = s' ∧ us = us' ∧ er = er' := by
  rcases h with ⟨h0, rfl, rfl, rfl⟩ | ⟨h0, h1⟩ <;> rcases k with ⟨k0, rfl, rfl, rfl⟩ | ⟨k0, k1⟩
  · exact ⟨rfl, rfl, rfl⟩
  · rw [h0] at k0; cases k0
  · rw [h0] at k0; cases k0
  · exact h1.inj k1
def OffR (g m g2 : Nat) : Prop := m = 0 ∨ g ≠ g2
theorem ZR.off_new {w : World} {s : Bool} {g m : Nat} {z : Int} (h : ZR w s (some ⟨g, 0, none⟩) m z) : OffR g m w.heap.size := by
  obtain ⟨zs, hA, _⟩ := h.ex
  rcases Nat.eq_zero_or_pos m with e | e
  · exact .inl e
  · rcases hA.cells with h0 | ⟨g', off, he, hc⟩
    · exact .inl h0
    · have h1 := World.block_lt_of_cell? w _ (hc 0 e)
      have h2 : g = g' := by have := Option.some.inj he; simpa using congrArg Addr.block this
      exact .inr (by subst h2; exact Nat.ne_of_lt h1)
theorem ZR.setOff {w : World} {s : Bool} {g m : Nat} {z : Int} (h : ZR w s (some ⟨g, 0, none⟩) m z) {g2 : Nat} (hf : OffR g m g2) (o2 : Nat) (v : Value) : ZR (w.setCell ⟨g2, o2, none⟩ v) s (some ⟨g, 0, none⟩) m z := by
  rcases hf with h0 | h0
  · subst h0
    obtain ⟨zs, hA, hN⟩ := h.ex
    obtain rfl : zs = [] := List.eq_nil_of_length_eq_zero hA.len
    exact ⟨⟨[], At32.empty _ _ _ (by decide), hN⟩, h.sg⟩
  · exact h.set g2 o2 v h0
structure WinRel32 (w : World) (g off n : Nat) (W D d b : Nat) (ws : List Nat) (wr : World) : Prop where
  wrs : Wr g off (n + 1) w wr
  row : Row32 wr g off (n + 1) ws
  db : d < B32
  bb : b ≤ 1
  ge : W / D ≤ d
  sum : valB B32 ws + D * d = W + B32 ^ (n + 1) * b
theorem WinRel32.done {w : World} {g off n W D d : Nat} {ws : List Nat} {wr : World} (h : WinRel32 w g off n W D d 0 ws wr) (hD : 0 < D) : d = W / D ∧ valB B32 ws = W % D := by
  have h1 := h.sum; have h2 := h.ge
  rw [Nat.mul_zero, Nat.add_zero] at h1
  have h3 : d ≤ W / D := (Nat.le_div_iff_mul_le hD).2 (by rw [Nat.mul_comm]; omega)
  have h4 : d = W / D := by omega
  refine ⟨h4, ?_⟩
  have h5 := Nat.div_add_mod W D
  rw [← h4] at h5
  omega
structure DgS (w : World) (g off n : Nat) (us vs : List Nat) (q k cy ow : Nat) (dk : List Nat) (wr : World) : Prop where
  wrs : Wr g off (n + 1) w wr
  row : Row32 wr g off (n + 1) dk
  hi : dk.drop k = us.drop k
  car : cy < B32
  owb : ow ≤ 1
  fin : k = n + 1 → cy = 0
  sum : valB B32 (dk.take k) + valB B32 (vs.take k) * q = valB B32 (us.take k) + B32 ^ k * (ow + cy)
theorem dgs_abs {P B S V U q d y u o c o' c' : Nat} (h : S + V * q = U + P * (o + c)) (hs : o + c + d + y * q = u + B * (o' + c')) : S + P * d + (V + P * y) * q = U + P * u + P * B * (o' + c') := by
  have e1 : P * (o + c + d + y * q) = P * (u + B * (o' + c')) := by rw [hs]
  rw [Nat.mul_add P (o + c + d) (y * q), Nat.mul_add P (o + c) d, Nat.mul_add P u] at e1
  have e2 : P * (y * q) = P * y * q := (Nat.mul_assoc _ _ _).symm
  have e3 : P * (B * (o' + c')) = P * B * (o' + c') := (Nat.mul_assoc _ _ _).symm
  rw [e2, e3] at e1
  rw [Nat.add_mul]
  generalize P * y * q = X1 at *
  generalize P * B * (o' + c') = X2 at *
  generalize P * (o + c) = X3 at *
  generalize P * d = X4 at *
  generalize P * u = X5 at *
  omega
theorem DgS.step {w : World} {g off n : Nat} {us vs : List Nat} {q k cy ow : Nat} {dk : List Nat} {wr : World} (h : DgS w g off n us vs q k cy ow dk wr) (hk : k < n + 1) (hvl : vs.length = n)
    {y u c1 lo cy' ow' d : Nat} (hy : y = vs.getD k 0) (hu : u = dk.getD k 0) (hc1 : c1 = cy + y * q) (hlo : c1 = lo + B32 * cy') (hcy' : cy' < B32) (how' : ow' ≤ 1) (hd : d + lo + ow = u + B32 * ow') (hdb : d < B32) :
    DgS w g off n us vs q (k + 1) cy' ow' (dk.set k d) (wr.setCell ⟨g, off + k, none⟩ (V d)) := by
  have hlen := h.row.len
  refine ⟨h.wrs.setCell (off + k) ⟨by omega, by omega⟩ _, h.row.set k d hk hdb, ?_, hcy', how', ?_, ?_⟩
  · rw [drop_set_lt]; exact drop_succ_of_drop h.hi
  · intro hkn
    have h0 : y = 0 := by
      rw [hy, List.getD_eq_getElem?_getD, List.getElem?_eq_none (by omega)]; rfl
    rw [h0, Nat.zero_mul] at hc1
    have := h.car
    rcases Nat.eq_zero_or_pos cy' with e | e
    · exact e
    · have : B32 * 1 ≤ B32 * cy' := Nat.mul_le_mul_left _ e
      omega
  · have huu : u = us.getD k 0 := hu.trans (getD_of_drop h.hi)
    rw [take_set_succ dk k d (by omega), valB_snoc, List.length_take, hlen, Nat.min_eq_left (by omega), valB_take_any _ us k, valB_take_any _ vs k, ← huu, ← hy, Nat.pow_succ]
    refine dgs_abs h.sum ?_
    rw [Nat.mul_add]
    omega
structure DgA (w : World) (g off n : Nat) (ws vs : List Nat) (k cy : Nat) (dk : List Nat) (wr : World) : Prop where
  wrs : Wr g off (n + 1) w wr
  row : Row32 wr g off (n + 1) dk
  hi : dk.drop k = ws.drop k
  car : cy ≤ 1
  sum : valB B32 (dk.take k) + B32 ^ k * cy = valB B32 (ws.take k) + valB B32 (vs.take k)
theorem DgA.step {w : World} {g off n : Nat} {ws vs : List Nat} {k cy : Nat} {dk : List Nat} {wr : World} (h : DgA w g off n ws vs k cy dk wr) (hk : k < n + 1)
    {y u lo cy' : Nat} (hy : y = vs.getD k 0) (hu : u = dk.getD k 0) (hs : cy + u + y = lo + B32 * cy') (hlo : lo < B32) (hcy' : cy' ≤ 1) :
    DgA w g off n ws vs (k + 1) cy' (dk.set k lo) (wr.setCell ⟨g, off + k, none⟩ (V lo)) := by
  have hlen := h.row.len
  refine ⟨h.wrs.setCell (off + k) ⟨by omega, by omega⟩ _, h.row.set k lo hk hlo, ?_, hcy', ?_⟩
  · rw [drop_set_lt]; exact drop_succ_of_drop h.hi
  · have huu : u = ws.getD k 0 := hu.trans (getD_of_drop h.hi)
    rw [take_set_succ dk k lo (by omega), valB_snoc, List.length_take, hlen, Nat.min_eq_left (by omega), valB_take_any _ ws k, valB_take_any _ vs k, ← huu, ← hy, Nat.pow_succ]
    have e1 := h.sum
    have e2 : B32 ^ k * (cy + u + y) = B32 ^ k * (lo + B32 * cy') := by rw [hs]
    rw [Nat.mul_add, Nat.mul_add, Nat.mul_add, ← Nat.mul_assoc] at e2
    omega
theorem take_mod32q {xs : List Nat} {v k : Nat} (hx : Nf B32 xs v) (hk : k ≤ xs.length) : valB B32 (xs.take k) = v % B32 ^ k := by
  have h1 := valB_split B32 xs k hk
  have h2 := valB_lt B32_pos (hx.dig.take k)
  rw [List.length_take, Nat.min_eq_left hk] at h2
  rw [← hx.val, h1, Nat.add_mul_mod_self_left, Nat.mod_eq_of_lt h2]
theorem Blk32.own {w : World} {g base : Nat} {xs : List Nat} (h : Blk32 w g xs) (hb : base ≤ g) (hm : xs.length ≤ maxLen) : w.ownsRow base 111 1 (.slice (some ⟨g, 0, none⟩) xs.length xs.length) xs.length (cellsV xs) :=
  ⟨by simp [cellsV], .inr ⟨g, xs.length, (cellsV xs).toArray, rfl, hb, h, Nat.le_refl _, hm, by simp [cellsV], by rw [Nat.mul_one]; exact List.take_of_length_le (by simp [cellsV])⟩⟩
theorem own_at32q {wr : World} {base i N : Nat} {p : Option Addr} {ss : List Nat} (ho : wr.ownsRow base 111 1 (.slice p i N) i (cellsV ss)) (hl : ss.length = i) (hd : Dig B32 ss) : At32 wr p i N ss := by
  rcases ho.2 with ⟨h', h0⟩ | ⟨g', cap', cur, h', hbase, hgc, hcap', hmx, hsz, htake⟩
  · simp only [Value.slice.injEq] at h'
    obtain ⟨rfl, rfl, rfl⟩ := h'
    obtain rfl : ss = [] := List.eq_nil_of_length_eq_zero hl
    exact At32.empty _ _ 0 (by decide)
  · simp only [Value.slice.injEq, true_and] at h'
    obtain ⟨rfl, rfl⟩ := h'
    refine ⟨hl, hcap', hmx, hd, .inr ⟨g', 0, rfl, fun jj hj => ?_⟩⟩
    rw [Nat.zero_add, cell_of_row wr g' jj _ _ _ hgc]
    have e1 := cellsV_get ss jj (by rw [hl]; exact hj)
    rw [← htake, Nat.mul_one, List.getElem?_take, if_pos hj] at e1
    rw [← Array.getElem?_toList]; exact e1
theorem own_form {wr : World} {base i : Nat} {v : Value} {e : TypeId} {xs : List Value} (ho : wr.ownsRow base e 1 v i xs) : ∃ p N, v = .slice p i N := by
  rcases ho.2 with ⟨h', h0⟩ | ⟨g', cap', cur, h', _⟩
  · subst h0; exact ⟨none, 0, h'⟩
  · exact ⟨_, _, h'⟩

theorem own_base {wr : World} {base i : Nat} {v : Value} {e : TypeId} {xs : List Value} (ho : wr.ownsRow base e 1 v i xs) : ∀ q, v.ownBlock = some q → base ≤ q := by
  intro q hq
  rcases ho.2 with ⟨h', h0⟩ | ⟨g', cap', cur, h', hb, _⟩
  · rw [h'] at hq; simp [Value.ownBlock] at hq
  · rw [h'] at hq; simp [Value.ownBlock] at hq; omega
theorem step_append_ownq {P : Program} {ops : Array Oper} {o : Oper} {a : Act} {w : World} {K : Act → World → Prop} {Q : Exit → Act → World → Prop} {E : Prop}
    (hg : o.guard = none) (s x : Operand) (t : TypeId) (hop : o.op = Op.call { callee := Callee.builtin Builtin.append, args := #[s, x], argTypes := #[t, t] })
    (base : Nat) (e : TypeId) (i : TypeInfo) (z : Value) (size bytes : Nat) (ht : P.underlying t = some (.slice e)) (hi : P.info? e = some i) (hz : i.zero = some z)
    (hsize : i.size = size) (hby : i.bytes = bytes) (hzs : z.cells.size = size) (hsz : 0 < size)
    (v : Value) (n : Nat) (xs : List Value) (hs : a.eval s = v) (hown : w.ownsRow base e size v n xs)
    (ad : Addr) (m c : Nat) (news : List Value) (hx : a.eval x = .slice (some ad) m c) (hl : news.length = m * size) (hnews : ∀ j u, news[j]? = some u → w.cell? (ad.add j) = some u) (h1 : ∀ u ∈ news, u.oneCell' = true)
    (h63 : n + m ≤ maxLen) (hbytes : (n + m) * bytes ≤ 140737488355328) (hbase : base ≤ w.heap.size)
    (hK : ∀ v' w', w'.ownsRow base e size v' (n + m) (xs ++ news) → w.grownBy w' v.ownBlock → K (a.put o.dst v') w') :
    if Region.wanted o (yielded ops a.tmps) = true then Oper.wp P o a w K Q else E := by
  have hw : Region.wanted o (yielded ops a.tmps) = true := by simp [Region.wanted, hg]
  rw [if_pos hw]
  obtain ⟨v', w', hr, h2, h3, h4⟩ := run_append_own (P := P) w base t o.type e i z size bytes ht hi hz hsize hby hzs hsz v n xs hown ad m c news hl hnews h1 h63 hbytes hbase
  unfold Oper.wp
  simp [execOp, hop, resolve, invoke, builtin, hs, hx, hr, Result.andThen]
  exact hK _ _ h2 h3

theorem rlow_any {p : Option Addr} {n c : Nat} {xs : List Nat} {v : Nat} {w : World} (h : At32 w p n c xs) (hx : Nf B32 xs v) (hn : n ≤ 16384) (N : Nat) (hN : 1 ≤ N) (hN2 : N ≤ 9223372036854775807) :
    Calls Tryz.prog 157 #[.slice p n c, .int .i64 N] w fun e w' => ∃ p' m' zs, e = .returned (.slice p' m' m') ∧ At32 w' p' m' m' zs ∧ Nf B32 zs (v % 2 ^ N) ∧ m' ≤ n ∧ Below w.heap.size w w' := by
  obtain ⟨i0, hi, hz0, hz1, hz2⟩ := info_parts Tryz.infoU32
  have HX : Hid (Nf B32 xs v) := hx
  have hl := h.len
  have cap := h.cap
  have big := h.big
  unfold maxLen at big
  obtain ⟨D, hD⟩ : ∃ D, D = N / 32 := ⟨_, rfl⟩
  obtain ⟨R, hR⟩ : ∃ R, R = N % 32 := ⟨_, rfl⟩
  have d1 : (N : Int).tdiv 32 = (D : Int) := by rw [Int.tdiv_eq_ediv_of_nonneg (by omega)]; omega
  have d2 : (N : Int).tmod 32 = (R : Int) := by rw [Int.tmod_eq_emod_of_nonneg (by omega)]; omega
  have hNp : ¬ (N : Int) ≤ 0 := by omega
  have hN0 : ¬ N = 0 := by omega
  have hR32 : R < 32 := by omega
  have hDb : D ≤ 288230376151711743 := by omega
  have hwD : IntKind.i64.wrap (D : Int) = (D : Int) := by simp [IntKind.wrap, IntKind.signed, IntKind.bits]; omega
  have HD : Hid (2 ^ N = B32 ^ D * 2 ^ R) := by show _ = _; rw [show B32 = 2 ^ 32 from rfl, ← Nat.pow_mul, ← Nat.pow_add]; congr 1; omega
  have HLX : Hid (xs.length = n) := hl
  clear hx hD hR hl
  by_cases hc : n ≤ D
  · have hci : (n : Int) ≤ (D : Int) := by omega
    have hcb : decide (n ≤ D) = true := decide_eq_true hc
    have HZ : Hid (v % 2 ^ N = v) := by
      show _ = _
      rw [HD.out]
      exact Nat.mod_eq_of_lt (Nat.lt_of_lt_of_le (nf32_lt HX.out (K := D) (by rw [HLX.out]; exact hc)) (Nat.le_mul_of_pos_right _ (Nat.pow_pos (by decide))))
    have HA : Hid (At32 w p n c xs) := h
    clear h
    go_enter Tryz.func157, Tryz.ntmps157
    go_wp2_with fail
    refine (rnorm_any HA.out (by omega)).mono ?_
    rw [trimL_of_Top HX.out.top]
    rintro e w1 ⟨g, rfl, hg, hb, hbl⟩
    have HB : Hid (Blk32 w1 g xs) := hb
    rw [HLX.out]
    clear hb
    go_wp2_with fail
    go_ret
    exact ⟨_, n, xs, rfl, HB.out.at_ HX.out.dig HLX.out (by unfold maxLen; omega), by rw [HZ.out]; exact HX.out, by omega, hbl⟩
  · have hci : ¬ (n : Int) ≤ (D : Int) := by omega
    have hcb : decide (n ≤ D) = false := decide_eq_false hc
    have hDn : D < n := by omega
    have hDc : D < c := by omega
    have hDc2 : D ≤ c := by omega
    have hDn2 : D ≤ n := by omega
    obtain ⟨g, off, rfl, hcs⟩ := h.cells.resolve_left (by omega)
    have A1 : Hid (At32 w (some ⟨g, off, none⟩) D c (xs.take D)) := h.take D hDn2 c hDc2 (by unfold maxLen; omega)
    obtain ⟨y, hy⟩ : ∃ y, y = xs.getD D 0 := ⟨_, rfl⟩
    have hcy : w.cell? ⟨g, off + D, none⟩ = some (V y) := by rw [hy]; exact hcs D hDn
    have HV : Hid (valB B32 (trimL (xs.take D)) = v % B32 ^ D) := by rw [valB_trimL]; exact take_mod32q HX.out (by rw [HLX.out]; omega)
    obtain ⟨d, hd⟩ : ∃ d, d = 2 ^ R := ⟨_, rfl⟩
    have hd1 : 1 ≤ d := by rw [hd]; exact Nat.pow_pos (by decide)
    have hdB : d < B32 := by rw [hd, show B32 = 2 ^ 32 from rfl]; exact Nat.pow_lt_pow_right (by decide) hR32
    have hdw : IntKind.u32.wrap (d : Int) = (d : Int) := wrap32 d hdB
    have hdI : (2 : Int) ^ R = (d : Int) := by rw [hd]; norm_cast
    obtain ⟨q, hq⟩ : ∃ q, q = y % d := ⟨_, rfl⟩
    have hqB : q < B32 := by rw [hq]; exact Nat.lt_trans (Nat.mod_lt _ hd1) hdB
    have HQ : Hid (v % 2 ^ N = v % B32 ^ D + B32 ^ D * q) := by
      show _ = _
      rw [HD.out, ← hd, Nat.mod_mul, hq, hy, ← drop_div32q HX.out (by rw [HLX.out]; omega), valB_drop B32 xs D (by rw [HLX.out]; exact hDn)]
      congr 2
      have hdv : d ∣ B32 := by rw [hd, show B32 = 2 ^ 32 from rfl]; exact Nat.pow_dvd_pow 2 (by omega)
      obtain ⟨e, he⟩ := hdv
      rw [he, Nat.mul_assoc, Nat.add_mul_mod_self_left]
    have hdI0 : ¬ (d : Int) = 0 := by omega
    have hdN0 : ¬ d = 0 := by omega
    have hdbe : ((d : Int) == 0) = false := by simp; omega
    have hym : (y : Int).tmod (d : Int) = (q : Int) := by rw [hq, Int.tmod_eq_emod_of_nonneg (Int.natCast_nonneg y)]; norm_cast
    have hym2 : (y : Int) % (d : Int) = (q : Int) := by rw [hq]; norm_cast
    have HQB : Hid (q < B32) := hqB
    have hqw : IntKind.u32.wrap (q : Int) = (q : Int) := wrap32 q hqB
    clear hd hd1 hdB hq hqB
    have hgl : g < w.heap.size := World.block_lt_of_cell? w _ hcy
    clear h hcs hy
    go_enter Tryz.func157, Tryz.ntmps157
    go_wp2_with fail
    refine (rnorm_any A1.out (by omega)).mono ?_
    rintro e w1 ⟨g1, rfl, hg1, hb1, hbl⟩
    have hd1 : Dig B32 (trimL (xs.take D)) := Dig.trimL A1.out.dig
    have hle1 := trimL_length_le (xs.take D)
    rw [A1.out.len] at hle1
    generalize trimL (xs.take D) = zs at *
    have hcy1 : w1.cell? ⟨g, off + D, none⟩ = some (V y) := (hbl.cell (p := ⟨g, off + D, none⟩) hgl).trans hcy
    have HO : Hid (w1.ownsRow w.heap.size 111 1 (.slice (some ⟨g1, 0, none⟩) zs.length zs.length) zs.length (cellsV zs)) := hb1.own hg1 (by unfold maxLen; omega)
    have HDZ : Hid (Dig B32 zs) := hd1
    obtain ⟨L, hL⟩ : ∃ L, L = zs.length := ⟨_, rfl⟩
    rw [← hL] at HO hle1 ⊢
    have HL : Hid (zs.length = L) := hL.symm
    clear hb1 hd1 hL A1
    go_wp2_with fail
    go_loopg [5] (D - L) (fun gk dv wr => ∃ (i Nc : Nat) (pp : Option Addr) (ss : List Nat), i + gk = D ∧ dv = .slice pp i Nc ∧ Hid (wr.ownsRow w.heap.size 111 1 (.slice pp i Nc) i (cellsV ss) ∧ ss.length = i ∧ Dig B32 ss ∧ valB B32 ss = v % B32 ^ D ∧ Below w.heap.size w wr))
    case atStart => exact ⟨L, L, _, zs, by omega, rfl, HO.out, HL.out, HDZ.out, HV.out, hbl⟩
    case round =>
      obtain ⟨i, Nc, pp, ss, hig, rfl, HR⟩ := hrel
      have hbr := HR.out.2.2.2.2
      have hcr : wr.cell? ⟨g, off + D, none⟩ = some (V y) := (hbr.cell (p := ⟨g, off + D, none⟩) hgl).trans hcy
      cases gk with
      | zero =>
        obtain rfl : i = D := by omega
        have hni : ¬ (i : Int) < (i : Int) := by omega
        have HOA : Hid ((wr.drew.alloc (.cells #[V q] 111)).ownsRow w.heap.size 111 1 (.slice pp i Nc) i (cellsV ss)) := by
          have h0 : wr.drew.ownsRow w.heap.size 111 1 (.slice pp i Nc) i (cellsV ss) := HR.out.1
          exact h0.alloc _
        have hsz1 : w.heap.size ≤ (wr.drew.alloc (.cells #[V q] 111)).heap.size := by have := hbr.size; simp; omega
        go_wp2_with fail
        go_region_law (first
          | (refine step_append_ownq rfl (.tmp 29) (.tmp 39) 50 rfl w.heap.size 111 i0 (.int .u32 0) 1 4 Tryz.underlying50 hi hz0 hz1 hz2 rfl (by decide) (.slice pp i Nc) i (cellsV ss) (by simp [Act.eval]) HOA.out ⟨wr.heap.size, 0, none⟩ 1 1 [V q] (by simp [Act.eval]) rfl (one_cell wr.drew q) (by intro u hu; simp at hu; subst hu; rfl) (by unfold maxLen; omega) (by omega) hsz1 ?_; intro v3 w3 hw3 hgr3; obtain ⟨p3, N3, rfl⟩ := own_form hw3; have hl3 : (ss ++ [q]).length = i + 1 := (by simp [HR.out.2.1]); have hd3 : Dig B32 (ss ++ [q]) := HR.out.2.2.1.append (Dig.cons HQB.out (Dig.nil _)); have A3 : Hid (At32 w3 p3 (i + 1) N3 (ss ++ [q])) := own_at32q (by rw [show cellsV (ss ++ [q]) = cellsV ss ++ [V q] from by unfold cellsV; rw [List.map_append]; rfl]; exact hw3) hl3 hd3; have HB3 : Hid (Below w.heap.size w w3) := ((bDrew hbr).alloc hbr.size _).grown hgr3 (by have := hbr.size; simp; omega) (own_base HOA.out); have NF3 : Hid (Nf B32 (trimL (ss ++ [q])) (v % 2 ^ N)) := (by have h1 := Nf.trim hd3; rw [valB_snoc, HR.out.2.1, HR.out.2.2.2.1, ← HQ.out] at h1; exact h1); have hle3 : (trimL (ss ++ [q])).length ≤ i + 1 := (by have h1 := trimL_length_le (ss ++ [q]); omega); clear hw3 hgr3 hl3 hd3)
          | (go_simp; refine (rnorm_any A3.out (by omega)).mono ?_; rintro e w4 ⟨g4, rfl, hg4, hb4, hbl4⟩; have A4 : Hid (At32 w4 (some ⟨g4, 0, none⟩) (trimL (ss ++ [q])).length (trimL (ss ++ [q])).length (trimL (ss ++ [q]))) := hb4.at_ NF3.out.dig rfl (by unfold maxLen; omega); have hbw4 := Below.on HB3.out hbl4; generalize trimL (ss ++ [q]) = z4 at *; clear hb4 hbl4 hg4))
        all_goals
          (go_wp2_with fail
           go_ret
           exact ⟨_, _, z4, rfl, A4.out, NF3.out, by omega, hbw4⟩)
      | succ gg =>
        have hlt : (i : Int) < (D : Int) := by omega
        have hlt2 : i < D := by omega
        have HOA : Hid ((wr.alloc (.cells #[V 0] 111)).ownsRow w.heap.size 111 1 (.slice pp i Nc) i (cellsV ss)) := HR.out.1.alloc _
        have hsz1 : w.heap.size ≤ (wr.alloc (.cells #[V 0] 111)).heap.size := by have := hbr.size; simp; omega
        go_wp2_with (at_builtin; refine wpList_append_own _ rfl (.tmp 26) (.tmp 27) 50 rfl w.heap.size 111 i0 (.int .u32 0) 1 4 Tryz.underlying50 hi hz0 hz1 hz2 rfl (by decide) (.slice pp i Nc) i (cellsV ss) rfl HOA.out ⟨wr.heap.size, 0, none⟩ 1 1 [V 0] rfl rfl (one_cell wr 0) (by intro u hu; simp at hu; subst hu; rfl) (by unfold maxLen; omega) (by omega) hsz1 ?_; intro v3 w3 hw3 hgr3 hnil3)
        obtain ⟨p3, N3, rfl⟩ := own_form hw3
        have HR3 : Hid (w3.ownsRow w.heap.size 111 1 (.slice p3 (i + 1) N3) (i + 1) (cellsV (ss ++ [0])) ∧ (ss ++ [0]).length = i + 1 ∧ Dig B32 (ss ++ [0]) ∧ valB B32 (ss ++ [0]) = v % B32 ^ D ∧ Below w.heap.size w w3) := by
          have hR := HR.out
          refine ⟨?_, by simp [hR.2.1], hR.2.2.1.append (Dig.cons B32_pos (Dig.nil _)), by rw [valB_snoc, Nat.mul_zero, Nat.add_zero]; exact hR.2.2.2.1, ?_⟩
          · have e0 : cellsV (ss ++ [0]) = cellsV ss ++ [V 0] := by unfold cellsV; rw [List.map_append]; rfl
            rw [e0]; exact hw3
          · exact (hR.2.2.2.2.alloc hR.2.2.2.2.size _).grown hgr3 (by have := hR.2.2.2.2.size; simp; omega) (own_base HOA.out)
        clear hw3 hgr3 hnil3
        go_roundg gg
        case measure => omega
        case rel => exact ⟨i + 1, N3, p3, ss ++ [0], by omega, rfl, HR3⟩
structure B5 (W : World) (g : Nat) (v0 v1 v2 v3 v4 : Value) : Prop where
  c0 : W.cell? ⟨g, 0, none⟩ = some v0
  c1 : W.cell? ⟨g, 1, none⟩ = some v1
  c2 : W.cell? ⟨g, 2, none⟩ = some v2
  c3 : W.cell? ⟨g, 3, none⟩ = some v3
  c4 : W.cell? ⟨g, 4, none⟩ = some v4
  f0 : W.frozen? ⟨g, 0, none⟩ = false
  f1 : W.frozen? ⟨g, 1, none⟩ = false
  f2 : W.frozen? ⟨g, 2, none⟩ = false
  f3 : W.frozen? ⟨g, 3, none⟩ = false
  f4 : W.frozen? ⟨g, 4, none⟩ = false
theorem B5.below {W W' : World} {g : Nat} {v0 v1 v2 v3 v4 : Value} (h : B5 W g v0 v1 v2 v3 v4) (hb : Below W.heap.size W W') : B5 W' g v0 v1 v2 v3 v4 := by
  have hl : g < W.heap.size := World.block_lt_of_cell? W _ h.c0
  exact ⟨(hb.cell (p := ⟨g, 0, none⟩) hl).trans h.c0, (hb.cell (p := ⟨g, 1, none⟩) hl).trans h.c1, (hb.cell (p := ⟨g, 2, none⟩) hl).trans h.c2, (hb.cell (p := ⟨g, 3, none⟩) hl).trans h.c3, (hb.cell (p := ⟨g, 4, none⟩) hl).trans h.c4,
    (hb.frozen (p := ⟨g, 0, none⟩) hl).trans h.f0, (hb.frozen (p := ⟨g, 1, none⟩) hl).trans h.f1, (hb.frozen (p := ⟨g, 2, none⟩) hl).trans h.f2, (hb.frozen (p := ⟨g, 3, none⟩) hl).trans h.f3, (hb.frozen (p := ⟨g, 4, none⟩) hl).trans h.f4⟩
theorem B5.new (w : World) (ty : TypeId) (v0 v1 v2 v3 v4 : Value) : B5 (w.alloc (.cells #[v0, v1, v2, v3, v4] ty)) w.heap.size v0 v1 v2 v3 v4 :=
  ⟨by go_simp, by go_simp, by go_simp, by go_simp, by go_simp, by go_simp, by go_simp, by go_simp, by go_simp, by go_simp⟩
theorem DocIs.inj {v : Nat} {us us' : List Nat} {f f' : Int} (h : DocIs v us f) (k : DocIs v us' f') : us = us' ∧ f = f' := by
  rcases h with ⟨h1, h2, rfl⟩ | ⟨h1, rfl, rfl⟩ <;> rcases k with ⟨k1, k2, rfl⟩ | ⟨k1, rfl, rfl⟩
  · exact ⟨h2.inj B64_one k2, rfl⟩
  · omega
  · omega
  · exact ⟨rfl, rfl⟩
theorem DocIs.er {v : Nat} {us : List Nat} {f : Int} (h : DocIs v us f) : f = 0 ∨ f = 5 := by
  rcases h with ⟨_, _, rfl⟩ | ⟨_, _, rfl⟩ <;> simp
structure Op5 where
  k : Int
  pa : Option Addr
  na : Nat
  ca : Nat
  xa : List Nat
  pb : Option Addr
  nb : Nat
  cb : Nat
  xb : List Nat
  nn : Int
  wd : Nat
structure Scr (w : World) (P : Option Addr) (N C : Nat) (its : List Op5) : Prop where
  len : its.length = N
  cap : N ≤ C
  big : C ≤ maxLen
  ats : ∀ t ∈ its, At w t.pa t.na t.ca t.xa ∧ At w t.pb t.nb t.cb t.xb ∧ t.na ≤ 17592186044416 ∧ t.nb ≤ 17592186044416 ∧ t.wd < B64 ∧ -9223372036854775808 ≤ t.nn ∧ t.nn ≤ 9223372036854775807
  cells : N = 0 ∨ ∃ g off, P = some ⟨g, off, none⟩ ∧ ∀ i (h : i < its.length), w.cell? ⟨g, off + i * 5, none⟩ = some (.int .i64 its[i].k) ∧ w.cell? ⟨g, off + i * 5 + 1, none⟩ = some (.slice its[i].pa its[i].na its[i].ca) ∧
    w.cell? ⟨g, off + i * 5 + 2, none⟩ = some (.slice its[i].pb its[i].nb its[i].cb) ∧ w.cell? ⟨g, off + i * 5 + 3, none⟩ = some (.int .i64 its[i].nn) ∧ w.cell? ⟨g, off + i * 5 + 4, none⟩ = some (U its[i].wd)
theorem Scr.below {w w' : World} {P : Option Addr} {N C : Nat} {its : List Op5} (h : Scr w P N C its) (hb : Below w.heap.size w w') : Scr w' P N C its := by
  refine ⟨h.len, h.cap, h.big, fun t ht => ?_, ?_⟩
  · obtain ⟨h1, h2, h3⟩ := h.ats t ht
    exact ⟨h1.below hb, h2.below hb, h3⟩
  · rcases h.cells with h0 | ⟨g, off, hP, hc⟩
    · exact .inl h0
    · refine .inr ⟨g, off, hP, fun i hi => ?_⟩
      obtain ⟨h0, h1, h2, h3, h4⟩ := hc i hi
      have hl : g < w.heap.size := World.block_lt_of_cell? w _ h0
      exact ⟨(hb.cell (p := ⟨g, off + i * 5, none⟩) hl).trans h0, (hb.cell (p := ⟨g, off + i * 5 + 1, none⟩) hl).trans h1, (hb.cell (p := ⟨g, off + i * 5 + 2, none⟩) hl).trans h2,
        (hb.cell (p := ⟨g, off + i * 5 + 3, none⟩) hl).trans h3, (hb.cell (p := ⟨g, off + i * 5 + 4, none⟩) hl).trans h4⟩
def ShIs (r : Nat → Nat → Nat) (xs : List Nat) (t : Int) (us : List Nat) (f : Int) : Prop :=
  (t < 0 ∧ us = [] ∧ f = 1) ∨ (0 ≤ t ∧ formB xs = false ∧ us = [] ∧ f = 2) ∨ (0 ≤ t ∧ formB xs = true ∧ DocIs (r (valB B64 xs) t.toNat) us f)
theorem ShIs.inj {r : Nat → Nat → Nat} {xs : List Nat} {t : Int} {us us' : List Nat} {f f' : Int} (h : ShIs r xs t us f) (k : ShIs r xs t us' f') : us = us' ∧ f = f' := by
  rcases h with ⟨h1, rfl, rfl⟩ | ⟨h1, h2, rfl, rfl⟩ | ⟨h1, h2, h3⟩ <;> rcases k with ⟨k1, rfl, rfl⟩ | ⟨k1, k2, rfl, rfl⟩ | ⟨k1, k2, k3⟩
  · exact ⟨rfl, rfl⟩
  · omega
  · omega
  · omega
  · exact ⟨rfl, rfl⟩
  · rw [k2] at h2; simp at h2
  · omega
  · rw [k2] at h2; simp at h2
  · exact h3.inj k3
theorem ShIs.er {r : Nat → Nat → Nat} {xs us : List Nat} {t f : Int} (h : ShIs r xs t us f) : f = 0 ∨ f = 1 ∨ f = 2 ∨ f = 3 ∨ f = 4 ∨ f = 5 := by
  rcases h with ⟨_, _, rfl⟩ | ⟨_, _, _, rfl⟩ | ⟨_, _, ⟨_, _, rfl⟩ | ⟨_, _, rfl⟩⟩ <;> simp
structure DigRel32 (w : World) (gq gr L n : Nat) (A D : Nat) (k : Nat) (qs rs : List Nat) (wr : World) : Prop where
  bel : ∀ B, B ≤ gq → B ≤ gr → Below B w wr
  rowq : Row32 wr gq 0 L qs
  rowr : Row32 wr gr 0 (L + n) rs
  cell : ∀ b o, b ≠ gq → b ≠ gr → wr.cell? ⟨b, o, none⟩ = w.cell? ⟨b, o, none⟩
  lt : valB B32 (rs.drop (L - k)) < D
  sum : valB B32 rs + B32 ^ (L - k) * valB B32 (qs.drop (L - k)) * D = A

theorem Row32.other {w : World} {g off n : Nat} {xs : List Nat} (h : Row32 w g off n xs) (g2 o2 : Nat) (v : Value) (hne : g ≠ g2) : Row32 (w.setCell ⟨g2, o2, none⟩ v) g off n xs := by
  refine ⟨h.len, h.dig, fun j hj => ?_, fun j hj => by rw [World.frozen?_setCell]; exact h.frozen j hj⟩
  exact (World.cell?_setCell_other _ _ _ _ (by intro e; apply hne; have := congrArg Addr.block e; simp at this; omega)).trans (h.cell j hj)
theorem Row32.wr {w w' : World} {g off n g2 o2 l2 : Nat} {xs : List Nat} (h : Row32 w g off n xs) (hwr : Wr g2 o2 l2 w w') (hne : g ≠ g2) : Row32 w' g off n xs :=
  ⟨h.len, h.dig, fun j hj => (hwr.cell g (off + j) (.inl hne)).trans (h.cell j hj), fun j hj => (hwr.frozen _).trans (h.frozen j hj)⟩
theorem dig_abs32 {P W q r D T Q A : Nat} (hW : q * D + r = W) (h : T + P * W + P * B32 * Q * D = A) : T + P * r + P * (q + B32 * Q) * D = A := by
  subst hW
  have e1 : P * (q + B32 * Q) * D = P * (q * D) + P * B32 * Q * D := by
    rw [Nat.mul_add, Nat.add_mul, Nat.mul_assoc P q D, ← Nat.mul_assoc P B32 Q]
  rw [e1]
  rw [Nat.mul_add] at h
  omega
theorem DigRel32.window {w : World} {gq gr L n A D k : Nat} {qs rs : List Nat} {wr : World} (h : DigRel32 w gq gr L n A D k qs rs wr) (hk : k < L) (hDn : D < B32 ^ n) :
    ∃ a ws, a = L - 1 - k ∧ ws = (rs.drop a).take (n + 1) ∧ Row32 wr gr a (n + 1) ws ∧ valB B32 ws < B32 * D ∧ valB B32 rs = valB B32 (rs.take a) + B32 ^ a * valB B32 ws ∧ valB B32 (rs.drop (a + (n + 1))) = 0 := by
  have hl := h.rowr.len
  obtain ⟨a, ha⟩ : ∃ a, a = L - 1 - k := ⟨_, rfl⟩
  have hlt := h.lt
  rw [show L - k = a + 1 by omega] at hlt
  have hz : valB B32 (rs.drop (a + (n + 1))) = 0 := by
    have hs := valB_split B32 (rs.drop (a + 1)) n (by rw [List.length_drop]; omega)
    rw [List.drop_drop, show a + 1 + n = a + (n + 1) by omega] at hs
    rcases Nat.eq_zero_or_pos (valB B32 (rs.drop (a + (n + 1)))) with e | e
    · exact e
    · exfalso
      have : B32 ^ n * 1 ≤ B32 ^ n * valB B32 (rs.drop (a + (n + 1))) := Nat.mul_le_mul_left _ e
      omega
  have hw := win_take32 rs a (n + 1) (by omega)
  rw [hz, Nat.mul_zero, Nat.add_zero] at hw
  refine ⟨a, _, ha, rfl, h.rowr.win a (n + 1) (by omega), ?_, hw, hz⟩
  have hs := valB_split B32 (rs.drop a) (n + 1) (by rw [List.length_drop]; omega)
  rw [List.drop_drop, hz, Nat.mul_zero, Nat.add_zero] at hs
  rw [← hs, valB_drop B32 rs a (by omega)]
  have hb := h.rowr.dig.getD B32_pos a
  have : B32 * (valB B32 (rs.drop (a + 1)) + 1) ≤ B32 * D := Nat.mul_le_mul_left _ hlt
  rw [Nat.mul_add] at this
  omega
theorem DigRel32.step {w : World} {gq gr L n A D k : Nat} {qs rs : List Nat} {wr wr' : World} (h : DigRel32 w gq gr L n A D k qs rs wr) (hk : k < L) (hne : gq ≠ gr) {a q : Nat} {ws ws' : List Nat} (ha : a = L - 1 - k)
    (hrs : valB B32 rs = valB B32 (rs.take a) + B32 ^ a * valB B32 ws) (hz : valB B32 (rs.drop (a + (n + 1))) = 0) (hD : 0 < D) (hq : q = valB B32 ws / D) (hqb : q < B32) (hr : valB B32 ws' = valB B32 ws % D)
    (hwr : Wr gr a (n + 1) wr wr') (hrow : Row32 wr' gr a (n + 1) ws') : DigRel32 w gq gr L n A D (k + 1) (qs.set a q) (winPut rs ws' a) (wr'.setCell ⟨gq, a, none⟩ (V q)) := by
  have hl := h.rowr.len; have hql := h.rowq.len; have hwl := hrow.len
  have hle : a + ws'.length ≤ rs.length := by omega
  have e1 : L - (k + 1) = a := by omega
  have e2 : L - k = a + 1 := by omega
  have hdrop : valB B32 ((winPut rs ws' a).drop a) = valB B32 ws % D := by
    rw [winPut_drop rs ws' a hle, valB_append, hwl, hz, Nat.mul_zero, Nat.add_zero, hr]
  refine ⟨fun B h1 h2 => ?_, ?_, ?_, fun b o h1 h2 => ?_, ?_, ?_⟩
  · exact ((h.bel B h1 h2).trans (hwr.below h2)).trans ((Wr.refl gq 0 L wr').setCell a ⟨by omega, by omega⟩ (V q) |>.below h1)
  · have := (h.rowq.wr hwr hne).set a q (by omega) hqb
    rw [Nat.zero_add] at this; exact this
  · exact (h.rowr.put hwr hrow (by omega)).other gq a _ (Ne.symm hne)
  · rw [World.cell?_setCell_other _ _ _ _ (by intro e; apply h1; have := congrArg Addr.block e; simp at this; omega), hwr.cell b o (.inl h2)]
    exact h.cell b o h1 h2
  · rw [e1, hdrop]; exact Nat.mod_lt _ hD
  · have hs := h.sum
    rw [e2, hrs, Nat.pow_succ] at hs
    rw [e1, valB_split B32 (winPut rs ws' a) a (by rw [winPut_len rs ws' a hle]; omega), winPut_take rs ws' a hle, hdrop, drop_set_at qs a q (by omega), valB_cons]
    refine dig_abs32 (W := valB B32 ws) (q := q) ?_ hs
    rw [hq, Nat.mul_comm]; exact Nat.div_add_mod _ _

theorem Row32.below2 {w w' : World} {g off n B : Nat} {xs : List Nat} (h : Row32 w g off n xs) (hb : Below B w w') (hg : g < B) : Row32 w' g off n xs :=
  ⟨h.len, h.dig, fun j hj => (hb.cell (p := ⟨g, off + j, none⟩) hg).trans (h.cell j hj), fun j hj => (hb.frozen (p := ⟨g, off + j, none⟩) hg).trans (h.frozen j hj)⟩
theorem rof04 (z : Int) (w : World) (h0 : -9223372036854775808 ≤ z) (h1 : z ≤ 9223372036854775807) :
    Calls Tryz.prog 25 #[.int .i64 z] w fun e w' => ∃ s g m, e = .returned (.agg #[.bool s, .slice (some ⟨g, 0, none⟩) m m]) ∧ ZR w' s (some ⟨g, 0, none⟩) m z ∧ m ≤ 3 ∧ Below w.heap.size w w' :=
  (rof_any z w h0 h1).mono fun _ _ ⟨g, m, zs, he, hA, hN, hl, hb⟩ => ⟨_, g, m, he, ⟨⟨zs, hA, hN⟩, rfl⟩, hl, hb⟩
structure B6q (W : World) (g : Nat) (v0 v1 v2 v3 v4 v5 : Value) : Prop where
  c0 : W.cell? ⟨g, 0, none⟩ = some v0
  c1 : W.cell? ⟨g, 1, none⟩ = some v1
  c2 : W.cell? ⟨g, 2, none⟩ = some v2
  c3 : W.cell? ⟨g, 3, none⟩ = some v3
  c4 : W.cell? ⟨g, 4, none⟩ = some v4
  c5 : W.cell? ⟨g, 5, none⟩ = some v5
  f0 : W.frozen? ⟨g, 0, none⟩ = false
  f1 : W.frozen? ⟨g, 1, none⟩ = false
  f2 : W.frozen? ⟨g, 2, none⟩ = false
  f3 : W.frozen? ⟨g, 3, none⟩ = false
  f4 : W.frozen? ⟨g, 4, none⟩ = false
  f5 : W.frozen? ⟨g, 5, none⟩ = false
theorem B6q.below {W W' : World} {g : Nat} {v0 v1 v2 v3 v4 v5 : Value} (h : B6q W g v0 v1 v2 v3 v4 v5) (hb : Below W.heap.size W W') : B6q W' g v0 v1 v2 v3 v4 v5 := by
  have hl : g < W.heap.size := World.block_lt_of_cell? W _ h.c0
  exact ⟨(hb.cell (p := ⟨g, 0, none⟩) hl).trans h.c0, (hb.cell (p := ⟨g, 1, none⟩) hl).trans h.c1, (hb.cell (p := ⟨g, 2, none⟩) hl).trans h.c2, (hb.cell (p := ⟨g, 3, none⟩) hl).trans h.c3, (hb.cell (p := ⟨g, 4, none⟩) hl).trans h.c4, (hb.cell (p := ⟨g, 5, none⟩) hl).trans h.c5, (hb.frozen (p := ⟨g, 0, none⟩) hl).trans h.f0, (hb.frozen (p := ⟨g, 1, none⟩) hl).trans h.f1, (hb.frozen (p := ⟨g, 2, none⟩) hl).trans h.f2, (hb.frozen (p := ⟨g, 3, none⟩) hl).trans h.f3, (hb.frozen (p := ⟨g, 4, none⟩) hl).trans h.f4, (hb.frozen (p := ⟨g, 5, none⟩) hl).trans h.f5⟩
theorem B6q.new (w : World) (ty : TypeId) (v0 v1 v2 v3 v4 v5 : Value) : B6q (w.alloc (.cells #[v0, v1, v2, v3, v4, v5] ty)) w.heap.size v0 v1 v2 v3 v4 v5 := ⟨by go_simp, by go_simp, by go_simp, by go_simp, by go_simp, by go_simp, by go_simp, by go_simp, by go_simp, by go_simp, by go_simp, by go_simp⟩
theorem B6q.lt {w : World} {g : Nat} {a b c d e f : Value} (h : B6q w g a b c d e f) : g < w.heap.size := World.block_lt_of_cell? w _ h.c0
def Off (p : Option Addr) (m g : Nat) : Prop := m = 0 ∨ ∃ g' off, p = some ⟨g', off, none⟩ ∧ g' ≠ g
theorem At.off_new {w : World} {p : Option Addr} {m c : Nat} {us : List Nat} (h : At w p m c us) : Off p m w.heap.size := by
  rcases Nat.eq_zero_or_pos m with e | e
  · exact .inl e
  · rcases h.cells with h0 | ⟨g, off, rfl, hc⟩
    · exact .inl h0
    · have := World.block_lt_of_cell? w _ (hc 0 e)
      exact .inr ⟨g, off, rfl, Nat.ne_of_lt this⟩
theorem NewAt.off {B : Nat} {w : World} {p : Option Addr} {m c : Nat} {us : List Nat} (h : NewAt B w p m c us) {g : Nat} (hg : g < B) : Off p m g :=
  h.2.imp id fun ⟨g', e, k⟩ => ⟨g', 0, e, by omega⟩
theorem At.setOff {w : World} {p : Option Addr} {m c : Nat} {us : List Nat} (h : At w p m c us) {g : Nat} (hf : Off p m g) (o : Nat) (v : Value) : At (w.setCell ⟨g, o, none⟩ v) p m c us := by
  rcases hf with h0 | ⟨g', off, rfl, hg⟩
  · subst h0
    obtain rfl : us = [] := List.eq_nil_of_length_eq_zero h.len
    exact At.empty _ _ _ h.big
  · exact h.setOther _ _ _ hg
def rFs (x : Int) (k : Nat) : Int := fl (decide (x < 0)) x.natAbs (2 ^ k)
def rCs (x : Int) (k : Nat) : Int := ce (decide (x < 0)) x.natAbs (2 ^ k)
def ShiftZ (r : Int → Nat → Int) (sx : Bool) (xs : List Nat) (n : Int) (s : Bool) (us : List Nat) (er : Int) : Prop :=
  (n < 0 ∧ s = false ∧ us = [] ∧ er = 1) ∨ (0 ≤ n ∧ formZ sx xs = false ∧ s = false ∧ us = [] ∧ er = 2) ∨ (0 ≤ n ∧ formZ sx xs = true ∧ DocZ (r (iv sx (valB B64 xs)) n.toNat) s us er)
theorem ShiftZ.inj {r : Int → Nat → Int} {sx : Bool} {xs : List Nat} {n : Int} {s s' : Bool} {us us' : List Nat} {er er' : Int} (h : ShiftZ r sx xs n s us er) (k : ShiftZ r sx xs n s' us' er') : s = s' ∧ us = us' ∧ er = er' := by
  rcases h with ⟨h0, rfl, rfl, rfl⟩ | ⟨h0, h1, rfl, rfl, rfl⟩ | ⟨h0, h1, h2⟩ <;> rcases k with ⟨k0, rfl, rfl, rfl⟩ | ⟨k0, k1, rfl, rfl, rfl⟩ | ⟨k0, k1, k2⟩
  · exact ⟨rfl, rfl, rfl⟩
  · omega
  · omega
  · omega
  · exact ⟨rfl, rfl, rfl⟩
  · rw [h1] at k1; cases k1
  · omega
  · rw [h1] at k1; cases k1
  · exact h2.inj k2
def DivZ (r : Int → Int → Int) (sx : Bool) (xs : List Nat) (sy : Bool) (ys : List Nat) (s : Bool) (us : List Nat) (er : Int) : Prop :=
  ((formZ sx xs && formZ sy ys) = false ∧ s = false ∧ us = [] ∧ er = 2) ∨ ((formZ sx xs && formZ sy ys) = true ∧ iv sy (valB B64 ys) = 0 ∧ s = false ∧ us = [] ∧ er = 4) ∨ ((formZ sx xs && formZ sy ys) = true ∧ iv sy (valB B64 ys) ≠ 0 ∧ DocZ (r (iv sx (valB B64 xs)) (iv sy (valB B64 ys))) s us er)
theorem DivZ.inj {r : Int → Int → Int} {sx sy : Bool} {xs ys : List Nat} {s s' : Bool} {us us' : List Nat} {er er' : Int} (h : DivZ r sx xs sy ys s us er) (k : DivZ r sx xs sy ys s' us' er') : s = s' ∧ us = us' ∧ er = er' := by
  rcases h with ⟨h0, rfl, rfl, rfl⟩ | ⟨h0, h1, rfl, rfl, rfl⟩ | ⟨h0, h1, h2⟩ <;> rcases k with ⟨k0, rfl, rfl, rfl⟩ | ⟨k0, k1, rfl, rfl, rfl⟩ | ⟨k0, k1, k2⟩
  · exact ⟨rfl, rfl, rfl⟩
  · rw [h0] at k0; cases k0
  · rw [h0] at k0; cases k0
  · rw [h0] at k0; cases k0
  · exact ⟨rfl, rfl, rfl⟩
  · exact absurd h1 k1
  · rw [h0] at k0; cases k0
  · exact absurd k1 h1
  · exact h2.inj k2
end Go.Proofs.YtmolnhpfmgmfgaaGreatDoor
