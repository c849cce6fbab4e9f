import Derived.Test.YtidggnjnlhjhlaaGreatDoorJ11
import Derived.Test.YtidggnjnlhjhlaaGreatDoorJ9
import Derived.Test.YtidggnjnlhjhlaaGreatDoorJ10
import Derived.Test.YtidggnjnlhjhlaaGreatDoorJ8
import Derived.BigQuiet
namespace Go.Proofs.YtidggnjnlhjhlaaGreatDoor
open Go.RowKit Go.Shelf
set_option maxRecDepth 20000
set_option maxHeartbeats 0
theorem iv_sums {s t : Bool} {x y : Int} (h1 : s = decide (x < 0)) (h2 : t = decide (y < 0)) (h3 : s = t) : iv s (x.natAbs + y.natAbs) = x + y := by
  rw [h3] at h1 ⊢
  cases t
  · have a := of_decide_eq_false h1.symm; have b := of_decide_eq_false h2.symm; rw [iv_f]; omega
  · have a := of_decide_eq_true h1.symm; have b := of_decide_eq_true h2.symm; rw [iv_t]; omega
theorem iv_sumg {s t : Bool} {x y : Int} (h1 : s = decide (x < 0)) (h2 : t = decide (y < 0)) (h3 : s ≠ t) (h4 : y.natAbs ≤ x.natAbs) : iv s (x.natAbs - y.natAbs) = x + y := by
  cases s <;> cases t
  · exact absurd rfl h3
  · have a := of_decide_eq_false h1.symm; have b := of_decide_eq_true h2.symm; rw [iv_f]; omega
  · have a := of_decide_eq_true h1.symm; have b := of_decide_eq_false h2.symm; rw [iv_t]; omega
  · exact absurd rfl h3
theorem iv_suml {s t : Bool} {x y : Int} (h1 : s = decide (x < 0)) (h2 : t = decide (y < 0)) (h3 : s ≠ t) (h4 : x.natAbs < y.natAbs) : iv t (y.natAbs - x.natAbs) = x + y := by
  cases s <;> cases t
  · exact absurd rfl h3
  · have a := of_decide_eq_false h1.symm; have b := of_decide_eq_true h2.symm; rw [iv_t]; omega
  · have a := of_decide_eq_true h1.symm; have b := of_decide_eq_false h2.symm; rw [iv_f]; omega
  · exact absurd rfl h3
theorem sum_len32 {xs ys zs : List Nat} {a b m n : Nat} (hx : Nf B32 xs a) (hy : Nf B32 ys b) (lx : xs.length = m) (ly : ys.length = n) (hz : Nf B32 zs (a + b)) : zs.length ≤ max m n + 1 := by
  refine (hz.len_le B32_one).2 ?_
  have h1 := (hx.len_le B32_one (k := max m n)).1 (by omega)
  have h2 := (hy.len_le B32_one (k := max m n)).1 (by omega)
  rw [Nat.pow_succ]
  have : B32 ^ (max m n) * 2 ≤ B32 ^ (max m n) * B32 := Nat.mul_le_mul_left _ (by rw [B32_eq]; omega)
  omega
theorem radd04_s {p q : Option Addr} {m n : Nat} {w : World} {x y : Int} (s t : Bool) (h : ZR w s p m x) (k : ZR w t q n y) (hm : m ≤ 50000) (hn : n ≤ 50000) (hst : s = t) :
    Calls Tryz.prog 93 #[.agg #[.bool s, .slice p m m], .agg #[.bool t, .slice q n n]] w fun e w' => ∃ v, e = .returned v ∧ GotR w.heap.size w' v (x + y) (max m n + 1) ∧ Below w.heap.size w w' := by
  have HA : Hid (ZR w s p m x) := h
  have HB : Hid (ZR w t q n y) := k
  have HM : Hid (m ≤ 50000 ∧ n ≤ 50000) := ⟨hm, hn⟩
  clear h k hm hn
  have hse : (s == t) = true := by simpa using hst
  have HST : Hid (s = t) := hst
  clear hst
  go_enter Tryz.func93, Tryz.ntmps93
  go_wp2_with fail
  obtain ⟨W0, hW0⟩ : ∃ W0, W0 = (((w.alloc (.cells #[.bool s, .slice p m m] 87)).alloc (.cells #[.bool t, .slice q n n] 87)).alloc (.cells #[.bool false, .slice none 0 0] 87)) := ⟨_, rfl⟩
  have Xa : Hid (Box W0 (w.heap.size) (.bool s) (.slice p m m)) := by rw [hW0]; exact ⟨by go_simp, by go_simp, by go_simp, by go_simp⟩
  have Xb : Hid (Box W0 (w.heap.size + 1) (.bool t) (.slice q n n)) := by rw [hW0]; exact ⟨by go_simp, by go_simp, by go_simp, by go_simp⟩
  have Xr : Hid (Box W0 (w.heap.size + 1 + 1) (.bool false) (.slice none 0 0)) := by rw [hW0]; exact ⟨by go_simp, by go_simp, by go_simp, by go_simp⟩
  have hb0 : Below w.heap.size w W0 := by rw [hW0]; exact below3 w _ _ _
  rw [← hW0]
  clear hW0
  have hbw : Below w.heap.size w w := Below.refl _ _
  obtain ⟨gr, hgr⟩ : ∃ g, g = w.heap.size + 1 + 1 := ⟨_, rfl⟩
  have HGr : Hid (w.heap.size ≤ gr) := by rw [hgr]; show _ ≤ _; omega
  rw [← hgr] at Xr
  try rw [← hgr]
  obtain ⟨gb, hgb⟩ : ∃ g, g = w.heap.size + 1 := ⟨_, rfl⟩
  have HGb : Hid (w.heap.size ≤ gb) := by rw [hgb]; show _ ≤ _; omega
  rw [← hgb] at Xb
  try rw [← hgb]
  obtain ⟨ga, hga⟩ : ∃ g, g = w.heap.size := ⟨_, rfl⟩
  have HGa : Hid (w.heap.size ≤ ga) := by rw [hga]; show _ ≤ _; omega
  rw [← hga] at Xa
  try rw [← hga]
  have HGD : Hid (ga ≠ gb ∧ ga ≠ gr ∧ gb ≠ ga ∧ gb ≠ gr ∧ gr ≠ ga ∧ gr ≠ gb) := by rw [hga, hgb, hgr]; exact ⟨by omega, by omega, by omega, by omega, by omega, by omega⟩
  clear hga hgb hgr
  replace HA : Hid _ := HA.out.below hb0
  replace HB : Hid _ := HB.out.below hb0
  replace hbw := Below.on hbw hb0
  clear hb0
  obtain ⟨xs, hAx, hNx⟩ := HA.out.ex
  obtain ⟨ys, hAy, hNy⟩ := HB.out.ex
  have HNX : Hid (Nf B32 xs x.natAbs ∧ Nf B32 ys y.natAbs) := ⟨hNx, hNy⟩
  clear hNx hNy
  have AX : Hid (At32 W0 p m m xs) := hAx
  have AY : Hid (At32 W0 q n n ys) := hAy
  clear hAx hAy
  have HZV : Hid (iv s (x.natAbs + y.natAbs) = x + y) := by have h1 := HA.out.sg; have h2 := HB.out.sg; have h3 := HST.out; exact iv_sums h1 h2 h3
  obtain ⟨W1, hW1⟩ : ∃ W1, W1 = W0.drew := ⟨_, rfl⟩
  have hbd : Below W0.heap.size W0 W1 := by rw [hW1]; exact bDrew1 (Below.refl _ _)
  replace Xa : Hid _ := Xa.out.below hbd
  replace Xb : Hid _ := Xb.out.below hbd
  replace Xr : Hid _ := Xr.out.below hbd
  replace HA : Hid _ := HA.out.below hbd
  replace HB : Hid _ := HB.out.below hbd
  replace AX : Hid _ := AX.out.below hbd
  replace AY : Hid _ := AY.out.below hbd
  replace hbw := Below.on hbw hbd
  clear hbd
  have HJ : Hid ((fun W' : World => W'.cell? ⟨ga, 0, none⟩ = some (.bool s) ∧ W'.cell? ⟨ga, 1, none⟩ = some (.slice p m m) ∧ W'.cell? ⟨gb, 0, none⟩ = some (.bool t) ∧ W'.cell? ⟨gb, 1, none⟩ = some (.slice q n n)) W1) := ⟨Xa.out.c0, Xa.out.c1, Xb.out.c0, Xb.out.c1⟩
  refine wp_region_J (fun W' => W'.cell? ⟨ga, 0, none⟩ = some (.bool s) ∧ W'.cell? ⟨ga, 1, none⟩ = some (.slice p m m) ∧ W'.cell? ⟨gb, 0, none⟩ = some (.bool t) ∧ W'.cell? ⟨gb, 1, none⟩ = some (.slice q n n)) (by kernel_rfl) ?_
  rw [← hW1]
  clear hW1
  refine wpJ_tq 0 rfl HJ.out ?_
  refine wpJ_tq 1 rfl HJ.out ?_
  refine wpJ_tq 2 rfl HJ.out ?_
  refine wpJ_tq 3 rfl HJ.out ?_
  refine wpJ_tq 4 rfl HJ.out ?_
  refine wpJ_tq 5 rfl HJ.out ?_
  refine wpJ_on 6 rfl fun KJ hK => ?_
  go_simp
  refine (radd_any AX.out AY.out HNX.out.1 HNX.out.2 (by have := HM.out; omega) (by have := HM.out; omega)).mono ?_
  rintro e w2 ⟨p2, m2, z2, rfl, hA2, hN2, hb2⟩
  have hl2 : m2 ≤ max m n + 1 := by rw [← hA2.len]; exact sum_len32 HNX.out.1 HNX.out.2 AX.out.len AY.out.len hN2
  replace Xa : Hid _ := Xa.out.below hb2
  replace Xb : Hid _ := Xb.out.below hb2
  replace Xr : Hid _ := Xr.out.below hb2
  replace HA : Hid _ := HA.out.below hb2
  replace HB : Hid _ := HB.out.below hb2
  replace AX : Hid _ := AX.out.below hb2
  replace AY : Hid _ := AY.out.below hb2
  replace hbw := Below.on hbw hb2
  clear hb2
  have A2 : Hid (At32 w2 p2 m2 m2 z2) := hA2
  have N2 : Hid (Nf B32 z2 (x.natAbs + y.natAbs)) := hN2
  have HLL : Hid (m2 ≤ max m n + 1) := hl2
  have HRL : Hid (gr < w2.heap.size) := Xr.out.lt
  have HBS : Hid (w.heap.size ≤ w2.heap.size) := hbw.size
  clear hA2 hN2 hl2
  refine hK _ _ ⟨Xa.out.c0, Xa.out.c1, Xb.out.c0, Xb.out.c1⟩ ?_
  clear hK
  refine wpJ_on 7 rfl fun KJ hK => ?_
  go_simp
  refine (rmk_any s A2.out N2.out (by have := HLL.out; have := HM.out; omega)).mono ?_
  rintro e w3 ⟨v, rfl, hv, hb3⟩
  rw [HZV.out] at hv
  replace Xa : Hid _ := Xa.out.below hb3
  replace Xb : Hid _ := Xb.out.below hb3
  replace Xr : Hid _ := Xr.out.below hb3
  replace HA : Hid _ := HA.out.below hb3
  replace HB : Hid _ := HB.out.below hb3
  replace AX : Hid _ := AX.out.below hb3
  replace AY : Hid _ := AY.out.below hb3
  replace A2 : Hid _ := A2.out.below hb3
  replace hbw := Below.on hbw hb3
  clear hb3
  obtain ⟨s9, g9, m9, rfl, hg9, hz9, hl9⟩ := hv
  have ZA : Hid (ZR w3 s9 (some ⟨g9, 0, none⟩) m9 (x + y)) := hz9
  have HL : Hid (m9 ≤ max m n + 1) := by have := hl9; have := HLL.out; show m9 ≤ _; omega
  have HGE : Hid (gr < g9) := Nat.lt_of_lt_of_le HRL.out hg9
  have HGB : Hid (w.heap.size ≤ g9) := Nat.le_trans HBS.out hg9
  clear hg9 hz9 hl9
  refine hK _ _ ⟨Xa.out.c0, Xa.out.c1, Xb.out.c0, Xb.out.c1⟩ ?_
  clear hK
  obtain ⟨cr0, cr1, fr0, fr1⟩ := Xr.out
  have hner := Xr.out.lt
  obtain ⟨ca0, ca1, fa0, fa1⟩ := Xa.out
  have hnea := Xa.out.lt
  obtain ⟨cb0, cb1, fb0, fb1⟩ := Xb.out
  have hneb := Xb.out.lt
  obtain ⟨hgd0, hgd1, hgd2, hgd3, hgd4, hgd5⟩ := HGD.out
  refine wpJ_on 8 rfl fun KJ hK => ?_
  go_simp
  have HJ2 : Hid ((fun W' : World => W'.cell? ⟨ga, 0, none⟩ = some (.bool s) ∧ W'.cell? ⟨ga, 1, none⟩ = some (.slice p m m) ∧ W'.cell? ⟨gb, 0, none⟩ = some (.bool t) ∧ W'.cell? ⟨gb, 1, none⟩ = some (.slice q n n)) ((w3.setCell ⟨gr, 0, none⟩ (.bool s9)).setCell ⟨gr, 1, none⟩ (.slice (some ⟨g9, 0, none⟩) m9 m9))) := ⟨by go_simp, by go_simp, by go_simp, by go_simp⟩
  refine hK _ _ HJ2.out ?_
  clear hK HJ
  have HJ := HJ2
  clear HJ2
  refine wpJ_done (by kernel_rfl) ?_ _
  clear HJ
  go_wp2_with fail
  refine bodyPost_ret (v := .agg #[.bool s9, .slice (some ⟨g9, 0, none⟩) m9 m9]) (by rw [results_cell1 rfl]; go_simp) rfl ⟨_, rfl, ⟨s9, g9, m9, rfl, HGB.out, ?_, HL.out⟩, ?_⟩
  · have := HGE.out
    exact (ZA.out.set _ _ _ (by omega)).set _ _ _ (by omega)
  · exact bSet (bSet hbw _ _ _ HGr.out) _ _ _ HGr.out
theorem radd04_g {p q : Option Addr} {m n : Nat} {w : World} {x y : Int} (s t : Bool) (h : ZR w s p m x) (k : ZR w t q n y) (hm : m ≤ 50000) (hn : n ≤ 50000) (hst : s ≠ t) (hcm : y.natAbs ≤ x.natAbs) :
    Calls Tryz.prog 93 #[.agg #[.bool s, .slice p m m], .agg #[.bool t, .slice q n n]] w fun e w' => ∃ v, e = .returned v ∧ GotR w.heap.size w' v (x + y) (max m n + 1) ∧ Below w.heap.size w w' := by
  have HA : Hid (ZR w s p m x) := h
  have HB : Hid (ZR w t q n y) := k
  have HM : Hid (m ≤ 50000 ∧ n ≤ 50000) := ⟨hm, hn⟩
  clear h k hm hn
  have hse : (s == t) = false := by simpa using hst
  have HST : Hid (s ≠ t) := hst
  have HCM : Hid (y.natAbs ≤ x.natAbs) := hcm
  clear hst hcm
  go_enter Tryz.func93, Tryz.ntmps93
  go_wp2_with fail
  obtain ⟨W0, hW0⟩ : ∃ W0, W0 = (((w.alloc (.cells #[.bool s, .slice p m m] 87)).alloc (.cells #[.bool t, .slice q n n] 87)).alloc (.cells #[.bool false, .slice none 0 0] 87)) := ⟨_, rfl⟩
  have Xa : Hid (Box W0 (w.heap.size) (.bool s) (.slice p m m)) := by rw [hW0]; exact ⟨by go_simp, by go_simp, by go_simp, by go_simp⟩
  have Xb : Hid (Box W0 (w.heap.size + 1) (.bool t) (.slice q n n)) := by rw [hW0]; exact ⟨by go_simp, by go_simp, by go_simp, by go_simp⟩
  have Xr : Hid (Box W0 (w.heap.size + 1 + 1) (.bool false) (.slice none 0 0)) := by rw [hW0]; exact ⟨by go_simp, by go_simp, by go_simp, by go_simp⟩
  have hb0 : Below w.heap.size w W0 := by rw [hW0]; exact below3 w _ _ _
  rw [← hW0]
  clear hW0
  have hbw : Below w.heap.size w w := Below.refl _ _
  obtain ⟨gr, hgr⟩ : ∃ g, g = w.heap.size + 1 + 1 := ⟨_, rfl⟩
  have HGr : Hid (w.heap.size ≤ gr) := by rw [hgr]; show _ ≤ _; omega
  rw [← hgr] at Xr
  try rw [← hgr]
  obtain ⟨gb, hgb⟩ : ∃ g, g = w.heap.size + 1 := ⟨_, rfl⟩
  have HGb : Hid (w.heap.size ≤ gb) := by rw [hgb]; show _ ≤ _; omega
  rw [← hgb] at Xb
  try rw [← hgb]
  obtain ⟨ga, hga⟩ : ∃ g, g = w.heap.size := ⟨_, rfl⟩
  have HGa : Hid (w.heap.size ≤ ga) := by rw [hga]; show _ ≤ _; omega
  rw [← hga] at Xa
  try rw [← hga]
  have HGD : Hid (ga ≠ gb ∧ ga ≠ gr ∧ gb ≠ ga ∧ gb ≠ gr ∧ gr ≠ ga ∧ gr ≠ gb) := by rw [hga, hgb, hgr]; exact ⟨by omega, by omega, by omega, by omega, by omega, by omega⟩
  clear hga hgb hgr
  replace HA : Hid _ := HA.out.below hb0
  replace HB : Hid _ := HB.out.below hb0
  replace hbw := Below.on hbw hb0
  clear hb0
  obtain ⟨xs, hAx, hNx⟩ := HA.out.ex
  obtain ⟨ys, hAy, hNy⟩ := HB.out.ex
  have HNX : Hid (Nf B32 xs x.natAbs ∧ Nf B32 ys y.natAbs) := ⟨hNx, hNy⟩
  clear hNx hNy
  have AX : Hid (At32 W0 p m m xs) := hAx
  have AY : Hid (At32 W0 q n n ys) := hAy
  clear hAx hAy
  have HZV : Hid (iv s (x.natAbs - y.natAbs) = x + y) := by have h1 := HA.out.sg; have h2 := HB.out.sg; have h3 := HST.out; exact iv_sumg h1 h2 h3 HCM.out
  obtain ⟨cm, hcm⟩ : ∃ cm, cm = cmpN x.natAbs y.natAbs := ⟨_, rfl⟩
  have HCQ : Hid (cm = cmpN x.natAbs y.natAbs) := hcm
  have hcc : decide (0 ≤ cm) = true := decide_eq_true (by rw [hcm]; have := HCM.out; unfold cmpN; split <;> (try split) <;> omega)
  clear hcm
  refine (rcmp_any AX.out AY.out HNX.out.1 HNX.out.2).mono ?_
  rintro e w9 ⟨rfl, rd, rfl⟩
  rw [← HCQ.out]
  have hbr := bDrewN (Below.refl W0.heap.size W0) rd
  generalize W0.drewN rd = W9 at *
  replace Xa : Hid _ := Xa.out.below hbr
  replace Xb : Hid _ := Xb.out.below hbr
  replace Xr : Hid _ := Xr.out.below hbr
  replace HA : Hid _ := HA.out.below hbr
  replace HB : Hid _ := HB.out.below hbr
  replace AX : Hid _ := AX.out.below hbr
  replace AY : Hid _ := AY.out.below hbr
  replace hbw := Below.on hbw hbr
  clear hbr
  obtain ⟨ca0, ca1, fa0, fa1⟩ := Xa.out
  have hnea := Xa.out.lt
  obtain ⟨cb0, cb1, fb0, fb1⟩ := Xb.out
  have hneb := Xb.out.lt
  go_wp2_with fail
  clear ca0 ca1 fa0 fa1 hnea
  clear cb0 cb1 fb0 fb1 hneb
  clear hcc
  obtain ⟨W1, hW1⟩ : ∃ W1, W1 = W9.drew := ⟨_, rfl⟩
  have hbd : Below W9.heap.size W9 W1 := by rw [hW1]; exact bDrew1 (Below.refl _ _)
  replace Xa : Hid _ := Xa.out.below hbd
  replace Xb : Hid _ := Xb.out.below hbd
  replace Xr : Hid _ := Xr.out.below hbd
  replace HA : Hid _ := HA.out.below hbd
  replace HB : Hid _ := HB.out.below hbd
  replace AX : Hid _ := AX.out.below hbd
  replace AY : Hid _ := AY.out.below hbd
  replace hbw := Below.on hbw hbd
  clear hbd
  have HJ : Hid ((fun W' : World => W'.cell? ⟨ga, 0, none⟩ = some (.bool s) ∧ W'.cell? ⟨ga, 1, none⟩ = some (.slice p m m) ∧ W'.cell? ⟨gb, 0, none⟩ = some (.bool t) ∧ W'.cell? ⟨gb, 1, none⟩ = some (.slice q n n)) W1) := ⟨Xa.out.c0, Xa.out.c1, Xb.out.c0, Xb.out.c1⟩
  refine wp_region_J (fun W' => W'.cell? ⟨ga, 0, none⟩ = some (.bool s) ∧ W'.cell? ⟨ga, 1, none⟩ = some (.slice p m m) ∧ W'.cell? ⟨gb, 0, none⟩ = some (.bool t) ∧ W'.cell? ⟨gb, 1, none⟩ = some (.slice q n n)) (by kernel_rfl) ?_
  rw [← hW1]
  clear hW1
  refine wpJ_tq 0 rfl HJ.out ?_
  refine wpJ_tq 1 rfl HJ.out ?_
  refine wpJ_tq 2 rfl HJ.out ?_
  refine wpJ_tq 3 rfl HJ.out ?_
  refine wpJ_tq 4 rfl HJ.out ?_
  refine wpJ_tq 5 rfl HJ.out ?_
  refine wpJ_on 6 rfl fun KJ hK => ?_
  go_simp
  refine (rsub_any AX.out AY.out HNX.out.1 HNX.out.2 (by have := HM.out; omega) HCM.out).mono ?_
  rintro e w2 ⟨p2, m2, z2, rfl, hA2, hN2, hl2q, hb2⟩
  have hl2 : m2 ≤ max m n + 1 := by omega
  clear hl2q
  replace Xa : Hid _ := Xa.out.below hb2
  replace Xb : Hid _ := Xb.out.below hb2
  replace Xr : Hid _ := Xr.out.below hb2
  replace HA : Hid _ := HA.out.below hb2
  replace HB : Hid _ := HB.out.below hb2
  replace AX : Hid _ := AX.out.below hb2
  replace AY : Hid _ := AY.out.below hb2
  replace hbw := Below.on hbw hb2
  clear hb2
  have A2 : Hid (At32 w2 p2 m2 m2 z2) := hA2
  have N2 : Hid (Nf B32 z2 (x.natAbs - y.natAbs)) := hN2
  have HLL : Hid (m2 ≤ max m n + 1) := hl2
  have HRL : Hid (gr < w2.heap.size) := Xr.out.lt
  have HBS : Hid (w.heap.size ≤ w2.heap.size) := hbw.size
  clear hA2 hN2 hl2
  refine hK _ _ ⟨Xa.out.c0, Xa.out.c1, Xb.out.c0, Xb.out.c1⟩ ?_
  clear hK
  refine wpJ_on 7 rfl fun KJ hK => ?_
  go_simp
  refine (rmk_any s A2.out N2.out (by have := HLL.out; have := HM.out; omega)).mono ?_
  rintro e w3 ⟨v, rfl, hv, hb3⟩
  rw [HZV.out] at hv
  replace Xa : Hid _ := Xa.out.below hb3
  replace Xb : Hid _ := Xb.out.below hb3
  replace Xr : Hid _ := Xr.out.below hb3
  replace HA : Hid _ := HA.out.below hb3
  replace HB : Hid _ := HB.out.below hb3
  replace AX : Hid _ := AX.out.below hb3
  replace AY : Hid _ := AY.out.below hb3
  replace A2 : Hid _ := A2.out.below hb3
  replace hbw := Below.on hbw hb3
  clear hb3
  obtain ⟨s9, g9, m9, rfl, hg9, hz9, hl9⟩ := hv
  have ZA : Hid (ZR w3 s9 (some ⟨g9, 0, none⟩) m9 (x + y)) := hz9
  have HL : Hid (m9 ≤ max m n + 1) := by have := hl9; have := HLL.out; show m9 ≤ _; omega
  have HGE : Hid (gr < g9) := Nat.lt_of_lt_of_le HRL.out hg9
  have HGB : Hid (w.heap.size ≤ g9) := Nat.le_trans HBS.out hg9
  clear hg9 hz9 hl9
  refine hK _ _ ⟨Xa.out.c0, Xa.out.c1, Xb.out.c0, Xb.out.c1⟩ ?_
  clear hK
  obtain ⟨cr0, cr1, fr0, fr1⟩ := Xr.out
  have hner := Xr.out.lt
  obtain ⟨ca0, ca1, fa0, fa1⟩ := Xa.out
  have hnea := Xa.out.lt
  obtain ⟨cb0, cb1, fb0, fb1⟩ := Xb.out
  have hneb := Xb.out.lt
  obtain ⟨hgd0, hgd1, hgd2, hgd3, hgd4, hgd5⟩ := HGD.out
  refine wpJ_on 8 rfl fun KJ hK => ?_
  go_simp
  have HJ2 : Hid ((fun W' : World => W'.cell? ⟨ga, 0, none⟩ = some (.bool s) ∧ W'.cell? ⟨ga, 1, none⟩ = some (.slice p m m) ∧ W'.cell? ⟨gb, 0, none⟩ = some (.bool t) ∧ W'.cell? ⟨gb, 1, none⟩ = some (.slice q n n)) ((w3.setCell ⟨gr, 0, none⟩ (.bool s9)).setCell ⟨gr, 1, none⟩ (.slice (some ⟨g9, 0, none⟩) m9 m9))) := ⟨by go_simp, by go_simp, by go_simp, by go_simp⟩
  refine hK _ _ HJ2.out ?_
  clear hK HJ
  have HJ := HJ2
  clear HJ2
  refine wpJ_done (by kernel_rfl) ?_ _
  clear HJ
  go_wp2_with fail
  refine bodyPost_ret (v := .agg #[.bool s9, .slice (some ⟨g9, 0, none⟩) m9 m9]) (by rw [results_cell1 rfl]; go_simp) rfl ⟨_, rfl, ⟨s9, g9, m9, rfl, HGB.out, ?_, HL.out⟩, ?_⟩
  · have := HGE.out
    exact (ZA.out.set _ _ _ (by omega)).set _ _ _ (by omega)
  · exact bSet (bSet hbw _ _ _ HGr.out) _ _ _ HGr.out
theorem radd04_l {p q : Option Addr} {m n : Nat} {w : World} {x y : Int} (s t : Bool) (h : ZR w s p m x) (k : ZR w t q n y) (hm : m ≤ 50000) (hn : n ≤ 50000) (hst : s ≠ t) (hcm : x.natAbs < y.natAbs) :
    Calls Tryz.prog 93 #[.agg #[.bool s, .slice p m m], .agg #[.bool t, .slice q n n]] w fun e w' => ∃ v, e = .returned v ∧ GotR w.heap.size w' v (x + y) (max m n + 1) ∧ Below w.heap.size w w' := by
  have HA : Hid (ZR w s p m x) := h
  have HB : Hid (ZR w t q n y) := k
  have HM : Hid (m ≤ 50000 ∧ n ≤ 50000) := ⟨hm, hn⟩
  clear h k hm hn
  have hse : (s == t) = false := by simpa using hst
  have HST : Hid (s ≠ t) := hst
  have HCM : Hid (x.natAbs < y.natAbs) := hcm
  clear hst hcm
  go_enter Tryz.func93, Tryz.ntmps93
  go_wp2_with fail
  obtain ⟨W0, hW0⟩ : ∃ W0, W0 = (((w.alloc (.cells #[.bool s, .slice p m m] 87)).alloc (.cells #[.bool t, .slice q n n] 87)).alloc (.cells #[.bool false, .slice none 0 0] 87)) := ⟨_, rfl⟩
  have Xa : Hid (Box W0 (w.heap.size) (.bool s) (.slice p m m)) := by rw [hW0]; exact ⟨by go_simp, by go_simp, by go_simp, by go_simp⟩
  have Xb : Hid (Box W0 (w.heap.size + 1) (.bool t) (.slice q n n)) := by rw [hW0]; exact ⟨by go_simp, by go_simp, by go_simp, by go_simp⟩
  have Xr : Hid (Box W0 (w.heap.size + 1 + 1) (.bool false) (.slice none 0 0)) := by rw [hW0]; exact ⟨by go_simp, by go_simp, by go_simp, by go_simp⟩
  have hb0 : Below w.heap.size w W0 := by rw [hW0]; exact below3 w _ _ _
  rw [← hW0]
  clear hW0
  have hbw : Below w.heap.size w w := Below.refl _ _
  obtain ⟨gr, hgr⟩ : ∃ g, g = w.heap.size + 1 + 1 := ⟨_, rfl⟩
  have HGr : Hid (w.heap.size ≤ gr) := by rw [hgr]; show _ ≤ _; omega
  rw [← hgr] at Xr
  try rw [← hgr]
  obtain ⟨gb, hgb⟩ : ∃ g, g = w.heap.size + 1 := ⟨_, rfl⟩
  have HGb : Hid (w.heap.size ≤ gb) := by rw [hgb]; show _ ≤ _; omega
  rw [← hgb] at Xb
  try rw [← hgb]
  obtain ⟨ga, hga⟩ : ∃ g, g = w.heap.size := ⟨_, rfl⟩
  have HGa : Hid (w.heap.size ≤ ga) := by rw [hga]; show _ ≤ _; omega
  rw [← hga] at Xa
  try rw [← hga]
  have HGD : Hid (ga ≠ gb ∧ ga ≠ gr ∧ gb ≠ ga ∧ gb ≠ gr ∧ gr ≠ ga ∧ gr ≠ gb) := by rw [hga, hgb, hgr]; exact ⟨by omega, by omega, by omega, by omega, by omega, by omega⟩
  clear hga hgb hgr
  replace HA : Hid _ := HA.out.below hb0
  replace HB : Hid _ := HB.out.below hb0
  replace hbw := Below.on hbw hb0
  clear hb0
  obtain ⟨xs, hAx, hNx⟩ := HA.out.ex
  obtain ⟨ys, hAy, hNy⟩ := HB.out.ex
  have HNX : Hid (Nf B32 xs x.natAbs ∧ Nf B32 ys y.natAbs) := ⟨hNx, hNy⟩
  clear hNx hNy
  have AX : Hid (At32 W0 p m m xs) := hAx
  have AY : Hid (At32 W0 q n n ys) := hAy
  clear hAx hAy
  have HZV : Hid (iv t (y.natAbs - x.natAbs) = x + y) := by have h1 := HA.out.sg; have h2 := HB.out.sg; have h3 := HST.out; exact iv_suml h1 h2 h3 HCM.out
  obtain ⟨cm, hcm⟩ : ∃ cm, cm = cmpN x.natAbs y.natAbs := ⟨_, rfl⟩
  have HCQ : Hid (cm = cmpN x.natAbs y.natAbs) := hcm
  have hcc : decide (0 ≤ cm) = false := decide_eq_false (by rw [hcm, cmpN_lt HCM.out]; omega)
  clear hcm
  refine (rcmp_any AX.out AY.out HNX.out.1 HNX.out.2).mono ?_
  rintro e w9 ⟨rfl, rd, rfl⟩
  rw [← HCQ.out]
  have hbr := bDrewN (Below.refl W0.heap.size W0) rd
  generalize W0.drewN rd = W9 at *
  replace Xa : Hid _ := Xa.out.below hbr
  replace Xb : Hid _ := Xb.out.below hbr
  replace Xr : Hid _ := Xr.out.below hbr
  replace HA : Hid _ := HA.out.below hbr
  replace HB : Hid _ := HB.out.below hbr
  replace AX : Hid _ := AX.out.below hbr
  replace AY : Hid _ := AY.out.below hbr
  replace hbw := Below.on hbw hbr
  clear hbr
  obtain ⟨ca0, ca1, fa0, fa1⟩ := Xa.out
  have hnea := Xa.out.lt
  obtain ⟨cb0, cb1, fb0, fb1⟩ := Xb.out
  have hneb := Xb.out.lt
  go_wp2_with fail
  clear ca0 ca1 fa0 fa1 hnea
  clear cb0 cb1 fb0 fb1 hneb
  clear hcc
  obtain ⟨W1, hW1⟩ : ∃ W1, W1 = W9.drew := ⟨_, rfl⟩
  have hbd : Below W9.heap.size W9 W1 := by rw [hW1]; exact bDrew1 (Below.refl _ _)
  replace Xa : Hid _ := Xa.out.below hbd
  replace Xb : Hid _ := Xb.out.below hbd
  replace Xr : Hid _ := Xr.out.below hbd
  replace HA : Hid _ := HA.out.below hbd
  replace HB : Hid _ := HB.out.below hbd
  replace AX : Hid _ := AX.out.below hbd
  replace AY : Hid _ := AY.out.below hbd
  replace hbw := Below.on hbw hbd
  clear hbd
  have HJ : Hid ((fun W' : World => W'.cell? ⟨ga, 0, none⟩ = some (.bool s) ∧ W'.cell? ⟨ga, 1, none⟩ = some (.slice p m m) ∧ W'.cell? ⟨gb, 0, none⟩ = some (.bool t) ∧ W'.cell? ⟨gb, 1, none⟩ = some (.slice q n n)) W1) := ⟨Xa.out.c0, Xa.out.c1, Xb.out.c0, Xb.out.c1⟩
  refine wp_region_J (fun W' => W'.cell? ⟨ga, 0, none⟩ = some (.bool s) ∧ W'.cell? ⟨ga, 1, none⟩ = some (.slice p m m) ∧ W'.cell? ⟨gb, 0, none⟩ = some (.bool t) ∧ W'.cell? ⟨gb, 1, none⟩ = some (.slice q n n)) (by kernel_rfl) ?_
  rw [← hW1]
  clear hW1
  refine wpJ_tq 0 rfl HJ.out ?_
  refine wpJ_tq 1 rfl HJ.out ?_
  refine wpJ_tq 2 rfl HJ.out ?_
  refine wpJ_tq 3 rfl HJ.out ?_
  refine wpJ_tq 4 rfl HJ.out ?_
  refine wpJ_tq 5 rfl HJ.out ?_
  refine wpJ_on 6 rfl fun KJ hK => ?_
  go_simp
  refine (rsub_any AY.out AX.out HNX.out.2 HNX.out.1 (by have := HM.out; omega) (Nat.le_of_lt HCM.out)).mono ?_
  rintro e w2 ⟨p2, m2, z2, rfl, hA2, hN2, hl2q, hb2⟩
  have hl2 : m2 ≤ max m n + 1 := by omega
  clear hl2q
  replace Xa : Hid _ := Xa.out.below hb2
  replace Xb : Hid _ := Xb.out.below hb2
  replace Xr : Hid _ := Xr.out.below hb2
  replace HA : Hid _ := HA.out.below hb2
  replace HB : Hid _ := HB.out.below hb2
  replace AX : Hid _ := AX.out.below hb2
  replace AY : Hid _ := AY.out.below hb2
  replace hbw := Below.on hbw hb2
  clear hb2
  have A2 : Hid (At32 w2 p2 m2 m2 z2) := hA2
  have N2 : Hid (Nf B32 z2 (y.natAbs - x.natAbs)) := hN2
  have HLL : Hid (m2 ≤ max m n + 1) := hl2
  have HRL : Hid (gr < w2.heap.size) := Xr.out.lt
  have HBS : Hid (w.heap.size ≤ w2.heap.size) := hbw.size
  clear hA2 hN2 hl2
  refine hK _ _ ⟨Xa.out.c0, Xa.out.c1, Xb.out.c0, Xb.out.c1⟩ ?_
  clear hK
  refine wpJ_on 7 rfl fun KJ hK => ?_
  go_simp
  refine (rmk_any t A2.out N2.out (by have := HLL.out; have := HM.out; omega)).mono ?_
  rintro e w3 ⟨v, rfl, hv, hb3⟩
  rw [HZV.out] at hv
  replace Xa : Hid _ := Xa.out.below hb3
  replace Xb : Hid _ := Xb.out.below hb3
  replace Xr : Hid _ := Xr.out.below hb3
  replace HA : Hid _ := HA.out.below hb3
  replace HB : Hid _ := HB.out.below hb3
  replace AX : Hid _ := AX.out.below hb3
  replace AY : Hid _ := AY.out.below hb3
  replace A2 : Hid _ := A2.out.below hb3
  replace hbw := Below.on hbw hb3
  clear hb3
  obtain ⟨s9, g9, m9, rfl, hg9, hz9, hl9⟩ := hv
  have ZA : Hid (ZR w3 s9 (some ⟨g9, 0, none⟩) m9 (x + y)) := hz9
  have HL : Hid (m9 ≤ max m n + 1) := by have := hl9; have := HLL.out; show m9 ≤ _; omega
  have HGE : Hid (gr < g9) := Nat.lt_of_lt_of_le HRL.out hg9
  have HGB : Hid (w.heap.size ≤ g9) := Nat.le_trans HBS.out hg9
  clear hg9 hz9 hl9
  refine hK _ _ ⟨Xa.out.c0, Xa.out.c1, Xb.out.c0, Xb.out.c1⟩ ?_
  clear hK
  obtain ⟨cr0, cr1, fr0, fr1⟩ := Xr.out
  have hner := Xr.out.lt
  obtain ⟨ca0, ca1, fa0, fa1⟩ := Xa.out
  have hnea := Xa.out.lt
  obtain ⟨cb0, cb1, fb0, fb1⟩ := Xb.out
  have hneb := Xb.out.lt
  obtain ⟨hgd0, hgd1, hgd2, hgd3, hgd4, hgd5⟩ := HGD.out
  refine wpJ_on 8 rfl fun KJ hK => ?_
  go_simp
  have HJ2 : Hid ((fun W' : World => W'.cell? ⟨ga, 0, none⟩ = some (.bool s) ∧ W'.cell? ⟨ga, 1, none⟩ = some (.slice p m m) ∧ W'.cell? ⟨gb, 0, none⟩ = some (.bool t) ∧ W'.cell? ⟨gb, 1, none⟩ = some (.slice q n n)) ((w3.setCell ⟨gr, 0, none⟩ (.bool s9)).setCell ⟨gr, 1, none⟩ (.slice (some ⟨g9, 0, none⟩) m9 m9))) := ⟨by go_simp, by go_simp, by go_simp, by go_simp⟩
  refine hK _ _ HJ2.out ?_
  clear hK HJ
  have HJ := HJ2
  clear HJ2
  refine wpJ_done (by kernel_rfl) ?_ _
  clear HJ
  go_wp2_with fail
  refine bodyPost_ret (v := .agg #[.bool s9, .slice (some ⟨g9, 0, none⟩) m9 m9]) (by rw [results_cell1 rfl]; go_simp) rfl ⟨_, rfl, ⟨s9, g9, m9, rfl, HGB.out, ?_, HL.out⟩, ?_⟩
  · have := HGE.out
    exact (ZA.out.set _ _ _ (by omega)).set _ _ _ (by omega)
  · exact bSet (bSet hbw _ _ _ HGr.out) _ _ _ HGr.out
theorem radd04 {p q : Option Addr} {m n : Nat} {w : World} {x y : Int} (s t : Bool) (h : ZR w s p m x) (k : ZR w t q n y) (hm : m ≤ 50000) (hn : n ≤ 50000) : Calls Tryz.prog 93 #[.agg #[.bool s, .slice p m m], .agg #[.bool t, .slice q n n]] w fun e w' => ∃ v, e = .returned v ∧ GotR w.heap.size w' v (x + y) (max m n + 1) ∧ Below w.heap.size w w' := by
  by_cases hst : s = t
  · exact radd04_s s t h k hm hn hst
  · rcases Nat.lt_or_ge x.natAbs y.natAbs with hl | hl
    · exact radd04_l s t h k hm hn hst hl
    · exact radd04_g s t h k hm hn hst hl
theorem Own.drewq {B : Nat} {w : World} {p : Option Addr} {m : Nat} {zs : List Nat} (h : Own B w p m zs) : Own B w.drew p m zs := by
  refine ⟨h.len, h.dig, ?_⟩
  rcases h.mem with h0 | ⟨g, hp, hB, hr⟩
  · exact .inl h0
  · exact .inr ⟨g, hp, hB, hr.drew⟩
theorem rounded_f (p : Option Addr) (m : Nat) (s x : Bool) (hf : Int) (w : World) :
    Calls Tryz.prog 144 #[FR s p m m x hf, .bool false] w fun e w' => e = .returned (ZV (s && decide (0 < m)) p m m) ∧ Below w.heap.size w w' := by
  go_enter Tryz.func144, Tryz.ntmps144
  go_wp2_with fail
  obtain ⟨W0, hW0⟩ : ∃ W0, W0 = ((w.alloc (.cells #[.bool s, .slice p m m, .bool x, .int .i64 hf] 134)).alloc (.cells #[.bool false, .slice none 0 0] 36)) := ⟨_, rfl⟩
  have Xf : Hid (B4q W0 (w.heap.size) (.bool s) (.slice p m m) (.bool x) (.int .i64 hf)) := by rw [hW0]; exact ⟨by go_simp, by go_simp, by go_simp, by go_simp, by go_simp, by go_simp, by go_simp, by go_simp⟩
  have Xr : Hid (Box W0 (w.heap.size + 1) (.bool false) (.slice none 0 0)) := by rw [hW0]; exact ⟨by go_simp, by go_simp, by go_simp, by go_simp⟩
  have hb0 : Below w.heap.size w W0 := by rw [hW0]; exact below2 w _ _
  rw [← hW0]
  clear hW0
  have hbw : Below w.heap.size w w := Below.refl _ _
  obtain ⟨gr, hgr⟩ : ∃ g, g = w.heap.size + 1 := ⟨_, rfl⟩
  have HGr : Hid (w.heap.size ≤ gr) := by rw [hgr]; show _ ≤ _; omega
  rw [← hgr] at Xr
  try rw [← hgr]
  obtain ⟨gf, hgf⟩ : ∃ g, g = w.heap.size := ⟨_, rfl⟩
  have HGf : Hid (w.heap.size ≤ gf) := by rw [hgf]; show _ ≤ _; omega
  rw [← hgf] at Xf
  try rw [← hgf]
  have HGD : Hid (gf ≠ gr ∧ gr ≠ gf) := by rw [hgf, hgr]; exact ⟨by omega, by omega⟩
  clear hgf hgr
  replace hbw := Below.on hbw hb0
  clear hb0
  refine (signed_any s p m m W0).mono ?_
  rintro e w1 ⟨rfl, hb1⟩
  replace Xf : Hid _ := Xf.out.below hb1
  replace Xr : Hid _ := Xr.out.below hb1
  replace hbw := Below.on hbw hb1
  clear hb1
  obtain ⟨b, hb⟩ : ∃ b, b = (s && decide (0 < m)) := ⟨_, rfl⟩
  rw [← hb]
  have HBB : Hid (b = (s && decide (0 < m))) := hb
  clear hb
  obtain ⟨cr0, cr1, fr0, fr1⟩ := Xr.out
  have hner := Xr.out.lt
  go_wp2_with fail
  refine bodyPost_ret (v := ZV b p m m) (by rw [results_cell1 rfl]; go_simp) rfl ⟨by rw [HBB.out], ?_⟩
  exact bSet (bSet hbw _ _ _ HGr.out) _ _ _ HGr.out

theorem rounded_t {B : Nat} {p : Option Addr} {m : Nat} {zs : List Nat} {q : Nat} {w : World} (s x : Bool) (hf : Int) (ho : Own B w p m zs) (hn : Nf B64 zs q) (hm : m ≤ 8192) (hq : q + 1 < LIM) :
    Calls Tryz.prog 144 #[FR s p m m x hf, .bool true] w fun e w' => ∃ v, e = .returned v ∧ AnsZ w.heap.size w' v (iv s (q + 1)) ∧ Below w.heap.size w w' := by
  have HO : Hid (Own B w p m zs) := ho
  have HN : Hid (Nf B64 zs q ∧ m ≤ 8192 ∧ q + 1 < LIM) := ⟨hn, hm, hq⟩
  clear ho hn hm hq
  go_enter Tryz.func144, Tryz.ntmps144
  go_wp2_with fail
  obtain ⟨W0, hW0⟩ : ∃ W0, W0 = ((w.alloc (.cells #[.bool s, .slice p m m, .bool x, .int .i64 hf] 134)).alloc (.cells #[.bool false, .slice none 0 0] 36)) := ⟨_, rfl⟩
  have Xf : Hid (B4q W0 (w.heap.size) (.bool s) (.slice p m m) (.bool x) (.int .i64 hf)) := by rw [hW0]; exact ⟨by go_simp, by go_simp, by go_simp, by go_simp, by go_simp, by go_simp, by go_simp, by go_simp⟩
  have Xr : Hid (Box W0 (w.heap.size + 1) (.bool false) (.slice none 0 0)) := by rw [hW0]; exact ⟨by go_simp, by go_simp, by go_simp, by go_simp⟩
  have hb0 : Below w.heap.size w W0 := by rw [hW0]; exact below2 w _ _
  rw [← hW0]
  clear hW0
  have hbw : Below w.heap.size w w := Below.refl _ _
  obtain ⟨gr, hgr⟩ : ∃ g, g = w.heap.size + 1 := ⟨_, rfl⟩
  have HGr : Hid (w.heap.size ≤ gr) := by rw [hgr]; show _ ≤ _; omega
  rw [← hgr] at Xr
  try rw [← hgr]
  obtain ⟨gf, hgf⟩ : ∃ g, g = w.heap.size := ⟨_, rfl⟩
  have HGf : Hid (w.heap.size ≤ gf) := by rw [hgf]; show _ ≤ _; omega
  rw [← hgf] at Xf
  try rw [← hgf]
  have HGD : Hid (gf ≠ gr ∧ gr ≠ gf) := by rw [hgf, hgr]; exact ⟨by omega, by omega⟩
  clear hgf hgr
  replace HO : Hid (Own B W0 p m zs) := HO.out.below hb0
  replace hbw := Below.on hbw hb0
  clear hb0
  have XfD : Hid (B4q W0.drew gf (.bool s) (.slice p m m) (.bool x) (.int .i64 hf)) := ⟨Xf.out.c0, Xf.out.c1, Xf.out.c2, Xf.out.c3, Xf.out.f0, Xf.out.f1, Xf.out.f2, Xf.out.f3⟩
  have XrD : Hid (Box W0.drew gr (.bool false) (.slice none 0 0)) := ⟨Xr.out.c0, Xr.out.c1, Xr.out.f0, Xr.out.f1⟩
  have HOD : Hid (Own B W0.drew p m zs) := HO.out.drewq
  have hbw2 := bDrew1 hbw
  clear Xf Xr HO hbw
  have Xf := XfD
  have Xr := XrD
  have HO := HOD
  have hbw := hbw2
  clear XfD XrD HOD hbw2
  have HJ : Hid ((fun W' : World => W'.cell? ⟨gf, 1, none⟩ = some (.slice p m m)) W0.drew) := Xf.out.c1
  refine wp_region_J (fun W' => W'.cell? ⟨gf, 1, none⟩ = some (.slice p m m)) (by kernel_rfl) ?_
  refine wpJ_tk 0 (v := ?v1x0) rfl ?hy1x0 HJ.out ?_
  case hy1x0 => (intro W' hJ; have j1 := hJ; go_simp; first | done | with_reducible rfl)
  refine wpJ_tk 1 (v := ?v2x1) rfl ?hy2x1 HJ.out ?_
  case hy2x1 => (intro W' hJ; have j1 := hJ; go_simp; first | done | with_reducible rfl)
  generalize W0.drew = W1 at *
  refine wpJ_on 2 rfl fun K hK => ?_
  go_simp
  rw [show Value.int IntKind.u64 1 = U 1 from rfl]
  refine (word_any 1 W1 (by decide)).mono ?_
  rintro e w2 ⟨p2, m2, z2, rfl, ho2, hn2, hm2, hb2⟩
  replace Xf : Hid _ := Xf.out.below hb2
  replace Xr : Hid _ := Xr.out.below hb2
  replace HO : Hid (Own B w2 p m zs) := HO.out.below hb2
  replace hbw := Below.on hbw hb2
  clear hb2
  have N2 : Hid (Num w2 p2 m2 m2 z2 1) := Num.of ho2 hn2 (by omega)
  clear ho2 hn2 HJ
  have HJ : Hid ((fun W' : World => W'.cell? ⟨gf, 1, none⟩ = some (.slice p m m)) w2) := Xf.out.c1
  refine hK _ _ HJ.out ?_
  clear hK
  have HRL : Hid (gr < w2.heap.size ∧ w.heap.size ≤ w2.heap.size) := ⟨Xr.out.lt, hbw.size⟩
  refine wpJ_on 3 rfl fun K hK => ?_
  go_simp
  have M : Num w2 p m m zs q := Num.of HO.out HN.out.1 HN.out.2.1
  refine (add_ord M.at_ N2.out.at_ M.nf N2.out.nf M.le N2.out.le).mono ?_
  rintro e w3 ⟨ha, hb3⟩
  clear M
  obtain ⟨p3, m3, z3, rfl, ho3, hn3, hm3⟩ := ha.ok HN.out.2.2
  clear ha
  replace Xf : Hid _ := Xf.out.below hb3
  replace Xr : Hid _ := Xr.out.below hb3
  replace HO : Hid (Own B w3 p m zs) := HO.out.below hb3
  replace N2 : Hid _ := N2.out.below hb3
  replace hbw := Below.on hbw hb3
  clear hb3
  have HO3 : Hid (Own w2.heap.size w3 p3 m3 z3) := ho3
  have HN3 : Hid (Nf B64 z3 (q + 1) ∧ m3 ≤ 8192) := ⟨hn3, hm3⟩
  clear ho3 hn3 hm3 HJ
  have HJ : Hid ((fun W' : World => W'.cell? ⟨gf, 1, none⟩ = some (.slice p m m)) w3) := Xf.out.c1
  refine hK _ _ HJ.out ?_
  clear hK
  refine wpJ_tk 4 (v := ?v3x4) rfl ?hy3x4 HJ.out ?_
  case hy3x4 => (intro W' hJ; have j1 := hJ; go_simp; first | done | with_reducible rfl)
  refine wpJ_tk 5 (v := ?v4x5) rfl ?hy4x5 HJ.out ?_
  case hy4x5 => (intro W' hJ; have j1 := hJ; go_simp; first | done | with_reducible rfl)
  refine wpJ_tk 6 (v := ?v5x6) rfl ?hy5x6 HJ.out ?_
  case hy5x6 => (intro W' hJ; have j1 := hJ; go_simp; first | done | with_reducible rfl)
  refine wpJ_tk 7 (v := ?v6x7) rfl ?hy6x7 HJ.out ?_
  case hy6x7 => (intro W' hJ; have j1 := hJ; go_simp; first | done | with_reducible rfl)
  refine wpJ_done (by kernel_rfl) ?_ _
  clear HJ
  obtain ⟨cf0, cf1, cf2, cf3, ff0, ff1, ff2, ff3⟩ := Xf.out
  have hnef : gf < w3.heap.size := World.block_lt_of_cell? w3 _ cf0
  go_wp2_with fail
  clear cf0 cf1 cf2 cf3 ff0 ff1 ff2 ff3 hnef
  refine (signed_any s p3 m3 m3 w3).mono ?_
  rintro e w4 ⟨rfl, hb4⟩
  replace Xf : Hid _ := Xf.out.below hb4
  replace Xr : Hid _ := Xr.out.below hb4
  replace HO : Hid (Own B w4 p m zs) := HO.out.below hb4
  replace N2 : Hid _ := N2.out.below hb4
  replace HO3 : Hid (Own w2.heap.size w4 p3 m3 z3) := HO3.out.below hb4
  replace hbw := Below.on hbw hb4
  clear hb4
  obtain ⟨b, hb⟩ : ∃ b, b = (s && decide (0 < m3)) := ⟨_, rfl⟩
  rw [← hb]
  have HBB : Hid (b = (s && decide (0 < m3))) := hb
  clear hb
  obtain ⟨cr0, cr1, fr0, fr1⟩ := Xr.out
  have hner := Xr.out.lt
  go_wp2_with fail
  refine bodyPost_ret (v := ZV b p3 m3 m3) (by rw [results_cell1 rfl]; go_simp) rfl ⟨_, rfl, ?_, ?_⟩
  · rw [HBB.out]
    exact AnsZ.mk s (own_set2 HO3.out HRL.out.1 HRL.out.2 _ _) HN3.out.1 HN3.out.2
  · exact bSet (bSet hbw _ _ _ HGr.out) _ _ _ HGr.out
structure FrIs (B : Nat) (w : World) (s : Bool) (a d : Nat) (p : Option Addr) (m : Nat) (zs : List Nat) (x : Bool) (hf : Int) : Prop where
  own : Own B w p m zs
  nf : Nf B64 zs (a / d)
  le : m ≤ 8192
  ex : x = decide (a % d ≠ 0)
  hf : HfIs (a % d) d hf
  lim : a < LIM
theorem own_off {B : Nat} {w : World} {p : Option Addr} {m : Nat} {zs : List Nat} (h : Own B w p m zs) {gg : Nat} (hg : w.heap.size ≤ gg) : ∀ g, p = some ⟨g, 0, none⟩ → 0 < m → g ≠ gg := by
  intro g hp h0
  rcases h.mem with h1 | ⟨g3, hp3, hB3, hr3⟩
  · omega
  · rw [hp] at hp3
    simp only [Option.some.injEq, Addr.mk.injEq, and_true] at hp3
    have := hr3.lt h0
    omega
theorem FrIs.below {B : Nat} {w w' : World} {s : Bool} {a d : Nat} {p : Option Addr} {m : Nat} {zs : List Nat} {x : Bool} {hf : Int} (h : FrIs B w s a d p m zs x hf) (hb : Below w.heap.size w w') : FrIs B w' s a d p m zs x hf :=
  ⟨h.own.below hb, h.nf, h.le, h.ex, h.hf, h.lim⟩
theorem FrIs.up {B : Nat} {w : World} {s : Bool} {a d : Nat} {p : Option Addr} {m : Nat} {zs : List Nat} {hf : Int} (h : FrIs B w s a d p m zs true hf) : a / d + 1 < LIM := by
  have := ce_le (of_decide_eq_true h.ex.symm)
  have := h.lim
  omega
theorem FrIs.half {B : Nat} {w : World} {s : Bool} {a d : Nat} {p : Option Addr} {m : Nat} {zs : List Nat} {x : Bool} {hf : Int} (h : FrIs B w s a d p m zs x hf) (hd : 0 < d) (h0 : 0 ≤ hf) : x = true := by
  rw [h.ex]
  refine decide_eq_true ?_
  rcases h.hf with ⟨_, e⟩ | ⟨e, _⟩ | ⟨e, _⟩ <;> omega

theorem floor_any00 {B : Nat} {p : Option Addr} {m : Nat} {zs : List Nat} {a d : Nat} {w : World} (hf : Int) (h : FrIs B w false a d p m zs false hf) (hB : B ≤ w.heap.size) :
    Calls Tryz.prog 113 #[FR false p m m false hf] w fun e w' => ∃ v, e = .returned v ∧ AnsZ B w' v (fl false a d) ∧ Below w.heap.size w w' := by
  have H : Hid (FrIs B w false a d p m zs false hf) := h
  have HB : Hid (B ≤ w.heap.size) := hB
  have HVAL : Hid (fl false a d = iv false (a / d)) := by
    have e := h.ex
    show _ = _
    unfold fl
    rw [← e]; rfl
  clear h hB
  rw [HVAL.out]
  clear HVAL
  have HOF : Hid (∀ gg, w.heap.size ≤ gg → ∀ g, p = some ⟨g, 0, none⟩ → 0 < m → g ≠ gg) := fun gg hg => own_off H.out.own hg
  go_enter Tryz.func113, Tryz.ntmps113
  go_wp2_with fail
  obtain ⟨W0, hW0⟩ : ∃ W0, W0 = ((w.alloc (.cells #[.bool false, .slice p m m, .bool false, .int .i64 hf] 134)).alloc (.cells #[.bool false, .slice none 0 0] 36)) := ⟨_, rfl⟩
  have Xf : Hid (B4q W0 (w.heap.size) (.bool false) (.slice p m m) (.bool false) (.int .i64 hf)) := by rw [hW0]; exact ⟨by go_simp, by go_simp, by go_simp, by go_simp, by go_simp, by go_simp, by go_simp, by go_simp⟩
  have Xr : Hid (Box W0 (w.heap.size + 1) (.bool false) (.slice none 0 0)) := by rw [hW0]; exact ⟨by go_simp, by go_simp, by go_simp, by go_simp⟩
  have hb0 : Below w.heap.size w W0 := by rw [hW0]; exact below2 w _ _
  rw [← hW0]
  clear hW0
  have hbw : Below w.heap.size w w := Below.refl _ _
  obtain ⟨gr, hgr⟩ : ∃ g, g = w.heap.size + 1 := ⟨_, rfl⟩
  have HGr : Hid (w.heap.size ≤ gr) := by rw [hgr]; show _ ≤ _; omega
  rw [← hgr] at Xr
  try rw [← hgr]
  obtain ⟨gf, hgf⟩ : ∃ g, g = w.heap.size := ⟨_, rfl⟩
  have HGf : Hid (w.heap.size ≤ gf) := by rw [hgf]; show _ ≤ _; omega
  rw [← hgf] at Xf
  try rw [← hgf]
  have HGD : Hid (gf ≠ gr ∧ gr ≠ gf) := by rw [hgf, hgr]; exact ⟨by omega, by omega⟩
  clear hgf hgr
  replace H : Hid _ := H.out.below hb0
  replace hbw := Below.on hbw hb0
  clear hb0
  refine (rounded_f p m false false hf W0).mono ?_
  rintro e w9 ⟨rfl, hb9⟩
  replace Xf : Hid _ := Xf.out.below hb9
  replace Xr : Hid _ := Xr.out.below hb9
  replace H : Hid _ := H.out.below hb9
  replace hbw := Below.on hbw hb9
  clear hb9
  obtain ⟨b9, hb9⟩ : ∃ b, b = (false && decide (0 < m)) := ⟨_, rfl⟩
  rw [← hb9]
  have HB9 : Hid (b9 = (false && decide (0 < m))) := hb9
  clear hb9
  obtain ⟨cr0, cr1, fr0, fr1⟩ := Xr.out
  have hner := Xr.out.lt
  go_wp2_with fail
  refine bodyPost_ret (v := ZV b9 p m m) (by rw [results_cell1 rfl]; go_simp) rfl ⟨_, rfl, ?_, ?_⟩
  · rw [HB9.out]
    exact AnsZ.mk _ ((H.out.own.setNot _ _ _ (HOF.out _ HGr.out)).setNot _ _ _ (HOF.out _ HGr.out)) H.out.nf H.out.le
  · exact bSet (bSet hbw _ _ _ HGr.out) _ _ _ HGr.out
theorem floor_any01 {B : Nat} {p : Option Addr} {m : Nat} {zs : List Nat} {a d : Nat} {w : World} (hf : Int) (h : FrIs B w false a d p m zs true hf) (hB : B ≤ w.heap.size) :
    Calls Tryz.prog 113 #[FR false p m m true hf] w fun e w' => ∃ v, e = .returned v ∧ AnsZ B w' v (fl false a d) ∧ Below w.heap.size w w' := by
  have H : Hid (FrIs B w false a d p m zs true hf) := h
  have HB : Hid (B ≤ w.heap.size) := hB
  have HVAL : Hid (fl false a d = iv false (a / d)) := by
    have e := h.ex
    show _ = _
    unfold fl
    rw [← e]; rfl
  clear h hB
  rw [HVAL.out]
  clear HVAL
  have HOF : Hid (∀ gg, w.heap.size ≤ gg → ∀ g, p = some ⟨g, 0, none⟩ → 0 < m → g ≠ gg) := fun gg hg => own_off H.out.own hg
  go_enter Tryz.func113, Tryz.ntmps113
  go_wp2_with fail
  obtain ⟨W0, hW0⟩ : ∃ W0, W0 = ((w.alloc (.cells #[.bool false, .slice p m m, .bool true, .int .i64 hf] 134)).alloc (.cells #[.bool false, .slice none 0 0] 36)) := ⟨_, rfl⟩
  have Xf : Hid (B4q W0 (w.heap.size) (.bool false) (.slice p m m) (.bool true) (.int .i64 hf)) := by rw [hW0]; exact ⟨by go_simp, by go_simp, by go_simp, by go_simp, by go_simp, by go_simp, by go_simp, by go_simp⟩
  have Xr : Hid (Box W0 (w.heap.size + 1) (.bool false) (.slice none 0 0)) := by rw [hW0]; exact ⟨by go_simp, by go_simp, by go_simp, by go_simp⟩
  have hb0 : Below w.heap.size w W0 := by rw [hW0]; exact below2 w _ _
  rw [← hW0]
  clear hW0
  have hbw : Below w.heap.size w w := Below.refl _ _
  obtain ⟨gr, hgr⟩ : ∃ g, g = w.heap.size + 1 := ⟨_, rfl⟩
  have HGr : Hid (w.heap.size ≤ gr) := by rw [hgr]; show _ ≤ _; omega
  rw [← hgr] at Xr
  try rw [← hgr]
  obtain ⟨gf, hgf⟩ : ∃ g, g = w.heap.size := ⟨_, rfl⟩
  have HGf : Hid (w.heap.size ≤ gf) := by rw [hgf]; show _ ≤ _; omega
  rw [← hgf] at Xf
  try rw [← hgf]
  have HGD : Hid (gf ≠ gr ∧ gr ≠ gf) := by rw [hgf, hgr]; exact ⟨by omega, by omega⟩
  clear hgf hgr
  replace H : Hid _ := H.out.below hb0
  replace hbw := Below.on hbw hb0
  clear hb0
  refine (rounded_f p m false true hf W0).mono ?_
  rintro e w9 ⟨rfl, hb9⟩
  replace Xf : Hid _ := Xf.out.below hb9
  replace Xr : Hid _ := Xr.out.below hb9
  replace H : Hid _ := H.out.below hb9
  replace hbw := Below.on hbw hb9
  clear hb9
  obtain ⟨b9, hb9⟩ : ∃ b, b = (false && decide (0 < m)) := ⟨_, rfl⟩
  rw [← hb9]
  have HB9 : Hid (b9 = (false && decide (0 < m))) := hb9
  clear hb9
  obtain ⟨cr0, cr1, fr0, fr1⟩ := Xr.out
  have hner := Xr.out.lt
  go_wp2_with fail
  refine bodyPost_ret (v := ZV b9 p m m) (by rw [results_cell1 rfl]; go_simp) rfl ⟨_, rfl, ?_, ?_⟩
  · rw [HB9.out]
    exact AnsZ.mk _ ((H.out.own.setNot _ _ _ (HOF.out _ HGr.out)).setNot _ _ _ (HOF.out _ HGr.out)) H.out.nf H.out.le
  · exact bSet (bSet hbw _ _ _ HGr.out) _ _ _ HGr.out
theorem floor_any10 {B : Nat} {p : Option Addr} {m : Nat} {zs : List Nat} {a d : Nat} {w : World} (hf : Int) (h : FrIs B w true a d p m zs false hf) (hB : B ≤ w.heap.size) :
    Calls Tryz.prog 113 #[FR true p m m false hf] w fun e w' => ∃ v, e = .returned v ∧ AnsZ B w' v (fl true a d) ∧ Below w.heap.size w w' := by
  have H : Hid (FrIs B w true a d p m zs false hf) := h
  have HB : Hid (B ≤ w.heap.size) := hB
  have HVAL : Hid (fl true a d = iv true (a / d)) := by
    have e := h.ex
    show _ = _
    unfold fl
    rw [← e]; rfl
  clear h hB
  rw [HVAL.out]
  clear HVAL
  have HOF : Hid (∀ gg, w.heap.size ≤ gg → ∀ g, p = some ⟨g, 0, none⟩ → 0 < m → g ≠ gg) := fun gg hg => own_off H.out.own hg
  go_enter Tryz.func113, Tryz.ntmps113
  go_wp2_with fail
  obtain ⟨W0, hW0⟩ : ∃ W0, W0 = ((w.alloc (.cells #[.bool true, .slice p m m, .bool false, .int .i64 hf] 134)).alloc (.cells #[.bool false, .slice none 0 0] 36)) := ⟨_, rfl⟩
  have Xf : Hid (B4q W0 (w.heap.size) (.bool true) (.slice p m m) (.bool false) (.int .i64 hf)) := by rw [hW0]; exact ⟨by go_simp, by go_simp, by go_simp, by go_simp, by go_simp, by go_simp, by go_simp, by go_simp⟩
  have Xr : Hid (Box W0 (w.heap.size + 1) (.bool false) (.slice none 0 0)) := by rw [hW0]; exact ⟨by go_simp, by go_simp, by go_simp, by go_simp⟩
  have hb0 : Below w.heap.size w W0 := by rw [hW0]; exact below2 w _ _
  rw [← hW0]
  clear hW0
  have hbw : Below w.heap.size w w := Below.refl _ _
  obtain ⟨gr, hgr⟩ : ∃ g, g = w.heap.size + 1 := ⟨_, rfl⟩
  have HGr : Hid (w.heap.size ≤ gr) := by rw [hgr]; show _ ≤ _; omega
  rw [← hgr] at Xr
  try rw [← hgr]
  obtain ⟨gf, hgf⟩ : ∃ g, g = w.heap.size := ⟨_, rfl⟩
  have HGf : Hid (w.heap.size ≤ gf) := by rw [hgf]; show _ ≤ _; omega
  rw [← hgf] at Xf
  try rw [← hgf]
  have HGD : Hid (gf ≠ gr ∧ gr ≠ gf) := by rw [hgf, hgr]; exact ⟨by omega, by omega⟩
  clear hgf hgr
  replace H : Hid _ := H.out.below hb0
  replace hbw := Below.on hbw hb0
  clear hb0
  refine (rounded_f p m true false hf W0).mono ?_
  rintro e w9 ⟨rfl, hb9⟩
  replace Xf : Hid _ := Xf.out.below hb9
  replace Xr : Hid _ := Xr.out.below hb9
  replace H : Hid _ := H.out.below hb9
  replace hbw := Below.on hbw hb9
  clear hb9
  obtain ⟨b9, hb9⟩ : ∃ b, b = (true && decide (0 < m)) := ⟨_, rfl⟩
  rw [← hb9]
  have HB9 : Hid (b9 = (true && decide (0 < m))) := hb9
  clear hb9
  obtain ⟨cr0, cr1, fr0, fr1⟩ := Xr.out
  have hner := Xr.out.lt
  go_wp2_with fail
  refine bodyPost_ret (v := ZV b9 p m m) (by rw [results_cell1 rfl]; go_simp) rfl ⟨_, rfl, ?_, ?_⟩
  · rw [HB9.out]
    exact AnsZ.mk _ ((H.out.own.setNot _ _ _ (HOF.out _ HGr.out)).setNot _ _ _ (HOF.out _ HGr.out)) H.out.nf H.out.le
  · exact bSet (bSet hbw _ _ _ HGr.out) _ _ _ HGr.out
theorem floor_any11 {B : Nat} {p : Option Addr} {m : Nat} {zs : List Nat} {a d : Nat} {w : World} (hf : Int) (h : FrIs B w true a d p m zs true hf) (hB : B ≤ w.heap.size) :
    Calls Tryz.prog 113 #[FR true p m m true hf] w fun e w' => ∃ v, e = .returned v ∧ AnsZ B w' v (fl true a d) ∧ Below w.heap.size w w' := by
  have H : Hid (FrIs B w true a d p m zs true hf) := h
  have HB : Hid (B ≤ w.heap.size) := hB
  have HVAL : Hid (fl true a d = iv true (a / d + 1)) := by
    have e := h.ex
    show _ = _
    unfold fl
    rw [← e]; rfl
  clear h hB
  rw [HVAL.out]
  clear HVAL
  have HOF : Hid (∀ gg, w.heap.size ≤ gg → ∀ g, p = some ⟨g, 0, none⟩ → 0 < m → g ≠ gg) := fun gg hg => own_off H.out.own hg
  go_enter Tryz.func113, Tryz.ntmps113
  go_wp2_with fail
  obtain ⟨W0, hW0⟩ : ∃ W0, W0 = ((w.alloc (.cells #[.bool true, .slice p m m, .bool true, .int .i64 hf] 134)).alloc (.cells #[.bool false, .slice none 0 0] 36)) := ⟨_, rfl⟩
  have Xf : Hid (B4q W0 (w.heap.size) (.bool true) (.slice p m m) (.bool true) (.int .i64 hf)) := by rw [hW0]; exact ⟨by go_simp, by go_simp, by go_simp, by go_simp, by go_simp, by go_simp, by go_simp, by go_simp⟩
  have Xr : Hid (Box W0 (w.heap.size + 1) (.bool false) (.slice none 0 0)) := by rw [hW0]; exact ⟨by go_simp, by go_simp, by go_simp, by go_simp⟩
  have hb0 : Below w.heap.size w W0 := by rw [hW0]; exact below2 w _ _
  rw [← hW0]
  clear hW0
  have hbw : Below w.heap.size w w := Below.refl _ _
  obtain ⟨gr, hgr⟩ : ∃ g, g = w.heap.size + 1 := ⟨_, rfl⟩
  have HGr : Hid (w.heap.size ≤ gr) := by rw [hgr]; show _ ≤ _; omega
  rw [← hgr] at Xr
  try rw [← hgr]
  obtain ⟨gf, hgf⟩ : ∃ g, g = w.heap.size := ⟨_, rfl⟩
  have HGf : Hid (w.heap.size ≤ gf) := by rw [hgf]; show _ ≤ _; omega
  rw [← hgf] at Xf
  try rw [← hgf]
  have HGD : Hid (gf ≠ gr ∧ gr ≠ gf) := by rw [hgf, hgr]; exact ⟨by omega, by omega⟩
  clear hgf hgr
  replace H : Hid _ := H.out.below hb0
  replace hbw := Below.on hbw hb0
  clear hb0
  have HRL : Hid (gr < W0.heap.size ∧ w.heap.size ≤ W0.heap.size) := ⟨Xr.out.lt, hbw.size⟩
  refine (rounded_t _ _ _ H.out.own H.out.nf H.out.le H.out.up).mono ?_
  rintro e w9 ⟨v, rfl, hv, hb9⟩
  replace Xf : Hid _ := Xf.out.below hb9
  replace Xr : Hid _ := Xr.out.below hb9
  replace H : Hid _ := H.out.below hb9
  replace hbw := Below.on hbw hb9
  clear hb9
  obtain ⟨p9, m9, z9, rfl, ho, hn, hm⟩ := hv
  have HO9 : Hid (Own W0.heap.size w9 p9 m9 z9) := ho
  have HN9 : Hid (Nf B64 z9 (iv true (a / d + 1)).natAbs ∧ m9 ≤ 8192) := ⟨hn, hm⟩
  clear ho hn hm
  obtain ⟨b9, hb9⟩ : ∃ b, b = decide (iv true (a / d + 1) < 0) := ⟨_, rfl⟩
  rw [← hb9]
  have HB9 : Hid (b9 = decide (iv true (a / d + 1) < 0)) := hb9
  clear hb9
  obtain ⟨cr0, cr1, fr0, fr1⟩ := Xr.out
  have hner := Xr.out.lt
  go_wp2_with fail
  refine bodyPost_ret (v := ZV b9 p9 m9 m9) (by rw [results_cell1 rfl]; go_simp) rfl ⟨_, rfl, ⟨p9, m9, z9, by rw [HB9.out], ?_, HN9.out.1, HN9.out.2⟩, ?_⟩
  · exact own_set2 HO9.out HRL.out.1 (Nat.le_trans HB.out HRL.out.2) _ _
  · exact bSet (bSet hbw _ _ _ HGr.out) _ _ _ HGr.out
theorem floor_any {B : Nat} {p : Option Addr} {m : Nat} {zs : List Nat} {a d : Nat} {w : World} (s x : Bool) (hf : Int) (h : FrIs B w s a d p m zs x hf) (hB : B ≤ w.heap.size) :
    Calls Tryz.prog 113 #[FR s p m m x hf] w fun e w' => ∃ v, e = .returned v ∧ AnsZ B w' v (fl s a d) ∧ Below w.heap.size w w' := by
  cases s <;> cases x
  · exact floor_any00 hf h hB
  · exact floor_any01 hf h hB
  · exact floor_any10 hf h hB
  · exact floor_any11 hf h hB
theorem shifted_any {p : Option Addr} {m c : Nat} {xs : List Nat} {a k : Nat} {w : World} (s : Bool) (h : Num w p m c xs a) (hs : s = true → 0 < a) (n : Nat) (hn : n ≤ 9223372036854775807) (hk : TzO a k) (hT : Tab w) :
    Calls Tryz.prog 112 #[ZV s p m c, .int .i64 n] w fun e w' => ∃ p' m' zs x hf, e = .returned (.tuple #[FR s p' m' m' x hf, .int .i64 0]) ∧ Own w.heap.size w' p' m' zs ∧ Nf B64 zs (a / 2 ^ n) ∧ m' ≤ 8192 ∧ x = decide (a % 2 ^ n ≠ 0) ∧ HfIs (a % 2 ^ n) (2 ^ n) hf ∧ Below w.heap.size w w' := by
  have H : Hid (Num w p m c xs a) := h
  have HW0 : Hid (Num w p m c xs a ∧ Tab w) := ⟨h, hT⟩
  have HS : Hid (s = true → 0 < a) := hs
  have HK : Hid (TzO a k) := hk
  have HT : Hid (Tab w) := hT
  have HN : Hid (n ≤ 9223372036854775807) := hn
  have c0 : decide ((n : Int) < 0) = false := decide_eq_false (by omega)
  clear h hs hk hT
  go_enter Tryz.func112, Tryz.ntmps112
  go_wp2_with fail
  have X0 : Box (w.alloc (.cells #[.bool s, .slice p m c] 36)) w.heap.size (.bool s) (.slice p m c) := ⟨by go_simp, by go_simp, by go_simp, by go_simp⟩
  have hb0 := below1 w (.cells #[.bool s, .slice p m c] 36)
  have hsz : (w.alloc (.cells #[.bool s, .slice p m c] 36)).heap.size = w.heap.size + 1 := by simp
  generalize w.alloc (.cells #[.bool s, .slice p m c] 36) = W1 at *
  have R0 := B4q.new W1 134 (.bool false) (.slice none 0 0) (.bool false) (.int .i64 0)
  have hb1 := below1 W1 (.cells #[.bool false, .slice none 0 0, .bool false, .int .i64 0] 134)
  generalize W1.alloc (.cells #[.bool false, .slice none 0 0, .bool false, .int .i64 0] 134) = W at *
  rw [hsz] at R0
  obtain ⟨g, hg⟩ : ∃ g, g = w.heap.size := ⟨_, rfl⟩
  obtain ⟨r, hr⟩ : ∃ r, r = g + 1 := ⟨_, rfl⟩
  have HGR : Hid (w.heap.size ≤ g ∧ w.heap.size ≤ r ∧ r ≠ g) := ⟨by omega, by omega, by omega⟩
  rw [← hg, ← hr] at R0 ⊢
  rw [← hg] at X0
  clear hg hr hsz
  have HBW : Hid (Below w.heap.size w W) := Below.on hb0 hb1
  have XR : Hid (Box W g (.bool s) (.slice p m c) ∧ B4q W r (.bool false) (.slice none 0 0) (.bool false) (.int .i64 0)) := ⟨X0.below hb1, R0⟩
  have H2 : Hid (Num W p m c xs a) := H.out.below HBW.out
  have HT2 : Hid (Tab W) := HT.out.below HBW.out
  clear hb0 hb1 X0 R0 H HT
  refine (numform_t s H2.out HS.out).mono ?_
  rintro e w3 ⟨rfl, hb3⟩
  have XR3 : Hid (Box w3 g (.bool s) (.slice p m c) ∧ B4q w3 r (.bool false) (.slice none 0 0) (.bool false) (.int .i64 0)) := ⟨XR.out.1.below hb3, XR.out.2.below hb3⟩
  have H3 : Hid (Num w3 p m c xs a) := H2.out.below hb3
  have HT3 : Hid (Tab w3) := HT2.out.below hb3
  have HB3 : Hid (Below w.heap.size w w3) := Below.on HBW.out hb3
  clear hb3 XR H2 HT2 HBW c0
  obtain ⟨⟨x0, x1, x2, x3⟩, ⟨r0, r1, r2, r3, r4, r5, r6, r7⟩⟩ := XR3.out
  go_wp2_with fail
  refine (shr_nf H3.out.at_ H3.out.nf H3.out.le n HN.out).mono ?_
  rintro e w4 ⟨⟨p4, m4, z4, rfl, hO4, hN4, hm4⟩, hb4⟩
  have XR4 : Hid (Box w4 g (.bool s) (.slice p m c) ∧ B4q w4 r (.bool false) (.slice none 0 0) (.bool false) (.int .i64 0)) := ⟨XR3.out.1.below hb4, XR3.out.2.below hb4⟩
  have H4 : Hid (Num w4 p m c xs a) := H3.out.below hb4
  have HT4 : Hid (Tab w4) := HT3.out.below hb4
  have HB4 : Hid (Below w.heap.size w w4) := Below.on HB3.out hb4
  have O4 : Hid (Own w.heap.size w4 p4 m4 z4) := hO4.mono HB3.out.size
  have N4 : Hid (Nf B64 z4 (a / 2 ^ n) ∧ m4 ≤ 8192) := ⟨hN4, hm4⟩
  have HP4 : Hid (∀ g2, p4 = some ⟨g2, 0, none⟩ → 0 < m4 → g2 ≠ r) := by
    intro g2 hp hm
    rcases hO4.mem with h0 | ⟨g3, hp3, hB3, hr3⟩
    · omega
    · rw [hp] at hp3
      simp only [Option.some.injEq, Addr.mk.injEq, and_true] at hp3
      have := XR3.out.2.lt
      omega
  clear hb4 hO4 hN4 hm4 XR3 H3 HT3 HB3 x0 x1 x2 x3 r0 r1 r2 r3 r4 r5 r6 r7
  obtain ⟨⟨x0, x1, x2, x3⟩, ⟨r0, r1, r2, r3, r4, r5, r6, r7⟩⟩ := XR4.out
  have hgl : g < w4.heap.size := World.block_lt_of_cell? _ _ XR4.out.1.c0
  have hrl : r < w4.heap.size := XR4.out.2.lt
  have hz := H4.out.zero
  by_cases hm0 : 0 < m
  · have ha0 : a ≠ 0 := fun e => by have := hz.2 e; omega
    have hmb : decide ((0 : Int) < (m : Int)) = true := decide_eq_true (by omega)
    have hmb' : decide (0 < m) = true := decide_eq_true hm0
    have HA0 : Hid (a ≠ 0) := ha0
    have hmp : (0 : Int) < (m : Int) := by omega
    obtain ⟨b1, hb1⟩ : ∃ b1, b1 = decide ((k : Int) < (n : Int)) := ⟨_, rfl⟩
    have HB1 : Hid (b1 = decide ((k : Int) < (n : Int))) := hb1
    clear hz ha0 hb1
    go_wp2_with fail
    have F5 := B4q.new w4 134 (.bool s) (.slice p4 m4 m4) (.bool false) (.int .i64 (-1))
    have hb5 := below1 w4 (.cells #[.bool s, .slice p4 m4 m4, .bool false, .int .i64 (-1)] 134)
    generalize w4.alloc (.cells #[.bool s, .slice p4 m4 m4, .bool false, .int .i64 (-1)] 134) = W5 at *
    obtain ⟨fb, hfb⟩ : ∃ fb, fb = w4.heap.size := ⟨_, rfl⟩
    have HFB : Hid (w.heap.size ≤ fb ∧ fb ≠ g ∧ fb ≠ r) := ⟨by rw [hfb]; exact HB4.out.size, by omega, by omega⟩
    have HPX : Hid (∀ g2, p4 = some ⟨g2, 0, none⟩ → 0 < m4 → g2 ≠ fb ∧ g2 ≠ r) := by
      intro g2 hp hm
      rcases O4.out.mem with h0 | ⟨g3, hp3, hB3, hr3⟩
      · omega
      · rw [hp] at hp3
        simp only [Option.some.injEq, Addr.mk.injEq, and_true] at hp3
        have hl3 : g3 < w4.heap.size := World.block_lt_of_cell? _ _ (hr3.cell 0 (by omega))
        exact ⟨by omega, by have := HP4.out g3 (by rw [hp, hp3]) hm; omega⟩
    rw [← hfb] at F5 ⊢
    clear hfb hgl hrl x0 x1 x2 x3 r0 r1 r2 r3 r4 r5 r6 r7
    have XF : Hid (Box W5 g (.bool s) (.slice p m c) ∧ B4q W5 r (.bool false) (.slice none 0 0) (.bool false) (.int .i64 0) ∧ B4q W5 fb (.bool s) (.slice p4 m4 m4) (.bool false) (.int .i64 (-1))) := ⟨XR4.out.1.below hb5, XR4.out.2.below hb5, F5⟩
    have H5 : Hid (Num W5 p m c xs a) := H4.out.below hb5
    have HT5 : Hid (Tab W5) := HT4.out.below hb5
    have HB5 : Hid (Below w.heap.size w W5) := Below.on HB4.out hb5
    have O5 : Hid (Own w.heap.size W5 p4 m4 z4) := O4.out.below hb5
    have HPN : Hid (∀ g2, p4 = some ⟨g2, 0, none⟩ → 0 < m4 → g2 ≠ fb ∧ g2 ≠ r) := HPX.out
    clear hb5 F5 XR4 H4 HT4 HB4 O4
    refine (trail_any H5.out.at_ (by have := H5.out.le; omega) (by rw [H5.out.nf.val]; exact HK.out) HT5.out).mono ?_
    rintro e w6 ⟨rfl, hw⟩
    obtain rfl := hw.symm
    clear hw
    obtain ⟨⟨x0, x1, x2, x3⟩, ⟨r0, r1, r2, r3, r4, r5, r6, r7⟩, ⟨f0, f1, f2, f3, f4, f5, f6, f7⟩⟩ := XF.out
    have hne1 : ¬ fb = g := HFB.out.2.1
    have hne2 : ¬ fb = r := HFB.out.2.2
    have hne3 : ¬ g = fb := fun e => hne1 e.symm
    have hne4 : ¬ r = fb := fun e => hne2 e.symm
    go_wp2_with fail
    obtain ⟨b2, hb2⟩ : ∃ b2, b2 = decide (k < n) := ⟨_, rfl⟩
    rw [← hb2]
    have HB2 : Hid (b2 = decide (k < n)) := hb2
    have XF6 : Hid (Box (W5.setCell ⟨fb, 2, none⟩ (.bool b2)) g (.bool s) (.slice p m c) ∧ B4q (W5.setCell ⟨fb, 2, none⟩ (.bool b2)) r (.bool false) (.slice none 0 0) (.bool false) (.int .i64 0) ∧ B4q (W5.setCell ⟨fb, 2, none⟩ (.bool b2)) fb (.bool s) (.slice p4 m4 m4) (.bool b2) (.int .i64 (-1))) :=
      ⟨⟨by go_simp, by go_simp, by go_simp, by go_simp⟩, ⟨by go_simp, by go_simp, by go_simp, by go_simp, by go_simp, by go_simp, by go_simp, by go_simp⟩, ⟨by go_simp, by go_simp, by go_simp, by go_simp, by go_simp, by go_simp, by go_simp, by go_simp⟩⟩
    have HB6 : Hid (Below w.heap.size w (W5.setCell ⟨fb, 2, none⟩ (.bool b2))) := bSet HB5.out _ _ _ HFB.out.1
    have O6 : Hid (Own w.heap.size (W5.setCell ⟨fb, 2, none⟩ (.bool b2)) p4 m4 z4) := O5.out.setNot fb 2 _ (fun g2 hp hm => (HPN.out g2 hp hm).1)
    generalize W5.setCell ⟨fb, 2, none⟩ (.bool b2) = W6 at *
    have H6 : Hid (Num W6 p m c xs a) := HW0.out.1.below HB6.out
    have HT6 : Hid (Tab W6) := HW0.out.2.below HB6.out
    clear hb2 x0 x1 x2 x3 r0 r1 r2 r3 r4 r5 r6 r7 f0 f1 f2 f3 f4 f5 f6 f7 XF H5 HT5 HB5 O5
    refine (bit_int H6.out.at_ (by have := H6.out.le; omega) ((n : Int) - 1) (by omega)).mono ?_
    rintro e w7 ⟨rfl, hw⟩
    obtain rfl := hw.symm
    clear hw
    obtain ⟨bb, hbb⟩ : ∃ bb, bb = bitO (valB B64 xs) ((n : Int) - 1) := ⟨_, rfl⟩
    rw [← hbb]
    have HBB : Hid (bb = bitO a ((n : Int) - 1)) := by rw [H6.out.nf.val] at hbb; exact hbb
    clear hbb
    obtain ⟨⟨x0, x1, x2, x3⟩, ⟨r0, r1, r2, r3, r4, r5, r6, r7⟩, ⟨f0, f1, f2, f3, f4, f5, f6, f7⟩⟩ := XF6.out
    have HX : Hid (b2 = decide (a % 2 ^ n ≠ 0)) := by
      show _ = _
      rw [HB2.out]
      rcases HK.out with ⟨e, _⟩ | ⟨_, e⟩
      · exact absurd e HA0.out
      · exact tz_lt e
    have HTZ : Hid (TzIs a k) := by
      rcases HK.out with ⟨e, _⟩ | ⟨_, e⟩
      · exact absurd e HA0.out
      · exact e
    have HPR : Hid (∀ g2, p4 = some ⟨g2, 0, none⟩ → 0 < m4 → g2 ≠ r) := HP4.out
    cases bb
    · go_wp2_with fail
      refine bodyPost_ret (v := .tuple #[FR s p4 m4 m4 b2 (-1), .int .i64 0]) (by rw [results_cell_tmp rfl]; go_simp) rfl ?_
      exact ⟨p4, m4, z4, b2, (-1), rfl, (((O6.out.setNot r 0 _ (fun g2 hp hm => HPR.out g2 hp hm)).setNot r 1 _ (fun g2 hp hm => HPR.out g2 hp hm)).setNot r 2 _ (fun g2 hp hm => HPR.out g2 hp hm)).setNot r 3 _ (fun g2 hp hm => HPR.out g2 hp hm), N4.out.1, N4.out.2, HX.out, half_lt HBB.out rfl, bSet (bSet (bSet (bSet HB6.out _ _ _ HGR.out.2.1) _ _ _ HGR.out.2.1) _ _ _ HGR.out.2.1) _ _ _ HGR.out.2.1⟩
    · have XF7 : Hid (Box (W6.setCell ⟨fb, 3, none⟩ (.int .i64 0)) g (.bool s) (.slice p m c) ∧ B4q (W6.setCell ⟨fb, 3, none⟩ (.int .i64 0)) r (.bool false) (.slice none 0 0) (.bool false) (.int .i64 0) ∧ B4q (W6.setCell ⟨fb, 3, none⟩ (.int .i64 0)) fb (.bool s) (.slice p4 m4 m4) (.bool b2) (.int .i64 0)) :=
        ⟨⟨by go_simp, by go_simp, by go_simp, by go_simp⟩, ⟨by go_simp, by go_simp, by go_simp, by go_simp, by go_simp, by go_simp, by go_simp, by go_simp⟩, ⟨by go_simp, by go_simp, by go_simp, by go_simp, by go_simp, by go_simp, by go_simp, by go_simp⟩⟩
      have HB7 : Hid (Below w.heap.size w (W6.setCell ⟨fb, 3, none⟩ (.int .i64 0))) := bSet HB6.out _ _ _ HFB.out.1
      have O7 : Hid (Own w.heap.size (W6.setCell ⟨fb, 3, none⟩ (.int .i64 0)) p4 m4 z4) := O6.out.setNot fb 3 _ (fun g2 hp hm => (HPN.out g2 hp hm).1)
      go_wp2_with fail
      generalize W6.setCell ⟨fb, 3, none⟩ (.int .i64 0) = W7 at *
      have H7 : Hid (Num W7 p m c xs a) := HW0.out.1.below HB7.out
      have HT7 : Hid (Tab W7) := HW0.out.2.below HB7.out
      clear x0 x1 x2 x3 r0 r1 r2 r3 r4 r5 r6 r7 f0 f1 f2 f3 f4 f5 f6 f7 XF6 H6 HT6 HB6 O6
      refine (trail_any H7.out.at_ (by have := H7.out.le; omega) (by rw [H7.out.nf.val]; exact HK.out) HT7.out).mono ?_
      rintro e w8 ⟨rfl, hw⟩
      obtain rfl := hw.symm
      clear hw
      obtain ⟨⟨x0, x1, x2, x3⟩, ⟨r0, r1, r2, r3, r4, r5, r6, r7⟩, ⟨f0, f1, f2, f3, f4, f5, f6, f7⟩⟩ := XF7.out
      by_cases hk1 : (k : Int) < (n : Int) - 1
      · have hk1b : decide ((k : Int) < (n : Int) - 1) = true := decide_eq_true hk1
        have O8 : Hid (Own w.heap.size (W7.setCell ⟨fb, 3, none⟩ (.int .i64 1)) p4 m4 z4) := O7.out.setNot fb 3 _ (fun g2 hp hm => (HPN.out g2 hp hm).1)
        have HB8 : Hid (Below w.heap.size w (W7.setCell ⟨fb, 3, none⟩ (.int .i64 1))) := bSet HB7.out _ _ _ HFB.out.1
        go_wp2_with fail
        refine bodyPost_ret (v := .tuple #[FR s p4 m4 m4 b2 1, .int .i64 0]) (by rw [results_cell_tmp rfl]; go_simp) rfl ?_
        exact ⟨p4, m4, z4, b2, 1, rfl, (((O8.out.setNot r 0 _ (fun g2 hp hm => HPR.out g2 hp hm)).setNot r 1 _ (fun g2 hp hm => HPR.out g2 hp hm)).setNot r 2 _ (fun g2 hp hm => HPR.out g2 hp hm)).setNot r 3 _ (fun g2 hp hm => HPR.out g2 hp hm), N4.out.1, N4.out.2, HX.out, half_ge HBB.out HTZ.out (by rw [if_pos hk1]), bSet (bSet (bSet (bSet HB8.out _ _ _ HGR.out.2.1) _ _ _ HGR.out.2.1) _ _ _ HGR.out.2.1) _ _ _ HGR.out.2.1⟩
      · have hk1b : decide ((k : Int) < (n : Int) - 1) = false := decide_eq_false hk1
        go_wp2_with fail
        refine bodyPost_ret (v := .tuple #[FR s p4 m4 m4 b2 0, .int .i64 0]) (by rw [results_cell_tmp rfl]; go_simp) rfl ?_
        exact ⟨p4, m4, z4, b2, 0, rfl, (((O7.out.setNot r 0 _ (fun g2 hp hm => HPR.out g2 hp hm)).setNot r 1 _ (fun g2 hp hm => HPR.out g2 hp hm)).setNot r 2 _ (fun g2 hp hm => HPR.out g2 hp hm)).setNot r 3 _ (fun g2 hp hm => HPR.out g2 hp hm), N4.out.1, N4.out.2, HX.out, half_ge HBB.out HTZ.out (by rw [if_neg (Int.not_lt.2 hk1)]), bSet (bSet (bSet (bSet HB7.out _ _ _ HGR.out.2.1) _ _ _ HGR.out.2.1) _ _ _ HGR.out.2.1) _ _ _ HGR.out.2.1⟩
  · have ha0 : a = 0 := hz.1 (by omega)
    have hmb : decide ((0 : Int) < (m : Int)) = false := decide_eq_false (by omega)
    have hmb' : decide (0 < m) = false := decide_eq_false hm0
    have hmp : ¬ (0 : Int) < (m : Int) := by omega
    have HA0 : Hid (a = 0) := ha0
    clear hz ha0
    obtain ⟨fb, hfb⟩ : ∃ fb, fb = w4.heap.size := ⟨_, rfl⟩
    have HFB : Hid (w.heap.size ≤ fb ∧ fb ≠ g ∧ fb ≠ r) := ⟨by rw [hfb]; exact HB4.out.size, by omega, by omega⟩
    have HPX : Hid (∀ g2, p4 = some ⟨g2, 0, none⟩ → 0 < m4 → g2 ≠ fb ∧ g2 ≠ r) := by
      intro g2 hp hm
      rcases O4.out.mem with h0 | ⟨g3, hp3, hB3, hr3⟩
      · omega
      · rw [hp] at hp3
        simp only [Option.some.injEq, Addr.mk.injEq, and_true] at hp3
        have hl3 : g3 < w4.heap.size := World.block_lt_of_cell? _ _ (hr3.cell 0 (by omega))
        exact ⟨by omega, by have := HP4.out g3 (by rw [hp, hp3]) hm; omega⟩
    go_wp2_with fail
    have F5 := B4q.new w4 134 (.bool s) (.slice p4 m4 m4) (.bool false) (.int .i64 (-1))
    have hb5 := below1 w4 (.cells #[.bool s, .slice p4 m4 m4, .bool false, .int .i64 (-1)] 134)
    generalize w4.alloc (.cells #[.bool s, .slice p4 m4 m4, .bool false, .int .i64 (-1)] 134) = W5 at *
    rw [← hfb] at F5 ⊢
    have XF : Hid (Box W5 g (.bool s) (.slice p m c) ∧ B4q W5 r (.bool false) (.slice none 0 0) (.bool false) (.int .i64 0) ∧ B4q W5 fb (.bool s) (.slice p4 m4 m4) (.bool false) (.int .i64 (-1))) := ⟨XR4.out.1.below hb5, XR4.out.2.below hb5, F5⟩
    have H5 : Hid (Num W5 p m c xs a) := H4.out.below hb5
    have HB5 : Hid (Below w.heap.size w W5) := Below.on HB4.out hb5
    have O5 : Hid (Own w.heap.size W5 p4 m4 z4) := O4.out.below hb5
    clear hfb hgl hrl x0 x1 x2 x3 r0 r1 r2 r3 r4 r5 r6 r7 hb5 F5 XR4 H4 HT4 HB4 O4
    have XF6 := XF
    have HB6 := HB5
    have O6 := O5
    have H6 := H5
    clear XF HB5 O5 H5
    refine (bit_int H6.out.at_ (by have := H6.out.le; omega) ((n : Int) - 1) (by omega)).mono ?_
    rintro e w7 ⟨rfl, hw⟩
    obtain rfl := hw.symm
    clear hw
    rw [show bitO (valB B64 xs) ((n : Int) - 1) = false from by rw [H6.out.nf.val, HA0.out, bitO_half]; exact decide_eq_false (by rw [Nat.zero_mod]; have : 0 < 2 ^ n := Nat.pow_pos (by omega); omega)]
    obtain ⟨⟨x0, x1, x2, x3⟩, ⟨r0, r1, r2, r3, r4, r5, r6, r7⟩, ⟨f0, f1, f2, f3, f4, f5, f6, f7⟩⟩ := XF6.out
    have hne1 : ¬ fb = g := HFB.out.2.1
    have hne2 : ¬ fb = r := HFB.out.2.2
    have hne3 : ¬ g = fb := fun e => hne1 e.symm
    have hne4 : ¬ r = fb := fun e => hne2 e.symm
    have HPR : Hid (∀ g2, p4 = some ⟨g2, 0, none⟩ → 0 < m4 → g2 ≠ r) := HP4.out
    go_wp2_with fail
    refine bodyPost_ret (v := .tuple #[FR s p4 m4 m4 false (-1), .int .i64 0]) (by rw [results_cell_tmp rfl]; go_simp) rfl ?_
    exact ⟨p4, m4, z4, false, (-1), rfl, (((O6.out.setNot r 0 _ (fun g2 hp hm => HPR.out g2 hp hm)).setNot r 1 _ (fun g2 hp hm => HPR.out g2 hp hm)).setNot r 2 _ (fun g2 hp hm => HPR.out g2 hp hm)).setNot r 3 _ (fun g2 hp hm => HPR.out g2 hp hm), N4.out.1, N4.out.2, by rw [HA0.out, Nat.zero_mod]; rfl, .inl ⟨by rw [HA0.out, Nat.zero_mod]; have : 0 < 2 ^ n := Nat.pow_pos (by omega); omega, rfl⟩, bSet (bSet (bSet (bSet HB6.out _ _ _ HGR.out.2.1) _ _ _ HGR.out.2.1) _ _ _ HGR.out.2.1) _ _ _ HGR.out.2.1⟩
def GeW (B : Nat) (w : World) : Prop := B ≤ w.heap.size
theorem GeW.below {B : Nat} {w w' : World} (h : GeW B w) (hb : Below w.heap.size w w') : GeW B w' := Nat.le_trans h hb.size
theorem fshr_any {p : Option Addr} {m c : Nat} {xs : List Nat} {a : Nat} {w : World} (s : Bool) (h : Num w p m c xs a) (hs : s = true → 0 < a) (n : Nat) (hn : n ≤ 9223372036854775807) (hT : Tab w) :
    Calls Tryz.prog 78 #[ZV s p m c, .int .i64 n] w fun e w' => ∃ v, e = .returned (.tuple #[v, .int .i64 0]) ∧ AnsZ w.heap.size w' v (fl s a (2 ^ n)) ∧ Below w.heap.size w w' := by
  have H : Hid (Num w p m c xs a) := h
  have HS : Hid (s = true → 0 < a) := hs
  have HT : Hid (Tab w) := hT
  have HN : Hid (n ≤ 9223372036854775807) := hn
  obtain ⟨z, hz⟩ : ∃ z, z = fl s a (2 ^ n) := ⟨_, rfl⟩
  rw [← hz]
  have HZ : Hid (z = fl s a (2 ^ n)) := hz
  obtain ⟨k, hk⟩ := TzO.ex a
  have HK : Hid (TzO a k) := hk
  clear h hs hT hn hz hk
  go_enter Tryz.func78, Tryz.ntmps78
  go_wp2_with fail
  obtain ⟨W0, hW0⟩ : ∃ W0, W0 = ((w.alloc (.cells #[.bool s, .slice p m c] 36)).alloc (.cells #[.bool false, .slice none 0 0] 36)) := ⟨_, rfl⟩
  have Xx : Hid (Box W0 (w.heap.size) (.bool s) (.slice p m c)) := by rw [hW0]; exact ⟨by go_simp, by go_simp, by go_simp, by go_simp⟩
  have Xr : Hid (Box W0 (w.heap.size + 1) (.bool false) (.slice none 0 0)) := by rw [hW0]; exact ⟨by go_simp, by go_simp, by go_simp, by go_simp⟩
  have hb0 : Below w.heap.size w W0 := by rw [hW0]; exact below2 w _ _
  rw [← hW0]
  clear hW0
  have hbw : Below w.heap.size w w := Below.refl _ _
  obtain ⟨gr, hgr⟩ : ∃ g, g = w.heap.size + 1 := ⟨_, rfl⟩
  have HGr : Hid (w.heap.size ≤ gr) := by rw [hgr]; show _ ≤ _; omega
  rw [← hgr] at Xr
  try rw [← hgr]
  obtain ⟨gx, hgx⟩ : ∃ g, g = w.heap.size := ⟨_, rfl⟩
  have HGx : Hid (w.heap.size ≤ gx) := by rw [hgx]; show _ ≤ _; omega
  rw [← hgx] at Xx
  try rw [← hgx]
  have HGD : Hid (gx ≠ gr ∧ gr ≠ gx) := by rw [hgx, hgr]; exact ⟨by omega, by omega⟩
  clear hgx hgr
  replace H : Hid _ := H.out.below hb0
  replace HT : Hid (Tab W0) := HT.out.below hb0
  replace hbw := Below.on hbw hb0
  clear hb0
  have HSZ : Hid (GeW W0.heap.size W0) := Nat.le_refl _
  have HRL : Hid (gr < W0.heap.size ∧ w.heap.size ≤ W0.heap.size) := ⟨Xr.out.lt, hbw.size⟩
  refine (shifted_any s H.out HS.out n HN.out HK.out HT.out).mono ?_
  rintro e w2 ⟨p2, m2, z2, x2, hf2, rfl, ho2, hn2, hm2, hx2, hh2, hb2⟩
  replace Xx : Hid _ := Xx.out.below hb2
  replace Xr : Hid _ := Xr.out.below hb2
  replace H : Hid _ := H.out.below hb2
  replace HT : Hid (Tab w2) := HT.out.below hb2
  replace HSZ : Hid (GeW W0.heap.size w2) := HSZ.out.below hb2
  replace hbw := Below.on hbw hb2
  clear hb2
  have HF : Hid (FrIs W0.heap.size w2 s a (2 ^ n) p2 m2 z2 x2 hf2) := ⟨ho2, hn2, hm2, hx2, hh2, H.out.lim⟩
  clear ho2 hn2 hm2 hx2 hh2
  obtain ⟨cr0, cr1, fr0, fr1⟩ := Xr.out
  have hner := Xr.out.lt
  go_wp2_with fail
  clear cr0 cr1 fr0 fr1 hner
  have Xf0 : Hid (B4q (w2.alloc (.cells #[.bool s, .slice p2 m2 m2, .bool x2, .int .i64 hf2] 134)) w2.heap.size (.bool s) (.slice p2 m2 m2) (.bool x2) (.int .i64 hf2)) := B4q.new w2 _ _ _ _ _
  have hbn : Below w2.heap.size w2 (w2.alloc (.cells #[.bool s, .slice p2 m2 m2, .bool x2, .int .i64 hf2] 134)) := below1 w2 _
  generalize w2.alloc (.cells #[.bool s, .slice p2 m2 m2, .bool x2, .int .i64 hf2] 134) = W3 at *
  have HGf : Hid (w.heap.size ≤ w2.heap.size) := hbw.size
  replace Xx : Hid _ := Xx.out.below hbn
  replace Xr : Hid _ := Xr.out.below hbn
  replace H : Hid _ := H.out.below hbn
  replace HT : Hid (Tab W3) := HT.out.below hbn
  replace HSZ : Hid (GeW W0.heap.size W3) := HSZ.out.below hbn
  replace HF : Hid _ := HF.out.below hbn
  replace hbw := Below.on hbw hbn
  clear hbn
  generalize w2.heap.size = gf at *
  have Xf := Xf0
  clear Xf0
  have hBs : W0.heap.size ≤ W3.heap.size := HSZ.out
  refine (floor_any s x2 hf2 HF.out hBs).mono ?_
  rintro e w4 ⟨v, rfl, hv, hb4⟩
  clear hBs
  rw [← HZ.out] at hv
  obtain ⟨p4, m4, z4, rfl, ho, hn, hm⟩ := hv
  replace Xx : Hid _ := Xx.out.below hb4
  replace Xr : Hid _ := Xr.out.below hb4
  replace Xf : Hid _ := Xf.out.below hb4
  replace H : Hid _ := H.out.below hb4
  replace HT : Hid (Tab w4) := HT.out.below hb4
  replace HSZ : Hid (GeW W0.heap.size w4) := HSZ.out.below hb4
  replace HF : Hid _ := HF.out.below hb4
  replace hbw := Below.on hbw hb4
  clear hb4
  have HO4 : Hid (Own W0.heap.size w4 p4 m4 z4) := ho
  have HN4 : Hid (Nf B64 z4 z.natAbs ∧ m4 ≤ 8192) := ⟨hn, hm⟩
  clear ho hn hm
  obtain ⟨b9, hb9⟩ : ∃ b, b = decide (z < 0) := ⟨_, rfl⟩
  rw [← hb9]
  have HB9 : Hid (b9 = decide (z < 0)) := hb9
  clear hb9
  obtain ⟨cr0, cr1, fr0, fr1⟩ := Xr.out
  have hner := Xr.out.lt
  go_wp2_with fail
  refine bodyPost_ret (v := .tuple #[ZV b9 p4 m4 m4, .int .i64 0]) (by rw [results_cell_tmp rfl]; go_simp) rfl ⟨_, rfl, ⟨p4, m4, z4, by rw [HB9.out], ?_, HN4.out.1, HN4.out.2⟩, ?_⟩
  · exact own_set2 HO4.out HRL.out.1 HRL.out.2 _ _
  · exact bSet (bSet hbw _ _ _ HGr.out) _ _ _ HGr.out
end Go.Proofs.YtidggnjnlhjhlaaGreatDoor
namespace Go.Proofs.YtidggnjnlhjhlaaGreatDoor
open Go.RowKit
set_option maxRecDepth 20000
set_option maxHeartbeats 0
structure DivRel (w : World) (g n : Nat) (zs : List Nat) (v k re : Nat) (dk : List Nat) (wr : World) : Prop where
  wrs : ∀ B, B ≤ g → Below B w wr
  row : Row wr g 0 n dk
  lo : dk.take (n - k) = zs.take (n - k)
  rlt : re < v
  sum : valB B64 (zs.drop (n - k)) = valB B64 (dk.drop (n - k)) * v + re
theorem DivRel.step {w : World} {g n : Nat} {zs : List Nat} {v k re : Nat} {dk : List Nat} {wr wr' : World} (h : DivRel w g n zs v k re dk wr) (hk : k < n) (hz : zs.length = n) {x q r : Nat}
    (hx : x = dk.getD (n - 1 - k) 0) (hq : re * B64 + x = q * v + r) (hr : r < v) (hw : ∀ B, B ≤ g → Below B w wr') (hrow : Row wr' g 0 n (dk.set (n - 1 - k) q)) : DivRel w g n zs v (k + 1) r (dk.set (n - 1 - k) q) wr' := by
  have hl := h.row.len
  have e : n - (k + 1) = n - 1 - k := by omega
  have e2 : n - 1 - k + 1 = n - k := by omega
  have hxz : x = zs.getD (n - 1 - k) 0 := hx.trans (getD_of_take h.lo (by omega))
  refine ⟨hw, hrow, ?_, hr, ?_⟩
  · rw [e, take_set_at]; exact take_of_take h.lo (by omega)
  · rw [e, drop_set_at dk _ q (by omega), valB_drop _ zs (n - 1 - k) (by omega), ← hxz, valB_cons, e2, h.sum, Nat.add_mul, Nat.mul_add]
    have e3 : B64 * (valB B64 (dk.drop (n - k)) * v) = B64 * valB B64 (dk.drop (n - k)) * v := by rw [Nat.mul_assoc]
    rw [e3, Nat.mul_comm B64 re]
    omega
end Go.Proofs.YtidggnjnlhjhlaaGreatDoor
namespace Go.Proofs.YtidggnjnlhjhlaaGreatDoor
open Go.RowKit Go.Shelf
set_option maxRecDepth 20000
set_option maxHeartbeats 0
theorem Nf.one {ys : List Nat} {b : Nat} (hy : Nf B64 ys b) (hl : ys.length = 1) : ys = [b] := by
  match ys, hl with
  | [y], _ => have := hy.val; simp [valB] at this; rw [this]
def cmpI (x y : Int) : Int := if x < y then -1 else if x = y then 0 else 1
theorem Num.drewN {w : World} {p : Option Addr} {m c : Nat} {xs : List Nat} {a : Nat} (h : Num w p m c xs a) (r : Nat) : Num (w.drewN r) p m c xs a := ⟨h.at_.drewN r, h.nf, h.le⟩
theorem nshl_any {p : Option Addr} {m c : Nat} {xs : List Nat} {a : Nat} {w : World} (s : Bool) (h : Num w p m c xs a) (hs : s = true → 0 < a) (n : Nat) (hn : n ≤ 9223372036854775807) :
    Calls Tryz.prog 74 #[ZV s p m c, .int .i64 n] w fun e w' => AnsI w.heap.size w' e (iv s (2 ^ n * a)) ∧ Below w.heap.size w w' := by
  have H : Hid (Num w p m c xs a) := h
  have HS : Hid (s = true → 0 < a) := hs
  clear h hs
  have HN : Hid (n ≤ 9223372036854775807) := hn
  have c0 : decide ((n : Int) < 0) = false := decide_eq_false (by omega)
  clear hn
  go_enter Tryz.func74, Tryz.ntmps74
  go_wp2_with fail
  obtain ⟨W0, hW0⟩ : ∃ W0, W0 = ((w.alloc (.cells #[.bool s, .slice p m c] 36)).alloc (.cells #[.bool false, .slice none 0 0] 36)) := ⟨_, rfl⟩
  have Xx : Hid (Box W0 (w.heap.size) (.bool s) (.slice p m c)) := by rw [hW0]; exact ⟨by go_simp, by go_simp, by go_simp, by go_simp⟩
  have Xr : Hid (Box W0 (w.heap.size + 1) (.bool false) (.slice none 0 0)) := by rw [hW0]; exact ⟨by go_simp, by go_simp, by go_simp, by go_simp⟩
  have hb0 : Below w.heap.size w W0 := by rw [hW0]; exact below2 w _ _
  rw [← hW0]
  clear hW0
  have hbw : Below w.heap.size w w := Below.refl _ _
  obtain ⟨gr, hgr⟩ : ∃ g, g = w.heap.size + 1 := ⟨_, rfl⟩
  have HGr : Hid (w.heap.size ≤ gr) := by rw [hgr]; show _ ≤ _; omega
  rw [← hgr] at Xr
  try rw [← hgr]
  obtain ⟨gx, hgx⟩ : ∃ g, g = w.heap.size := ⟨_, rfl⟩
  have HGx : Hid (w.heap.size ≤ gx) := by rw [hgx]; show _ ≤ _; omega
  rw [← hgx] at Xx
  try rw [← hgx]
  have HGD : Hid (gx ≠ gr ∧ gr ≠ gx) := by rw [hgx, hgr]; exact ⟨by omega, by omega⟩
  clear hgx hgr
  replace H : Hid _ := H.out.below hb0
  replace hbw := Below.on hbw hb0
  clear hb0
  refine (numform_t s H.out HS.out).mono ?_
  rintro e w1 ⟨rfl, hb1⟩
  replace Xx : Hid _ := Xx.out.below hb1
  replace Xr : Hid _ := Xr.out.below hb1
  replace H : Hid _ := H.out.below hb1
  replace hbw := Below.on hbw hb1
  clear hb1
  clear c0
  obtain ⟨cx0, cx1, fx0, fx1⟩ := Xx.out
  have hnex := Xx.out.lt
  go_wp2_with fail
  clear cx0 cx1 fx0 fx1 hnex
  have hrl : gr < w1.heap.size := Xr.out.lt
  have HRL : Hid (gr < w1.heap.size ∧ w.heap.size ≤ w1.heap.size) := ⟨hrl, hbw.size⟩
  clear hrl
  obtain ⟨v, hv⟩ : ∃ v, v = 2 ^ n * a := ⟨_, rfl⟩
  have HV : Hid (v = 2 ^ n * a) := hv
  refine (shl_nf H.out.at_ H.out.nf H.out.le n HN.out).mono ?_
  rintro e w2 ⟨ha, hb2⟩
  rw [← hv] at ha
  clear hv
  replace Xx : Hid _ := Xx.out.below hb2
  replace Xr : Hid _ := Xr.out.below hb2
  replace H : Hid _ := H.out.below hb2
  replace hbw := Below.on hbw hb2
  clear hb2
  rcases ha with ⟨hl, p2, m2, z2, rfl, ho2, hn2, hm2⟩ | ⟨hl, rfl⟩
  · have HL : Hid (v < LIM) := hl
    clear hl
    have HO2 : Hid (Own w1.heap.size w2 p2 m2 z2) := ho2
    have HN2 : Hid (Nf B64 z2 v ∧ m2 ≤ 8192) := ⟨hn2, hm2⟩
    clear ho2 hn2 hm2
    obtain ⟨cx0, cx1, fx0, fx1⟩ := Xx.out
    have hnex := Xx.out.lt
    go_wp2_with fail
    clear cx0 cx1 fx0 fx1 hnex
    refine (signed_any s p2 m2 m2 w2).mono ?_
    rintro e w3 ⟨rfl, hb3⟩
    replace Xx : Hid _ := Xx.out.below hb3
    replace Xr : Hid _ := Xr.out.below hb3
    replace H : Hid _ := H.out.below hb3
    replace HO2 : Hid (Own w1.heap.size w3 p2 m2 z2) := HO2.out.below hb3
    replace hbw := Below.on hbw hb3
    clear hb3
    obtain ⟨b, hb⟩ : ∃ b, b = (s && decide (0 < m2)) := ⟨_, rfl⟩
    rw [← hb]
    have HBB : Hid (b = (s && decide (0 < m2))) := hb
    clear hb
    obtain ⟨cr0, cr1, fr0, fr1⟩ := Xr.out
    have hner := Xr.out.lt
    go_wp2_with fail
    refine bodyPost_ret (v := .tuple #[ZV b p2 m2 m2, .int .i64 0]) (by rw [results_cell_tmp rfl]; go_simp) rfl ⟨.inl ⟨by rw [iv_natAbs, ← HV.out]; exact HL.out, p2, m2, z2, ?_, ?_, ?_, HN2.out.2⟩, ?_⟩
    · rw [HBB.out, iv_lt, ← HV.out, HN2.out.1.lenpos HO2.out.len]
    · exact own_set2 HO2.out HRL.out.1 HRL.out.2 _ _
    · rw [iv_natAbs, ← HV.out]; exact HN2.out.1
    · exact bSet (bSet hbw _ _ _ HGr.out) _ _ _ HGr.out
  · have HL : Hid (LIM ≤ v) := hl
    clear hl
    obtain ⟨cx0, cx1, fx0, fx1⟩ := Xx.out
    have hnex := Xx.out.lt
    go_wp2_with fail
    clear cx0 cx1 fx0 fx1 hnex
    refine (signed_any s none 0 0 w2).mono ?_
    rintro e w3 ⟨rfl, hb3⟩
    replace Xx : Hid _ := Xx.out.below hb3
    replace Xr : Hid _ := Xr.out.below hb3
    replace H : Hid _ := H.out.below hb3
    replace hbw := Below.on hbw hb3
    clear hb3
    rw [show (s && decide (0 < 0)) = false from by simp]
    obtain ⟨cr0, cr1, fr0, fr1⟩ := Xr.out
    have hner := Xr.out.lt
    go_wp2_with fail
    refine bodyPost_ret (v := .tuple #[ZV false none 0 0, .int .i64 5]) (by rw [results_cell_tmp rfl]; go_simp) rfl ⟨.inr ⟨by rw [iv_natAbs, ← HV.out]; exact HL.out, rfl⟩, ?_⟩
    exact bSet (bSet hbw _ _ _ HGr.out) _ _ _ HGr.out
structure ZN (w : World) (s : Bool) (p : Option Addr) (m c : Nat) (z : Int) : Prop where
  ex : ∃ xs, Num w p m c xs z.natAbs
  sg : s = decide (z < 0)
theorem ZN.below {w w' : World} {s : Bool} {p : Option Addr} {m c : Nat} {z : Int} (h : ZN w s p m c z) (hb : Below w.heap.size w w') : ZN w' s p m c z := by
  obtain ⟨xs, hx⟩ := h.ex
  exact ⟨⟨xs, hx.below hb⟩, h.sg⟩
theorem ZN.iv {w : World} {s : Bool} {p : Option Addr} {m c : Nat} {z : Int} (h : ZN w s p m c z) : iv s z.natAbs = z := by rw [h.sg]; exact iv_abs z
theorem ZN.pos {w : World} {s : Bool} {p : Option Addr} {m c : Nat} {z : Int} (h : ZN w s p m c z) : s = true → 0 < z.natAbs := by rw [h.sg]; exact sgn_pos z
theorem ZN.lim {w : World} {s : Bool} {p : Option Addr} {m c : Nat} {z : Int} (h : ZN w s p m c z) : z.natAbs < LIM := by
  obtain ⟨xs, hx⟩ := h.ex
  exact hx.lim
theorem ZN.le {w : World} {s : Bool} {p : Option Addr} {m c : Nat} {z : Int} (h : ZN w s p m c z) : m ≤ 8192 := by
  obtain ⟨xs, hx⟩ := h.ex
  exact hx.le
theorem ZN.cast {w : World} {s : Bool} {p : Option Addr} {m c : Nat} {z z' : Int} (h : ZN w s p m c z) (e : z = z') : ZN w s p m c z' := e ▸ h
theorem ZN.of {w : World} {p : Option Addr} {m c : Nat} {xs : List Nat} {a : Nat} {t : Bool} (h : Num w p m c xs a) (ht : t = true → 0 < a) : ZN w t p m c (Go.Proofs.YtidggnjnlhjhlaaGreatDoor.iv t a) :=
  ⟨⟨xs, by rw [iv_natAbs]; exact h⟩, by
    cases t
    · rw [iv_f]; exact (decide_eq_false (Int.not_lt.2 (Int.natCast_nonneg _))).symm
    · rw [iv_t]; have := ht rfl; exact (decide_eq_true (by omega)).symm⟩
def Got (w' : World) (e : Ending) (z : Int) : Prop := ∃ s p m, e = .returned (.tuple #[ZV s p m m, .int .i64 0]) ∧ ZN w' s p m m z
theorem AnsZ.zn {B : Nat} {w' : World} {v : Value} {z : Int} (h : AnsZ B w' v z) : ∃ s p m, v = ZV s p m m ∧ ZN w' s p m m z := by
  obtain ⟨p, m, zs, rfl, ho, hn, hm⟩ := h
  exact ⟨_, p, m, rfl, ⟨zs, Num.of ho hn hm⟩, rfl⟩
theorem AnsI.zn {B : Nat} {w' : World} {e : Ending} {z : Int} (h : AnsI B w' e z) : (z.natAbs < LIM ∧ Got w' e z) ∨ (LIM ≤ z.natAbs ∧ e = .returned (.tuple #[ZV false none 0 0, .int .i64 5])) := by
  rcases h with ⟨hl, p, m, zs, rfl, ho, hn, hm⟩ | ⟨hl, rfl⟩
  · exact .inl ⟨hl, _, p, m, rfl, ⟨zs, Num.of ho hn hm⟩, rfl⟩
  · exact .inr ⟨hl, rfl⟩
theorem AnsI.got {B : Nat} {w' : World} {e : Ending} {z : Int} (h : AnsI B w' e z) (hz : z.natAbs < LIM) : Got w' e z := by
  rcases h.zn with ⟨_, k⟩ | ⟨k, _⟩
  · exact k
  · omega
variable {w : World} {s t : Bool} {p q : Option Addr} {m c n d : Nat} {x y : Int}
theorem zadd (h : ZN w s p m c x) (k : ZN w t q n d y) : Calls Tryz.prog 45 #[ZV s p m c, ZV t q n d] w fun e w' => AnsI w.heap.size w' e (x + y) ∧ Below w.heap.size w w' := by
  obtain ⟨xs, hx⟩ := h.ex
  obtain ⟨ys, hy⟩ := k.ex
  have := nadd_any s t hx hy h.pos k.pos
  rwa [h.iv, k.iv] at this
theorem zshl (h : ZN w s p m c x) (k : Nat) (hk : k ≤ 9223372036854775807) : Calls Tryz.prog 74 #[ZV s p m c, .int .i64 k] w fun e w' => AnsI w.heap.size w' e (x * 2 ^ k) ∧ Below w.heap.size w w' := by
  obtain ⟨xs, hx⟩ := h.ex
  have := nshl_any s hx h.pos k hk
  rwa [show Go.Proofs.YtidggnjnlhjhlaaGreatDoor.iv s (2 ^ k * x.natAbs) = x * 2 ^ k from by
    have e := h.iv
    rw [show Go.Proofs.YtidggnjnlhjhlaaGreatDoor.iv s (2 ^ k * x.natAbs) = Go.Proofs.YtidggnjnlhjhlaaGreatDoor.iv s x.natAbs * 2 ^ k from by cases s <;> simp [Go.Proofs.YtidggnjnlhjhlaaGreatDoor.iv, Int.mul_comm, Int.neg_mul], e]] at this
theorem zsign (h : ZN w s p m c x) : Calls Tryz.prog 42 #[ZV s p m c] w fun e w' => e = .returned (.int .i64 (sgnI x)) ∧ Below w.heap.size w w' := by
  obtain ⟨xs, hx⟩ := h.ex
  have := sign_any s hx
  rwa [h.iv] at this
theorem zform (h : ZN w s p m c x) : Calls Tryz.prog 71 #[ZV s p m c] w fun e w' => e = .returned (.bool true) ∧ Below w.heap.size w w' := by
  obtain ⟨xs, hx⟩ := h.ex
  exact numform_t s hx h.pos
theorem rsub04 {p q : Option Addr} {m n : Nat} {w : World} {x y : Int} (s t : Bool) (h : ZR w s p m x) (k : ZR w t q n y) (hm : m ≤ 50000) (hn : n ≤ 50000) :
    Calls Tryz.prog 97 #[.agg #[.bool s, .slice p m m], .agg #[.bool t, .slice q n n]] w fun e w' => ∃ v, e = .returned v ∧ GotR w.heap.size w' v (x - y) (max m n + 1) ∧ Below w.heap.size w w' := by
  have HA : Hid (ZR w s p m x) := h
  have HB : Hid (ZR w t q n y) := k
  have HM : Hid (m ≤ 50000 ∧ n ≤ 50000) := ⟨hm, hn⟩
  clear h k hm hn
  go_enter Tryz.func97, Tryz.ntmps97
  go_wp2_with fail
  obtain ⟨W0, hW0⟩ : ∃ W0, W0 = (((w.alloc (.cells #[.bool s, .slice p m m] 87)).alloc (.cells #[.bool t, .slice q n n] 87)).alloc (.cells #[.bool false, .slice none 0 0] 87)) := ⟨_, rfl⟩
  have Xa : Hid (Box W0 (w.heap.size) (.bool s) (.slice p m m)) := by rw [hW0]; exact ⟨by go_simp, by go_simp, by go_simp, by go_simp⟩
  have Xb : Hid (Box W0 (w.heap.size + 1) (.bool t) (.slice q n n)) := by rw [hW0]; exact ⟨by go_simp, by go_simp, by go_simp, by go_simp⟩
  have Xr : Hid (Box W0 (w.heap.size + 1 + 1) (.bool false) (.slice none 0 0)) := by rw [hW0]; exact ⟨by go_simp, by go_simp, by go_simp, by go_simp⟩
  have hb0 : Below w.heap.size w W0 := by rw [hW0]; exact below3 w _ _ _
  rw [← hW0]
  clear hW0
  have hbw : Below w.heap.size w w := Below.refl _ _
  obtain ⟨gr, hgr⟩ : ∃ g, g = w.heap.size + 1 + 1 := ⟨_, rfl⟩
  have HGr : Hid (w.heap.size ≤ gr) := by rw [hgr]; show _ ≤ _; omega
  rw [← hgr] at Xr
  try rw [← hgr]
  obtain ⟨gb, hgb⟩ : ∃ g, g = w.heap.size + 1 := ⟨_, rfl⟩
  have HGb : Hid (w.heap.size ≤ gb) := by rw [hgb]; show _ ≤ _; omega
  rw [← hgb] at Xb
  try rw [← hgb]
  obtain ⟨ga, hga⟩ : ∃ g, g = w.heap.size := ⟨_, rfl⟩
  have HGa : Hid (w.heap.size ≤ ga) := by rw [hga]; show _ ≤ _; omega
  rw [← hga] at Xa
  try rw [← hga]
  have HGD : Hid (ga ≠ gb ∧ ga ≠ gr ∧ gb ≠ ga ∧ gb ≠ gr ∧ gr ≠ ga ∧ gr ≠ gb) := by rw [hga, hgb, hgr]; exact ⟨by omega, by omega, by omega, by omega, by omega, by omega⟩
  clear hga hgb hgr
  replace HA : Hid _ := HA.out.below hb0
  replace HB : Hid _ := HB.out.below hb0
  replace hbw := Below.on hbw hb0
  clear hb0
  obtain ⟨W1, hW1⟩ : ∃ W1, W1 = W0.drew := ⟨_, rfl⟩
  have hbd : Below W0.heap.size W0 W1 := by rw [hW1]; exact bDrew1 (Below.refl _ _)
  replace Xa : Hid _ := Xa.out.below hbd
  replace Xb : Hid _ := Xb.out.below hbd
  replace Xr : Hid _ := Xr.out.below hbd
  replace HA : Hid _ := HA.out.below hbd
  replace HB : Hid _ := HB.out.below hbd
  replace hbw := Below.on hbw hbd
  clear hbd
  have HJ : Hid ((fun W' : World => W'.cell? ⟨ga, 0, none⟩ = some (.bool s) ∧ W'.cell? ⟨ga, 1, none⟩ = some (.slice p m m) ∧ W'.cell? ⟨gb, 0, none⟩ = some (.bool t) ∧ W'.cell? ⟨gb, 1, none⟩ = some (.slice q n n)) W1) := ⟨Xa.out.c0, Xa.out.c1, Xb.out.c0, Xb.out.c1⟩
  refine wp_region_J (fun W' => W'.cell? ⟨ga, 0, none⟩ = some (.bool s) ∧ W'.cell? ⟨ga, 1, none⟩ = some (.slice p m m) ∧ W'.cell? ⟨gb, 0, none⟩ = some (.bool t) ∧ W'.cell? ⟨gb, 1, none⟩ = some (.slice q n n)) (by kernel_rfl) ?_
  rw [← hW1]
  clear hW1
  refine wpJ_tq 0 rfl HJ.out ?_
  refine wpJ_tq 1 rfl HJ.out ?_
  refine wpJ_on 2 rfl fun KJ hK => ?_
  go_simp
  refine (rflip_any t HB.out (by have := HM.out; omega)).mono ?_
  rintro e w2 ⟨v, rfl, hv, hb2⟩
  obtain ⟨s2, g2, m2, rfl, hg2, hz2, hl2⟩ := hv
  replace Xa : Hid _ := Xa.out.below hb2
  replace Xb : Hid _ := Xb.out.below hb2
  replace Xr : Hid _ := Xr.out.below hb2
  replace HA : Hid _ := HA.out.below hb2
  replace HB : Hid _ := HB.out.below hb2
  replace hbw := Below.on hbw hb2
  clear hb2
  have ZB : Hid (ZR w2 s2 (some ⟨g2, 0, none⟩) m2 (-y)) := hz2
  have HL2 : Hid (m2 ≤ n) := hl2
  have HRL : Hid (gr < w2.heap.size) := Xr.out.lt
  have HBS : Hid (w.heap.size ≤ w2.heap.size) := hbw.size
  clear hg2 hz2 hl2
  refine hK _ _ ⟨Xa.out.c0, Xa.out.c1, Xb.out.c0, Xb.out.c1⟩ ?_
  clear hK
  refine wpJ_on 3 rfl fun KJ hK => ?_
  go_simp
  refine (radd04 s s2 HA.out ZB.out HM.out.1 (Nat.le_trans HL2.out HM.out.2)).mono ?_
  rintro e w3 ⟨v, rfl, hv, hb3⟩
  rw [← Int.sub_eq_add_neg] at hv
  replace Xa : Hid _ := Xa.out.below hb3
  replace Xb : Hid _ := Xb.out.below hb3
  replace Xr : Hid _ := Xr.out.below hb3
  replace HA : Hid _ := HA.out.below hb3
  replace HB : Hid _ := HB.out.below hb3
  replace ZB : Hid _ := ZB.out.below hb3
  replace hbw := Below.on hbw hb3
  clear hb3
  have HLL : Hid (max m m2 + 1 ≤ max m n + 1) := by have := HL2.out; show _ ≤ _; omega
  obtain ⟨s9, g9, m9, rfl, hg9, hz9, hl9⟩ := hv
  have ZA : Hid (ZR w3 s9 (some ⟨g9, 0, none⟩) m9 (x - y)) := hz9
  have HL : Hid (m9 ≤ max m n + 1) := by have := hl9; have := HLL.out; show m9 ≤ _; omega
  have HGE : Hid (gr < g9) := Nat.lt_of_lt_of_le HRL.out hg9
  have HGB : Hid (w.heap.size ≤ g9) := Nat.le_trans HBS.out hg9
  clear hg9 hz9 hl9
  refine hK _ _ ⟨Xa.out.c0, Xa.out.c1, Xb.out.c0, Xb.out.c1⟩ ?_
  clear hK
  obtain ⟨cr0, cr1, fr0, fr1⟩ := Xr.out
  have hner := Xr.out.lt
  obtain ⟨ca0, ca1, fa0, fa1⟩ := Xa.out
  have hnea := Xa.out.lt
  obtain ⟨cb0, cb1, fb0, fb1⟩ := Xb.out
  have hneb := Xb.out.lt
  obtain ⟨hgd0, hgd1, hgd2, hgd3, hgd4, hgd5⟩ := HGD.out
  refine wpJ_on 4 rfl fun KJ hK => ?_
  go_simp
  have HJ2 : Hid ((fun W' : World => W'.cell? ⟨ga, 0, none⟩ = some (.bool s) ∧ W'.cell? ⟨ga, 1, none⟩ = some (.slice p m m) ∧ W'.cell? ⟨gb, 0, none⟩ = some (.bool t) ∧ W'.cell? ⟨gb, 1, none⟩ = some (.slice q n n)) ((w3.setCell ⟨gr, 0, none⟩ (.bool s9)).setCell ⟨gr, 1, none⟩ (.slice (some ⟨g9, 0, none⟩) m9 m9))) := ⟨by go_simp, by go_simp, by go_simp, by go_simp⟩
  refine hK _ _ HJ2.out ?_
  clear hK HJ
  have HJ := HJ2
  clear HJ2
  refine wpJ_done (by kernel_rfl) ?_ _
  clear HJ
  go_wp2_with fail
  refine bodyPost_ret (v := .agg #[.bool s9, .slice (some ⟨g9, 0, none⟩) m9 m9]) (by rw [results_cell1 rfl]; go_simp) rfl ⟨_, rfl, ⟨s9, g9, m9, rfl, HGB.out, ?_, HL.out⟩, ?_⟩
  · have := HGE.out
    exact (ZA.out.set _ _ _ (by omega)).set _ _ _ (by omega)
  · exact bSet (bSet hbw _ _ _ HGr.out) _ _ _ HGr.out
theorem rsign04 {p : Option Addr} {m : Nat} {w : World} {z : Int} (s : Bool) (h : ZR w s p m z) :
    Calls Tryz.prog 68 #[.agg #[.bool s, .slice p m m]] w fun e w' => e = .returned (.int .i64 (sgnI z)) ∧ Below w.heap.size w w' := by
  have hz := h.zero
  have hsg := h.sg
  obtain ⟨sg, hs⟩ : ∃ sg, sg = sgnI z := ⟨_, rfl⟩
  rw [← hs]
  by_cases hm : m = 0
  · have hv : sg = 0 := by rw [hs, hz.1 hm]; rfl
    subst hv
    subst hm
    clear h hz hsg hs
    go_enter Tryz.func68, Tryz.ntmps68
    go_wp2_with fail
    go_ret
    exact ⟨rfl, below1 w _⟩
  · have hm0 : ((m : Int) == 0) = false := by simp; omega
    have hz0 : z ≠ 0 := fun e => hm (hz.2 e)
    cases s
    · have hv : sg = 1 := by rw [hs]; unfold sgnI; have := of_decide_eq_false hsg.symm; rw [if_neg this, if_neg hz0]
      subst hv
      clear h hz hsg hs hz0
      go_enter Tryz.func68, Tryz.ntmps68
      go_wp2_with fail
      go_ret
      exact ⟨rfl, below1 w _⟩
    · have hv : sg = -1 := by rw [hs]; unfold sgnI; have := of_decide_eq_true hsg.symm; rw [if_pos this]
      subst hv
      clear h hz hsg hs hz0
      go_enter Tryz.func68, Tryz.ntmps68
      go_wp2_with fail
      go_ret
      exact ⟨rfl, below1 w _⟩
theorem sgn_cmp (x y : Int) : sgnI (x - y) = cmpI x y := by
  unfold sgnI cmpI
  rcases Int.lt_trichotomy x y with h | h | h
  · rw [if_pos (by omega), if_pos h]
  · rw [if_neg (by omega), if_pos (by omega), if_neg (by omega), if_pos h]
  · rw [if_neg (by omega), if_neg (by omega), if_neg (by omega), if_neg (by omega)]
theorem rcmp04 {p q : Option Addr} {m n : Nat} {w : World} {x y : Int} (s t : Bool) (h : ZR w s p m x) (k : ZR w t q n y) (hm : m ≤ 50000) (hn : n ≤ 50000) :
    Calls Tryz.prog 121 #[.agg #[.bool s, .slice p m m], .agg #[.bool t, .slice q n n]] w fun e w' => e = .returned (.int .i64 (cmpI x y)) ∧ Below w.heap.size w w' := by
  have HA : Hid (ZR w s p m x) := h
  have HB : Hid (ZR w t q n y) := k
  have HM : Hid (m ≤ 50000 ∧ n ≤ 50000) := ⟨hm, hn⟩
  clear h k hm hn
  rw [← sgn_cmp]
  go_enter Tryz.func121, Tryz.ntmps121
  go_wp2_with fail
  obtain ⟨W0, hW0⟩ : ∃ W0, W0 = ((w.alloc (.cells #[.bool s, .slice p m m] 87)).alloc (.cells #[.bool t, .slice q n n] 87)) := ⟨_, rfl⟩
  have Xa : Hid (Box W0 (w.heap.size) (.bool s) (.slice p m m)) := by rw [hW0]; exact ⟨by go_simp, by go_simp, by go_simp, by go_simp⟩
  have Xb : Hid (Box W0 (w.heap.size + 1) (.bool t) (.slice q n n)) := by rw [hW0]; exact ⟨by go_simp, by go_simp, by go_simp, by go_simp⟩
  have hb0 : Below w.heap.size w W0 := by rw [hW0]; exact below2 w _ _
  rw [← hW0]
  clear hW0
  have hbw : Below w.heap.size w w := Below.refl _ _
  obtain ⟨gb, hgb⟩ : ∃ g, g = w.heap.size + 1 := ⟨_, rfl⟩
  have HGb : Hid (w.heap.size ≤ gb) := by rw [hgb]; show _ ≤ _; omega
  rw [← hgb] at Xb
  try rw [← hgb]
  obtain ⟨ga, hga⟩ : ∃ g, g = w.heap.size := ⟨_, rfl⟩
  have HGa : Hid (w.heap.size ≤ ga) := by rw [hga]; show _ ≤ _; omega
  rw [← hga] at Xa
  try rw [← hga]
  have HGD : Hid (ga ≠ gb ∧ gb ≠ ga) := by rw [hga, hgb]; exact ⟨by omega, by omega⟩
  clear hga hgb
  replace HA : Hid _ := HA.out.below hb0
  replace HB : Hid _ := HB.out.below hb0
  replace hbw := Below.on hbw hb0
  clear hb0
  refine (rsub04 s t HA.out HB.out HM.out.1 HM.out.2).mono ?_
  rintro e w2 ⟨v, rfl, hv, hb2⟩
  obtain ⟨s2, g2, m2, rfl, hg2, hz2, hl2⟩ := hv
  replace Xa : Hid _ := Xa.out.below hb2
  replace Xb : Hid _ := Xb.out.below hb2
  replace HA : Hid _ := HA.out.below hb2
  replace HB : Hid _ := HB.out.below hb2
  replace hbw := Below.on hbw hb2
  clear hb2
  have ZB : Hid (ZR w2 s2 (some ⟨g2, 0, none⟩) m2 (x - y)) := hz2
  clear hg2 hz2 hl2
  go_wp2_with fail
  refine (rsign04 s2 ZB.out).mono ?_
  rintro e v3 ⟨rfl, hb3⟩
  obtain ⟨sv, hsv⟩ : ∃ sv, sv = sgnI (x - y) := ⟨_, rfl⟩
  rw [← hsv]
  have HSV : Hid (sv = sgnI (x - y)) := hsv
  clear hsv
  replace Xa : Hid _ := Xa.out.below hb3
  replace Xb : Hid _ := Xb.out.below hb3
  replace HA : Hid _ := HA.out.below hb3
  replace HB : Hid _ := HB.out.below hb3
  replace ZB : Hid _ := ZB.out.below hb3
  replace hbw := Below.on hbw hb3
  clear hb3
  go_wp2_with fail
  go_ret
  exact ⟨by rw [← HSV.out]; rfl, hbw⟩
def NewAt (B : Nat) (w : World) (p : Option Addr) (m c : Nat) (us : List Nat) : Prop := At w p m c us ∧ (m = 0 ∨ ∃ g, p = some ⟨g, 0, none⟩ ∧ B ≤ g)
theorem NewAt.below {B : Nat} {w w' : World} {p : Option Addr} {m c : Nat} {us : List Nat} (h : NewAt B w p m c us) (hb : Below w.heap.size w w') : NewAt B w' p m c us := ⟨h.1.below hb, h.2⟩
theorem NewAt.mono {B B' : Nat} {w : World} {p : Option Addr} {m c : Nat} {us : List Nat} (h : NewAt B w p m c us) (hB : B' ≤ B) : NewAt B' w p m c us :=
  ⟨h.1, h.2.imp id (fun ⟨g, e, k⟩ => ⟨g, e, Nat.le_trans hB k⟩)⟩
theorem NewAt.set {B : Nat} {w : World} {p : Option Addr} {m c : Nat} {us : List Nat} (h : NewAt B w p m c us) {r : Nat} (hr : r < B) (o : Nat) (v : Value) : NewAt B (w.setCell ⟨r, o, none⟩ v) p m c us := by
  refine ⟨?_, h.2⟩
  rcases h.2 with h0 | ⟨g, rfl, hg⟩
  · subst h0
    obtain rfl : us = [] := List.eq_nil_of_length_eq_zero h.1.len
    exact At.empty _ _ _ h.1.big
  · exact h.1.setOther _ _ _ (by omega)
def DocZ (z : Int) (s : Bool) (us : List Nat) (er : Int) : Prop :=
  (z.natAbs < LIM ∧ s = decide (z < 0) ∧ Nf B64 us z.natAbs ∧ er = 0) ∨ (LIM ≤ z.natAbs ∧ s = false ∧ us = [] ∧ er = 5)
theorem DocZ.inj {z : Int} {s s' : Bool} {us us' : List Nat} {er er' : Int} (h : DocZ z s us er) (k : DocZ z s' us' er') : s = s' ∧ us = us' ∧ er = er' := by
  rcases h with ⟨h0, rfl, h1, rfl⟩ | ⟨h0, rfl, rfl, rfl⟩ <;> rcases k with ⟨k0, rfl, k1, rfl⟩ | ⟨k0, rfl, rfl, rfl⟩
  · exact ⟨rfl, h1.inj B64_one k1, rfl⟩
  · omega
  · omega
  · exact ⟨rfl, rfl, rfl⟩
theorem lim32 {zs : List Nat} {a : Nat} (h : Nf B32 zs a) : zs.length ≤ 16384 ↔ a < LIM := by
  rw [h.len_le B32_one]
  obtain ⟨K, hK⟩ : ∃ K, K = 8192 := ⟨_, rfl⟩
  rw [LIM_eq K hK, ← B32_two, show (16384 : Nat) = 2 * K by omega, Nat.pow_mul, Nat.pow_two]
def formZ (s : Bool) (xs : List Nat) : Bool := formB xs && !(s && decide (xs = []))
def OneZ (r : Int → Int) (sx : Bool) (xs : List Nat) (s : Bool) (us : List Nat) (er : Int) : Prop :=
  (formZ sx xs = false ∧ s = false ∧ us = [] ∧ er = 2) ∨ (formZ sx xs = true ∧ DocZ (r (iv sx (valB B64 xs))) s us er)
def TwoZ (r : Int → Int → Int) (sx : Bool) (xs : List Nat) (sy : Bool) (ys : List Nat) (s : Bool) (us : List Nat) (er : Int) : Prop :=
  ((formZ sx xs && formZ sy ys) = false ∧ s = false ∧ us = [] ∧ er = 2) ∨ ((formZ sx xs && formZ sy ys) = true ∧ DocZ (r (iv sx (valB B64 xs)) (iv sy (valB B64 ys))) s us er)
theorem OneZ.inj {r : Int → Int} {sx : Bool} {xs : List Nat} {s s' : Bool} {us us' : List Nat} {er er' : Int} (h : OneZ r sx xs s us er) (k : OneZ r sx xs s' us' er') : s = s' ∧ us = us' ∧ er = er' := by
  rcases h with ⟨h0, rfl, rfl, rfl⟩ | ⟨h0, h1⟩ <;> rcases k with ⟨k0, rfl, rfl, rfl⟩ | ⟨k0, k1⟩
  · exact ⟨rfl, rfl, rfl⟩
  · rw [h0] at k0; cases k0
  · rw [h0] at k0; cases k0
  · exact h1.inj k1
theorem TwoZ.inj {r : Int → Int → Int} {sx sy : Bool} {xs ys : List Nat} {s s' : Bool} {us us' : List Nat} {er er' : Int} (h : TwoZ r sx xs sy ys s us er) (k : TwoZ r sx xs sy ys s' us' er') : s = s' ∧ us = us' ∧ er = er' := by
  rcases h with ⟨h0, rfl, rfl, rfl⟩ | ⟨h0, h1⟩ <;> rcases k with ⟨k0, rfl, rfl, rfl⟩ | ⟨k0, k1⟩
  · exact ⟨rfl, rfl, rfl⟩
  · rw [h0] at k0; cases k0
  · rw [h0] at k0; cases k0
  · exact h1.inj k1
def OffR (g m g2 : Nat) : Prop := m = 0 ∨ g ≠ g2
theorem ZR.setOff {w : World} {s : Bool} {g m : Nat} {z : Int} (h : ZR w s (some ⟨g, 0, none⟩) m z) {g2 : Nat} (hf : OffR g m g2) (o2 : Nat) (v : Value) : ZR (w.setCell ⟨g2, o2, none⟩ v) s (some ⟨g, 0, none⟩) m z := by
  rcases hf with h0 | h0
  · subst h0
    obtain ⟨zs, hA, hN⟩ := h.ex
    obtain rfl : zs = [] := List.eq_nil_of_length_eq_zero hA.len
    exact ⟨⟨[], At32.empty _ _ _ (by decide), hN⟩, h.sg⟩
  · exact h.set g2 o2 v h0
theorem rshl_nil {p : Option Addr} {c : Nat} {w : World} (hc : c ≤ maxLen) (k : Int) :
    Calls Tryz.prog 133 #[.slice p 0 c, .int .i64 k] w fun e w' => ∃ g, e = .returned (.slice (some ⟨g, 0, none⟩) 0 0) ∧ At32 w' (some ⟨g, 0, none⟩) 0 0 [] ∧ Below w.heap.size w w' := by
  have HC : Hid (c ≤ maxLen) := hc
  clear hc
  by_cases h0 : k ≤ 0
  · have h1 : ¬ 0 < k := by omega
    go_enter Tryz.func133, Tryz.ntmps133
    go_wp2_with fail
    refine (rnorm_any (At32.empty w p c HC.out) (by omega)).mono ?_
    rintro e w1 ⟨g, rfl, hg, hblk, hb⟩
    go_wp2_with fail
    go_ret
    exact ⟨g, rfl, At32.empty _ _ _ (by decide), hb⟩
  · have h1 : 0 < k := by omega
    go_enter Tryz.func133, Tryz.ntmps133
    go_wp2_with fail
    refine (rnorm_any (At32.empty w p c HC.out) (by omega)).mono ?_
    rintro e w1 ⟨g, rfl, hg, hblk, hb⟩
    go_wp2_with fail
    go_ret
    exact ⟨g, rfl, At32.empty _ _ _ (by decide), hb⟩
theorem rshl_all {p : Option Addr} {n : Nat} {xs : List Nat} {a : Nat} {w : World} (h : At32 w p n n xs) (hx : Nf B32 xs a) (hn : n ≤ 16384) (k : Nat) (hk : k ≤ 524288 ∨ a = 0) :
    Calls Tryz.prog 133 #[.slice p n n, .int .i64 k] w fun e w' => ∃ p' m' zs, e = .returned (.slice p' m' m') ∧ At32 w' p' m' m' zs ∧ Nf B32 zs (a * 2 ^ k) ∧ m' ≤ 40000 ∧ Below w.heap.size w w' := by
  rcases Nat.eq_zero_or_pos n with h0 | h0
  · subst h0
    have ha : a = 0 := (hx.zero_iff B32_one).1 (List.eq_nil_of_length_eq_zero h.len)
    refine (rshl_nil (by unfold maxLen; omega) (k : Int)).mono ?_
    rintro e w' ⟨g, he, hA, hb⟩
    exact ⟨_, 0, [], he, hA, by rw [ha, Nat.zero_mul]; exact Nf.nil _, by omega, hb⟩
  · refine rshl_any h hx h0 hn k (hk.resolve_right fun e => ?_)
    have := (hx.zero_iff B32_one).2 e
    rw [this] at h
    have := h.len
    simp at this
    omega
abbrev F64t : Value := FV 9223372036854775808 53 (-1074) 971 9218868437227405312 9221120237041090561
theorem rparts_64nt (s : Nat) (hs : 4503599627370496 ≤ s) (hs9 : s < 9223372036854775808) (w : World) : Calls Tryz.prog 131 #[F64t, U s] w fun e w' => e = .returned (.tuple #[U (s - (s / 4503599627370496 - 1) * 4503599627370496), .int .i64 ((-1074) + ((s / 4503599627370496 - 1 : Nat) : Int))]) ∧ Below w.heap.size w w' := by
  obtain ⟨z, hz⟩ : ∃ z, z = s / 4503599627370496 := ⟨_, rfl⟩
  obtain ⟨r, hr⟩ : ∃ r, r = s % 4503599627370496 := ⟨_, rfl⟩
  have d1 : (s : Int).tdiv 4503599627370496 = (z : Int) := by rw [Int.tdiv_eq_ediv_of_nonneg (by omega)]; omega
  have d2 : (s : Int).tmod 4503599627370496 = (r : Int) := by rw [Int.tmod_eq_emod_of_nonneg (by omega)]; omega
  have d3 : IntKind.u64.wrap (z : Int) = (z : Int) := by rw [IntKind.wrap_u64]; omega
  have d4 : IntKind.u64.wrap (r : Int) = (r : Int) := by rw [IntKind.wrap_u64]; omega
  have hzb : ((z : Int) == 0) = false := by simp; omega
  obtain ⟨y, hy⟩ : ∃ y, y = s - (z - 1) * 4503599627370496 := ⟨_, rfl⟩
  obtain ⟨x, hx⟩ : ∃ x : Int, x = (-1074) + ((z - 1 : Nat) : Int) := ⟨_, rfl⟩
  obtain ⟨x1, hx1⟩ : ∃ x1 : Int, x1 = (-1074) + (z : Int) := ⟨_, rfl⟩
  rw [← hz, ← hy, ← hx]
  have d5 : IntKind.u64.wrap (4503599627370496 + (r : Int)) = (y : Int) := by rw [IntKind.wrap_u64]; omega
  have d6 : IntKind.i64.wrap (z : Int) = (z : Int) := by simp [IntKind.wrap, IntKind.signed, IntKind.bits]; omega
  have d7 : IntKind.i64.wrap ((-1074) + (z : Int)) = x1 := by rw [hx1]; simp [IntKind.wrap, IntKind.signed, IntKind.bits]; omega
  have d8 : IntKind.i64.wrap (x1 - 1) = x := by simp [IntKind.wrap, IntKind.signed, IntKind.bits]; omega
  clear hz hr hs hs9 hy hx hx1
  go_enter Tryz.func131, Tryz.ntmps131
  go_wp2_with fail
  go_quiet (fail)
  go_wp2_with fail
  go_quiet (fail)
  go_wp2_with fail
  go_ret2
  exact ⟨rfl, bwDrewN (bwDrewN (bwAlloc w _) _) _⟩
theorem rparts_640t (s : Nat) (hs : s < 4503599627370496) (w : World) : Calls Tryz.prog 131 #[F64t, U s] w fun e w' => e = .returned (.tuple #[U s, .int .i64 (-1074)]) ∧ Below w.heap.size w w' := by
  obtain ⟨z, hz⟩ : ∃ z, z = s / 4503599627370496 := ⟨_, rfl⟩
  obtain ⟨r, hr⟩ : ∃ r, r = s % 4503599627370496 := ⟨_, rfl⟩
  have d1 : (s : Int).tdiv 4503599627370496 = (z : Int) := by rw [Int.tdiv_eq_ediv_of_nonneg (by omega)]; omega
  have d2 : (s : Int).tmod 4503599627370496 = (r : Int) := by rw [Int.tmod_eq_emod_of_nonneg (by omega)]; omega
  have d3 : IntKind.u64.wrap (z : Int) = (z : Int) := by rw [IntKind.wrap_u64]; omega
  have d4 : IntKind.u64.wrap (r : Int) = (r : Int) := by rw [IntKind.wrap_u64]; omega
  have hz0 : z = 0 := by omega
  have hrs : r = s := by omega
  subst hz0
  subst hrs
  clear hz hr hs
  go_enter Tryz.func131, Tryz.ntmps131
  go_wp2_with fail
  go_quiet (fail)
  go_wp2_with fail
  go_quiet (fail)
  go_wp2_with fail
  go_ret2
  exact ⟨rfl, bwDrewN (bwDrewN (bwAlloc w _) _) _⟩
theorem rparts_all64 (s : Nat) (hs9 : s < 9223372036854775808) (w : World) : Calls Tryz.prog 131 #[F64t, U s] w fun e w' => e = .returned (.tuple #[U (s - (s / 4503599627370496 - 1) * 4503599627370496), .int .i64 ((-1074) + ((s / 4503599627370496 - 1 : Nat) : Int))]) ∧ Below w.heap.size w w' := by
  by_cases h : s < 4503599627370496
  · have h1 : s / 4503599627370496 = 0 := Nat.div_eq_of_lt h
    rw [h1, show 0 - 1 = 0 from rfl, Nat.zero_mul, Nat.sub_zero, show ((-1074 : Int) + ((0 : Nat) : Int)) = -1074 from rfl]
    exact rparts_640t s h w
  · exact rparts_64nt s (by omega) (by omega) w
theorem zr_len9 {w : World} {s : Bool} {p : Option Addr} {m : Nat} {z : Int} (h : ZR w s p m z) {L : Nat} (hL : z.natAbs < 2 ^ L) : m ≤ L := by
  obtain ⟨zs, hA, hN⟩ := h.ex
  have h1 := (hN.len_le B32_one (k := L)).2 (Nat.lt_of_lt_of_le hL (Nat.pow_le_pow_left (by decide) L))
  rw [hA.len] at h1
  exact h1
theorem GotR.len9 {B : Nat} {w : World} {v : Value} {z : Int} {L L' : Nat} (h : GotR B w v z L) (hL : z.natAbs < 2 ^ L') : GotR B w v z L' := by
  obtain ⟨s, g, m, h1, h2, h3, _⟩ := h
  exact ⟨s, g, m, h1, h2, h3, zr_len9 h3 hL⟩
theorem svS_lt {S H : Nat} (b : Nat) {L a c : Nat} (hH : H ≤ 2 ^ a) (h0 : 0 < H) (hS : S ≤ c * H) (hS0 : 0 < S) (hL : a + c ≤ L) : (svS S H b).natAbs < 2 ^ L := by
  rw [svS_eq]
  have h1 : (if S ≤ b then -(vs H (b % S) : Int) else (vs H (b % S) : Int)).natAbs = vs H (b % S) := by split <;> omega
  rw [h1]
  have h2 : b % S < c * H := Nat.lt_of_lt_of_le (Nat.mod_lt _ hS0) hS
  have h3 : b % S / H < c := (Nat.div_lt_iff_lt_mul h0).2 h2
  have e1 := Nat.div_add_mod (b % S) H
  have e2 := Nat.mod_lt (b % S) h0
  rw [Nat.mul_comm] at e1
  have h4 : b % S - (b % S / H - 1) * H < 2 * H := by
    by_cases e3 : b % S / H = 0
    · rw [e3] at e1 ⊢; omega
    · rw [Nat.sub_mul]; omega
  unfold vs
  have h5 : 2 ^ (b % S / H - 1) ≤ 2 ^ (c - 1) := Nat.pow_le_pow_right (by decide) (by generalize b % S / H = t at h3 ⊢; omega)
  have h6 : 0 < 2 ^ (b % S / H - 1) := Nat.two_pow_pos _
  refine Nat.lt_of_lt_of_le (Nat.mul_lt_mul_of_pos_right h4 h6) (Nat.le_trans (Nat.mul_le_mul (Nat.mul_le_mul_left 2 hH) h5) ?_)
  rw [← Nat.pow_succ', ← Nat.pow_add]
  have h7 : 1 ≤ c := Nat.lt_of_le_of_lt (Nat.zero_le _) h3
  exact Nat.pow_le_pow_right (by decide) (by omega)
theorem rwhole_64 {b : Nat} (w : World) :
    Calls Tryz.prog 122 #[FV 9223372036854775808 53 (-1074) 971 9218868437227405312 9221120237041090561, U b] w fun en w' => ∃ v, en = .returned v ∧ GotR w.heap.size w' v (svS 9223372036854775808 4503599627370496 b) 2200 ∧ Below w.heap.size w w' := by
  obtain ⟨q, hq⟩ : ∃ q, q = b % 9223372036854775808 / 4503599627370496 - 1 := ⟨_, rfl⟩
  obtain ⟨man, hman⟩ : ∃ man, man = b % 9223372036854775808 - q * 4503599627370496 := ⟨_, rfl⟩
  obtain ⟨neg, hneg⟩ : ∃ neg, neg = decide (9223372036854775808 ≤ b) := ⟨_, rfl⟩
  obtain ⟨s, hs⟩ : ∃ s, s = b % 9223372036854775808 := ⟨_, rfl⟩
  have hv : iv neg (man * 2 ^ q) = svS 9223372036854775808 4503599627370496 b := by
    rw [svS_eq, hneg, show vs 4503599627370496 (b % 9223372036854775808) = man * 2 ^ q from by unfold vs; rw [← hq, ← hman]]
    by_cases h : 9223372036854775808 ≤ b
    · rw [if_pos h, decide_eq_true h]; rfl
    · rw [if_neg h, decide_eq_false h]; rfl
  have hq9 : q ≤ 2048 := by omega
  have e1 : IntKind.i64.wrap ((-1074 : Int) + (q : Int) - (-1074)) = (q : Int) := by simp [IntKind.wrap, IntKind.signed, IntKind.bits]; omega
  obtain ⟨ex, hex⟩ : ∃ ex : Int, ex = (-1074 : Int) + (q : Int) := ⟨_, rfl⟩
  rw [← hex] at e1
  have e2 : wrap64 (ex + 1074) = (q : Int) := by rw [hex]; simp only [wrap64]; omega
  have e3 : IntKind.i64.wrap (ex + 1074) = (q : Int) := by rw [hex]; simp [IntKind.wrap, IntKind.signed, IntKind.bits]; omega
  have HV : Hid (iv neg (man * 2 ^ q) = svS 9223372036854775808 4503599627370496 b ∧ q ≤ 2048 ∧ man < B64 ∧ b % 9223372036854775808 = s ∧ decide (9223372036854775808 ≤ b) = neg ∧ s < 9223372036854775808 ∧ s / 4503599627370496 - 1 = q ∧ s - q * 4503599627370496 = man ∧ (-1074 : Int) + (q : Int) = ex) := ⟨hv, hq9, by rw [B64_eq]; omega, hs.symm, hneg.symm, by omega, by rw [hs]; exact hq.symm, by rw [hs]; exact hman.symm, hex.symm⟩
  clear hq hman hneg hs hv hq9 hex
  go_enter Tryz.func122, Tryz.ntmps122
  go_wp2_with fail
  obtain ⟨W0, hW0⟩ : ∃ W0, W0 = ((w.alloc (.cells #[U 9223372036854775808, .int .i64 53, .int .i64 (-1074), .int .i64 971, U 9218868437227405312, U 9221120237041090561] 119)).alloc (.cells #[.bool false, .slice none 0 0] 87)) := ⟨_, rfl⟩
  have Xk : Hid (B6q W0 (w.heap.size) (U 9223372036854775808) (.int .i64 53) (.int .i64 (-1074)) (.int .i64 971) (U 9218868437227405312) (U 9221120237041090561)) := by rw [hW0]; exact ⟨by go_simp, by go_simp, by go_simp, by go_simp, by go_simp, by go_simp, by go_simp, by go_simp, by go_simp, by go_simp, by go_simp, by go_simp⟩
  have Xr : Hid (Box W0 (w.heap.size + 1) (.bool false) (.slice none 0 0)) := by rw [hW0]; exact ⟨by go_simp, by go_simp, by go_simp, by go_simp⟩
  have hb0 : Below w.heap.size w W0 := by rw [hW0]; exact below2 w _ _
  rw [← hW0]
  clear hW0
  have hbw : Below w.heap.size w w := Below.refl _ _
  obtain ⟨gr, hgr⟩ : ∃ g, g = w.heap.size + 1 := ⟨_, rfl⟩
  have HGr : Hid (w.heap.size ≤ gr) := by rw [hgr]; show _ ≤ _; omega
  rw [← hgr] at Xr
  try rw [← hgr]
  obtain ⟨gk, hgk⟩ : ∃ g, g = w.heap.size := ⟨_, rfl⟩
  have HGk : Hid (w.heap.size ≤ gk) := by rw [hgk]; show _ ≤ _; omega
  rw [← hgk] at Xk
  try rw [← hgk]
  have HGD : Hid (gk ≠ gr ∧ gr ≠ gk) := by rw [hgk, hgr]; exact ⟨by omega, by omega⟩
  clear hgk hgr
  replace hbw := Below.on hbw hb0
  clear hb0
  refine (cut_any (by decide) (by decide) b _).mono ?_
  rintro e v1 ⟨rfl, hb1⟩
  rw [HV.out.2.2.2.1, HV.out.2.2.2.2.1]
  replace Xk : Hid _ := Xk.out.below hb1
  replace Xr : Hid _ := Xr.out.below hb1
  replace hbw := Below.on hbw hb1
  clear hb1
  obtain ⟨ck0, ck1, ck2, ck3, ck4, ck5, fk0, fk1, fk2, fk3, fk4, fk5⟩ := Xk.out
  have hnek : gk < v1.heap.size := World.block_lt_of_cell? v1 _ ck0
  go_wp2_with fail
  clear ck0 ck1 ck2 ck3 ck4 ck5 fk0 fk1 fk2 fk3 fk4 fk5 hnek
  refine (rparts_all64 s HV.out.2.2.2.2.2.1 _).mono ?_
  rintro e v2 ⟨rfl, hb2⟩
  rw [HV.out.2.2.2.2.2.2.1, HV.out.2.2.2.2.2.2.2.1, HV.out.2.2.2.2.2.2.2.2]
  replace Xk : Hid _ := Xk.out.below hb2
  replace Xr : Hid _ := Xr.out.below hb2
  replace hbw := Below.on hbw hb2
  clear hb2
  obtain ⟨ck0, ck1, ck2, ck3, ck4, ck5, fk0, fk1, fk2, fk3, fk4, fk5⟩ := Xk.out
  have hnek : gk < v2.heap.size := World.block_lt_of_cell? v2 _ ck0
  go_wp2_with fail
  clear ck0 ck1 ck2 ck3 ck4 ck5 fk0 fk1 fk2 fk3 fk4 fk5 hnek
  obtain ⟨W1, hW1⟩ : ∃ W1, W1 = v2.drew := ⟨_, rfl⟩
  have hbd : Below v2.heap.size v2 W1 := by rw [hW1]; exact bDrew1 (Below.refl _ _)
  replace Xk : Hid _ := Xk.out.below hbd
  replace Xr : Hid _ := Xr.out.below hbd
  replace hbw := Below.on hbw hbd
  clear hbd
  have HJ : Hid ((fun W' : World => W'.cell? ⟨gk, 2, none⟩ = some (.int .i64 (-1074)) ∧ W'.cell? ⟨gk, 1, none⟩ = some (.int .i64 53)) W1) := ⟨Xk.out.c2, Xk.out.c1⟩
  refine wp_region_J (fun W' => W'.cell? ⟨gk, 2, none⟩ = some (.int .i64 (-1074)) ∧ W'.cell? ⟨gk, 1, none⟩ = some (.int .i64 53)) (by kernel_rfl) ?_
  rw [← hW1]
  clear hW1
  refine wpJ_tq 0 rfl HJ.out ?_
  refine wpJ_tq 1 rfl HJ.out ?_
  refine wpJ_tq 3 rfl HJ.out ?_
  refine wpJ_tq 4 rfl HJ.out ?_
  refine wpJ_tq 5 rfl HJ.out ?_
  refine wpJ_tq 6 rfl HJ.out ?_
  refine wpJ_on 2 rfl fun KJ hK => ?_
  go_simp
  refine (rword man HV.out.2.2.1 _).mono ?_
  rintro e v5 ⟨g5, z5, rfl, hl5, hA5, hN5, hb5⟩
  replace Xk : Hid _ := Xk.out.below hb5
  replace Xr : Hid _ := Xr.out.below hb5
  replace hbw := Below.on hbw hb5
  clear hb5
  have A5 : Hid (At32 v5 (some ⟨g5, 0, none⟩) z5.length z5.length z5) := hA5
  have N5 : Hid (Nf B32 z5 man ∧ z5.length ≤ 2) := ⟨hN5, hl5⟩
  clear hA5 hN5 hl5
  obtain ⟨l5, hl5⟩ : ∃ l5, l5 = z5.length := ⟨_, rfl⟩
  rw [← hl5] at A5 N5 ⊢
  clear hl5
  refine hK _ _ ⟨Xk.out.c2, Xk.out.c1⟩ ?_
  clear hK
  refine wpJ_on 7 rfl fun KJ hK => ?_
  go_simp
  refine (rshl_all A5.out N5.out.1 (by have := N5.out.2; omega) q (.inl (by have := HV.out.2.1; omega))).mono ?_
  rintro e v6 ⟨p6, m6, z6, rfl, hA6, hN6, hm6, hb6⟩
  replace Xk : Hid _ := Xk.out.below hb6
  replace Xr : Hid _ := Xr.out.below hb6
  replace A5 : Hid _ := A5.out.below hb6
  replace hbw := Below.on hbw hb6
  clear hb6
  clear A5
  have A6 : Hid (At32 v6 p6 m6 m6 z6) := hA6
  have N6 : Hid (Nf B32 z6 (man * 2 ^ q) ∧ m6 ≤ 40000) := ⟨hN6, hm6⟩
  clear hA6 hN6 hm6 N5
  refine hK _ _ ⟨Xk.out.c2, Xk.out.c1⟩ ?_
  clear hK
  have HRL : Hid (gr < v6.heap.size ∧ w.heap.size ≤ v6.heap.size) := ⟨Xr.out.lt, hbw.size⟩
  refine wpJ_on 8 rfl fun KJ hK => ?_
  go_simp
  refine (rmk_any neg A6.out N6.out.1 (by have := N6.out.2; omega)).mono ?_
  rintro e v7 ⟨v, rfl, hv, hb7⟩
  rw [HV.out.1] at hv
  obtain ⟨LL, hLL⟩ : ∃ LL : Nat, LL = 2200 := ⟨_, rfl⟩
  obtain ⟨s7, g7, m7, rfl, hg7, hz7, hl7⟩ := hv.len9 (L' := LL) (svS_lt b (a := 52) (c := 2048) (by decide) (by decide) (by decide) (by decide) (by omega))
  rw [hLL] at hl7
  clear hLL
  have HN7 : Hid (v6.heap.size ≤ g7) := hg7
  replace Xk : Hid _ := Xk.out.below hb7
  replace Xr : Hid _ := Xr.out.below hb7
  replace A6 : Hid _ := A6.out.below hb7
  replace hbw := Below.on hbw hb7
  clear hb7
  clear A6
  have Z7 : Hid (ZR v7 s7 (some ⟨g7, 0, none⟩) m7 (svS 9223372036854775808 4503599627370496 b)) := hz7
  have HL7 : Hid (m7 ≤ 2200) := hl7
  clear hv hg7 hz7 hl7 N6
  refine hK _ _ ⟨Xk.out.c2, Xk.out.c1⟩ ?_
  clear hK
  obtain ⟨cr0, cr1, fr0, fr1⟩ := Xr.out
  have hner := Xr.out.lt
  obtain ⟨ck0, ck1, ck2, ck3, ck4, ck5, fk0, fk1, fk2, fk3, fk4, fk5⟩ := Xk.out
  have hnek : gk < v7.heap.size := World.block_lt_of_cell? v7 _ ck0
  obtain ⟨hgd0, hgd1⟩ := HGD.out
  refine wpJ_on 9 rfl fun KJ hK => ?_
  go_simp
  have HJ2 : Hid ((fun W' : World => W'.cell? ⟨gk, 2, none⟩ = some (.int .i64 (-1074)) ∧ W'.cell? ⟨gk, 1, none⟩ = some (.int .i64 53)) ((v7.setCell ⟨gr, 0, none⟩ (.bool s7)).setCell ⟨gr, 1, none⟩ (.slice (some ⟨g7, 0, none⟩) m7 m7))) := ⟨by go_simp, by go_simp⟩
  refine hK _ _ HJ2.out ?_
  clear hK HJ
  have HJ := HJ2
  clear HJ2
  refine wpJ_done (by kernel_rfl) ?_ _
  clear HJ
  go_wp2_with fail
  refine bodyPost_ret (v := .agg #[.bool s7, .slice (some ⟨g7, 0, none⟩) m7 m7]) (by rw [results_cell1 rfl]; go_simp) rfl ⟨_, rfl, ⟨s7, g7, m7, rfl, Nat.le_trans HRL.out.2 HN7.out, ?_, HL7.out⟩, ?_⟩
  · have := HN7.out; have := HRL.out.1
    exact (Z7.out.set _ _ _ (by omega)).set _ _ _ (by omega)
  · exact bSet (bSet hbw _ _ _ HGr.out) _ _ _ HGr.out
end Go.Proofs.YtidggnjnlhjhlaaGreatDoor
