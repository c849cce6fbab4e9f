import Derived.Test.YtgodajcnhipleaaGreatDoorJ16
import Derived.Test.YtgodajcnhipleaaGreatDoorJ13
namespace Go.Proofs.YtgodajcnhipleaaGreatDoor
open Go.RowKit Go.Shelf

set_option maxRecDepth 20000 in
set_option maxHeartbeats 8000000 in
theorem reven04 {p : Option Addr} {m : Nat} {w : World} {z : Int} (s : Bool) (h : ZR w s p m z) (hm : m ≤ 50000) (b : Bool) (hb : b = decide (z.natAbs % 2 = 0)) :
    Calls Tryz.prog 131 #[.agg #[.bool s, .slice p m m]] w fun e w' => e = .returned (.bool b) ∧ Below w.heap.size w w' := by
  obtain ⟨xs, hAx, hNx⟩ := h.ex
  have AX : Hid (At32 w p m m xs) := hAx
  have HM : Hid (m ≤ 50000) := hm
  have HV : Hid (valB B32 xs = z.natAbs) := hNx.val
  have HB : Hid (b = decide (z.natAbs % 2 = 0)) := hb
  clear h hm hAx hNx hb
  go_enter Tryz.func131, Tryz.ntmps131
  go_wp2_with fail
  obtain ⟨W0, hW0⟩ : ∃ W0, W0 = (w.alloc (.cells #[.bool s, .slice p m m] 70)) := ⟨_, rfl⟩
  have Xa : Hid (Box W0 (w.heap.size) (.bool s) (.slice p m m)) := by rw [hW0]; exact ⟨by go_simp, by go_simp, by go_simp, by go_simp⟩
  have hb0 : Below w.heap.size w W0 := by rw [hW0]; exact below1 w _
  rw [← hW0]
  clear hW0
  have hbw : Below w.heap.size w w := Below.refl _ _
  obtain ⟨ga, hga⟩ : ∃ g, g = w.heap.size := ⟨_, rfl⟩
  have HGa : Hid (w.heap.size ≤ ga) := by rw [hga]; show _ ≤ _; omega
  rw [← hga] at Xa
  try rw [← hga]
  clear hga
  replace hbw := Below.on hbw hb0
  clear hb0
  refine (rbit_any (AX.out.below hbw) (by have := HM.out; omega) 0 (by decide)).mono ?_
  rintro e v1 ⟨rfl, hw⟩
  obtain rfl := hw.symm
  clear hw
  rw [HV.out, Nat.pow_zero, Nat.div_one]
  rcases Nat.mod_two_eq_zero_or_one z.natAbs with h0 | h0
  · rw [h0]
    have hb : b = true := by rw [HB.out, h0]; rfl
    subst hb
    clear h0
    go_wp2_with fail
    go_ret
    exact ⟨rfl, hbw⟩
  · rw [h0]
    have hb : b = false := by rw [HB.out, h0]; rfl
    subst hb
    clear h0
    go_wp2_with fail
    go_ret
    exact ⟨rfl, hbw⟩
theorem near_up0 (s : Bool) (a d : Nat) (hd : 0 < d) (h : (d : Int) < 2 * mo s false a d ∨ (2 * mo s false a d = d ∧ (fl s a d).natAbs % 2 = 1)) : ne s a d = fl s a d + 1 := by
  have hlt := Nat.mod_lt a hd
  have hd1 : ¬ 0 = d := by omega
  have hd2 : ¬ d = 0 := by omega
  unfold ne fl mo neUp at *
  generalize a / d = q at *
  generalize a % d = r at *
  cases s <;> by_cases hr : r = 0 <;> by_cases h1 : d < 2 * r <;> by_cases h2 : 2 * r = d <;> by_cases h3 : q % 2 = 1 <;> simp [iv, hr, h1, h2, h3, hd1] at h ⊢ <;> omega
theorem near_no0 (s : Bool) (a d : Nat) (hd : 0 < d) (h : 2 * mo s false a d < (d : Int) ∨ (2 * mo s false a d = d ∧ (fl s a d).natAbs % 2 = 0)) : ne s a d = fl s a d := by
  have hlt := Nat.mod_lt a hd
  have hd1 : ¬ 0 = d := by omega
  have hd2 : ¬ d = 0 := by omega
  unfold ne fl mo neUp at *
  generalize a / d = q at *
  generalize a % d = r at *
  cases s <;> by_cases hr : r = 0 <;> by_cases h1 : d < 2 * r <;> by_cases h2 : 2 * r = d <;> by_cases h3 : q % 2 = 1 <;> simp [iv, hr, h1, h2, h3, hd1] at h ⊢ <;> omega
theorem r_pos {y : Int} (hy : 0 < y) (x : Int) : rNd x y = ne (decide (x < 0)) x.natAbs y.natAbs ∧ rFd x y = fl (decide (x < 0)) x.natAbs y.natAbs ∧ rMo x y = mo (decide (x < 0)) false x.natAbs y.natAbs := by
  have h : decide (y < 0) = false := decide_eq_false (by omega)
  unfold rNd rFd rMo
  rw [h]
  simp
theorem near_up {x y : Int} (hy : 0 < y) (h : y < 2 * rMo x y ∨ (2 * rMo x y = y ∧ (rFd x y).natAbs % 2 = 1)) : rNd x y = rFd x y + 1 := by
  obtain ⟨h1, h2, h3⟩ := r_pos hy x
  rw [h2, h3] at h
  rw [h1, h2]
  have hyd : (y.natAbs : Int) = y := by omega
  exact near_up0 _ _ _ (by omega) (by rw [hyd]; exact h)
theorem near_no {x y : Int} (hy : 0 < y) (h : 2 * rMo x y < y ∨ (2 * rMo x y = y ∧ (rFd x y).natAbs % 2 = 0)) : rNd x y = rFd x y := by
  obtain ⟨h1, h2, h3⟩ := r_pos hy x
  rw [h2, h3] at h
  rw [h1, h2]
  have hyd : (y.natAbs : Int) = y := by omega
  exact near_no0 _ _ _ (by omega) (by rw [hyd]; exact h)
set_option maxRecDepth 20000 in
set_option maxHeartbeats 8000000 in
theorem rnear04_g {p q : Option Addr} {m n : Nat} {w : World} {x y : Int} (s : Bool) (h : ZR w s p m x) (k : ZR w false q n y) (hm : m ≤ 16384) (hn : n ≤ 40000) (hy : 0 < y) (L : Nat) (hrm : (rMo x y).natAbs < B32 ^ L) (hL : L ≤ 16384) (hc : y < 2 * rMo x y) :
    Calls Tryz.prog 119 #[.agg #[.bool s, .slice p m m], .agg #[.bool false, .slice q n n]] w fun e w' => ∃ v, e = .returned v ∧ GotR w.heap.size w' v (rNd x y) (20001) ∧ Below w.heap.size w w' := by
  have HRV : Hid (rNd x y = rFd x y + 1) := near_up hy (.inl hc)
  rw [HRV.out]
  have HC : Hid (cmpI (rMo x y * 2 ^ 1) y = 1) := by show _ = _; unfold cmpI; rw [if_neg (by omega), if_neg (by omega)]
  have HE : Hid (decide ((rFd x y).natAbs % 2 = 0) = true ∨ True) := .inr trivial
  have HA : Hid (ZR w s p m x ∧ ZR w false q n y) := ⟨h, k⟩
  have HM : Hid (m ≤ 16384 ∧ n ≤ 40000 ∧ 0 < y ∧ (rMo x y).natAbs < B32 ^ L ∧ L ≤ 16384) := ⟨hm, hn, hy, hrm, hL⟩
  clear h k hm hn hy hc HRV hrm hL
  go_enter Tryz.func119, Tryz.ntmps119
  go_wp2_with fail
  obtain ⟨W0, hW0⟩ : ∃ W0, W0 = (((w.alloc (.cells #[.bool s, .slice p m m] 70)).alloc (.cells #[.bool false, .slice q n n] 70)).alloc (.cells #[.bool false, .slice none 0 0] 70)) := ⟨_, rfl⟩
  have Xa : Hid (Box W0 (w.heap.size) (.bool s) (.slice p m m)) := by rw [hW0]; exact ⟨by go_simp, by go_simp, by go_simp, by go_simp⟩
  have Xb : Hid (Box W0 (w.heap.size + 1) (.bool false) (.slice q n n)) := by rw [hW0]; exact ⟨by go_simp, by go_simp, by go_simp, by go_simp⟩
  have Xr : Hid (Box W0 (w.heap.size + 1 + 1) (.bool false) (.slice none 0 0)) := by rw [hW0]; exact ⟨by go_simp, by go_simp, by go_simp, by go_simp⟩
  have hb0 : Below w.heap.size w W0 := by rw [hW0]; exact below3 w _ _ _
  rw [← hW0]
  clear hW0
  have hbw : Below w.heap.size w w := Below.refl _ _
  obtain ⟨gr, hgr⟩ : ∃ g, g = w.heap.size + 1 + 1 := ⟨_, rfl⟩
  have HGr : Hid (w.heap.size ≤ gr) := by rw [hgr]; show _ ≤ _; omega
  rw [← hgr] at Xr
  try rw [← hgr]
  obtain ⟨gb, hgb⟩ : ∃ g, g = w.heap.size + 1 := ⟨_, rfl⟩
  have HGb : Hid (w.heap.size ≤ gb) := by rw [hgb]; show _ ≤ _; omega
  rw [← hgb] at Xb
  try rw [← hgb]
  obtain ⟨ga, hga⟩ : ∃ g, g = w.heap.size := ⟨_, rfl⟩
  have HGa : Hid (w.heap.size ≤ ga) := by rw [hga]; show _ ≤ _; omega
  rw [← hga] at Xa
  try rw [← hga]
  have HGD : Hid (ga ≠ gb ∧ ga ≠ gr ∧ gb ≠ ga ∧ gb ≠ gr ∧ gr ≠ ga ∧ gr ≠ gb) := by rw [hga, hgb, hgr]; exact ⟨by omega, by omega, by omega, by omega, by omega, by omega⟩
  clear hga hgb hgr
  replace hbw := Below.on hbw hb0
  clear hb0
  refine (rfloor04 s (HA.out.1.below hbw) (HA.out.2.below hbw) HM.out.1 HM.out.2.1 HM.out.2.2.1).mono ?_
  rintro e v1 ⟨s1, g1, m1, s2, g2, m2, rfl, hg1, hg2, hz1, hz2, hl1, hl2, hb1⟩
  have HR1 : Hid (gr < g1 ∧ w.heap.size ≤ g1) := ⟨Nat.lt_of_lt_of_le Xr.out.lt hg1, Nat.le_trans hbw.size hg1⟩
  replace Xa : Hid _ := Xa.out.below hb1
  replace Xb : Hid _ := Xb.out.below hb1
  replace Xr : Hid _ := Xr.out.below hb1
  replace hbw := Below.on hbw hb1
  clear hb1
  have Z1 : Hid (ZR v1 s1 (some ⟨g1, 0, none⟩) m1 (rFd x y)) := hz1
  have Z2 : Hid (ZR v1 s2 (some ⟨g2, 0, none⟩) m2 (rMo x y)) := hz2
  have hm2 : m2 ≤ 16384 := by
    obtain ⟨z2, hA2, hN2⟩ := hz2.ex
    have := (hN2.len_le B32_one (k := L)).2 HM.out.2.2.2.1
    rw [hA2.len] at this
    exact Nat.le_trans this HM.out.2.2.2.2
  have HL1 : Hid (m1 ≤ 20000 ∧ m2 ≤ 16384) := ⟨hl1, hm2⟩
  clear hz1 hz2 hl1 hl2 hm2 hg1 hg2
  go_wp2_with fail
  have HDQ : Hid (gr < v1.heap.size) := Xr.out.lt
  have HDR0 : Hid (gr ≠ v1.heap.size) := Nat.ne_of_lt Xr.out.lt
  rw [show v1.heap.size + 1 = (v1.alloc (.cells #[.bool s1, .slice (some ⟨g1, 0, none⟩) m1 m1] 70)).heap.size from by simp]
  have Xq0 : Hid (Box (v1.alloc (.cells #[.bool s1, .slice (some ⟨g1, 0, none⟩) m1 m1] 70)) v1.heap.size (.bool s1) (.slice (some ⟨g1, 0, none⟩) m1 m1)) := Box.new v1 _ _ _
  have hbn : Below v1.heap.size v1 (v1.alloc (.cells #[.bool s1, .slice (some ⟨g1, 0, none⟩) m1 m1] 70)) := below1 v1 _
  generalize v1.alloc (.cells #[.bool s1, .slice (some ⟨g1, 0, none⟩) m1 m1] 70) = W6 at *
  have HGq : Hid (w.heap.size ≤ v1.heap.size) := hbw.size
  replace Xa : Hid _ := Xa.out.below hbn
  replace Xb : Hid _ := Xb.out.below hbn
  replace Xr : Hid _ := Xr.out.below hbn
  replace Z1 : Hid _ := Z1.out.below hbn
  replace Z2 : Hid _ := Z2.out.below hbn
  replace hbw := Below.on hbw hbn
  clear hbn
  generalize v1.heap.size = gq at *
  have Xq := Xq0
  clear Xq0
  have Xt0 : Hid (Box (W6.alloc (.cells #[.bool s2, .slice (some ⟨g2, 0, none⟩) m2 m2] 70)) W6.heap.size (.bool s2) (.slice (some ⟨g2, 0, none⟩) m2 m2)) := Box.new W6 _ _ _
  have hbn : Below W6.heap.size W6 (W6.alloc (.cells #[.bool s2, .slice (some ⟨g2, 0, none⟩) m2 m2] 70)) := below1 W6 _
  generalize W6.alloc (.cells #[.bool s2, .slice (some ⟨g2, 0, none⟩) m2 m2] 70) = W7 at *
  have HGt : Hid (w.heap.size ≤ W6.heap.size) := hbw.size
  replace Xa : Hid _ := Xa.out.below hbn
  replace Xb : Hid _ := Xb.out.below hbn
  replace Xr : Hid _ := Xr.out.below hbn
  replace Xq : Hid _ := Xq.out.below hbn
  replace Z1 : Hid _ := Z1.out.below hbn
  replace Z2 : Hid _ := Z2.out.below hbn
  replace hbw := Below.on hbw hbn
  clear hbn
  generalize W6.heap.size = gt at *
  have Xt := Xt0
  clear Xt0
  obtain ⟨W8, hW8⟩ : ∃ W1, W1 = W7.drew := ⟨_, rfl⟩
  have hbd : Below W7.heap.size W7 W8 := by rw [hW8]; exact bDrew1 (Below.refl _ _)
  replace Xa : Hid _ := Xa.out.below hbd
  replace Xb : Hid _ := Xb.out.below hbd
  replace Xr : Hid _ := Xr.out.below hbd
  replace Xq : Hid _ := Xq.out.below hbd
  replace Xt : Hid _ := Xt.out.below hbd
  replace Z1 : Hid _ := Z1.out.below hbd
  replace Z2 : Hid _ := Z2.out.below hbd
  replace hbw := Below.on hbw hbd
  clear hbd
  have HJ : Hid ((fun W' : World => W'.cell? ⟨gt, 0, none⟩ = some (.bool s2) ∧ W'.cell? ⟨gt, 1, none⟩ = some (.slice (some ⟨g2, 0, none⟩) m2 m2) ∧ W'.cell? ⟨gb, 0, none⟩ = some (.bool false) ∧ W'.cell? ⟨gb, 1, none⟩ = some (.slice q n n)) W8) := ⟨Xt.out.c0, Xt.out.c1, Xb.out.c0, Xb.out.c1⟩
  refine wp_region_J (fun W' => W'.cell? ⟨gt, 0, none⟩ = some (.bool s2) ∧ W'.cell? ⟨gt, 1, none⟩ = some (.slice (some ⟨g2, 0, none⟩) m2 m2) ∧ W'.cell? ⟨gb, 0, none⟩ = some (.bool false) ∧ W'.cell? ⟨gb, 1, none⟩ = some (.slice q n n)) (by kernel_rfl) ?_
  rw [← hW8]
  clear hW8
  refine wpJ_take (i := 0) (v := ?v1x0) rfl (by kernel_rfl) (by kernel_rfl) (by kernel_rfl) (fun _ _ _ h => h) (by kernel_rfl) ?hy1x0 HJ.out ?rest1x0
  case hy1x0 => (intro W' hJ; obtain ⟨j0, j1, j2, j3⟩ := hJ; go_simp; first | done | with_reducible rfl)
  refine wpJ_take (i := 2) (v := ?v2x2) rfl (by kernel_rfl) (by kernel_rfl) (by kernel_rfl) (fun _ _ _ h => h) (by kernel_rfl) ?hy2x2 HJ.out ?rest2x2
  case hy2x2 => (intro W' hJ; obtain ⟨j0, j1, j2, j3⟩ := hJ; go_simp; first | done | with_reducible rfl)
  refine wpJ_one (i := 1) (by kernel_rfl) rfl (by kernel_rfl) (fun KJ hK => ?_)
  go_simp
  refine (rshl04 s2 Z2.out HL1.out.2 1 (.inl (by decide))).mono ?_
  rintro e v3 ⟨v, rfl, hv, hb3⟩
  obtain ⟨s3, g3, m3, rfl, hg3, hz3, hl3⟩ := hv
  have HN3 : Hid (W8.heap.size ≤ g3) := hg3
  have HB3 : Hid (W8.heap.size ≤ v3.heap.size) := hb3.size
  replace Xa : Hid _ := Xa.out.below hb3
  replace Xb : Hid _ := Xb.out.below hb3
  replace Xr : Hid _ := Xr.out.below hb3
  replace Xq : Hid _ := Xq.out.below hb3
  replace Xt : Hid _ := Xt.out.below hb3
  replace Z1 : Hid _ := Z1.out.below hb3
  replace Z2 : Hid _ := Z2.out.below hb3
  replace hbw := Below.on hbw hb3
  clear hb3
  have Z3 : Hid (ZR v3 s3 (some ⟨g3, 0, none⟩) m3 (rMo x y * 2 ^ 1)) := hz3
  have HL3 : Hid (m3 ≤ 40000) := hl3
  clear hz3 hl3 hg3
  refine hK _ _ ⟨Xt.out.c0, Xt.out.c1, Xb.out.c0, Xb.out.c1⟩ ?_
  clear hK
  refine wpJ_one (i := 3) (by kernel_rfl) rfl (by kernel_rfl) (fun KJ hK => ?_)
  go_simp
  refine (rcmp04 s3 false Z3.out (HA.out.2.below hbw) (by have := HL3.out; omega) (by have := HM.out; omega)).mono ?_
  rintro e v4 ⟨rfl, hb4⟩
  rw [HC.out]
  replace Xa : Hid _ := Xa.out.below hb4
  replace Xb : Hid _ := Xb.out.below hb4
  replace Xr : Hid _ := Xr.out.below hb4
  replace Xq : Hid _ := Xq.out.below hb4
  replace Xt : Hid _ := Xt.out.below hb4
  replace Z1 : Hid _ := Z1.out.below hb4
  replace Z2 : Hid _ := Z2.out.below hb4
  replace Z3 : Hid _ := Z3.out.below hb4
  replace hbw := Below.on hbw hb4
  clear hb4
  clear HJ
  have HJ : Hid ((fun W' : World => W'.cell? ⟨gt, 0, none⟩ = some (.bool s2) ∧ W'.cell? ⟨gt, 1, none⟩ = some (.slice (some ⟨g2, 0, none⟩) m2 m2) ∧ W'.cell? ⟨gb, 0, none⟩ = some (.bool false) ∧ W'.cell? ⟨gb, 1, none⟩ = some (.slice q n n)) v4) := ⟨Xt.out.c0, Xt.out.c1, Xb.out.c0, Xb.out.c1⟩
  refine hK _ _ HJ.out ?_
  clear hK
  refine wpJ_take (i := 4) (v := ?v3x4) rfl (by kernel_rfl) (by kernel_rfl) (by kernel_rfl) (fun _ _ _ h => h) (by kernel_rfl) ?hy3x4 HJ.out ?rest3x4
  case hy3x4 => (intro W' hJ; obtain ⟨j0, j1, j2, j3⟩ := hJ; go_simp; first | done | with_reducible rfl)
  refine wpJ_done (by kernel_rfl) ?_ _
  clear HJ
  obtain ⟨cq0, cq1, fq0, fq1⟩ := Xq.out
  have hneq := Xq.out.lt
  go_wp2_with fail
  clear cq0 cq1 fq0 fq1 hneq
  obtain ⟨W9, hW9⟩ : ∃ W1, W1 = v4.drew := ⟨_, rfl⟩
  have hbd : Below v4.heap.size v4 W9 := by rw [hW9]; exact bDrew1 (Below.refl _ _)
  replace Xa : Hid _ := Xa.out.below hbd
  replace Xb : Hid _ := Xb.out.below hbd
  replace Xr : Hid _ := Xr.out.below hbd
  replace Xq : Hid _ := Xq.out.below hbd
  replace Xt : Hid _ := Xt.out.below hbd
  replace Z1 : Hid _ := Z1.out.below hbd
  replace Z2 : Hid _ := Z2.out.below hbd
  replace Z3 : Hid _ := Z3.out.below hbd
  replace hbw := Below.on hbw hbd
  clear hbd
  have HJ : Hid ((fun W' : World => W'.cell? ⟨gq, 0, none⟩ = some (.bool s1) ∧ W'.cell? ⟨gq, 1, none⟩ = some (.slice (some ⟨g1, 0, none⟩) m1 m1)) W9) := ⟨Xq.out.c0, Xq.out.c1⟩
  refine wp_region_J (fun W' => W'.cell? ⟨gq, 0, none⟩ = some (.bool s1) ∧ W'.cell? ⟨gq, 1, none⟩ = some (.slice (some ⟨g1, 0, none⟩) m1 m1)) (by kernel_rfl) ?_
  rw [← hW9]
  clear hW9
  refine wpJ_take (i := 0) (v := ?v4x0) rfl (by kernel_rfl) (by kernel_rfl) (by kernel_rfl) (fun _ _ _ h => h) (by kernel_rfl) ?hy4x0 HJ.out ?rest4x0
  case hy4x0 => (intro W' hJ; obtain ⟨j0, j1⟩ := hJ; go_simp; first | done | with_reducible rfl)
  refine wpJ_one (i := 1) (by kernel_rfl) rfl (by kernel_rfl) (fun KJ hK => ?_)
  go_simp
  refine (rof04 1 _ (by decide) (by decide)).mono ?_
  rintro e v6 ⟨s6, g6, m6, rfl, hz6, hl6, hb6⟩
  replace Xa : Hid _ := Xa.out.below hb6
  replace Xb : Hid _ := Xb.out.below hb6
  replace Xr : Hid _ := Xr.out.below hb6
  replace Xq : Hid _ := Xq.out.below hb6
  replace Xt : Hid _ := Xt.out.below hb6
  replace Z1 : Hid _ := Z1.out.below hb6
  replace Z2 : Hid _ := Z2.out.below hb6
  replace Z3 : Hid _ := Z3.out.below hb6
  replace hbw := Below.on hbw hb6
  clear hb6
  have Z6 : Hid (ZR v6 s6 (some ⟨g6, 0, none⟩) m6 1) := hz6
  have HL6 : Hid (m6 ≤ 3) := hl6
  clear hz6 hl6
  refine hK _ _ ⟨Xq.out.c0, Xq.out.c1⟩ ?_
  clear hK
  have HRB : Hid (gr < v6.heap.size ∧ w.heap.size ≤ v6.heap.size) := ⟨Xr.out.lt, hbw.size⟩
  refine wpJ_one (i := 2) (by kernel_rfl) rfl (by kernel_rfl) (fun KJ hK => ?_)
  go_simp
  refine (radd04 s1 s6 Z1.out Z6.out (by have := HL1.out; omega) (by have := HL6.out; omega)).mono ?_
  rintro e v9 ⟨v, rfl, hv, hb9⟩
  obtain ⟨s9, g9, m9, rfl, hg9, hz9, hl9⟩ := hv
  have HN9 : Hid (v6.heap.size ≤ g9) := hg9
  have HB9 : Hid (v6.heap.size ≤ v9.heap.size) := hb9.size
  replace Xa : Hid _ := Xa.out.below hb9
  replace Xb : Hid _ := Xb.out.below hb9
  replace Xr : Hid _ := Xr.out.below hb9
  replace Xq : Hid _ := Xq.out.below hb9
  replace Xt : Hid _ := Xt.out.below hb9
  replace Z1 : Hid _ := Z1.out.below hb9
  replace Z2 : Hid _ := Z2.out.below hb9
  replace Z3 : Hid _ := Z3.out.below hb9
  replace Z6 : Hid _ := Z6.out.below hb9
  replace hbw := Below.on hbw hb9
  clear hb9
  have Z9 : Hid (ZR v9 s9 (some ⟨g9, 0, none⟩) m9 (rFd x y + 1)) := hz9
  have HL9 : Hid (m9 ≤ max m1 m6 + 1) := hl9
  clear hz9 hl9 hg9
  refine hK _ _ ⟨Xq.out.c0, Xq.out.c1⟩ ?_
  clear hK
  have hq1 := HDR0.out
  have hq2 : gq ≠ gr := fun h => hq1 h.symm
  obtain ⟨cr0, cr1, fr0, fr1⟩ := Xr.out
  have hner := Xr.out.lt
  obtain ⟨cq0, cq1, fq0, fq1⟩ := Xq.out
  have hneq := Xq.out.lt
  obtain ⟨hgd0, hgd1, hgd2, hgd3, hgd4, hgd5⟩ := HGD.out
  refine wpJ_one (i := 3) (by kernel_rfl) rfl (by kernel_rfl) (fun KJ hK => ?_)
  go_simp
  have HJ2 : Hid ((fun W' : World => W'.cell? ⟨gq, 0, none⟩ = some (.bool s1) ∧ W'.cell? ⟨gq, 1, none⟩ = some (.slice (some ⟨g1, 0, none⟩) m1 m1)) ((v9.setCell ⟨gr, 0, none⟩ (.bool s9)).setCell ⟨gr, 1, none⟩ (.slice (some ⟨g9, 0, none⟩) m9 m9))) := ⟨by go_simp, by go_simp⟩
  refine hK _ _ HJ2.out ?_
  clear hK HJ
  have HJ := HJ2
  clear HJ2
  refine wpJ_done (by kernel_rfl) ?_ _
  clear HJ
  go_wp2_with fail
  refine bodyPost_ret (v := .agg #[.bool s9, .slice (some ⟨g9, 0, none⟩) m9 m9]) (by rw [results_cell1 rfl]; go_simp) rfl ⟨_, rfl, ⟨s9, g9, m9, rfl, Nat.le_trans HRB.out.2 HN9.out, ?_, ?_⟩, ?_⟩
  · have := HN9.out; have := HRB.out.1
    exact (Z9.out.set _ _ _ (by omega)).set _ _ _ (by omega)
  · have := HL9.out; have := HL6.out; have := HL1.out; omega
  · exact bSet (bSet hbw _ _ _ HGr.out) _ _ _ HGr.out
set_option maxRecDepth 20000 in
set_option maxHeartbeats 8000000 in
theorem rnear04_o {p q : Option Addr} {m n : Nat} {w : World} {x y : Int} (s : Bool) (h : ZR w s p m x) (k : ZR w false q n y) (hm : m ≤ 16384) (hn : n ≤ 40000) (hy : 0 < y) (L : Nat) (hrm : (rMo x y).natAbs < B32 ^ L) (hL : L ≤ 16384) (hc : 2 * rMo x y = y ∧ (rFd x y).natAbs % 2 = 1) :
    Calls Tryz.prog 119 #[.agg #[.bool s, .slice p m m], .agg #[.bool false, .slice q n n]] w fun e w' => ∃ v, e = .returned v ∧ GotR w.heap.size w' v (rNd x y) (20001) ∧ Below w.heap.size w w' := by
  have HRV : Hid (rNd x y = rFd x y + 1) := near_up hy (.inr hc)
  rw [HRV.out]
  have HC : Hid (cmpI (rMo x y * 2 ^ 1) y = 0) := by show _ = _; unfold cmpI; rw [if_neg (by omega), if_pos (by omega)]
  have HE : Hid (decide ((rFd x y).natAbs % 2 = 0) = false ∨ False) := .inl (by rw [hc.2]; rfl)
  have HA : Hid (ZR w s p m x ∧ ZR w false q n y) := ⟨h, k⟩
  have HM : Hid (m ≤ 16384 ∧ n ≤ 40000 ∧ 0 < y ∧ (rMo x y).natAbs < B32 ^ L ∧ L ≤ 16384) := ⟨hm, hn, hy, hrm, hL⟩
  clear h k hm hn hy hc HRV hrm hL
  go_enter Tryz.func119, Tryz.ntmps119
  go_wp2_with fail
  obtain ⟨W0, hW0⟩ : ∃ W0, W0 = (((w.alloc (.cells #[.bool s, .slice p m m] 70)).alloc (.cells #[.bool false, .slice q n n] 70)).alloc (.cells #[.bool false, .slice none 0 0] 70)) := ⟨_, rfl⟩
  have Xa : Hid (Box W0 (w.heap.size) (.bool s) (.slice p m m)) := by rw [hW0]; exact ⟨by go_simp, by go_simp, by go_simp, by go_simp⟩
  have Xb : Hid (Box W0 (w.heap.size + 1) (.bool false) (.slice q n n)) := by rw [hW0]; exact ⟨by go_simp, by go_simp, by go_simp, by go_simp⟩
  have Xr : Hid (Box W0 (w.heap.size + 1 + 1) (.bool false) (.slice none 0 0)) := by rw [hW0]; exact ⟨by go_simp, by go_simp, by go_simp, by go_simp⟩
  have hb0 : Below w.heap.size w W0 := by rw [hW0]; exact below3 w _ _ _
  rw [← hW0]
  clear hW0
  have hbw : Below w.heap.size w w := Below.refl _ _
  obtain ⟨gr, hgr⟩ : ∃ g, g = w.heap.size + 1 + 1 := ⟨_, rfl⟩
  have HGr : Hid (w.heap.size ≤ gr) := by rw [hgr]; show _ ≤ _; omega
  rw [← hgr] at Xr
  try rw [← hgr]
  obtain ⟨gb, hgb⟩ : ∃ g, g = w.heap.size + 1 := ⟨_, rfl⟩
  have HGb : Hid (w.heap.size ≤ gb) := by rw [hgb]; show _ ≤ _; omega
  rw [← hgb] at Xb
  try rw [← hgb]
  obtain ⟨ga, hga⟩ : ∃ g, g = w.heap.size := ⟨_, rfl⟩
  have HGa : Hid (w.heap.size ≤ ga) := by rw [hga]; show _ ≤ _; omega
  rw [← hga] at Xa
  try rw [← hga]
  have HGD : Hid (ga ≠ gb ∧ ga ≠ gr ∧ gb ≠ ga ∧ gb ≠ gr ∧ gr ≠ ga ∧ gr ≠ gb) := by rw [hga, hgb, hgr]; exact ⟨by omega, by omega, by omega, by omega, by omega, by omega⟩
  clear hga hgb hgr
  replace hbw := Below.on hbw hb0
  clear hb0
  refine (rfloor04 s (HA.out.1.below hbw) (HA.out.2.below hbw) HM.out.1 HM.out.2.1 HM.out.2.2.1).mono ?_
  rintro e v1 ⟨s1, g1, m1, s2, g2, m2, rfl, hg1, hg2, hz1, hz2, hl1, hl2, hb1⟩
  have HR1 : Hid (gr < g1 ∧ w.heap.size ≤ g1) := ⟨Nat.lt_of_lt_of_le Xr.out.lt hg1, Nat.le_trans hbw.size hg1⟩
  replace Xa : Hid _ := Xa.out.below hb1
  replace Xb : Hid _ := Xb.out.below hb1
  replace Xr : Hid _ := Xr.out.below hb1
  replace hbw := Below.on hbw hb1
  clear hb1
  have Z1 : Hid (ZR v1 s1 (some ⟨g1, 0, none⟩) m1 (rFd x y)) := hz1
  have Z2 : Hid (ZR v1 s2 (some ⟨g2, 0, none⟩) m2 (rMo x y)) := hz2
  have hm2 : m2 ≤ 16384 := by
    obtain ⟨z2, hA2, hN2⟩ := hz2.ex
    have := (hN2.len_le B32_one (k := L)).2 HM.out.2.2.2.1
    rw [hA2.len] at this
    exact Nat.le_trans this HM.out.2.2.2.2
  have HL1 : Hid (m1 ≤ 20000 ∧ m2 ≤ 16384) := ⟨hl1, hm2⟩
  clear hz1 hz2 hl1 hl2 hm2 hg1 hg2
  go_wp2_with fail
  have HDQ : Hid (gr < v1.heap.size) := Xr.out.lt
  have HDR0 : Hid (gr ≠ v1.heap.size) := Nat.ne_of_lt Xr.out.lt
  rw [show v1.heap.size + 1 = (v1.alloc (.cells #[.bool s1, .slice (some ⟨g1, 0, none⟩) m1 m1] 70)).heap.size from by simp]
  have Xq0 : Hid (Box (v1.alloc (.cells #[.bool s1, .slice (some ⟨g1, 0, none⟩) m1 m1] 70)) v1.heap.size (.bool s1) (.slice (some ⟨g1, 0, none⟩) m1 m1)) := Box.new v1 _ _ _
  have hbn : Below v1.heap.size v1 (v1.alloc (.cells #[.bool s1, .slice (some ⟨g1, 0, none⟩) m1 m1] 70)) := below1 v1 _
  generalize v1.alloc (.cells #[.bool s1, .slice (some ⟨g1, 0, none⟩) m1 m1] 70) = W6 at *
  have HGq : Hid (w.heap.size ≤ v1.heap.size) := hbw.size
  replace Xa : Hid _ := Xa.out.below hbn
  replace Xb : Hid _ := Xb.out.below hbn
  replace Xr : Hid _ := Xr.out.below hbn
  replace Z1 : Hid _ := Z1.out.below hbn
  replace Z2 : Hid _ := Z2.out.below hbn
  replace hbw := Below.on hbw hbn
  clear hbn
  generalize v1.heap.size = gq at *
  have Xq := Xq0
  clear Xq0
  have Xt0 : Hid (Box (W6.alloc (.cells #[.bool s2, .slice (some ⟨g2, 0, none⟩) m2 m2] 70)) W6.heap.size (.bool s2) (.slice (some ⟨g2, 0, none⟩) m2 m2)) := Box.new W6 _ _ _
  have hbn : Below W6.heap.size W6 (W6.alloc (.cells #[.bool s2, .slice (some ⟨g2, 0, none⟩) m2 m2] 70)) := below1 W6 _
  generalize W6.alloc (.cells #[.bool s2, .slice (some ⟨g2, 0, none⟩) m2 m2] 70) = W7 at *
  have HGt : Hid (w.heap.size ≤ W6.heap.size) := hbw.size
  replace Xa : Hid _ := Xa.out.below hbn
  replace Xb : Hid _ := Xb.out.below hbn
  replace Xr : Hid _ := Xr.out.below hbn
  replace Xq : Hid _ := Xq.out.below hbn
  replace Z1 : Hid _ := Z1.out.below hbn
  replace Z2 : Hid _ := Z2.out.below hbn
  replace hbw := Below.on hbw hbn
  clear hbn
  generalize W6.heap.size = gt at *
  have Xt := Xt0
  clear Xt0
  obtain ⟨W8, hW8⟩ : ∃ W1, W1 = W7.drew := ⟨_, rfl⟩
  have hbd : Below W7.heap.size W7 W8 := by rw [hW8]; exact bDrew1 (Below.refl _ _)
  replace Xa : Hid _ := Xa.out.below hbd
  replace Xb : Hid _ := Xb.out.below hbd
  replace Xr : Hid _ := Xr.out.below hbd
  replace Xq : Hid _ := Xq.out.below hbd
  replace Xt : Hid _ := Xt.out.below hbd
  replace Z1 : Hid _ := Z1.out.below hbd
  replace Z2 : Hid _ := Z2.out.below hbd
  replace hbw := Below.on hbw hbd
  clear hbd
  have HJ : Hid ((fun W' : World => W'.cell? ⟨gt, 0, none⟩ = some (.bool s2) ∧ W'.cell? ⟨gt, 1, none⟩ = some (.slice (some ⟨g2, 0, none⟩) m2 m2) ∧ W'.cell? ⟨gb, 0, none⟩ = some (.bool false) ∧ W'.cell? ⟨gb, 1, none⟩ = some (.slice q n n)) W8) := ⟨Xt.out.c0, Xt.out.c1, Xb.out.c0, Xb.out.c1⟩
  refine wp_region_J (fun W' => W'.cell? ⟨gt, 0, none⟩ = some (.bool s2) ∧ W'.cell? ⟨gt, 1, none⟩ = some (.slice (some ⟨g2, 0, none⟩) m2 m2) ∧ W'.cell? ⟨gb, 0, none⟩ = some (.bool false) ∧ W'.cell? ⟨gb, 1, none⟩ = some (.slice q n n)) (by kernel_rfl) ?_
  rw [← hW8]
  clear hW8
  refine wpJ_take (i := 0) (v := ?v5x0) rfl (by kernel_rfl) (by kernel_rfl) (by kernel_rfl) (fun _ _ _ h => h) (by kernel_rfl) ?hy5x0 HJ.out ?rest5x0
  case hy5x0 => (intro W' hJ; obtain ⟨j0, j1, j2, j3⟩ := hJ; go_simp; first | done | with_reducible rfl)
  refine wpJ_take (i := 2) (v := ?v6x2) rfl (by kernel_rfl) (by kernel_rfl) (by kernel_rfl) (fun _ _ _ h => h) (by kernel_rfl) ?hy6x2 HJ.out ?rest6x2
  case hy6x2 => (intro W' hJ; obtain ⟨j0, j1, j2, j3⟩ := hJ; go_simp; first | done | with_reducible rfl)
  refine wpJ_one (i := 1) (by kernel_rfl) rfl (by kernel_rfl) (fun KJ hK => ?_)
  go_simp
  refine (rshl04 s2 Z2.out HL1.out.2 1 (.inl (by decide))).mono ?_
  rintro e v3 ⟨v, rfl, hv, hb3⟩
  obtain ⟨s3, g3, m3, rfl, hg3, hz3, hl3⟩ := hv
  have HN3 : Hid (W8.heap.size ≤ g3) := hg3
  have HB3 : Hid (W8.heap.size ≤ v3.heap.size) := hb3.size
  replace Xa : Hid _ := Xa.out.below hb3
  replace Xb : Hid _ := Xb.out.below hb3
  replace Xr : Hid _ := Xr.out.below hb3
  replace Xq : Hid _ := Xq.out.below hb3
  replace Xt : Hid _ := Xt.out.below hb3
  replace Z1 : Hid _ := Z1.out.below hb3
  replace Z2 : Hid _ := Z2.out.below hb3
  replace hbw := Below.on hbw hb3
  clear hb3
  have Z3 : Hid (ZR v3 s3 (some ⟨g3, 0, none⟩) m3 (rMo x y * 2 ^ 1)) := hz3
  have HL3 : Hid (m3 ≤ 40000) := hl3
  clear hz3 hl3 hg3
  refine hK _ _ ⟨Xt.out.c0, Xt.out.c1, Xb.out.c0, Xb.out.c1⟩ ?_
  clear hK
  refine wpJ_one (i := 3) (by kernel_rfl) rfl (by kernel_rfl) (fun KJ hK => ?_)
  go_simp
  refine (rcmp04 s3 false Z3.out (HA.out.2.below hbw) (by have := HL3.out; omega) (by have := HM.out; omega)).mono ?_
  rintro e v4 ⟨rfl, hb4⟩
  rw [HC.out]
  replace Xa : Hid _ := Xa.out.below hb4
  replace Xb : Hid _ := Xb.out.below hb4
  replace Xr : Hid _ := Xr.out.below hb4
  replace Xq : Hid _ := Xq.out.below hb4
  replace Xt : Hid _ := Xt.out.below hb4
  replace Z1 : Hid _ := Z1.out.below hb4
  replace Z2 : Hid _ := Z2.out.below hb4
  replace Z3 : Hid _ := Z3.out.below hb4
  replace hbw := Below.on hbw hb4
  clear hb4
  clear HJ
  have HJ : Hid ((fun W' : World => W'.cell? ⟨gt, 0, none⟩ = some (.bool s2) ∧ W'.cell? ⟨gt, 1, none⟩ = some (.slice (some ⟨g2, 0, none⟩) m2 m2) ∧ W'.cell? ⟨gb, 0, none⟩ = some (.bool false) ∧ W'.cell? ⟨gb, 1, none⟩ = some (.slice q n n)) v4) := ⟨Xt.out.c0, Xt.out.c1, Xb.out.c0, Xb.out.c1⟩
  refine hK _ _ HJ.out ?_
  clear hK
  refine wpJ_take (i := 4) (v := ?v7x4) rfl (by kernel_rfl) (by kernel_rfl) (by kernel_rfl) (fun _ _ _ h => h) (by kernel_rfl) ?hy7x4 HJ.out ?rest7x4
  case hy7x4 => (intro W' hJ; obtain ⟨j0, j1, j2, j3⟩ := hJ; go_simp; first | done | with_reducible rfl)
  refine wpJ_done (by kernel_rfl) ?_ _
  clear HJ
  obtain ⟨cq0, cq1, fq0, fq1⟩ := Xq.out
  have hneq := Xq.out.lt
  go_wp2_with fail
  clear cq0 cq1 fq0 fq1 hneq
  refine (reven04 s1 Z1.out (by have := HL1.out; omega) false (by have h9 := HE.out; simp only [or_false] at h9; exact h9.symm)).mono ?_
  rintro e v5 ⟨rfl, hb5⟩
  replace Xa : Hid _ := Xa.out.below hb5
  replace Xb : Hid _ := Xb.out.below hb5
  replace Xr : Hid _ := Xr.out.below hb5
  replace Xq : Hid _ := Xq.out.below hb5
  replace Xt : Hid _ := Xt.out.below hb5
  replace Z1 : Hid _ := Z1.out.below hb5
  replace Z2 : Hid _ := Z2.out.below hb5
  replace Z3 : Hid _ := Z3.out.below hb5
  replace hbw := Below.on hbw hb5
  clear hb5
  obtain ⟨cq0, cq1, fq0, fq1⟩ := Xq.out
  have hneq := Xq.out.lt
  go_wp2_with fail
  clear cq0 cq1 fq0 fq1 hneq
  obtain ⟨W9, hW9⟩ : ∃ W1, W1 = v5.drew := ⟨_, rfl⟩
  have hbd : Below v5.heap.size v5 W9 := by rw [hW9]; exact bDrew1 (Below.refl _ _)
  replace Xa : Hid _ := Xa.out.below hbd
  replace Xb : Hid _ := Xb.out.below hbd
  replace Xr : Hid _ := Xr.out.below hbd
  replace Xq : Hid _ := Xq.out.below hbd
  replace Xt : Hid _ := Xt.out.below hbd
  replace Z1 : Hid _ := Z1.out.below hbd
  replace Z2 : Hid _ := Z2.out.below hbd
  replace Z3 : Hid _ := Z3.out.below hbd
  replace hbw := Below.on hbw hbd
  clear hbd
  have HJ : Hid ((fun W' : World => W'.cell? ⟨gq, 0, none⟩ = some (.bool s1) ∧ W'.cell? ⟨gq, 1, none⟩ = some (.slice (some ⟨g1, 0, none⟩) m1 m1)) W9) := ⟨Xq.out.c0, Xq.out.c1⟩
  refine wp_region_J (fun W' => W'.cell? ⟨gq, 0, none⟩ = some (.bool s1) ∧ W'.cell? ⟨gq, 1, none⟩ = some (.slice (some ⟨g1, 0, none⟩) m1 m1)) (by kernel_rfl) ?_
  rw [← hW9]
  clear hW9
  refine wpJ_take (i := 0) (v := ?v8x0) rfl (by kernel_rfl) (by kernel_rfl) (by kernel_rfl) (fun _ _ _ h => h) (by kernel_rfl) ?hy8x0 HJ.out ?rest8x0
  case hy8x0 => (intro W' hJ; obtain ⟨j0, j1⟩ := hJ; go_simp; first | done | with_reducible rfl)
  refine wpJ_one (i := 1) (by kernel_rfl) rfl (by kernel_rfl) (fun KJ hK => ?_)
  go_simp
  refine (rof04 1 _ (by decide) (by decide)).mono ?_
  rintro e v6 ⟨s6, g6, m6, rfl, hz6, hl6, hb6⟩
  replace Xa : Hid _ := Xa.out.below hb6
  replace Xb : Hid _ := Xb.out.below hb6
  replace Xr : Hid _ := Xr.out.below hb6
  replace Xq : Hid _ := Xq.out.below hb6
  replace Xt : Hid _ := Xt.out.below hb6
  replace Z1 : Hid _ := Z1.out.below hb6
  replace Z2 : Hid _ := Z2.out.below hb6
  replace Z3 : Hid _ := Z3.out.below hb6
  replace hbw := Below.on hbw hb6
  clear hb6
  have Z6 : Hid (ZR v6 s6 (some ⟨g6, 0, none⟩) m6 1) := hz6
  have HL6 : Hid (m6 ≤ 3) := hl6
  clear hz6 hl6
  refine hK _ _ ⟨Xq.out.c0, Xq.out.c1⟩ ?_
  clear hK
  have HRB : Hid (gr < v6.heap.size ∧ w.heap.size ≤ v6.heap.size) := ⟨Xr.out.lt, hbw.size⟩
  refine wpJ_one (i := 2) (by kernel_rfl) rfl (by kernel_rfl) (fun KJ hK => ?_)
  go_simp
  refine (radd04 s1 s6 Z1.out Z6.out (by have := HL1.out; omega) (by have := HL6.out; omega)).mono ?_
  rintro e v9 ⟨v, rfl, hv, hb9⟩
  obtain ⟨s9, g9, m9, rfl, hg9, hz9, hl9⟩ := hv
  have HN9 : Hid (v6.heap.size ≤ g9) := hg9
  have HB9 : Hid (v6.heap.size ≤ v9.heap.size) := hb9.size
  replace Xa : Hid _ := Xa.out.below hb9
  replace Xb : Hid _ := Xb.out.below hb9
  replace Xr : Hid _ := Xr.out.below hb9
  replace Xq : Hid _ := Xq.out.below hb9
  replace Xt : Hid _ := Xt.out.below hb9
  replace Z1 : Hid _ := Z1.out.below hb9
  replace Z2 : Hid _ := Z2.out.below hb9
  replace Z3 : Hid _ := Z3.out.below hb9
  replace Z6 : Hid _ := Z6.out.below hb9
  replace hbw := Below.on hbw hb9
  clear hb9
  have Z9 : Hid (ZR v9 s9 (some ⟨g9, 0, none⟩) m9 (rFd x y + 1)) := hz9
  have HL9 : Hid (m9 ≤ max m1 m6 + 1) := hl9
  clear hz9 hl9 hg9
  refine hK _ _ ⟨Xq.out.c0, Xq.out.c1⟩ ?_
  clear hK
  have hq1 := HDR0.out
  have hq2 : gq ≠ gr := fun h => hq1 h.symm
  obtain ⟨cr0, cr1, fr0, fr1⟩ := Xr.out
  have hner := Xr.out.lt
  obtain ⟨cq0, cq1, fq0, fq1⟩ := Xq.out
  have hneq := Xq.out.lt
  obtain ⟨hgd0, hgd1, hgd2, hgd3, hgd4, hgd5⟩ := HGD.out
  refine wpJ_one (i := 3) (by kernel_rfl) rfl (by kernel_rfl) (fun KJ hK => ?_)
  go_simp
  have HJ2 : Hid ((fun W' : World => W'.cell? ⟨gq, 0, none⟩ = some (.bool s1) ∧ W'.cell? ⟨gq, 1, none⟩ = some (.slice (some ⟨g1, 0, none⟩) m1 m1)) ((v9.setCell ⟨gr, 0, none⟩ (.bool s9)).setCell ⟨gr, 1, none⟩ (.slice (some ⟨g9, 0, none⟩) m9 m9))) := ⟨by go_simp, by go_simp⟩
  refine hK _ _ HJ2.out ?_
  clear hK HJ
  have HJ := HJ2
  clear HJ2
  refine wpJ_done (by kernel_rfl) ?_ _
  clear HJ
  go_wp2_with fail
  refine bodyPost_ret (v := .agg #[.bool s9, .slice (some ⟨g9, 0, none⟩) m9 m9]) (by rw [results_cell1 rfl]; go_simp) rfl ⟨_, rfl, ⟨s9, g9, m9, rfl, Nat.le_trans HRB.out.2 HN9.out, ?_, ?_⟩, ?_⟩
  · have := HN9.out; have := HRB.out.1
    exact (Z9.out.set _ _ _ (by omega)).set _ _ _ (by omega)
  · have := HL9.out; have := HL6.out; have := HL1.out; omega
  · exact bSet (bSet hbw _ _ _ HGr.out) _ _ _ HGr.out
set_option maxRecDepth 20000 in
set_option maxHeartbeats 8000000 in
theorem rnear04_e {p q : Option Addr} {m n : Nat} {w : World} {x y : Int} (s : Bool) (h : ZR w s p m x) (k : ZR w false q n y) (hm : m ≤ 16384) (hn : n ≤ 40000) (hy : 0 < y) (L : Nat) (hrm : (rMo x y).natAbs < B32 ^ L) (hL : L ≤ 16384) (hc : 2 * rMo x y = y ∧ (rFd x y).natAbs % 2 = 0) :
    Calls Tryz.prog 119 #[.agg #[.bool s, .slice p m m], .agg #[.bool false, .slice q n n]] w fun e w' => ∃ v, e = .returned v ∧ GotR w.heap.size w' v (rNd x y) (20001) ∧ Below w.heap.size w w' := by
  have HRV : Hid (rNd x y = rFd x y) := near_no hy (.inr hc)
  rw [HRV.out]
  have HC : Hid (cmpI (rMo x y * 2 ^ 1) y = 0) := by show _ = _; unfold cmpI; rw [if_neg (by omega), if_pos (by omega)]
  have HE : Hid (decide ((rFd x y).natAbs % 2 = 0) = true ∨ False) := .inl (by rw [hc.2]; rfl)
  have HA : Hid (ZR w s p m x ∧ ZR w false q n y) := ⟨h, k⟩
  have HM : Hid (m ≤ 16384 ∧ n ≤ 40000 ∧ 0 < y ∧ (rMo x y).natAbs < B32 ^ L ∧ L ≤ 16384) := ⟨hm, hn, hy, hrm, hL⟩
  clear h k hm hn hy hc HRV hrm hL
  go_enter Tryz.func119, Tryz.ntmps119
  go_wp2_with fail
  obtain ⟨W0, hW0⟩ : ∃ W0, W0 = (((w.alloc (.cells #[.bool s, .slice p m m] 70)).alloc (.cells #[.bool false, .slice q n n] 70)).alloc (.cells #[.bool false, .slice none 0 0] 70)) := ⟨_, rfl⟩
  have Xa : Hid (Box W0 (w.heap.size) (.bool s) (.slice p m m)) := by rw [hW0]; exact ⟨by go_simp, by go_simp, by go_simp, by go_simp⟩
  have Xb : Hid (Box W0 (w.heap.size + 1) (.bool false) (.slice q n n)) := by rw [hW0]; exact ⟨by go_simp, by go_simp, by go_simp, by go_simp⟩
  have Xr : Hid (Box W0 (w.heap.size + 1 + 1) (.bool false) (.slice none 0 0)) := by rw [hW0]; exact ⟨by go_simp, by go_simp, by go_simp, by go_simp⟩
  have hb0 : Below w.heap.size w W0 := by rw [hW0]; exact below3 w _ _ _
  rw [← hW0]
  clear hW0
  have hbw : Below w.heap.size w w := Below.refl _ _
  obtain ⟨gr, hgr⟩ : ∃ g, g = w.heap.size + 1 + 1 := ⟨_, rfl⟩
  have HGr : Hid (w.heap.size ≤ gr) := by rw [hgr]; show _ ≤ _; omega
  rw [← hgr] at Xr
  try rw [← hgr]
  obtain ⟨gb, hgb⟩ : ∃ g, g = w.heap.size + 1 := ⟨_, rfl⟩
  have HGb : Hid (w.heap.size ≤ gb) := by rw [hgb]; show _ ≤ _; omega
  rw [← hgb] at Xb
  try rw [← hgb]
  obtain ⟨ga, hga⟩ : ∃ g, g = w.heap.size := ⟨_, rfl⟩
  have HGa : Hid (w.heap.size ≤ ga) := by rw [hga]; show _ ≤ _; omega
  rw [← hga] at Xa
  try rw [← hga]
  have HGD : Hid (ga ≠ gb ∧ ga ≠ gr ∧ gb ≠ ga ∧ gb ≠ gr ∧ gr ≠ ga ∧ gr ≠ gb) := by rw [hga, hgb, hgr]; exact ⟨by omega, by omega, by omega, by omega, by omega, by omega⟩
  clear hga hgb hgr
  replace hbw := Below.on hbw hb0
  clear hb0
  refine (rfloor04 s (HA.out.1.below hbw) (HA.out.2.below hbw) HM.out.1 HM.out.2.1 HM.out.2.2.1).mono ?_
  rintro e v1 ⟨s1, g1, m1, s2, g2, m2, rfl, hg1, hg2, hz1, hz2, hl1, hl2, hb1⟩
  have HR1 : Hid (gr < g1 ∧ w.heap.size ≤ g1) := ⟨Nat.lt_of_lt_of_le Xr.out.lt hg1, Nat.le_trans hbw.size hg1⟩
  replace Xa : Hid _ := Xa.out.below hb1
  replace Xb : Hid _ := Xb.out.below hb1
  replace Xr : Hid _ := Xr.out.below hb1
  replace hbw := Below.on hbw hb1
  clear hb1
  have Z1 : Hid (ZR v1 s1 (some ⟨g1, 0, none⟩) m1 (rFd x y)) := hz1
  have Z2 : Hid (ZR v1 s2 (some ⟨g2, 0, none⟩) m2 (rMo x y)) := hz2
  have hm2 : m2 ≤ 16384 := by
    obtain ⟨z2, hA2, hN2⟩ := hz2.ex
    have := (hN2.len_le B32_one (k := L)).2 HM.out.2.2.2.1
    rw [hA2.len] at this
    exact Nat.le_trans this HM.out.2.2.2.2
  have HL1 : Hid (m1 ≤ 20000 ∧ m2 ≤ 16384) := ⟨hl1, hm2⟩
  clear hz1 hz2 hl1 hl2 hm2 hg1 hg2
  go_wp2_with fail
  have HDQ : Hid (gr < v1.heap.size) := Xr.out.lt
  have HDR0 : Hid (gr ≠ v1.heap.size) := Nat.ne_of_lt Xr.out.lt
  rw [show v1.heap.size + 1 = (v1.alloc (.cells #[.bool s1, .slice (some ⟨g1, 0, none⟩) m1 m1] 70)).heap.size from by simp]
  have Xq0 : Hid (Box (v1.alloc (.cells #[.bool s1, .slice (some ⟨g1, 0, none⟩) m1 m1] 70)) v1.heap.size (.bool s1) (.slice (some ⟨g1, 0, none⟩) m1 m1)) := Box.new v1 _ _ _
  have hbn : Below v1.heap.size v1 (v1.alloc (.cells #[.bool s1, .slice (some ⟨g1, 0, none⟩) m1 m1] 70)) := below1 v1 _
  generalize v1.alloc (.cells #[.bool s1, .slice (some ⟨g1, 0, none⟩) m1 m1] 70) = W6 at *
  have HGq : Hid (w.heap.size ≤ v1.heap.size) := hbw.size
  replace Xa : Hid _ := Xa.out.below hbn
  replace Xb : Hid _ := Xb.out.below hbn
  replace Xr : Hid _ := Xr.out.below hbn
  replace Z1 : Hid _ := Z1.out.below hbn
  replace Z2 : Hid _ := Z2.out.below hbn
  replace hbw := Below.on hbw hbn
  clear hbn
  generalize v1.heap.size = gq at *
  have Xq := Xq0
  clear Xq0
  have Xt0 : Hid (Box (W6.alloc (.cells #[.bool s2, .slice (some ⟨g2, 0, none⟩) m2 m2] 70)) W6.heap.size (.bool s2) (.slice (some ⟨g2, 0, none⟩) m2 m2)) := Box.new W6 _ _ _
  have hbn : Below W6.heap.size W6 (W6.alloc (.cells #[.bool s2, .slice (some ⟨g2, 0, none⟩) m2 m2] 70)) := below1 W6 _
  generalize W6.alloc (.cells #[.bool s2, .slice (some ⟨g2, 0, none⟩) m2 m2] 70) = W7 at *
  have HGt : Hid (w.heap.size ≤ W6.heap.size) := hbw.size
  replace Xa : Hid _ := Xa.out.below hbn
  replace Xb : Hid _ := Xb.out.below hbn
  replace Xr : Hid _ := Xr.out.below hbn
  replace Xq : Hid _ := Xq.out.below hbn
  replace Z1 : Hid _ := Z1.out.below hbn
  replace Z2 : Hid _ := Z2.out.below hbn
  replace hbw := Below.on hbw hbn
  clear hbn
  generalize W6.heap.size = gt at *
  have Xt := Xt0
  clear Xt0
  obtain ⟨W8, hW8⟩ : ∃ W1, W1 = W7.drew := ⟨_, rfl⟩
  have hbd : Below W7.heap.size W7 W8 := by rw [hW8]; exact bDrew1 (Below.refl _ _)
  replace Xa : Hid _ := Xa.out.below hbd
  replace Xb : Hid _ := Xb.out.below hbd
  replace Xr : Hid _ := Xr.out.below hbd
  replace Xq : Hid _ := Xq.out.below hbd
  replace Xt : Hid _ := Xt.out.below hbd
  replace Z1 : Hid _ := Z1.out.below hbd
  replace Z2 : Hid _ := Z2.out.below hbd
  replace hbw := Below.on hbw hbd
  clear hbd
  have HJ : Hid ((fun W' : World => W'.cell? ⟨gt, 0, none⟩ = some (.bool s2) ∧ W'.cell? ⟨gt, 1, none⟩ = some (.slice (some ⟨g2, 0, none⟩) m2 m2) ∧ W'.cell? ⟨gb, 0, none⟩ = some (.bool false) ∧ W'.cell? ⟨gb, 1, none⟩ = some (.slice q n n)) W8) := ⟨Xt.out.c0, Xt.out.c1, Xb.out.c0, Xb.out.c1⟩
  refine wp_region_J (fun W' => W'.cell? ⟨gt, 0, none⟩ = some (.bool s2) ∧ W'.cell? ⟨gt, 1, none⟩ = some (.slice (some ⟨g2, 0, none⟩) m2 m2) ∧ W'.cell? ⟨gb, 0, none⟩ = some (.bool false) ∧ W'.cell? ⟨gb, 1, none⟩ = some (.slice q n n)) (by kernel_rfl) ?_
  rw [← hW8]
  clear hW8
  refine wpJ_take (i := 0) (v := ?v9x0) rfl (by kernel_rfl) (by kernel_rfl) (by kernel_rfl) (fun _ _ _ h => h) (by kernel_rfl) ?hy9x0 HJ.out ?rest9x0
  case hy9x0 => (intro W' hJ; obtain ⟨j0, j1, j2, j3⟩ := hJ; go_simp; first | done | with_reducible rfl)
  refine wpJ_take (i := 2) (v := ?v10x2) rfl (by kernel_rfl) (by kernel_rfl) (by kernel_rfl) (fun _ _ _ h => h) (by kernel_rfl) ?hy10x2 HJ.out ?rest10x2
  case hy10x2 => (intro W' hJ; obtain ⟨j0, j1, j2, j3⟩ := hJ; go_simp; first | done | with_reducible rfl)
  refine wpJ_one (i := 1) (by kernel_rfl) rfl (by kernel_rfl) (fun KJ hK => ?_)
  go_simp
  refine (rshl04 s2 Z2.out HL1.out.2 1 (.inl (by decide))).mono ?_
  rintro e v3 ⟨v, rfl, hv, hb3⟩
  obtain ⟨s3, g3, m3, rfl, hg3, hz3, hl3⟩ := hv
  have HN3 : Hid (W8.heap.size ≤ g3) := hg3
  have HB3 : Hid (W8.heap.size ≤ v3.heap.size) := hb3.size
  replace Xa : Hid _ := Xa.out.below hb3
  replace Xb : Hid _ := Xb.out.below hb3
  replace Xr : Hid _ := Xr.out.below hb3
  replace Xq : Hid _ := Xq.out.below hb3
  replace Xt : Hid _ := Xt.out.below hb3
  replace Z1 : Hid _ := Z1.out.below hb3
  replace Z2 : Hid _ := Z2.out.below hb3
  replace hbw := Below.on hbw hb3
  clear hb3
  have Z3 : Hid (ZR v3 s3 (some ⟨g3, 0, none⟩) m3 (rMo x y * 2 ^ 1)) := hz3
  have HL3 : Hid (m3 ≤ 40000) := hl3
  clear hz3 hl3 hg3
  refine hK _ _ ⟨Xt.out.c0, Xt.out.c1, Xb.out.c0, Xb.out.c1⟩ ?_
  clear hK
  refine wpJ_one (i := 3) (by kernel_rfl) rfl (by kernel_rfl) (fun KJ hK => ?_)
  go_simp
  refine (rcmp04 s3 false Z3.out (HA.out.2.below hbw) (by have := HL3.out; omega) (by have := HM.out; omega)).mono ?_
  rintro e v4 ⟨rfl, hb4⟩
  rw [HC.out]
  replace Xa : Hid _ := Xa.out.below hb4
  replace Xb : Hid _ := Xb.out.below hb4
  replace Xr : Hid _ := Xr.out.below hb4
  replace Xq : Hid _ := Xq.out.below hb4
  replace Xt : Hid _ := Xt.out.below hb4
  replace Z1 : Hid _ := Z1.out.below hb4
  replace Z2 : Hid _ := Z2.out.below hb4
  replace Z3 : Hid _ := Z3.out.below hb4
  replace hbw := Below.on hbw hb4
  clear hb4
  clear HJ
  have HJ : Hid ((fun W' : World => W'.cell? ⟨gt, 0, none⟩ = some (.bool s2) ∧ W'.cell? ⟨gt, 1, none⟩ = some (.slice (some ⟨g2, 0, none⟩) m2 m2) ∧ W'.cell? ⟨gb, 0, none⟩ = some (.bool false) ∧ W'.cell? ⟨gb, 1, none⟩ = some (.slice q n n)) v4) := ⟨Xt.out.c0, Xt.out.c1, Xb.out.c0, Xb.out.c1⟩
  refine hK _ _ HJ.out ?_
  clear hK
  refine wpJ_take (i := 4) (v := ?v11x4) rfl (by kernel_rfl) (by kernel_rfl) (by kernel_rfl) (fun _ _ _ h => h) (by kernel_rfl) ?hy11x4 HJ.out ?rest11x4
  case hy11x4 => (intro W' hJ; obtain ⟨j0, j1, j2, j3⟩ := hJ; go_simp; first | done | with_reducible rfl)
  refine wpJ_done (by kernel_rfl) ?_ _
  clear HJ
  obtain ⟨cq0, cq1, fq0, fq1⟩ := Xq.out
  have hneq := Xq.out.lt
  go_wp2_with fail
  clear cq0 cq1 fq0 fq1 hneq
  refine (reven04 s1 Z1.out (by have := HL1.out; omega) true (by have h9 := HE.out; simp only [or_false] at h9; exact h9.symm)).mono ?_
  rintro e v5 ⟨rfl, hb5⟩
  replace Xa : Hid _ := Xa.out.below hb5
  replace Xb : Hid _ := Xb.out.below hb5
  replace Xr : Hid _ := Xr.out.below hb5
  replace Xq : Hid _ := Xq.out.below hb5
  replace Xt : Hid _ := Xt.out.below hb5
  replace Z1 : Hid _ := Z1.out.below hb5
  replace Z2 : Hid _ := Z2.out.below hb5
  replace Z3 : Hid _ := Z3.out.below hb5
  replace hbw := Below.on hbw hb5
  clear hb5
  obtain ⟨cq0, cq1, fq0, fq1⟩ := Xq.out
  have hneq := Xq.out.lt
  obtain ⟨cr0, cr1, fr0, fr1⟩ := Xr.out
  have hner := Xr.out.lt
  go_wp2_with fail
  refine bodyPost_ret (v := .agg #[.bool s1, .slice (some ⟨g1, 0, none⟩) m1 m1]) (by rw [results_cell1 rfl]; go_simp) rfl ⟨_, rfl, ⟨s1, g1, m1, rfl, HR1.out.2, ?_, Nat.le_succ_of_le HL1.out.1⟩, ?_⟩
  · have := HR1.out.1
    exact (Z1.out.set _ _ _ (by omega)).set _ _ _ (by omega)
  · exact bSet (bSet hbw _ _ _ HGr.out) _ _ _ HGr.out
set_option maxRecDepth 20000 in
set_option maxHeartbeats 8000000 in
theorem rnear04_l {p q : Option Addr} {m n : Nat} {w : World} {x y : Int} (s : Bool) (h : ZR w s p m x) (k : ZR w false q n y) (hm : m ≤ 16384) (hn : n ≤ 40000) (hy : 0 < y) (L : Nat) (hrm : (rMo x y).natAbs < B32 ^ L) (hL : L ≤ 16384) (hc : 2 * rMo x y < y) :
    Calls Tryz.prog 119 #[.agg #[.bool s, .slice p m m], .agg #[.bool false, .slice q n n]] w fun e w' => ∃ v, e = .returned v ∧ GotR w.heap.size w' v (rNd x y) (20001) ∧ Below w.heap.size w w' := by
  have HRV : Hid (rNd x y = rFd x y) := near_no hy (.inl hc)
  rw [HRV.out]
  have HC : Hid (cmpI (rMo x y * 2 ^ 1) y = (-1)) := by show _ = _; unfold cmpI; rw [if_pos (by omega)]
  have HE : Hid (decide ((rFd x y).natAbs % 2 = 0) = true ∨ True) := .inr trivial
  have HA : Hid (ZR w s p m x ∧ ZR w false q n y) := ⟨h, k⟩
  have HM : Hid (m ≤ 16384 ∧ n ≤ 40000 ∧ 0 < y ∧ (rMo x y).natAbs < B32 ^ L ∧ L ≤ 16384) := ⟨hm, hn, hy, hrm, hL⟩
  clear h k hm hn hy hc HRV hrm hL
  go_enter Tryz.func119, Tryz.ntmps119
  go_wp2_with fail
  obtain ⟨W0, hW0⟩ : ∃ W0, W0 = (((w.alloc (.cells #[.bool s, .slice p m m] 70)).alloc (.cells #[.bool false, .slice q n n] 70)).alloc (.cells #[.bool false, .slice none 0 0] 70)) := ⟨_, rfl⟩
  have Xa : Hid (Box W0 (w.heap.size) (.bool s) (.slice p m m)) := by rw [hW0]; exact ⟨by go_simp, by go_simp, by go_simp, by go_simp⟩
  have Xb : Hid (Box W0 (w.heap.size + 1) (.bool false) (.slice q n n)) := by rw [hW0]; exact ⟨by go_simp, by go_simp, by go_simp, by go_simp⟩
  have Xr : Hid (Box W0 (w.heap.size + 1 + 1) (.bool false) (.slice none 0 0)) := by rw [hW0]; exact ⟨by go_simp, by go_simp, by go_simp, by go_simp⟩
  have hb0 : Below w.heap.size w W0 := by rw [hW0]; exact below3 w _ _ _
  rw [← hW0]
  clear hW0
  have hbw : Below w.heap.size w w := Below.refl _ _
  obtain ⟨gr, hgr⟩ : ∃ g, g = w.heap.size + 1 + 1 := ⟨_, rfl⟩
  have HGr : Hid (w.heap.size ≤ gr) := by rw [hgr]; show _ ≤ _; omega
  rw [← hgr] at Xr
  try rw [← hgr]
  obtain ⟨gb, hgb⟩ : ∃ g, g = w.heap.size + 1 := ⟨_, rfl⟩
  have HGb : Hid (w.heap.size ≤ gb) := by rw [hgb]; show _ ≤ _; omega
  rw [← hgb] at Xb
  try rw [← hgb]
  obtain ⟨ga, hga⟩ : ∃ g, g = w.heap.size := ⟨_, rfl⟩
  have HGa : Hid (w.heap.size ≤ ga) := by rw [hga]; show _ ≤ _; omega
  rw [← hga] at Xa
  try rw [← hga]
  have HGD : Hid (ga ≠ gb ∧ ga ≠ gr ∧ gb ≠ ga ∧ gb ≠ gr ∧ gr ≠ ga ∧ gr ≠ gb) := by rw [hga, hgb, hgr]; exact ⟨by omega, by omega, by omega, by omega, by omega, by omega⟩
  clear hga hgb hgr
  replace hbw := Below.on hbw hb0
  clear hb0
  refine (rfloor04 s (HA.out.1.below hbw) (HA.out.2.below hbw) HM.out.1 HM.out.2.1 HM.out.2.2.1).mono ?_
  rintro e v1 ⟨s1, g1, m1, s2, g2, m2, rfl, hg1, hg2, hz1, hz2, hl1, hl2, hb1⟩
  have HR1 : Hid (gr < g1 ∧ w.heap.size ≤ g1) := ⟨Nat.lt_of_lt_of_le Xr.out.lt hg1, Nat.le_trans hbw.size hg1⟩
  replace Xa : Hid _ := Xa.out.below hb1
  replace Xb : Hid _ := Xb.out.below hb1
  replace Xr : Hid _ := Xr.out.below hb1
  replace hbw := Below.on hbw hb1
  clear hb1
  have Z1 : Hid (ZR v1 s1 (some ⟨g1, 0, none⟩) m1 (rFd x y)) := hz1
  have Z2 : Hid (ZR v1 s2 (some ⟨g2, 0, none⟩) m2 (rMo x y)) := hz2
  have hm2 : m2 ≤ 16384 := by
    obtain ⟨z2, hA2, hN2⟩ := hz2.ex
    have := (hN2.len_le B32_one (k := L)).2 HM.out.2.2.2.1
    rw [hA2.len] at this
    exact Nat.le_trans this HM.out.2.2.2.2
  have HL1 : Hid (m1 ≤ 20000 ∧ m2 ≤ 16384) := ⟨hl1, hm2⟩
  clear hz1 hz2 hl1 hl2 hm2 hg1 hg2
  go_wp2_with fail
  have HDQ : Hid (gr < v1.heap.size) := Xr.out.lt
  have HDR0 : Hid (gr ≠ v1.heap.size) := Nat.ne_of_lt Xr.out.lt
  rw [show v1.heap.size + 1 = (v1.alloc (.cells #[.bool s1, .slice (some ⟨g1, 0, none⟩) m1 m1] 70)).heap.size from by simp]
  have Xq0 : Hid (Box (v1.alloc (.cells #[.bool s1, .slice (some ⟨g1, 0, none⟩) m1 m1] 70)) v1.heap.size (.bool s1) (.slice (some ⟨g1, 0, none⟩) m1 m1)) := Box.new v1 _ _ _
  have hbn : Below v1.heap.size v1 (v1.alloc (.cells #[.bool s1, .slice (some ⟨g1, 0, none⟩) m1 m1] 70)) := below1 v1 _
  generalize v1.alloc (.cells #[.bool s1, .slice (some ⟨g1, 0, none⟩) m1 m1] 70) = W6 at *
  have HGq : Hid (w.heap.size ≤ v1.heap.size) := hbw.size
  replace Xa : Hid _ := Xa.out.below hbn
  replace Xb : Hid _ := Xb.out.below hbn
  replace Xr : Hid _ := Xr.out.below hbn
  replace Z1 : Hid _ := Z1.out.below hbn
  replace Z2 : Hid _ := Z2.out.below hbn
  replace hbw := Below.on hbw hbn
  clear hbn
  generalize v1.heap.size = gq at *
  have Xq := Xq0
  clear Xq0
  have Xt0 : Hid (Box (W6.alloc (.cells #[.bool s2, .slice (some ⟨g2, 0, none⟩) m2 m2] 70)) W6.heap.size (.bool s2) (.slice (some ⟨g2, 0, none⟩) m2 m2)) := Box.new W6 _ _ _
  have hbn : Below W6.heap.size W6 (W6.alloc (.cells #[.bool s2, .slice (some ⟨g2, 0, none⟩) m2 m2] 70)) := below1 W6 _
  generalize W6.alloc (.cells #[.bool s2, .slice (some ⟨g2, 0, none⟩) m2 m2] 70) = W7 at *
  have HGt : Hid (w.heap.size ≤ W6.heap.size) := hbw.size
  replace Xa : Hid _ := Xa.out.below hbn
  replace Xb : Hid _ := Xb.out.below hbn
  replace Xr : Hid _ := Xr.out.below hbn
  replace Xq : Hid _ := Xq.out.below hbn
  replace Z1 : Hid _ := Z1.out.below hbn
  replace Z2 : Hid _ := Z2.out.below hbn
  replace hbw := Below.on hbw hbn
  clear hbn
  generalize W6.heap.size = gt at *
  have Xt := Xt0
  clear Xt0
  obtain ⟨W8, hW8⟩ : ∃ W1, W1 = W7.drew := ⟨_, rfl⟩
  have hbd : Below W7.heap.size W7 W8 := by rw [hW8]; exact bDrew1 (Below.refl _ _)
  replace Xa : Hid _ := Xa.out.below hbd
  replace Xb : Hid _ := Xb.out.below hbd
  replace Xr : Hid _ := Xr.out.below hbd
  replace Xq : Hid _ := Xq.out.below hbd
  replace Xt : Hid _ := Xt.out.below hbd
  replace Z1 : Hid _ := Z1.out.below hbd
  replace Z2 : Hid _ := Z2.out.below hbd
  replace hbw := Below.on hbw hbd
  clear hbd
  have HJ : Hid ((fun W' : World => W'.cell? ⟨gt, 0, none⟩ = some (.bool s2) ∧ W'.cell? ⟨gt, 1, none⟩ = some (.slice (some ⟨g2, 0, none⟩) m2 m2) ∧ W'.cell? ⟨gb, 0, none⟩ = some (.bool false) ∧ W'.cell? ⟨gb, 1, none⟩ = some (.slice q n n)) W8) := ⟨Xt.out.c0, Xt.out.c1, Xb.out.c0, Xb.out.c1⟩
  refine wp_region_J (fun W' => W'.cell? ⟨gt, 0, none⟩ = some (.bool s2) ∧ W'.cell? ⟨gt, 1, none⟩ = some (.slice (some ⟨g2, 0, none⟩) m2 m2) ∧ W'.cell? ⟨gb, 0, none⟩ = some (.bool false) ∧ W'.cell? ⟨gb, 1, none⟩ = some (.slice q n n)) (by kernel_rfl) ?_
  rw [← hW8]
  clear hW8
  refine wpJ_take (i := 0) (v := ?v12x0) rfl (by kernel_rfl) (by kernel_rfl) (by kernel_rfl) (fun _ _ _ h => h) (by kernel_rfl) ?hy12x0 HJ.out ?rest12x0
  case hy12x0 => (intro W' hJ; obtain ⟨j0, j1, j2, j3⟩ := hJ; go_simp; first | done | with_reducible rfl)
  refine wpJ_take (i := 2) (v := ?v13x2) rfl (by kernel_rfl) (by kernel_rfl) (by kernel_rfl) (fun _ _ _ h => h) (by kernel_rfl) ?hy13x2 HJ.out ?rest13x2
  case hy13x2 => (intro W' hJ; obtain ⟨j0, j1, j2, j3⟩ := hJ; go_simp; first | done | with_reducible rfl)
  refine wpJ_one (i := 1) (by kernel_rfl) rfl (by kernel_rfl) (fun KJ hK => ?_)
  go_simp
  refine (rshl04 s2 Z2.out HL1.out.2 1 (.inl (by decide))).mono ?_
  rintro e v3 ⟨v, rfl, hv, hb3⟩
  obtain ⟨s3, g3, m3, rfl, hg3, hz3, hl3⟩ := hv
  have HN3 : Hid (W8.heap.size ≤ g3) := hg3
  have HB3 : Hid (W8.heap.size ≤ v3.heap.size) := hb3.size
  replace Xa : Hid _ := Xa.out.below hb3
  replace Xb : Hid _ := Xb.out.below hb3
  replace Xr : Hid _ := Xr.out.below hb3
  replace Xq : Hid _ := Xq.out.below hb3
  replace Xt : Hid _ := Xt.out.below hb3
  replace Z1 : Hid _ := Z1.out.below hb3
  replace Z2 : Hid _ := Z2.out.below hb3
  replace hbw := Below.on hbw hb3
  clear hb3
  have Z3 : Hid (ZR v3 s3 (some ⟨g3, 0, none⟩) m3 (rMo x y * 2 ^ 1)) := hz3
  have HL3 : Hid (m3 ≤ 40000) := hl3
  clear hz3 hl3 hg3
  refine hK _ _ ⟨Xt.out.c0, Xt.out.c1, Xb.out.c0, Xb.out.c1⟩ ?_
  clear hK
  refine wpJ_one (i := 3) (by kernel_rfl) rfl (by kernel_rfl) (fun KJ hK => ?_)
  go_simp
  refine (rcmp04 s3 false Z3.out (HA.out.2.below hbw) (by have := HL3.out; omega) (by have := HM.out; omega)).mono ?_
  rintro e v4 ⟨rfl, hb4⟩
  rw [HC.out]
  replace Xa : Hid _ := Xa.out.below hb4
  replace Xb : Hid _ := Xb.out.below hb4
  replace Xr : Hid _ := Xr.out.below hb4
  replace Xq : Hid _ := Xq.out.below hb4
  replace Xt : Hid _ := Xt.out.below hb4
  replace Z1 : Hid _ := Z1.out.below hb4
  replace Z2 : Hid _ := Z2.out.below hb4
  replace Z3 : Hid _ := Z3.out.below hb4
  replace hbw := Below.on hbw hb4
  clear hb4
  clear HJ
  have HJ : Hid ((fun W' : World => W'.cell? ⟨gt, 0, none⟩ = some (.bool s2) ∧ W'.cell? ⟨gt, 1, none⟩ = some (.slice (some ⟨g2, 0, none⟩) m2 m2) ∧ W'.cell? ⟨gb, 0, none⟩ = some (.bool false) ∧ W'.cell? ⟨gb, 1, none⟩ = some (.slice q n n)) v4) := ⟨Xt.out.c0, Xt.out.c1, Xb.out.c0, Xb.out.c1⟩
  refine hK _ _ HJ.out ?_
  clear hK
  refine wpJ_take (i := 4) (v := ?v14x4) rfl (by kernel_rfl) (by kernel_rfl) (by kernel_rfl) (fun _ _ _ h => h) (by kernel_rfl) ?hy14x4 HJ.out ?rest14x4
  case hy14x4 => (intro W' hJ; obtain ⟨j0, j1, j2, j3⟩ := hJ; go_simp; first | done | with_reducible rfl)
  refine wpJ_done (by kernel_rfl) ?_ _
  clear HJ
  obtain ⟨cq0, cq1, fq0, fq1⟩ := Xq.out
  have hneq := Xq.out.lt
  obtain ⟨cr0, cr1, fr0, fr1⟩ := Xr.out
  have hner := Xr.out.lt
  go_wp2_with fail
  refine bodyPost_ret (v := .agg #[.bool s1, .slice (some ⟨g1, 0, none⟩) m1 m1]) (by rw [results_cell1 rfl]; go_simp) rfl ⟨_, rfl, ⟨s1, g1, m1, rfl, HR1.out.2, ?_, Nat.le_succ_of_le HL1.out.1⟩, ?_⟩
  · have := HR1.out.1
    exact (Z1.out.set _ _ _ (by omega)).set _ _ _ (by omega)
  · exact bSet (bSet hbw _ _ _ HGr.out) _ _ _ HGr.out
theorem rnear04 {p q : Option Addr} {m n : Nat} {w : World} {x y : Int} (s : Bool) (h : ZR w s p m x) (k : ZR w false q n y) (hm : m ≤ 16384) (hn : n ≤ 40000) (hy : 0 < y) (L : Nat) (hrm : (rMo x y).natAbs < B32 ^ L) (hL : L ≤ 16384) :
    Calls Tryz.prog 119 #[.agg #[.bool s, .slice p m m], .agg #[.bool false, .slice q n n]] w fun e w' => ∃ v, e = .returned v ∧ GotR w.heap.size w' v (rNd x y) (20001) ∧ Below w.heap.size w w' := by
  rcases Int.lt_trichotomy (2 * rMo x y) y with h1 | h1 | h1
  · exact rnear04_l s h k hm hn hy L hrm hL h1
  · rcases Nat.mod_two_eq_zero_or_one (rFd x y).natAbs with h2 | h2
    · exact rnear04_e s h k hm hn hy L hrm hL ⟨h1, h2⟩
    · exact rnear04_o s h k hm hn hy L hrm hL ⟨h1, h2⟩
  · exact rnear04_g s h k hm hn hy L hrm hL h1
end Go.Proofs.YtgodajcnhipleaaGreatDoor

namespace Go.Proofs.YtgodajcnhipleaaGreatDoor
open Go.RowKit Go.Shelf

set_option maxRecDepth 20000 in
set_option maxHeartbeats 8000000 in
theorem rpow2 (w : World) (k : Nat) (hk : k ≤ 524288) :
    Calls Tryz.prog 124 #[.int .i64 k] w fun e w' => ∃ p' m' zs, e = .returned (.slice p' m' m') ∧ At32 w' p' m' m' zs ∧ Nf B32 zs (2 ^ k) ∧ m' ≤ 40000 ∧ Below w.heap.size w w' := by
  have HK : Hid (k ≤ 524288) := hk
  clear hk
  have hbw : Below w.heap.size w w := Below.refl _ _
  go_enter Tryz.func124, Tryz.ntmps124
  go_wp2_with fail
  refine (rword 1 (by rw [B64_eq]; decide) _).mono ?_
  rintro e v4 ⟨g4, z4, rfl, hl4, hA4, hN4, hb4⟩
  replace hbw := Below.on hbw hb4
  clear hb4
  have A4 : Hid (At32 v4 (some ⟨g4, 0, none⟩) z4.length z4.length z4) := hA4
  have N4 : Hid (Nf B32 z4 1 ∧ z4.length ≤ 2) := ⟨hN4, hl4⟩
  clear hA4 hN4 hl4
  go_wp2_with fail
  refine (rshl_all A4.out N4.out.1 (by have := N4.out; omega) k (.inl HK.out)).mono ?_
  rintro e v5 ⟨p5, m5, z5, rfl, hA5, hN5, hl5, hb5⟩
  replace A4 : Hid _ := A4.out.below hb5
  replace hbw := Below.on hbw hb5
  clear hb5
  have A5 : Hid (At32 v5 p5 m5 m5 z5) := hA5
  have N5 : Hid (Nf B32 z5 (2 ^ k) ∧ m5 ≤ 40000) := ⟨by rw [Nat.one_mul] at hN5; exact hN5, hl5⟩
  clear hA5 hN5 hl5
  go_wp2_with fail
  go_ret
  exact ⟨p5, m5, z5, rfl, A5.out, N5.out.1, N5.out.2, hbw⟩
theorem rCs_flip (x : Int) (k : Nat) : -(rFs (-x) k) = rCs x k := by
  unfold rFs rCs
  by_cases h : x = 0
  · subst h; simp [fl, ce, iv]
  · rw [show decide (-x < 0) = !decide (x < 0) from by by_cases h1 : x < 0 <;> simp [h1] <;> omega, Int.natAbs_neg, fl_not, Int.neg_neg]
theorem rNs_zero (x : Int) : rNs x 0 = x := by
  unfold rNs ne neUp
  rw [Nat.pow_zero, Nat.div_one, Nat.mod_one]
  simp
  exact iv_abs x
theorem rNs_big {x : Int} {k : Nat} (h : bitsN x.natAbs < k) : rNs x k = 0 := by
  unfold rNs ne neUp
  have h1 := bitsN_lt x.natAbs
  have h2 : 2 ^ (bitsN x.natAbs + 1) ≤ 2 ^ k := Nat.pow_le_pow_right (by omega) h
  rw [Nat.pow_succ] at h2
  rw [Nat.div_eq_of_lt (by omega), Nat.mod_eq_of_lt (by omega), decide_eq_false (p := 2 ^ k < 2 * x.natAbs) (by omega), decide_eq_false (p := 2 * x.natAbs = 2 ^ k) (by omega)]
  cases decide (x < 0) <;> rfl
theorem rNs_near (x : Int) (k : Nat) : rNs x k = rNd x (2 ^ k) := by
  have h : (2 : Int) ^ k = ((2 ^ k : Nat) : Int) := by norm_cast
  unfold rNs rNd
  rw [h, decide_eq_false (p := ((2 ^ k : Nat) : Int) < 0) (Int.not_lt.2 (Int.natCast_nonneg _)), Int.natAbs_natCast]
  simp
theorem rMo_lim {x : Int} {k m : Nat} (hk : 0 < k) (hkb : k ≤ bitsN x.natAbs) (hx : x.natAbs < B32 ^ m) : (rMo x (2 ^ k)).natAbs < B32 ^ m := by
  refine Nat.lt_of_le_of_lt ?_ hx
  have hx0 : x.natAbs ≠ 0 := fun e => by rw [e, bitsN_zero] at hkb; omega
  have h1 := bitsN_le _ hx0
  have h2 : 2 ^ (k - 1) ≤ 2 ^ (bitsN x.natAbs - 1) := Nat.pow_le_pow_right (by omega) (by omega)
  have h3 : 2 ^ k = 2 * 2 ^ (k - 1) := by rw [← Nat.pow_succ', show (k - 1).succ = k from by omega]
  have h : (2 : Int) ^ k = ((2 ^ k : Nat) : Int) := by norm_cast
  have h4 := Nat.mod_le x.natAbs (2 ^ k)
  unfold rMo mo
  rw [h, decide_eq_false (p := ((2 ^ k : Nat) : Int) < 0) (Int.not_lt.2 (Int.natCast_nonneg _)), Int.natAbs_natCast, iv_natAbs]
  split
  · rcases Nat.lt_or_ge x.natAbs (2 ^ k) with h5 | h5
    · rw [Nat.mod_eq_of_lt h5]; omega
    · omega
  · exact h4
set_option maxRecDepth 20000 in
set_option maxHeartbeats 8000000 in
theorem rceilshr04 {p : Option Addr} {m : Nat} {w : World} {x : Int} (s : Bool) (h : ZR w s p m x) (hm : m ≤ 16384) (k : Nat) (hk : k ≤ 9223372036854775807) :
    Calls Tryz.prog 98 #[.agg #[.bool s, .slice p m m], .int .i64 k] w fun e w' => ∃ v, e = .returned v ∧ GotR w.heap.size w' v (rCs x k) (m + 4) ∧ Below w.heap.size w w' := by
  rw [← rCs_flip]
  have HA : Hid (ZR w s p m x) := h
  have HM : Hid (m ≤ 16384) := hm
  have HK : Hid (k ≤ 9223372036854775807) := hk
  clear h hm hk
  go_enter Tryz.func98, Tryz.ntmps98
  go_wp2_with fail
  obtain ⟨W0, hW0⟩ : ∃ W0, W0 = ((w.alloc (.cells #[.bool s, .slice p m m] 70)).alloc (.cells #[.bool false, .slice none 0 0] 70)) := ⟨_, rfl⟩
  have Xa : Hid (Box W0 (w.heap.size) (.bool s) (.slice p m m)) := by rw [hW0]; exact ⟨by go_simp, by go_simp, by go_simp, by go_simp⟩
  have Xr : Hid (Box W0 (w.heap.size + 1) (.bool false) (.slice none 0 0)) := by rw [hW0]; exact ⟨by go_simp, by go_simp, by go_simp, by go_simp⟩
  have hb0 : Below w.heap.size w W0 := by rw [hW0]; exact below2 w _ _
  rw [← hW0]
  clear hW0
  have hbw : Below w.heap.size w w := Below.refl _ _
  obtain ⟨gr, hgr⟩ : ∃ g, g = w.heap.size + 1 := ⟨_, rfl⟩
  have HGr : Hid (w.heap.size ≤ gr) := by rw [hgr]; show _ ≤ _; omega
  rw [← hgr] at Xr
  try rw [← hgr]
  obtain ⟨ga, hga⟩ : ∃ g, g = w.heap.size := ⟨_, rfl⟩
  have HGa : Hid (w.heap.size ≤ ga) := by rw [hga]; show _ ≤ _; omega
  rw [← hga] at Xa
  try rw [← hga]
  have HGD : Hid (ga ≠ gr ∧ gr ≠ ga) := by rw [hga, hgr]; exact ⟨by omega, by omega⟩
  clear hga hgr
  replace hbw := Below.on hbw hb0
  clear hb0
  refine (rflip_any s (HA.out.below hbw) (by have := HM.out; omega)).mono ?_
  rintro e v1 ⟨v, rfl, hv, hb1⟩
  obtain ⟨s1, g1, m1, rfl, hg1, hz1, hl1⟩ := hv
  have HN1 : Hid (W0.heap.size ≤ g1) := hg1
  have HB1 : Hid (W0.heap.size ≤ v1.heap.size) := hb1.size
  replace Xa : Hid _ := Xa.out.below hb1
  replace Xr : Hid _ := Xr.out.below hb1
  replace hbw := Below.on hbw hb1
  clear hb1
  have Z1 : Hid (ZR v1 s1 (some ⟨g1, 0, none⟩) m1 (-x)) := hz1
  have HL1 : Hid (m1 ≤ m) := hl1
  clear hz1 hl1 hg1
  go_wp2_with fail
  refine (rfloorshr04 s1 Z1.out (Nat.le_trans HL1.out HM.out) k HK.out).mono ?_
  rintro e v2 ⟨v, rfl, hv, hb2⟩
  obtain ⟨s2, g2, m2, rfl, hg2, hz2, hl2⟩ := hv
  have HN2 : Hid (v1.heap.size ≤ g2) := hg2
  have HB2 : Hid (v1.heap.size ≤ v2.heap.size) := hb2.size
  replace Xa : Hid _ := Xa.out.below hb2
  replace Xr : Hid _ := Xr.out.below hb2
  replace Z1 : Hid _ := Z1.out.below hb2
  replace hbw := Below.on hbw hb2
  clear hb2
  have Z2 : Hid (ZR v2 s2 (some ⟨g2, 0, none⟩) m2 (rFs (-x) k)) := hz2
  have HL2 : Hid (m2 ≤ m1 + 4) := hl2
  clear hz2 hl2 hg2
  go_wp2_with fail
  have HRB : Hid (gr < v2.heap.size ∧ w.heap.size ≤ v2.heap.size) := ⟨Xr.out.lt, hbw.size⟩
  refine (rflip_any s2 Z2.out (by have := HL2.out; have := HL1.out; have := HM.out; omega)).mono ?_
  rintro e v3 ⟨v, rfl, hv, hb3⟩
  obtain ⟨s3, g3, m3, rfl, hg3, hz3, hl3⟩ := hv
  have HN3 : Hid (v2.heap.size ≤ g3) := hg3
  have HB3 : Hid (v2.heap.size ≤ v3.heap.size) := hb3.size
  replace Xa : Hid _ := Xa.out.below hb3
  replace Xr : Hid _ := Xr.out.below hb3
  replace Z1 : Hid _ := Z1.out.below hb3
  replace Z2 : Hid _ := Z2.out.below hb3
  replace hbw := Below.on hbw hb3
  clear hb3
  have Z3 : Hid (ZR v3 s3 (some ⟨g3, 0, none⟩) m3 (-(rFs (-x) k))) := hz3
  have HL3 : Hid (m3 ≤ m2) := hl3
  clear hz3 hl3 hg3
  obtain ⟨cr0, cr1, fr0, fr1⟩ := Xr.out
  have hner := Xr.out.lt
  go_wp2_with fail
  refine bodyPost_ret (v := .agg #[.bool s3, .slice (some ⟨g3, 0, none⟩) m3 m3]) (by rw [results_cell1 rfl]; go_simp) rfl ⟨_, rfl, ⟨s3, g3, m3, rfl, Nat.le_trans HRB.out.2 HN3.out, ?_, by have := HL3.out; have := HL2.out; have := HL1.out; omega⟩, ?_⟩
  · have := HN3.out; have := HRB.out.1
    exact (Z3.out.set _ _ _ (by omega)).set _ _ _ (by omega)
  · exact bSet (bSet hbw _ _ _ HGr.out) _ _ _ HGr.out
set_option maxRecDepth 20000 in
set_option maxHeartbeats 8000000 in
theorem rnearshr04_z {p : Option Addr} {m : Nat} {w : World} {x : Int} (s : Bool) (h : ZR w s p m x) (hm : m ≤ 16384) (k : Nat) (hk : k ≤ 9223372036854775807) (hc : k = 0) :
    Calls Tryz.prog 99 #[.agg #[.bool s, .slice p m m], .int .i64 k] w fun e w' => ∃ s' p' m', e = .returned (.agg #[.bool s', .slice p' m' m']) ∧ ZR w' s' p' m' (rNs x k) ∧ m' ≤ 20001 ∧ Below w.heap.size w w' := by
  subst hc
  rw [rNs_zero]
  obtain ⟨xs, hAx, hNx⟩ := h.ex
  have AX : Hid (At32 w p m m xs) := hAx
  have NX : Hid (Nf B32 xs x.natAbs) := hNx
  clear hAx hNx
  have HA : Hid (ZR w s p m x) := h
  have HM : Hid (m ≤ 16384) := hm
  clear h hm hk
  go_enter Tryz.func99, Tryz.ntmps99
  go_wp2_with fail
  obtain ⟨W0, hW0⟩ : ∃ W0, W0 = ((w.alloc (.cells #[.bool s, .slice p m m] 70)).alloc (.cells #[.bool false, .slice none 0 0] 70)) := ⟨_, rfl⟩
  have Xa : Hid (Box W0 (w.heap.size) (.bool s) (.slice p m m)) := by rw [hW0]; exact ⟨by go_simp, by go_simp, by go_simp, by go_simp⟩
  have Xr : Hid (Box W0 (w.heap.size + 1) (.bool false) (.slice none 0 0)) := by rw [hW0]; exact ⟨by go_simp, by go_simp, by go_simp, by go_simp⟩
  have hb0 : Below w.heap.size w W0 := by rw [hW0]; exact below2 w _ _
  rw [← hW0]
  clear hW0
  have hbw : Below w.heap.size w w := Below.refl _ _
  obtain ⟨gr, hgr⟩ : ∃ g, g = w.heap.size + 1 := ⟨_, rfl⟩
  have HGr : Hid (w.heap.size ≤ gr) := by rw [hgr]; show _ ≤ _; omega
  rw [← hgr] at Xr
  try rw [← hgr]
  obtain ⟨ga, hga⟩ : ∃ g, g = w.heap.size := ⟨_, rfl⟩
  have HGa : Hid (w.heap.size ≤ ga) := by rw [hga]; show _ ≤ _; omega
  rw [← hga] at Xa
  try rw [← hga]
  have HGD : Hid (ga ≠ gr ∧ gr ≠ ga) := by rw [hga, hgr]; exact ⟨by omega, by omega⟩
  clear hga hgr
  replace hbw := Below.on hbw hb0
  clear hb0
  have HRB : Hid (gr < W0.heap.size ∧ w.heap.size ≤ W0.heap.size) := ⟨Xr.out.lt, hbw.size⟩
  refine (rmk_any s (AX.out.below hbw) NX.out (by have := HM.out; omega)).mono ?_
  rintro e v9 ⟨v, rfl, hv, hb9⟩
  obtain ⟨s9, g9, m9, rfl, hg9, hz9, hl9⟩ := hv
  have HN9 : Hid (W0.heap.size ≤ g9) := hg9
  have HB9 : Hid (W0.heap.size ≤ v9.heap.size) := hb9.size
  replace Xa : Hid _ := Xa.out.below hb9
  replace Xr : Hid _ := Xr.out.below hb9
  replace hbw := Below.on hbw hb9
  clear hb9
  have Z9 : Hid (ZR v9 s9 (some ⟨g9, 0, none⟩) m9 (iv s x.natAbs)) := hz9
  have HL9 : Hid (m9 ≤ m) := hl9
  clear hz9 hl9 hg9
  obtain ⟨cr0, cr1, fr0, fr1⟩ := Xr.out
  have hner := Xr.out.lt
  go_wp2_with fail
  refine bodyPost_ret (v := .agg #[.bool s9, .slice (some ⟨g9, 0, none⟩) m9 m9]) (by rw [results_cell1 rfl]; go_simp) rfl ⟨s9, _, m9, rfl, ?_, by have := HL9.out; have := HM.out; omega, ?_⟩
  · have := HN9.out; have := HRB.out.1
    exact ((Z9.out.cast HA.out.iv).set _ _ _ (by omega)).set _ _ _ (by omega)
  · exact bSet (bSet hbw _ _ _ HGr.out) _ _ _ HGr.out
set_option maxRecDepth 20000 in
set_option maxHeartbeats 8000000 in
theorem rnearshr04_b {p : Option Addr} {m : Nat} {w : World} {x : Int} (s : Bool) (h : ZR w s p m x) (hm : m ≤ 16384) (k : Nat) (hk : k ≤ 9223372036854775807) (hc : 0 < k ∧ bitsN x.natAbs < k) :
    Calls Tryz.prog 99 #[.agg #[.bool s, .slice p m m], .int .i64 k] w fun e w' => ∃ s' p' m', e = .returned (.agg #[.bool s', .slice p' m' m']) ∧ ZR w' s' p' m' (rNs x k) ∧ m' ≤ 20001 ∧ Below w.heap.size w w' := by
  rw [rNs_big hc.2]
  have h1 : ¬ (k : Int) ≤ 0 := by omega
  have HC : Hid (0 < k ∧ bitsN x.natAbs < k) := hc
  obtain ⟨xs, hAx, hNx⟩ := h.ex
  have AX : Hid (At32 w p m m xs) := hAx
  have NX : Hid (Nf B32 xs x.natAbs) := hNx
  clear hAx hNx
  have HA : Hid (ZR w s p m x) := h
  have HM : Hid (m ≤ 16384) := hm
  have HK : Hid (k ≤ 9223372036854775807) := hk
  clear h hm hk hc
  go_enter Tryz.func99, Tryz.ntmps99
  go_wp2_with fail
  obtain ⟨W0, hW0⟩ : ∃ W0, W0 = ((w.alloc (.cells #[.bool s, .slice p m m] 70)).alloc (.cells #[.bool false, .slice none 0 0] 70)) := ⟨_, rfl⟩
  have Xa : Hid (Box W0 (w.heap.size) (.bool s) (.slice p m m)) := by rw [hW0]; exact ⟨by go_simp, by go_simp, by go_simp, by go_simp⟩
  have Xr : Hid (Box W0 (w.heap.size + 1) (.bool false) (.slice none 0 0)) := by rw [hW0]; exact ⟨by go_simp, by go_simp, by go_simp, by go_simp⟩
  have hb0 : Below w.heap.size w W0 := by rw [hW0]; exact below2 w _ _
  rw [← hW0]
  clear hW0
  have hbw : Below w.heap.size w w := Below.refl _ _
  obtain ⟨gr, hgr⟩ : ∃ g, g = w.heap.size + 1 := ⟨_, rfl⟩
  have HGr : Hid (w.heap.size ≤ gr) := by rw [hgr]; show _ ≤ _; omega
  rw [← hgr] at Xr
  try rw [← hgr]
  obtain ⟨ga, hga⟩ : ∃ g, g = w.heap.size := ⟨_, rfl⟩
  have HGa : Hid (w.heap.size ≤ ga) := by rw [hga]; show _ ≤ _; omega
  rw [← hga] at Xa
  try rw [← hga]
  have HGD : Hid (ga ≠ gr ∧ gr ≠ ga) := by rw [hga, hgr]; exact ⟨by omega, by omega⟩
  clear hga hgr
  replace hbw := Below.on hbw hb0
  clear hb0
  refine (rbits_any (AX.out.below hbw) NX.out (by have := HM.out; omega)).mono ?_
  rintro e v1 ⟨rfl, hw⟩
  obtain rfl := hw.symm
  clear hw
  obtain ⟨bb, hbb⟩ : ∃ bb, bb = bitsN x.natAbs := ⟨_, rfl⟩
  rw [← hbb]
  have HBB : Hid (bb = bitsN x.natAbs) := hbb
  have hc1 : (bb : Int) < (k : Int) := by have := HC.out; omega
  clear hbb
  obtain ⟨cr0, cr1, fr0, fr1⟩ := Xr.out
  have hner := Xr.out.lt
  go_wp2_with fail
  refine bodyPost_ret (v := .agg #[.bool false, .slice none 0 0]) (by rw [results_cell1 rfl]; go_simp) rfl ⟨false, none, 0, rfl, ⟨⟨[], At32.empty _ _ _ (by decide), Nf.nil _⟩, rfl⟩, by omega, ?_⟩
  first | exact hbw | exact bSet (bSet hbw _ _ _ HGr.out) _ _ _ HGr.out
set_option maxRecDepth 20000 in
set_option maxHeartbeats 8000000 in
theorem rnearshr04_n {p : Option Addr} {m : Nat} {w : World} {x : Int} (s : Bool) (h : ZR w s p m x) (hm : m ≤ 16384) (k : Nat) (hk : k ≤ 9223372036854775807) (hc : 0 < k ∧ k ≤ bitsN x.natAbs) :
    Calls Tryz.prog 99 #[.agg #[.bool s, .slice p m m], .int .i64 k] w fun e w' => ∃ s' p' m', e = .returned (.agg #[.bool s', .slice p' m' m']) ∧ ZR w' s' p' m' (rNs x k) ∧ m' ≤ 20001 ∧ Below w.heap.size w w' := by
  rw [rNs_near]
  have h1 : ¬ (k : Int) ≤ 0 := by omega
  have HC : Hid (0 < k ∧ k ≤ bitsN x.natAbs) := hc
  obtain ⟨xs, hAx, hNx⟩ := h.ex
  have AX : Hid (At32 w p m m xs) := hAx
  have NX : Hid (Nf B32 xs x.natAbs) := hNx
  clear hAx hNx
  have HA : Hid (ZR w s p m x) := h
  have HM : Hid (m ≤ 16384) := hm
  have HK : Hid (k ≤ 9223372036854775807) := hk
  clear h hm hk hc
  go_enter Tryz.func99, Tryz.ntmps99
  go_wp2_with fail
  obtain ⟨W0, hW0⟩ : ∃ W0, W0 = ((w.alloc (.cells #[.bool s, .slice p m m] 70)).alloc (.cells #[.bool false, .slice none 0 0] 70)) := ⟨_, rfl⟩
  have Xa : Hid (Box W0 (w.heap.size) (.bool s) (.slice p m m)) := by rw [hW0]; exact ⟨by go_simp, by go_simp, by go_simp, by go_simp⟩
  have Xr : Hid (Box W0 (w.heap.size + 1) (.bool false) (.slice none 0 0)) := by rw [hW0]; exact ⟨by go_simp, by go_simp, by go_simp, by go_simp⟩
  have hb0 : Below w.heap.size w W0 := by rw [hW0]; exact below2 w _ _
  rw [← hW0]
  clear hW0
  have hbw : Below w.heap.size w w := Below.refl _ _
  obtain ⟨gr, hgr⟩ : ∃ g, g = w.heap.size + 1 := ⟨_, rfl⟩
  have HGr : Hid (w.heap.size ≤ gr) := by rw [hgr]; show _ ≤ _; omega
  rw [← hgr] at Xr
  try rw [← hgr]
  obtain ⟨ga, hga⟩ : ∃ g, g = w.heap.size := ⟨_, rfl⟩
  have HGa : Hid (w.heap.size ≤ ga) := by rw [hga]; show _ ≤ _; omega
  rw [← hga] at Xa
  try rw [← hga]
  have HGD : Hid (ga ≠ gr ∧ gr ≠ ga) := by rw [hga, hgr]; exact ⟨by omega, by omega⟩
  clear hga hgr
  replace hbw := Below.on hbw hb0
  clear hb0
  refine (rbits_any (AX.out.below hbw) NX.out (by have := HM.out; omega)).mono ?_
  rintro e v1 ⟨rfl, hw⟩
  obtain rfl := hw.symm
  clear hw
  obtain ⟨bb, hbb⟩ : ∃ bb, bb = bitsN x.natAbs := ⟨_, rfl⟩
  rw [← hbb]
  have HBB : Hid (bb = bitsN x.natAbs) := hbb
  have hc1 : ¬ (bb : Int) < (k : Int) := by have := HC.out; omega
  have hc2 : (k : Int) ≤ (bb : Int) := by have := HC.out; omega
  clear hbb
  obtain ⟨ca0, ca1, fa0, fa1⟩ := Xa.out
  have hnea := Xa.out.lt
  go_wp2_with fail
  clear ca0 ca1 fa0 fa1 hnea
  clear hc1 hc2
  obtain ⟨W2, hW2⟩ : ∃ W1, W1 = W0.drew := ⟨_, rfl⟩
  have hbd : Below W0.heap.size W0 W2 := by rw [hW2]; exact bDrew1 (Below.refl _ _)
  replace Xa : Hid _ := Xa.out.below hbd
  replace Xr : Hid _ := Xr.out.below hbd
  replace hbw := Below.on hbw hbd
  clear hbd
  have HJ : Hid ((fun W' : World => W'.cell? ⟨ga, 0, none⟩ = some (.bool s) ∧ W'.cell? ⟨ga, 1, none⟩ = some (.slice p m m)) W2) := ⟨Xa.out.c0, Xa.out.c1⟩
  refine wp_region_J (fun W' => W'.cell? ⟨ga, 0, none⟩ = some (.bool s) ∧ W'.cell? ⟨ga, 1, none⟩ = some (.slice p m m)) (by kernel_rfl) ?_
  rw [← hW2]
  clear hW2
  refine wpJ_take (i := 0) (v := ?v1x0) rfl (by kernel_rfl) (by kernel_rfl) (by kernel_rfl) (fun _ _ _ h => h) (by kernel_rfl) ?hy1x0 HJ.out ?rest1x0
  case hy1x0 => (intro W' hJ; obtain ⟨j0, j1⟩ := hJ; go_simp; first | done | with_reducible rfl)
  refine wpJ_take (i := 1) (v := ?v2x1) rfl (by kernel_rfl) (by kernel_rfl) (by kernel_rfl) (fun _ _ _ h => h) (by kernel_rfl) ?hy2x1 HJ.out ?rest2x1
  case hy2x1 => (intro W' hJ; obtain ⟨j0, j1⟩ := hJ; go_simp; first | done | with_reducible rfl)
  have HKB : Hid (k ≤ 524288) := by
    have h1 := HC.out.2
    have h2 := (NX.out.len_le B32_one (k := m)).1 (by rw [AX.out.len]; exact Nat.le_refl _)
    have h3 : bitsN x.natAbs ≤ 32 * m := by
      by_cases hx0 : x.natAbs = 0
      · rw [hx0, bitsN_zero]; omega
      · have h4 := bitsN_le _ hx0
        rw [show B32 = 2 ^ 32 from rfl, ← Nat.pow_mul] at h2
        have h5 := (Nat.pow_lt_pow_iff_right (by omega : 1 < 2)).1 (Nat.lt_of_le_of_lt h4 h2)
        omega
    have := HM.out
    show k ≤ _
    omega
  have HRM : Hid ((rMo x (2 ^ k)).natAbs < B32 ^ m) := rMo_lim HC.out.1 HC.out.2 ((NX.out.len_le B32_one (k := m)).1 (by rw [AX.out.len]; exact Nat.le_refl _))
  refine wpJ_one (i := 2) (by kernel_rfl) rfl (by kernel_rfl) (fun KJ hK => ?_)
  go_simp
  refine (rpow2 _ k HKB.out).mono ?_
  rintro e v2 ⟨p2, m2, z2, rfl, hA2, hN2, hl2, hb2⟩
  replace Xa : Hid _ := Xa.out.below hb2
  replace Xr : Hid _ := Xr.out.below hb2
  replace hbw := Below.on hbw hb2
  clear hb2
  have A2 : Hid (At32 v2 p2 m2 m2 z2) := hA2
  have N2 : Hid (Nf B32 z2 (2 ^ k) ∧ m2 ≤ 40000) := ⟨hN2, hl2⟩
  clear hA2 hN2 hl2
  refine hK _ _ ⟨Xa.out.c0, Xa.out.c1⟩ ?_
  clear hK
  refine wpJ_one (i := 3) (by kernel_rfl) rfl (by kernel_rfl) (fun KJ hK => ?_)
  go_simp
  refine (rmk_any false A2.out N2.out.1 (by have := N2.out; omega)).mono ?_
  rintro e v3 ⟨v, rfl, hv, hb3⟩
  obtain ⟨s3, g3, m3, rfl, hg3, hz3, hl3⟩ := hv
  have HN3 : Hid (v2.heap.size ≤ g3) := hg3
  have HB3 : Hid (v2.heap.size ≤ v3.heap.size) := hb3.size
  replace Xa : Hid _ := Xa.out.below hb3
  replace Xr : Hid _ := Xr.out.below hb3
  replace A2 : Hid _ := A2.out.below hb3
  replace hbw := Below.on hbw hb3
  clear hb3
  have Z3 : Hid (ZR v3 s3 (some ⟨g3, 0, none⟩) m3 (iv false (2 ^ k))) := hz3
  have HL3 : Hid (m3 ≤ m2) := hl3
  clear hz3 hl3 hg3
  have hc9 : iv false (2 ^ k) = (2 : Int) ^ k := by show ((2 ^ k : Nat) : Int) = _; norm_cast
  have Z3' := Z3.out.cast hc9
  have hs3 : s3 = false := by rw [Z3'.sg]; exact decide_eq_false (Int.not_lt.2 (by rw [← hc9]; exact Int.natCast_nonneg _))
  subst hs3
  clear Z3 hc9
  have Z3 : Hid (ZR v3 false (some ⟨g3, 0, none⟩) m3 (2 ^ k)) := Z3'
  clear Z3'
  refine hK _ _ ⟨Xa.out.c0, Xa.out.c1⟩ ?_
  clear hK
  have HRB : Hid (gr < v3.heap.size ∧ w.heap.size ≤ v3.heap.size) := ⟨Xr.out.lt, hbw.size⟩
  refine wpJ_one (i := 4) (by kernel_rfl) rfl (by kernel_rfl) (fun KJ hK => ?_)
  go_simp
  have hp9 : (0 : Int) < 2 ^ k := Int.pow_pos (by decide)
  refine (rnear04 s (HA.out.below hbw) Z3.out HM.out (Nat.le_trans HL3.out N2.out.2) hp9 m HRM.out HM.out).mono ?_
  rintro e v5 ⟨v, rfl, hv, hb5⟩
  obtain ⟨s5, g5, m5, rfl, hg5, hz5, hl5⟩ := hv
  have HN5 : Hid (v3.heap.size ≤ g5) := hg5
  have HB5 : Hid (v3.heap.size ≤ v5.heap.size) := hb5.size
  replace Xa : Hid _ := Xa.out.below hb5
  replace Xr : Hid _ := Xr.out.below hb5
  replace A2 : Hid _ := A2.out.below hb5
  replace Z3 : Hid _ := Z3.out.below hb5
  replace hbw := Below.on hbw hb5
  clear hb5
  have Z5 : Hid (ZR v5 s5 (some ⟨g5, 0, none⟩) m5 (rNd x (2 ^ k))) := hz5
  have HL5 : Hid (m5 ≤ 20001) := hl5
  clear hz5 hl5 hg5
  clear hp9
  refine hK _ _ ⟨Xa.out.c0, Xa.out.c1⟩ ?_
  clear hK
  obtain ⟨cr0, cr1, fr0, fr1⟩ := Xr.out
  have hner := Xr.out.lt
  obtain ⟨ca0, ca1, fa0, fa1⟩ := Xa.out
  have hnea := Xa.out.lt
  obtain ⟨hgd0, hgd1⟩ := HGD.out
  refine wpJ_one (i := 5) (by kernel_rfl) rfl (by kernel_rfl) (fun KJ hK => ?_)
  go_simp
  have HJ2 : Hid ((fun W' : World => W'.cell? ⟨ga, 0, none⟩ = some (.bool s) ∧ W'.cell? ⟨ga, 1, none⟩ = some (.slice p m m)) ((v5.setCell ⟨gr, 0, none⟩ (.bool s5)).setCell ⟨gr, 1, none⟩ (.slice (some ⟨g5, 0, none⟩) m5 m5))) := ⟨by go_simp, by go_simp⟩
  refine hK _ _ HJ2.out ?_
  clear hK HJ
  have HJ := HJ2
  clear HJ2
  refine wpJ_done (by kernel_rfl) ?_ _
  clear HJ
  go_wp2_with fail
  refine bodyPost_ret (v := .agg #[.bool s5, .slice (some ⟨g5, 0, none⟩) m5 m5]) (by rw [results_cell1 rfl]; go_simp) rfl ⟨s5, _, m5, rfl, ?_, HL5.out, ?_⟩
  · have := HN5.out; have := HRB.out.1
    exact (Z5.out.set _ _ _ (by omega)).set _ _ _ (by omega)
  · exact bSet (bSet hbw _ _ _ HGr.out) _ _ _ HGr.out
theorem rnearshr04 {p : Option Addr} {m : Nat} {w : World} {x : Int} (s : Bool) (h : ZR w s p m x) (hm : m ≤ 16384) (k : Nat) (hk : k ≤ 9223372036854775807) :
    Calls Tryz.prog 99 #[.agg #[.bool s, .slice p m m], .int .i64 k] w fun e w' => ∃ s' p' m', e = .returned (.agg #[.bool s', .slice p' m' m']) ∧ ZR w' s' p' m' (rNs x k) ∧ m' ≤ 20001 ∧ Below w.heap.size w w' := by
  rcases Nat.eq_zero_or_pos k with h0 | h0
  · exact rnearshr04_z s h hm k hk h0
  · rcases Nat.lt_or_ge (bitsN x.natAbs) k with h1 | h1
    · exact rnearshr04_b s h hm k hk ⟨h0, h1⟩
    · exact rnearshr04_n s h hm k hk ⟨h0, h1⟩
end Go.Proofs.YtgodajcnhipleaaGreatDoor

namespace Go.Proofs.YtgodajcnhipleaaGreatDoor
open Go.RowKit Go.Shelf

end Go.Proofs.YtgodajcnhipleaaGreatDoor

namespace Go.Proofs.YtgodajcnhipleaaGreatDoor
open Go.RowKit Go.Shelf

theorem lim_shl4 {x : Int} {k : Nat} (hx : x ≠ 0) (hk : 524288 < k) : LIM ≤ (x * 2 ^ k).natAbs := by
  have h1 : ((2 : Int) ^ k).natAbs = 2 ^ k := by rw [Int.natAbs_pow]; rfl
  rw [Int.natAbs_mul, h1, Nat.mul_comm]
  refine Nat.le_of_not_lt fun h => ?_
  have := (lim_shl _ k (by omega)).1 h
  omega
set_option maxRecDepth 20000 in
set_option maxHeartbeats 8000000 in
theorem docshift_neg {p : Option Addr} {m c : Nat} {xs : List Nat} {w : World} (s : Bool) (_h : At w p m c xs) (r : Int → Nat → Int) (kd k : Int) (hk : k < 0) :
    Calls Tryz.prog 59 #[.int .i64 kd, ZV s p m c, .int .i64 k] w fun e w' => ∃ s' p' m' c' us er, e = .returned (.tuple #[ZV s' p' m' c', .int .i64 er]) ∧ NewAt w.heap.size w' p' m' c' us ∧ ShiftZ r s xs k s' us er ∧ Below w.heap.size w w' := by
  have HK : Hid (k < 0) := hk
  go_enter Tryz.func59, Tryz.ntmps59
  go_wp2_with fail
  refine bodyPost_ret (v := .tuple #[ZV false none 0 0, .int .i64 1]) (by rw [results_cell_tmp rfl]; go_simp) rfl ⟨false, none, 0, 0, [], 1, rfl, ⟨At.empty _ none 0 (by decide), .inl rfl⟩, .inl ⟨HK.out, rfl, rfl, rfl⟩, ?_⟩
  exact below2 w _ _
set_option maxRecDepth 20000 in
set_option maxHeartbeats 8000000 in
theorem docshift_bad {p : Option Addr} {m c : Nat} {xs : List Nat} {w : World} (s : Bool) (h : At w p m c xs) (r : Int → Nat → Int) (kd k : Int) (hk : 0 ≤ k) (hf : formZ s xs = false) :
    Calls Tryz.prog 59 #[.int .i64 kd, ZV s p m c, .int .i64 k] w fun e w' => ∃ s' p' m' c' us er, e = .returned (.tuple #[ZV s' p' m' c', .int .i64 er]) ∧ NewAt w.heap.size w' p' m' c' us ∧ ShiftZ r s xs k s' us er ∧ Below w.heap.size w w' := by
  have HK : Hid (0 ≤ k) := hk
  have h1 : ¬ k < 0 := by omega
  have H : Hid (At w p m c xs) := h
  have HF : Hid (formZ s xs = false) := hf
  clear h hk hf
  go_enter Tryz.func59, Tryz.ntmps59
  go_wp2_with fail
  obtain ⟨W0, hW0⟩ : ∃ W0, W0 = ((w.alloc (.cells #[.bool s, .slice p m c] 28)).alloc (.cells #[.bool false, .slice none 0 0] 28)) := ⟨_, rfl⟩
  have Xx : Hid (Box W0 (w.heap.size) (.bool s) (.slice p m c)) := by rw [hW0]; exact ⟨by go_simp, by go_simp, by go_simp, by go_simp⟩
  have Xr : Hid (Box W0 (w.heap.size + 1) (.bool false) (.slice none 0 0)) := by rw [hW0]; exact ⟨by go_simp, by go_simp, by go_simp, by go_simp⟩
  have hb0 : Below w.heap.size w W0 := by rw [hW0]; exact below2 w _ _
  rw [← hW0]
  clear hW0
  have hbw : Below w.heap.size w w := Below.refl _ _
  obtain ⟨gr, hgr⟩ : ∃ g, g = w.heap.size + 1 := ⟨_, rfl⟩
  have HGr : Hid (w.heap.size ≤ gr) := by rw [hgr]; show _ ≤ _; omega
  rw [← hgr] at Xr
  try rw [← hgr]
  obtain ⟨gx, hgx⟩ : ∃ g, g = w.heap.size := ⟨_, rfl⟩
  have HGx : Hid (w.heap.size ≤ gx) := by rw [hgx]; show _ ≤ _; omega
  rw [← hgx] at Xx
  try rw [← hgx]
  have HGD : Hid (gx ≠ gr ∧ gr ≠ gx) := by rw [hgx, hgr]; exact ⟨by omega, by omega⟩
  clear hgx hgr
  replace hbw := Below.on hbw hb0
  clear hb0
  refine (docform4 s (H.out.below hbw)).mono ?_
  rintro e v1 ⟨rfl, hb1⟩
  rw [HF.out]
  replace Xx : Hid _ := Xx.out.below hb1
  replace Xr : Hid _ := Xr.out.below hb1
  replace hbw := Below.on hbw hb1
  clear hb1
  obtain ⟨cr0, cr1, fr0, fr1⟩ := Xr.out
  have hner := Xr.out.lt
  go_wp2_with fail
  refine bodyPost_ret (v := .tuple #[ZV false none 0 0, .int .i64 2]) (by rw [results_cell_tmp rfl]; go_simp) rfl ⟨false, none, 0, 0, [], 2, rfl, ⟨At.empty _ none 0 (by decide), .inl rfl⟩, .inr (.inl ⟨HK.out, HF.out, rfl, rfl, rfl⟩), ?_⟩
  exact bSet (bSet hbw _ _ _ HGr.out) _ _ _ HGr.out
set_option maxRecDepth 20000 in
set_option maxHeartbeats 8000000 in
theorem docshift_fs {p : Option Addr} {m c : Nat} {xs : List Nat} {w : World} (s : Bool) (h : At w p m c xs) (k : Nat) (hk : k ≤ 9223372036854775807) (hf : formZ s xs = true) :
    Calls Tryz.prog 59 #[.int .i64 1, ZV s p m c, .int .i64 k] w fun e w' => ∃ s' p' m' c' us er, e = .returned (.tuple #[ZV s' p' m' c', .int .i64 er]) ∧ NewAt w.heap.size w' p' m' c' us ∧ ShiftZ rFs s xs k s' us er ∧ Below w.heap.size w w' := by
  have HK : Hid (k ≤ 9223372036854775807) := hk
  have h1 : ¬ (k : Int) < 0 := by omega
  have H : Hid (At w p m c xs) := h
  have HF : Hid (formZ s xs = true) := hf
  have HM : Hid (m ≤ 8192) := by have := formZ_len hf; rw [h.len] at this; exact this
  obtain ⟨x, hx⟩ : ∃ x, x = iv s (valB B64 xs) := ⟨_, rfl⟩
  have HX : Hid (x = iv s (valB B64 xs)) := hx
  clear h hk hf hx
  go_enter Tryz.func59, Tryz.ntmps59
  go_wp2_with fail
  obtain ⟨W0, hW0⟩ : ∃ W0, W0 = ((w.alloc (.cells #[.bool s, .slice p m c] 28)).alloc (.cells #[.bool false, .slice none 0 0] 28)) := ⟨_, rfl⟩
  have Xx : Hid (Box W0 (w.heap.size) (.bool s) (.slice p m c)) := by rw [hW0]; exact ⟨by go_simp, by go_simp, by go_simp, by go_simp⟩
  have Xr : Hid (Box W0 (w.heap.size + 1) (.bool false) (.slice none 0 0)) := by rw [hW0]; exact ⟨by go_simp, by go_simp, by go_simp, by go_simp⟩
  have hb0 : Below w.heap.size w W0 := by rw [hW0]; exact below2 w _ _
  rw [← hW0]
  clear hW0
  have hbw : Below w.heap.size w w := Below.refl _ _
  obtain ⟨gr, hgr⟩ : ∃ g, g = w.heap.size + 1 := ⟨_, rfl⟩
  have HGr : Hid (w.heap.size ≤ gr) := by rw [hgr]; show _ ≤ _; omega
  rw [← hgr] at Xr
  try rw [← hgr]
  obtain ⟨gx, hgx⟩ : ∃ g, g = w.heap.size := ⟨_, rfl⟩
  have HGx : Hid (w.heap.size ≤ gx) := by rw [hgx]; show _ ≤ _; omega
  rw [← hgx] at Xx
  try rw [← hgx]
  have HGD : Hid (gx ≠ gr ∧ gr ≠ gx) := by rw [hgx, hgr]; exact ⟨by omega, by omega⟩
  clear hgx hgr
  replace hbw := Below.on hbw hb0
  clear hb0
  refine (docform4 s (H.out.below hbw)).mono ?_
  rintro e v1 ⟨rfl, hb1⟩
  rw [HF.out]
  replace Xx : Hid _ := Xx.out.below hb1
  replace Xr : Hid _ := Xr.out.below hb1
  replace hbw := Below.on hbw hb1
  clear hb1
  obtain ⟨cx0, cx1, fx0, fx1⟩ := Xx.out
  have hnex := Xx.out.lt
  go_wp2_with fail
  clear cx0 cx1 fx0 fx1 hnex
  refine (rfrom04g s (H.out.below hbw) (by have := HM.out; omega)).mono ?_
  rintro e v4 ⟨v, rfl, hv, hb4⟩
  rw [← HX.out] at hv
  obtain ⟨s4, g4, m4, rfl, hg4, hz4, hl4⟩ := hv
  replace Xx : Hid _ := Xx.out.below hb4
  replace Xr : Hid _ := Xr.out.below hb4
  replace hbw := Below.on hbw hb4
  clear hb4
  have Z4 : Hid (ZR v4 s4 (some ⟨g4, 0, none⟩) m4 (x)) := hz4
  have HL4 : Hid (m4 ≤ 16384) := by have := HM.out; show m4 ≤ _; omega
  clear hz4 hl4 hg4
  go_wp2_with fail
  have Xa0 : Hid (Box (v4.alloc (.cells #[.bool s4, .slice (some ⟨g4, 0, none⟩) m4 m4] 70)) v4.heap.size (.bool s4) (.slice (some ⟨g4, 0, none⟩) m4 m4)) := Box.new v4 _ _ _
  have hbn : Below v4.heap.size v4 (v4.alloc (.cells #[.bool s4, .slice (some ⟨g4, 0, none⟩) m4 m4] 70)) := below1 v4 _
  generalize v4.alloc (.cells #[.bool s4, .slice (some ⟨g4, 0, none⟩) m4 m4] 70) = Wa at *
  have HGa : Hid (w.heap.size ≤ v4.heap.size) := hbw.size
  replace Xx : Hid _ := Xx.out.below hbn
  replace Xr : Hid _ := Xr.out.below hbn
  replace Z4 : Hid _ := Z4.out.below hbn
  replace hbw := Below.on hbw hbn
  clear hbn
  generalize v4.heap.size = ga at *
  have Xa := Xa0
  clear Xa0
  obtain ⟨ca0, ca1, fa0, fa1⟩ := Xa.out
  have hnea := Xa.out.lt
  go_wp2_with fail
  clear ca0 ca1 fa0 fa1 hnea
  refine (rfloorshr04 s4 Z4.out HL4.out k HK.out).mono ?_
  rintro e v5 ⟨v, rfl, hv, hb5⟩
  obtain ⟨s5, g5, m5, rfl, hg5, hz5, hl5⟩ := hv
  have HN5 : Hid (Wa.heap.size ≤ g5) := hg5
  have HB5 : Hid (Wa.heap.size ≤ v5.heap.size) := hb5.size
  replace Xx : Hid _ := Xx.out.below hb5
  replace Xr : Hid _ := Xr.out.below hb5
  replace Xa : Hid _ := Xa.out.below hb5
  replace Z4 : Hid _ := Z4.out.below hb5
  replace hbw := Below.on hbw hb5
  clear hb5
  have Z5 : Hid (ZR v5 s5 (some ⟨g5, 0, none⟩) m5 (rFs x k)) := hz5
  have HL5 : Hid (m5 ≤ m4 + 4) := hl5
  clear hz5 hl5 hg5
  go_wp2_with fail
  refine (rtold04 s5 Z5.out (by have := HL5.out; have := HL4.out; omega)).mono ?_
  rintro e v9 ⟨s9, p9, m9, c9, u9, er9, rfl, hA9, hD9, hb9⟩
  have HRL0 : Hid (gr < v5.heap.size ∧ w.heap.size ≤ v5.heap.size) := ⟨Xr.out.lt, hbw.size⟩
  replace Xx : Hid _ := Xx.out.below hb9
  replace Xr : Hid _ := Xr.out.below hb9
  replace Xa : Hid _ := Xa.out.below hb9
  replace Z4 : Hid _ := Z4.out.below hb9
  replace Z5 : Hid _ := Z5.out.below hb9
  replace hbw := Below.on hbw hb9
  clear hb9
  have A9 : Hid (NewAt v5.heap.size v9 p9 m9 c9 u9) := hA9
  have D9 : Hid (DocZ (rFs (iv s (valB B64 xs)) (k : Int).toNat) s9 u9 er9) := by have h8 := hD9; rw [Int.toNat_natCast, ← HX.out]; exact h8
  clear hA9 hD9
  obtain ⟨cr0, cr1, fr0, fr1⟩ := Xr.out
  have hner := Xr.out.lt
  go_wp2_with fail
  refine bodyPost_ret (v := .tuple #[ZV s9 p9 m9 c9, .int .i64 er9]) (by rw [results_cell_tmp rfl]; go_simp) rfl ⟨s9, p9, m9, c9, u9, er9, rfl, ?_, .inr (.inr ⟨Int.natCast_nonneg _, HF.out, D9.out⟩), ?_⟩
  · exact A9.out.set2 HRL0.out.1 HRL0.out.2 _ _
  · exact bSet (bSet hbw _ _ _ HGr.out) _ _ _ HGr.out
set_option maxRecDepth 20000 in
set_option maxHeartbeats 8000000 in
theorem docshift_cs {p : Option Addr} {m c : Nat} {xs : List Nat} {w : World} (s : Bool) (h : At w p m c xs) (k : Nat) (hk : k ≤ 9223372036854775807) (hf : formZ s xs = true) :
    Calls Tryz.prog 59 #[.int .i64 2, ZV s p m c, .int .i64 k] w fun e w' => ∃ s' p' m' c' us er, e = .returned (.tuple #[ZV s' p' m' c', .int .i64 er]) ∧ NewAt w.heap.size w' p' m' c' us ∧ ShiftZ rCs s xs k s' us er ∧ Below w.heap.size w w' := by
  have HK : Hid (k ≤ 9223372036854775807) := hk
  have h1 : ¬ (k : Int) < 0 := by omega
  have H : Hid (At w p m c xs) := h
  have HF : Hid (formZ s xs = true) := hf
  have HM : Hid (m ≤ 8192) := by have := formZ_len hf; rw [h.len] at this; exact this
  obtain ⟨x, hx⟩ : ∃ x, x = iv s (valB B64 xs) := ⟨_, rfl⟩
  have HX : Hid (x = iv s (valB B64 xs)) := hx
  clear h hk hf hx
  go_enter Tryz.func59, Tryz.ntmps59
  go_wp2_with fail
  obtain ⟨W0, hW0⟩ : ∃ W0, W0 = ((w.alloc (.cells #[.bool s, .slice p m c] 28)).alloc (.cells #[.bool false, .slice none 0 0] 28)) := ⟨_, rfl⟩
  have Xx : Hid (Box W0 (w.heap.size) (.bool s) (.slice p m c)) := by rw [hW0]; exact ⟨by go_simp, by go_simp, by go_simp, by go_simp⟩
  have Xr : Hid (Box W0 (w.heap.size + 1) (.bool false) (.slice none 0 0)) := by rw [hW0]; exact ⟨by go_simp, by go_simp, by go_simp, by go_simp⟩
  have hb0 : Below w.heap.size w W0 := by rw [hW0]; exact below2 w _ _
  rw [← hW0]
  clear hW0
  have hbw : Below w.heap.size w w := Below.refl _ _
  obtain ⟨gr, hgr⟩ : ∃ g, g = w.heap.size + 1 := ⟨_, rfl⟩
  have HGr : Hid (w.heap.size ≤ gr) := by rw [hgr]; show _ ≤ _; omega
  rw [← hgr] at Xr
  try rw [← hgr]
  obtain ⟨gx, hgx⟩ : ∃ g, g = w.heap.size := ⟨_, rfl⟩
  have HGx : Hid (w.heap.size ≤ gx) := by rw [hgx]; show _ ≤ _; omega
  rw [← hgx] at Xx
  try rw [← hgx]
  have HGD : Hid (gx ≠ gr ∧ gr ≠ gx) := by rw [hgx, hgr]; exact ⟨by omega, by omega⟩
  clear hgx hgr
  replace hbw := Below.on hbw hb0
  clear hb0
  refine (docform4 s (H.out.below hbw)).mono ?_
  rintro e v1 ⟨rfl, hb1⟩
  rw [HF.out]
  replace Xx : Hid _ := Xx.out.below hb1
  replace Xr : Hid _ := Xr.out.below hb1
  replace hbw := Below.on hbw hb1
  clear hb1
  obtain ⟨cx0, cx1, fx0, fx1⟩ := Xx.out
  have hnex := Xx.out.lt
  go_wp2_with fail
  clear cx0 cx1 fx0 fx1 hnex
  refine (rfrom04g s (H.out.below hbw) (by have := HM.out; omega)).mono ?_
  rintro e v4 ⟨v, rfl, hv, hb4⟩
  rw [← HX.out] at hv
  obtain ⟨s4, g4, m4, rfl, hg4, hz4, hl4⟩ := hv
  replace Xx : Hid _ := Xx.out.below hb4
  replace Xr : Hid _ := Xr.out.below hb4
  replace hbw := Below.on hbw hb4
  clear hb4
  have Z4 : Hid (ZR v4 s4 (some ⟨g4, 0, none⟩) m4 (x)) := hz4
  have HL4 : Hid (m4 ≤ 16384) := by have := HM.out; show m4 ≤ _; omega
  clear hz4 hl4 hg4
  go_wp2_with fail
  have Xa0 : Hid (Box (v4.alloc (.cells #[.bool s4, .slice (some ⟨g4, 0, none⟩) m4 m4] 70)) v4.heap.size (.bool s4) (.slice (some ⟨g4, 0, none⟩) m4 m4)) := Box.new v4 _ _ _
  have hbn : Below v4.heap.size v4 (v4.alloc (.cells #[.bool s4, .slice (some ⟨g4, 0, none⟩) m4 m4] 70)) := below1 v4 _
  generalize v4.alloc (.cells #[.bool s4, .slice (some ⟨g4, 0, none⟩) m4 m4] 70) = Wa at *
  have HGa : Hid (w.heap.size ≤ v4.heap.size) := hbw.size
  replace Xx : Hid _ := Xx.out.below hbn
  replace Xr : Hid _ := Xr.out.below hbn
  replace Z4 : Hid _ := Z4.out.below hbn
  replace hbw := Below.on hbw hbn
  clear hbn
  generalize v4.heap.size = ga at *
  have Xa := Xa0
  clear Xa0
  obtain ⟨ca0, ca1, fa0, fa1⟩ := Xa.out
  have hnea := Xa.out.lt
  go_wp2_with fail
  clear ca0 ca1 fa0 fa1 hnea
  refine (rceilshr04 s4 Z4.out HL4.out k HK.out).mono ?_
  rintro e v5 ⟨v, rfl, hv, hb5⟩
  obtain ⟨s5, g5, m5, rfl, hg5, hz5, hl5⟩ := hv
  have HN5 : Hid (Wa.heap.size ≤ g5) := hg5
  have HB5 : Hid (Wa.heap.size ≤ v5.heap.size) := hb5.size
  replace Xx : Hid _ := Xx.out.below hb5
  replace Xr : Hid _ := Xr.out.below hb5
  replace Xa : Hid _ := Xa.out.below hb5
  replace Z4 : Hid _ := Z4.out.below hb5
  replace hbw := Below.on hbw hb5
  clear hb5
  have Z5 : Hid (ZR v5 s5 (some ⟨g5, 0, none⟩) m5 (rCs x k)) := hz5
  have HL5 : Hid (m5 ≤ m4 + 4) := hl5
  clear hz5 hl5 hg5
  go_wp2_with fail
  refine (rtold04 s5 Z5.out (by have := HL5.out; have := HL4.out; omega)).mono ?_
  rintro e v9 ⟨s9, p9, m9, c9, u9, er9, rfl, hA9, hD9, hb9⟩
  have HRL0 : Hid (gr < v5.heap.size ∧ w.heap.size ≤ v5.heap.size) := ⟨Xr.out.lt, hbw.size⟩
  replace Xx : Hid _ := Xx.out.below hb9
  replace Xr : Hid _ := Xr.out.below hb9
  replace Xa : Hid _ := Xa.out.below hb9
  replace Z4 : Hid _ := Z4.out.below hb9
  replace Z5 : Hid _ := Z5.out.below hb9
  replace hbw := Below.on hbw hb9
  clear hb9
  have A9 : Hid (NewAt v5.heap.size v9 p9 m9 c9 u9) := hA9
  have D9 : Hid (DocZ (rCs (iv s (valB B64 xs)) (k : Int).toNat) s9 u9 er9) := by have h8 := hD9; rw [Int.toNat_natCast, ← HX.out]; exact h8
  clear hA9 hD9
  obtain ⟨cr0, cr1, fr0, fr1⟩ := Xr.out
  have hner := Xr.out.lt
  go_wp2_with fail
  refine bodyPost_ret (v := .tuple #[ZV s9 p9 m9 c9, .int .i64 er9]) (by rw [results_cell_tmp rfl]; go_simp) rfl ⟨s9, p9, m9, c9, u9, er9, rfl, ?_, .inr (.inr ⟨Int.natCast_nonneg _, HF.out, D9.out⟩), ?_⟩
  · exact A9.out.set2 HRL0.out.1 HRL0.out.2 _ _
  · exact bSet (bSet hbw _ _ _ HGr.out) _ _ _ HGr.out
set_option maxRecDepth 20000 in
set_option maxHeartbeats 8000000 in
theorem docshift_ns {p : Option Addr} {m c : Nat} {xs : List Nat} {w : World} (s : Bool) (h : At w p m c xs) (k : Nat) (hk : k ≤ 9223372036854775807) (hf : formZ s xs = true) :
    Calls Tryz.prog 59 #[.int .i64 3, ZV s p m c, .int .i64 k] w fun e w' => ∃ s' p' m' c' us er, e = .returned (.tuple #[ZV s' p' m' c', .int .i64 er]) ∧ NewAt w.heap.size w' p' m' c' us ∧ ShiftZ rNs s xs k s' us er ∧ Below w.heap.size w w' := by
  have HK : Hid (k ≤ 9223372036854775807) := hk
  have h1 : ¬ (k : Int) < 0 := by omega
  have H : Hid (At w p m c xs) := h
  have HF : Hid (formZ s xs = true) := hf
  have HM : Hid (m ≤ 8192) := by have := formZ_len hf; rw [h.len] at this; exact this
  obtain ⟨x, hx⟩ : ∃ x, x = iv s (valB B64 xs) := ⟨_, rfl⟩
  have HX : Hid (x = iv s (valB B64 xs)) := hx
  clear h hk hf hx
  go_enter Tryz.func59, Tryz.ntmps59
  go_wp2_with fail
  obtain ⟨W0, hW0⟩ : ∃ W0, W0 = ((w.alloc (.cells #[.bool s, .slice p m c] 28)).alloc (.cells #[.bool false, .slice none 0 0] 28)) := ⟨_, rfl⟩
  have Xx : Hid (Box W0 (w.heap.size) (.bool s) (.slice p m c)) := by rw [hW0]; exact ⟨by go_simp, by go_simp, by go_simp, by go_simp⟩
  have Xr : Hid (Box W0 (w.heap.size + 1) (.bool false) (.slice none 0 0)) := by rw [hW0]; exact ⟨by go_simp, by go_simp, by go_simp, by go_simp⟩
  have hb0 : Below w.heap.size w W0 := by rw [hW0]; exact below2 w _ _
  rw [← hW0]
  clear hW0
  have hbw : Below w.heap.size w w := Below.refl _ _
  obtain ⟨gr, hgr⟩ : ∃ g, g = w.heap.size + 1 := ⟨_, rfl⟩
  have HGr : Hid (w.heap.size ≤ gr) := by rw [hgr]; show _ ≤ _; omega
  rw [← hgr] at Xr
  try rw [← hgr]
  obtain ⟨gx, hgx⟩ : ∃ g, g = w.heap.size := ⟨_, rfl⟩
  have HGx : Hid (w.heap.size ≤ gx) := by rw [hgx]; show _ ≤ _; omega
  rw [← hgx] at Xx
  try rw [← hgx]
  have HGD : Hid (gx ≠ gr ∧ gr ≠ gx) := by rw [hgx, hgr]; exact ⟨by omega, by omega⟩
  clear hgx hgr
  replace hbw := Below.on hbw hb0
  clear hb0
  refine (docform4 s (H.out.below hbw)).mono ?_
  rintro e v1 ⟨rfl, hb1⟩
  rw [HF.out]
  replace Xx : Hid _ := Xx.out.below hb1
  replace Xr : Hid _ := Xr.out.below hb1
  replace hbw := Below.on hbw hb1
  clear hb1
  obtain ⟨cx0, cx1, fx0, fx1⟩ := Xx.out
  have hnex := Xx.out.lt
  go_wp2_with fail
  clear cx0 cx1 fx0 fx1 hnex
  refine (rfrom04g s (H.out.below hbw) (by have := HM.out; omega)).mono ?_
  rintro e v4 ⟨v, rfl, hv, hb4⟩
  rw [← HX.out] at hv
  obtain ⟨s4, g4, m4, rfl, hg4, hz4, hl4⟩ := hv
  replace Xx : Hid _ := Xx.out.below hb4
  replace Xr : Hid _ := Xr.out.below hb4
  replace hbw := Below.on hbw hb4
  clear hb4
  have Z4 : Hid (ZR v4 s4 (some ⟨g4, 0, none⟩) m4 (x)) := hz4
  have HL4 : Hid (m4 ≤ 16384) := by have := HM.out; show m4 ≤ _; omega
  clear hz4 hl4 hg4
  go_wp2_with fail
  have Xa0 : Hid (Box (v4.alloc (.cells #[.bool s4, .slice (some ⟨g4, 0, none⟩) m4 m4] 70)) v4.heap.size (.bool s4) (.slice (some ⟨g4, 0, none⟩) m4 m4)) := Box.new v4 _ _ _
  have hbn : Below v4.heap.size v4 (v4.alloc (.cells #[.bool s4, .slice (some ⟨g4, 0, none⟩) m4 m4] 70)) := below1 v4 _
  generalize v4.alloc (.cells #[.bool s4, .slice (some ⟨g4, 0, none⟩) m4 m4] 70) = Wa at *
  have HGa : Hid (w.heap.size ≤ v4.heap.size) := hbw.size
  replace Xx : Hid _ := Xx.out.below hbn
  replace Xr : Hid _ := Xr.out.below hbn
  replace Z4 : Hid _ := Z4.out.below hbn
  replace hbw := Below.on hbw hbn
  clear hbn
  generalize v4.heap.size = ga at *
  have Xa := Xa0
  clear Xa0
  obtain ⟨ca0, ca1, fa0, fa1⟩ := Xa.out
  have hnea := Xa.out.lt
  go_wp2_with fail
  clear ca0 ca1 fa0 fa1 hnea
  refine (rnearshr04 s4 Z4.out HL4.out k HK.out).mono ?_
  rintro e v5 ⟨s5, p5, m5, rfl, hz5, hl5, hb5⟩
  replace Xx : Hid _ := Xx.out.below hb5
  replace Xr : Hid _ := Xr.out.below hb5
  replace Xa : Hid _ := Xa.out.below hb5
  replace Z4 : Hid _ := Z4.out.below hb5
  replace hbw := Below.on hbw hb5
  clear hb5
  have Z5 : Hid (ZR v5 s5 p5 m5 (rNs x k)) := hz5
  have HL5 : Hid (m5 ≤ 20001) := hl5
  clear hz5 hl5
  go_wp2_with fail
  refine (rtold04 s5 Z5.out (by have := HL5.out; omega)).mono ?_
  rintro e v9 ⟨s9, p9, m9, c9, u9, er9, rfl, hA9, hD9, hb9⟩
  have HRL0 : Hid (gr < v5.heap.size ∧ w.heap.size ≤ v5.heap.size) := ⟨Xr.out.lt, hbw.size⟩
  replace Xx : Hid _ := Xx.out.below hb9
  replace Xr : Hid _ := Xr.out.below hb9
  replace Xa : Hid _ := Xa.out.below hb9
  replace Z4 : Hid _ := Z4.out.below hb9
  replace Z5 : Hid _ := Z5.out.below hb9
  replace hbw := Below.on hbw hb9
  clear hb9
  have A9 : Hid (NewAt v5.heap.size v9 p9 m9 c9 u9) := hA9
  have D9 : Hid (DocZ (rNs (iv s (valB B64 xs)) (k : Int).toNat) s9 u9 er9) := by have h8 := hD9; rw [Int.toNat_natCast, ← HX.out]; exact h8
  clear hA9 hD9
  obtain ⟨cr0, cr1, fr0, fr1⟩ := Xr.out
  have hner := Xr.out.lt
  go_wp2_with fail
  refine bodyPost_ret (v := .tuple #[ZV s9 p9 m9 c9, .int .i64 er9]) (by rw [results_cell_tmp rfl]; go_simp) rfl ⟨s9, p9, m9, c9, u9, er9, rfl, ?_, .inr (.inr ⟨Int.natCast_nonneg _, HF.out, D9.out⟩), ?_⟩
  · exact A9.out.set2 HRL0.out.1 HRL0.out.2 _ _
  · exact bSet (bSet hbw _ _ _ HGr.out) _ _ _ HGr.out
set_option maxRecDepth 20000 in
set_option maxHeartbeats 8000000 in
theorem docshift_sll {p : Option Addr} {m c : Nat} {xs : List Nat} {w : World} (s : Bool) (h : At w p m c xs) (k : Nat) (hk : k ≤ 9223372036854775807) (hf : formZ s xs = true) (hc : 524288 < k ∧ iv s (valB B64 xs) ≠ 0) :
    Calls Tryz.prog 59 #[.int .i64 0, ZV s p m c, .int .i64 k] w fun e w' => ∃ s' p' m' c' us er, e = .returned (.tuple #[ZV s' p' m' c', .int .i64 er]) ∧ NewAt w.heap.size w' p' m' c' us ∧ ShiftZ rShl s xs k s' us er ∧ Below w.heap.size w w' := by
  have HK : Hid (k ≤ 9223372036854775807) := hk
  have h1 : ¬ (k : Int) < 0 := by omega
  have H : Hid (At w p m c xs) := h
  have HF : Hid (formZ s xs = true) := hf
  have HM : Hid (m ≤ 8192) := by have := formZ_len hf; rw [h.len] at this; exact this
  obtain ⟨x, hx⟩ : ∃ x, x = iv s (valB B64 xs) := ⟨_, rfl⟩
  have HX : Hid (x = iv s (valB B64 xs)) := hx
  rw [← hx] at hc
  have HC : Hid (524288 < k ∧ x ≠ 0) := hc
  have h2 : (524288 : Int) < (k : Int) := by omega
  clear hc
  clear h hk hf hx
  go_enter Tryz.func59, Tryz.ntmps59
  go_wp2_with fail
  obtain ⟨W0, hW0⟩ : ∃ W0, W0 = ((w.alloc (.cells #[.bool s, .slice p m c] 28)).alloc (.cells #[.bool false, .slice none 0 0] 28)) := ⟨_, rfl⟩
  have Xx : Hid (Box W0 (w.heap.size) (.bool s) (.slice p m c)) := by rw [hW0]; exact ⟨by go_simp, by go_simp, by go_simp, by go_simp⟩
  have Xr : Hid (Box W0 (w.heap.size + 1) (.bool false) (.slice none 0 0)) := by rw [hW0]; exact ⟨by go_simp, by go_simp, by go_simp, by go_simp⟩
  have hb0 : Below w.heap.size w W0 := by rw [hW0]; exact below2 w _ _
  rw [← hW0]
  clear hW0
  have hbw : Below w.heap.size w w := Below.refl _ _
  obtain ⟨gr, hgr⟩ : ∃ g, g = w.heap.size + 1 := ⟨_, rfl⟩
  have HGr : Hid (w.heap.size ≤ gr) := by rw [hgr]; show _ ≤ _; omega
  rw [← hgr] at Xr
  try rw [← hgr]
  obtain ⟨gx, hgx⟩ : ∃ g, g = w.heap.size := ⟨_, rfl⟩
  have HGx : Hid (w.heap.size ≤ gx) := by rw [hgx]; show _ ≤ _; omega
  rw [← hgx] at Xx
  try rw [← hgx]
  have HGD : Hid (gx ≠ gr ∧ gr ≠ gx) := by rw [hgx, hgr]; exact ⟨by omega, by omega⟩
  clear hgx hgr
  replace hbw := Below.on hbw hb0
  clear hb0
  refine (docform4 s (H.out.below hbw)).mono ?_
  rintro e v1 ⟨rfl, hb1⟩
  rw [HF.out]
  replace Xx : Hid _ := Xx.out.below hb1
  replace Xr : Hid _ := Xr.out.below hb1
  replace hbw := Below.on hbw hb1
  clear hb1
  obtain ⟨cx0, cx1, fx0, fx1⟩ := Xx.out
  have hnex := Xx.out.lt
  go_wp2_with fail
  clear cx0 cx1 fx0 fx1 hnex
  refine (rfrom04g s (H.out.below hbw) (by have := HM.out; omega)).mono ?_
  rintro e v4 ⟨v, rfl, hv, hb4⟩
  rw [← HX.out] at hv
  obtain ⟨s4, g4, m4, rfl, hg4, hz4, hl4⟩ := hv
  replace Xx : Hid _ := Xx.out.below hb4
  replace Xr : Hid _ := Xr.out.below hb4
  replace hbw := Below.on hbw hb4
  clear hb4
  have Z4 : Hid (ZR v4 s4 (some ⟨g4, 0, none⟩) m4 (x)) := hz4
  have HL4 : Hid (m4 ≤ 16384) := by have := HM.out; show m4 ≤ _; omega
  clear hz4 hl4 hg4
  go_wp2_with fail
  have Xa0 : Hid (Box (v4.alloc (.cells #[.bool s4, .slice (some ⟨g4, 0, none⟩) m4 m4] 70)) v4.heap.size (.bool s4) (.slice (some ⟨g4, 0, none⟩) m4 m4)) := Box.new v4 _ _ _
  have hbn : Below v4.heap.size v4 (v4.alloc (.cells #[.bool s4, .slice (some ⟨g4, 0, none⟩) m4 m4] 70)) := below1 v4 _
  generalize v4.alloc (.cells #[.bool s4, .slice (some ⟨g4, 0, none⟩) m4 m4] 70) = Wa at *
  have HGa : Hid (w.heap.size ≤ v4.heap.size) := hbw.size
  replace Xx : Hid _ := Xx.out.below hbn
  replace Xr : Hid _ := Xr.out.below hbn
  replace Z4 : Hid _ := Z4.out.below hbn
  replace hbw := Below.on hbw hbn
  clear hbn
  generalize v4.heap.size = ga at *
  have Xa := Xa0
  clear Xa0
  obtain ⟨ca0, ca1, fa0, fa1⟩ := Xa.out
  have hnea := Xa.out.lt
  go_wp2_with fail
  clear ca0 ca1 fa0 fa1 hnea
  refine (rsign04 s4 Z4.out).mono ?_
  rintro e v6 ⟨rfl, hb6⟩
  obtain ⟨sg, hsg⟩ : ∃ sg, sg = sgnI x := ⟨_, rfl⟩
  rw [← hsg]
  have hs0 : (sg == 0) = false := by rw [hsg]; have := HC.out.2; unfold sgnI; split <;> (try split) <;> simp <;> omega
  clear hsg
  replace Xx : Hid _ := Xx.out.below hb6
  replace Xr : Hid _ := Xr.out.below hb6
  replace Xa : Hid _ := Xa.out.below hb6
  replace Z4 : Hid _ := Z4.out.below hb6
  replace hbw := Below.on hbw hb6
  clear hb6
  obtain ⟨cr0, cr1, fr0, fr1⟩ := Xr.out
  have hner := Xr.out.lt
  go_wp2_with fail
  refine bodyPost_ret (v := .tuple #[ZV false none 0 0, .int .i64 5]) (by rw [results_cell_tmp rfl]; go_simp) rfl ⟨false, none, 0, 0, [], 5, rfl, ⟨At.empty _ none 0 (by decide), .inl rfl⟩, .inr (.inr ⟨Int.natCast_nonneg _, HF.out, .inr ⟨by rw [Int.toNat_natCast, ← HX.out]; exact lim_shl4 HC.out.2 HC.out.1, rfl, rfl, rfl⟩⟩), ?_⟩
  exact bSet (bSet hbw _ _ _ HGr.out) _ _ _ HGr.out
set_option maxRecDepth 20000 in
set_option maxHeartbeats 8000000 in
theorem docshift_slo {p : Option Addr} {m c : Nat} {xs : List Nat} {w : World} (s : Bool) (h : At w p m c xs) (k : Nat) (hk : k ≤ 9223372036854775807) (hf : formZ s xs = true) (hc : k ≤ 524288) :
    Calls Tryz.prog 59 #[.int .i64 0, ZV s p m c, .int .i64 k] w fun e w' => ∃ s' p' m' c' us er, e = .returned (.tuple #[ZV s' p' m' c', .int .i64 er]) ∧ NewAt w.heap.size w' p' m' c' us ∧ ShiftZ rShl s xs k s' us er ∧ Below w.heap.size w w' := by
  have HK : Hid (k ≤ 9223372036854775807) := hk
  have h1 : ¬ (k : Int) < 0 := by omega
  have H : Hid (At w p m c xs) := h
  have HF : Hid (formZ s xs = true) := hf
  have HM : Hid (m ≤ 8192) := by have := formZ_len hf; rw [h.len] at this; exact this
  obtain ⟨x, hx⟩ : ∃ x, x = iv s (valB B64 xs) := ⟨_, rfl⟩
  have HX : Hid (x = iv s (valB B64 xs)) := hx
  have HC : Hid (k ≤ 524288) := hc
  have h2 : ¬ (524288 : Int) < (k : Int) := by omega
  clear hc
  clear h hk hf hx
  go_enter Tryz.func59, Tryz.ntmps59
  go_wp2_with fail
  obtain ⟨W0, hW0⟩ : ∃ W0, W0 = ((w.alloc (.cells #[.bool s, .slice p m c] 28)).alloc (.cells #[.bool false, .slice none 0 0] 28)) := ⟨_, rfl⟩
  have Xx : Hid (Box W0 (w.heap.size) (.bool s) (.slice p m c)) := by rw [hW0]; exact ⟨by go_simp, by go_simp, by go_simp, by go_simp⟩
  have Xr : Hid (Box W0 (w.heap.size + 1) (.bool false) (.slice none 0 0)) := by rw [hW0]; exact ⟨by go_simp, by go_simp, by go_simp, by go_simp⟩
  have hb0 : Below w.heap.size w W0 := by rw [hW0]; exact below2 w _ _
  rw [← hW0]
  clear hW0
  have hbw : Below w.heap.size w w := Below.refl _ _
  obtain ⟨gr, hgr⟩ : ∃ g, g = w.heap.size + 1 := ⟨_, rfl⟩
  have HGr : Hid (w.heap.size ≤ gr) := by rw [hgr]; show _ ≤ _; omega
  rw [← hgr] at Xr
  try rw [← hgr]
  obtain ⟨gx, hgx⟩ : ∃ g, g = w.heap.size := ⟨_, rfl⟩
  have HGx : Hid (w.heap.size ≤ gx) := by rw [hgx]; show _ ≤ _; omega
  rw [← hgx] at Xx
  try rw [← hgx]
  have HGD : Hid (gx ≠ gr ∧ gr ≠ gx) := by rw [hgx, hgr]; exact ⟨by omega, by omega⟩
  clear hgx hgr
  replace hbw := Below.on hbw hb0
  clear hb0
  refine (docform4 s (H.out.below hbw)).mono ?_
  rintro e v1 ⟨rfl, hb1⟩
  rw [HF.out]
  replace Xx : Hid _ := Xx.out.below hb1
  replace Xr : Hid _ := Xr.out.below hb1
  replace hbw := Below.on hbw hb1
  clear hb1
  obtain ⟨cx0, cx1, fx0, fx1⟩ := Xx.out
  have hnex := Xx.out.lt
  go_wp2_with fail
  clear cx0 cx1 fx0 fx1 hnex
  refine (rfrom04g s (H.out.below hbw) (by have := HM.out; omega)).mono ?_
  rintro e v4 ⟨v, rfl, hv, hb4⟩
  rw [← HX.out] at hv
  obtain ⟨s4, g4, m4, rfl, hg4, hz4, hl4⟩ := hv
  replace Xx : Hid _ := Xx.out.below hb4
  replace Xr : Hid _ := Xr.out.below hb4
  replace hbw := Below.on hbw hb4
  clear hb4
  have Z4 : Hid (ZR v4 s4 (some ⟨g4, 0, none⟩) m4 (x)) := hz4
  have HL4 : Hid (m4 ≤ 16384) := by have := HM.out; show m4 ≤ _; omega
  clear hz4 hl4 hg4
  go_wp2_with fail
  have Xa0 : Hid (Box (v4.alloc (.cells #[.bool s4, .slice (some ⟨g4, 0, none⟩) m4 m4] 70)) v4.heap.size (.bool s4) (.slice (some ⟨g4, 0, none⟩) m4 m4)) := Box.new v4 _ _ _
  have hbn : Below v4.heap.size v4 (v4.alloc (.cells #[.bool s4, .slice (some ⟨g4, 0, none⟩) m4 m4] 70)) := below1 v4 _
  generalize v4.alloc (.cells #[.bool s4, .slice (some ⟨g4, 0, none⟩) m4 m4] 70) = Wa at *
  have HGa : Hid (w.heap.size ≤ v4.heap.size) := hbw.size
  replace Xx : Hid _ := Xx.out.below hbn
  replace Xr : Hid _ := Xr.out.below hbn
  replace Z4 : Hid _ := Z4.out.below hbn
  replace hbw := Below.on hbw hbn
  clear hbn
  generalize v4.heap.size = ga at *
  have Xa := Xa0
  clear Xa0
  obtain ⟨ca0, ca1, fa0, fa1⟩ := Xa.out
  have hnea := Xa.out.lt
  go_wp2_with fail
  clear ca0 ca1 fa0 fa1 hnea
  refine (rshl04 s4 Z4.out HL4.out k (.inl HC.out)).mono ?_
  rintro e v5 ⟨v, rfl, hv, hb5⟩
  obtain ⟨s5, g5, m5, rfl, hg5, hz5, hl5⟩ := hv
  have HN5 : Hid (Wa.heap.size ≤ g5) := hg5
  have HB5 : Hid (Wa.heap.size ≤ v5.heap.size) := hb5.size
  replace Xx : Hid _ := Xx.out.below hb5
  replace Xr : Hid _ := Xr.out.below hb5
  replace Xa : Hid _ := Xa.out.below hb5
  replace Z4 : Hid _ := Z4.out.below hb5
  replace hbw := Below.on hbw hb5
  clear hb5
  have Z5 : Hid (ZR v5 s5 (some ⟨g5, 0, none⟩) m5 (x * 2 ^ k)) := hz5
  have HL5 : Hid (m5 ≤ 40000) := hl5
  clear hz5 hl5 hg5
  go_wp2_with fail
  refine (rtold04 s5 Z5.out (by have := HL5.out; omega)).mono ?_
  rintro e v9 ⟨s9, p9, m9, c9, u9, er9, rfl, hA9, hD9, hb9⟩
  have HRL0 : Hid (gr < v5.heap.size ∧ w.heap.size ≤ v5.heap.size) := ⟨Xr.out.lt, hbw.size⟩
  replace Xx : Hid _ := Xx.out.below hb9
  replace Xr : Hid _ := Xr.out.below hb9
  replace Xa : Hid _ := Xa.out.below hb9
  replace Z4 : Hid _ := Z4.out.below hb9
  replace Z5 : Hid _ := Z5.out.below hb9
  replace hbw := Below.on hbw hb9
  clear hb9
  have A9 : Hid (NewAt v5.heap.size v9 p9 m9 c9 u9) := hA9
  have D9 : Hid (DocZ (rShl (iv s (valB B64 xs)) (k : Int).toNat) s9 u9 er9) := by have h8 := hD9; rw [Int.toNat_natCast, ← HX.out]; exact h8
  clear hA9 hD9
  obtain ⟨cr0, cr1, fr0, fr1⟩ := Xr.out
  have hner := Xr.out.lt
  go_wp2_with fail
  refine bodyPost_ret (v := .tuple #[ZV s9 p9 m9 c9, .int .i64 er9]) (by rw [results_cell_tmp rfl]; go_simp) rfl ⟨s9, p9, m9, c9, u9, er9, rfl, ?_, .inr (.inr ⟨Int.natCast_nonneg _, HF.out, D9.out⟩), ?_⟩
  · exact A9.out.set2 HRL0.out.1 HRL0.out.2 _ _
  · exact bSet (bSet hbw _ _ _ HGr.out) _ _ _ HGr.out
set_option maxRecDepth 20000 in
set_option maxHeartbeats 8000000 in
theorem docshift_slz {p : Option Addr} {m c : Nat} {xs : List Nat} {w : World} (s : Bool) (h : At w p m c xs) (k : Nat) (hk : k ≤ 9223372036854775807) (hf : formZ s xs = true) (hc : 524288 < k ∧ iv s (valB B64 xs) = 0) :
    Calls Tryz.prog 59 #[.int .i64 0, ZV s p m c, .int .i64 k] w fun e w' => ∃ s' p' m' c' us er, e = .returned (.tuple #[ZV s' p' m' c', .int .i64 er]) ∧ NewAt w.heap.size w' p' m' c' us ∧ ShiftZ rShl s xs k s' us er ∧ Below w.heap.size w w' := by
  have HK : Hid (k ≤ 9223372036854775807) := hk
  have h1 : ¬ (k : Int) < 0 := by omega
  have H : Hid (At w p m c xs) := h
  have HF : Hid (formZ s xs = true) := hf
  have HM : Hid (m ≤ 8192) := by have := formZ_len hf; rw [h.len] at this; exact this
  obtain ⟨x, hx⟩ : ∃ x, x = iv s (valB B64 xs) := ⟨_, rfl⟩
  have HX : Hid (x = iv s (valB B64 xs)) := hx
  rw [← hx] at hc
  have HC : Hid (524288 < k ∧ x = 0) := hc
  have h2 : (524288 : Int) < (k : Int) := by omega
  clear hc
  clear h hk hf hx
  go_enter Tryz.func59, Tryz.ntmps59
  go_wp2_with fail
  obtain ⟨W0, hW0⟩ : ∃ W0, W0 = ((w.alloc (.cells #[.bool s, .slice p m c] 28)).alloc (.cells #[.bool false, .slice none 0 0] 28)) := ⟨_, rfl⟩
  have Xx : Hid (Box W0 (w.heap.size) (.bool s) (.slice p m c)) := by rw [hW0]; exact ⟨by go_simp, by go_simp, by go_simp, by go_simp⟩
  have Xr : Hid (Box W0 (w.heap.size + 1) (.bool false) (.slice none 0 0)) := by rw [hW0]; exact ⟨by go_simp, by go_simp, by go_simp, by go_simp⟩
  have hb0 : Below w.heap.size w W0 := by rw [hW0]; exact below2 w _ _
  rw [← hW0]
  clear hW0
  have hbw : Below w.heap.size w w := Below.refl _ _
  obtain ⟨gr, hgr⟩ : ∃ g, g = w.heap.size + 1 := ⟨_, rfl⟩
  have HGr : Hid (w.heap.size ≤ gr) := by rw [hgr]; show _ ≤ _; omega
  rw [← hgr] at Xr
  try rw [← hgr]
  obtain ⟨gx, hgx⟩ : ∃ g, g = w.heap.size := ⟨_, rfl⟩
  have HGx : Hid (w.heap.size ≤ gx) := by rw [hgx]; show _ ≤ _; omega
  rw [← hgx] at Xx
  try rw [← hgx]
  have HGD : Hid (gx ≠ gr ∧ gr ≠ gx) := by rw [hgx, hgr]; exact ⟨by omega, by omega⟩
  clear hgx hgr
  replace hbw := Below.on hbw hb0
  clear hb0
  refine (docform4 s (H.out.below hbw)).mono ?_
  rintro e v1 ⟨rfl, hb1⟩
  rw [HF.out]
  replace Xx : Hid _ := Xx.out.below hb1
  replace Xr : Hid _ := Xr.out.below hb1
  replace hbw := Below.on hbw hb1
  clear hb1
  obtain ⟨cx0, cx1, fx0, fx1⟩ := Xx.out
  have hnex := Xx.out.lt
  go_wp2_with fail
  clear cx0 cx1 fx0 fx1 hnex
  refine (rfrom04g s (H.out.below hbw) (by have := HM.out; omega)).mono ?_
  rintro e v4 ⟨v, rfl, hv, hb4⟩
  rw [← HX.out] at hv
  obtain ⟨s4, g4, m4, rfl, hg4, hz4, hl4⟩ := hv
  replace Xx : Hid _ := Xx.out.below hb4
  replace Xr : Hid _ := Xr.out.below hb4
  replace hbw := Below.on hbw hb4
  clear hb4
  have Z4 : Hid (ZR v4 s4 (some ⟨g4, 0, none⟩) m4 (x)) := hz4
  have HL4 : Hid (m4 ≤ 16384) := by have := HM.out; show m4 ≤ _; omega
  clear hz4 hl4 hg4
  go_wp2_with fail
  have Xa0 : Hid (Box (v4.alloc (.cells #[.bool s4, .slice (some ⟨g4, 0, none⟩) m4 m4] 70)) v4.heap.size (.bool s4) (.slice (some ⟨g4, 0, none⟩) m4 m4)) := Box.new v4 _ _ _
  have hbn : Below v4.heap.size v4 (v4.alloc (.cells #[.bool s4, .slice (some ⟨g4, 0, none⟩) m4 m4] 70)) := below1 v4 _
  generalize v4.alloc (.cells #[.bool s4, .slice (some ⟨g4, 0, none⟩) m4 m4] 70) = Wa at *
  have HGa : Hid (w.heap.size ≤ v4.heap.size) := hbw.size
  replace Xx : Hid _ := Xx.out.below hbn
  replace Xr : Hid _ := Xr.out.below hbn
  replace Z4 : Hid _ := Z4.out.below hbn
  replace hbw := Below.on hbw hbn
  clear hbn
  generalize v4.heap.size = ga at *
  have Xa := Xa0
  clear Xa0
  obtain ⟨ca0, ca1, fa0, fa1⟩ := Xa.out
  have hnea := Xa.out.lt
  go_wp2_with fail
  clear ca0 ca1 fa0 fa1 hnea
  refine (rsign04 s4 Z4.out).mono ?_
  rintro e v6 ⟨rfl, hb6⟩
  obtain ⟨sg, hsg⟩ : ∃ sg, sg = sgnI x := ⟨_, rfl⟩
  rw [← hsg]
  have hs0 : (sg == 0) = true := by rw [hsg]; have := HC.out.2; unfold sgnI; rw [this]; rfl
  clear hsg
  replace Xx : Hid _ := Xx.out.below hb6
  replace Xr : Hid _ := Xr.out.below hb6
  replace Xa : Hid _ := Xa.out.below hb6
  replace Z4 : Hid _ := Z4.out.below hb6
  replace hbw := Below.on hbw hb6
  clear hb6
  obtain ⟨ca0, ca1, fa0, fa1⟩ := Xa.out
  have hnea := Xa.out.lt
  go_wp2_with fail
  clear ca0 ca1 fa0 fa1 hnea
  refine (rshl04 s4 Z4.out HL4.out k (.inr HC.out.2)).mono ?_
  rintro e v5 ⟨v, rfl, hv, hb5⟩
  obtain ⟨s5, g5, m5, rfl, hg5, hz5, hl5⟩ := hv
  have HN5 : Hid (v6.heap.size ≤ g5) := hg5
  have HB5 : Hid (v6.heap.size ≤ v5.heap.size) := hb5.size
  replace Xx : Hid _ := Xx.out.below hb5
  replace Xr : Hid _ := Xr.out.below hb5
  replace Xa : Hid _ := Xa.out.below hb5
  replace Z4 : Hid _ := Z4.out.below hb5
  replace hbw := Below.on hbw hb5
  clear hb5
  have Z5 : Hid (ZR v5 s5 (some ⟨g5, 0, none⟩) m5 (x * 2 ^ k)) := hz5
  have HL5 : Hid (m5 ≤ 40000) := hl5
  clear hz5 hl5 hg5
  go_wp2_with fail
  refine (rtold04 s5 Z5.out (by have := HL5.out; omega)).mono ?_
  rintro e v9 ⟨s9, p9, m9, c9, u9, er9, rfl, hA9, hD9, hb9⟩
  have HRL0 : Hid (gr < v5.heap.size ∧ w.heap.size ≤ v5.heap.size) := ⟨Xr.out.lt, hbw.size⟩
  replace Xx : Hid _ := Xx.out.below hb9
  replace Xr : Hid _ := Xr.out.below hb9
  replace Xa : Hid _ := Xa.out.below hb9
  replace Z4 : Hid _ := Z4.out.below hb9
  replace Z5 : Hid _ := Z5.out.below hb9
  replace hbw := Below.on hbw hb9
  clear hb9
  have A9 : Hid (NewAt v5.heap.size v9 p9 m9 c9 u9) := hA9
  have D9 : Hid (DocZ (rShl (iv s (valB B64 xs)) (k : Int).toNat) s9 u9 er9) := by have h8 := hD9; rw [Int.toNat_natCast, ← HX.out]; exact h8
  clear hA9 hD9
  obtain ⟨cr0, cr1, fr0, fr1⟩ := Xr.out
  have hner := Xr.out.lt
  go_wp2_with fail
  refine bodyPost_ret (v := .tuple #[ZV s9 p9 m9 c9, .int .i64 er9]) (by rw [results_cell_tmp rfl]; go_simp) rfl ⟨s9, p9, m9, c9, u9, er9, rfl, ?_, .inr (.inr ⟨Int.natCast_nonneg _, HF.out, D9.out⟩), ?_⟩
  · exact A9.out.set2 HRL0.out.1 HRL0.out.2 _ _
  · exact bSet (bSet hbw _ _ _ HGr.out) _ _ _ HGr.out
theorem docshift4_1 {p : Option Addr} {m c : Nat} {xs : List Nat} {w : World} (s : Bool) (h : At w p m c xs) (k : Int) (hk : k ≤ 9223372036854775807) :
    Calls Tryz.prog 59 #[.int .i64 1, ZV s p m c, .int .i64 k] w fun e w' => ∃ s' p' m' c' us er, e = .returned (.tuple #[ZV s' p' m' c', .int .i64 er]) ∧ NewAt w.heap.size w' p' m' c' us ∧ ShiftZ rFs s xs k s' us er ∧ Below w.heap.size w w' := by
  by_cases hn : k < 0
  · exact docshift_neg s h rFs 1 k hn
  · cases hf : formZ s xs
    · exact docshift_bad s h rFs 1 k (by omega) hf
    · obtain ⟨n, rfl⟩ := Int.eq_ofNat_of_zero_le (by omega : 0 ≤ k)
      exact docshift_fs s h n (by omega) hf
theorem docshift4_2 {p : Option Addr} {m c : Nat} {xs : List Nat} {w : World} (s : Bool) (h : At w p m c xs) (k : Int) (hk : k ≤ 9223372036854775807) :
    Calls Tryz.prog 59 #[.int .i64 2, ZV s p m c, .int .i64 k] w fun e w' => ∃ s' p' m' c' us er, e = .returned (.tuple #[ZV s' p' m' c', .int .i64 er]) ∧ NewAt w.heap.size w' p' m' c' us ∧ ShiftZ rCs s xs k s' us er ∧ Below w.heap.size w w' := by
  by_cases hn : k < 0
  · exact docshift_neg s h rCs 2 k hn
  · cases hf : formZ s xs
    · exact docshift_bad s h rCs 2 k (by omega) hf
    · obtain ⟨n, rfl⟩ := Int.eq_ofNat_of_zero_le (by omega : 0 ≤ k)
      exact docshift_cs s h n (by omega) hf
theorem docshift4_3 {p : Option Addr} {m c : Nat} {xs : List Nat} {w : World} (s : Bool) (h : At w p m c xs) (k : Int) (hk : k ≤ 9223372036854775807) :
    Calls Tryz.prog 59 #[.int .i64 3, ZV s p m c, .int .i64 k] w fun e w' => ∃ s' p' m' c' us er, e = .returned (.tuple #[ZV s' p' m' c', .int .i64 er]) ∧ NewAt w.heap.size w' p' m' c' us ∧ ShiftZ rNs s xs k s' us er ∧ Below w.heap.size w w' := by
  by_cases hn : k < 0
  · exact docshift_neg s h rNs 3 k hn
  · cases hf : formZ s xs
    · exact docshift_bad s h rNs 3 k (by omega) hf
    · obtain ⟨n, rfl⟩ := Int.eq_ofNat_of_zero_le (by omega : 0 ≤ k)
      exact docshift_ns s h n (by omega) hf
theorem docshift4_0 {p : Option Addr} {m c : Nat} {xs : List Nat} {w : World} (s : Bool) (h : At w p m c xs) (k : Int) (hk : k ≤ 9223372036854775807) :
    Calls Tryz.prog 59 #[.int .i64 0, ZV s p m c, .int .i64 k] w fun e w' => ∃ s' p' m' c' us er, e = .returned (.tuple #[ZV s' p' m' c', .int .i64 er]) ∧ NewAt w.heap.size w' p' m' c' us ∧ ShiftZ rShl s xs k s' us er ∧ Below w.heap.size w w' := by
  by_cases hn : k < 0
  · exact docshift_neg s h rShl 0 k hn
  · cases hf : formZ s xs
    · exact docshift_bad s h rShl 0 k (by omega) hf
    · obtain ⟨n, rfl⟩ := Int.eq_ofNat_of_zero_le (by omega : 0 ≤ k)
      rcases Nat.lt_or_ge 524288 n with h1 | h1
      · by_cases h0 : iv s (valB B64 xs) = 0
        · exact docshift_slz s h n (by omega) hf ⟨h1, h0⟩
        · exact docshift_sll s h n (by omega) hf ⟨h1, h0⟩
      · exact docshift_slo s h n (by omega) hf h1
end Go.Proofs.YtgodajcnhipleaaGreatDoor

