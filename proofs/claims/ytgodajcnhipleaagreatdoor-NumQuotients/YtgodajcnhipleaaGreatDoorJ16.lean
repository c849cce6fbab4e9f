import Derived.Test.YtgodajcnhipleaaGreatDoorJ15
namespace Go.Proofs.YtgodajcnhipleaaGreatDoor
open Go.RowKit Go.Shelf

set_option maxRecDepth 20000 in
set_option maxHeartbeats 8000000 in
theorem reven04 {p : Option Addr} {m : Nat} {w : World} {z : Int} (s : Bool) (h : ZR w s p m z) (hm : m ≤ 50000) (b : Bool) (hb : b = decide (z.natAbs % 2 = 0)) :
    Calls Tryz.prog 131 #[.agg #[.bool s, .slice p m m]] w fun e w' => e = .returned (.bool b) ∧ Below w.heap.size w w' := by
  obtain ⟨xs, hAx, hNx⟩ := h.ex
  have AX : Hid (At32 w p m m xs) := hAx
  have HM : Hid (m ≤ 50000) := hm
  have HV : Hid (valB B32 xs = z.natAbs) := hNx.val
  have HB : Hid (b = decide (z.natAbs % 2 = 0)) := hb
  clear h hm hAx hNx hb
  go_enter Tryz.func131, Tryz.ntmps131
  go_wp2_with fail
  obtain ⟨W0, hW0⟩ : ∃ W0, W0 = (w.alloc (.cells #[.bool s, .slice p m m] 70)) := ⟨_, rfl⟩
  have Xa : Hid (Box W0 (w.heap.size) (.bool s) (.slice p m m)) := by rw [hW0]; exact ⟨by go_simp, by go_simp, by go_simp, by go_simp⟩
  have hb0 : Below w.heap.size w W0 := by rw [hW0]; exact below1 w _
  rw [← hW0]
  clear hW0
  have hbw : Below w.heap.size w w := Below.refl _ _
  obtain ⟨ga, hga⟩ : ∃ g, g = w.heap.size := ⟨_, rfl⟩
  have HGa : Hid (w.heap.size ≤ ga) := by rw [hga]; show _ ≤ _; omega
  rw [← hga] at Xa
  try rw [← hga]
  clear hga
  replace hbw := Below.on hbw hb0
  clear hb0
  refine (rbit_any (AX.out.below hbw) (by have := HM.out; omega) 0 (by decide)).mono ?_
  rintro e v1 ⟨rfl, hw⟩
  obtain rfl := hw.symm
  clear hw
  rw [HV.out, Nat.pow_zero, Nat.div_one]
  rcases Nat.mod_two_eq_zero_or_one z.natAbs with h0 | h0
  · rw [h0]
    have hb : b = true := by rw [HB.out, h0]; rfl
    subst hb
    clear h0
    go_wp2_with fail
    go_ret
    exact ⟨rfl, hbw⟩
  · rw [h0]
    have hb : b = false := by rw [HB.out, h0]; rfl
    subst hb
    clear h0
    go_wp2_with fail
    go_ret
    exact ⟨rfl, hbw⟩
theorem near_up0 (s : Bool) (a d : Nat) (hd : 0 < d) (h : (d : Int) < 2 * mo s false a d ∨ (2 * mo s false a d = d ∧ (fl s a d).natAbs % 2 = 1)) : ne s a d = fl s a d + 1 := by
  have hlt := Nat.mod_lt a hd
  have hd1 : ¬ 0 = d := by omega
  have hd2 : ¬ d = 0 := by omega
  unfold ne fl mo neUp at *
  generalize a / d = q at *
  generalize a % d = r at *
  cases s <;> by_cases hr : r = 0 <;> by_cases h1 : d < 2 * r <;> by_cases h2 : 2 * r = d <;> by_cases h3 : q % 2 = 1 <;> simp [iv, hr, h1, h2, h3, hd1] at h ⊢ <;> omega
theorem near_no0 (s : Bool) (a d : Nat) (hd : 0 < d) (h : 2 * mo s false a d < (d : Int) ∨ (2 * mo s false a d = d ∧ (fl s a d).natAbs % 2 = 0)) : ne s a d = fl s a d := by
  have hlt := Nat.mod_lt a hd
  have hd1 : ¬ 0 = d := by omega
  have hd2 : ¬ d = 0 := by omega
  unfold ne fl mo neUp at *
  generalize a / d = q at *
  generalize a % d = r at *
  cases s <;> by_cases hr : r = 0 <;> by_cases h1 : d < 2 * r <;> by_cases h2 : 2 * r = d <;> by_cases h3 : q % 2 = 1 <;> simp [iv, hr, h1, h2, h3, hd1] at h ⊢ <;> omega
theorem r_pos {y : Int} (hy : 0 < y) (x : Int) : rNd x y = ne (decide (x < 0)) x.natAbs y.natAbs ∧ rFd x y = fl (decide (x < 0)) x.natAbs y.natAbs ∧ rMo x y = mo (decide (x < 0)) false x.natAbs y.natAbs := by
  have h : decide (y < 0) = false := decide_eq_false (by omega)
  unfold rNd rFd rMo
  rw [h]
  simp
theorem near_up {x y : Int} (hy : 0 < y) (h : y < 2 * rMo x y ∨ (2 * rMo x y = y ∧ (rFd x y).natAbs % 2 = 1)) : rNd x y = rFd x y + 1 := by
  obtain ⟨h1, h2, h3⟩ := r_pos hy x
  rw [h2, h3] at h
  rw [h1, h2]
  have hyd : (y.natAbs : Int) = y := by omega
  exact near_up0 _ _ _ (by omega) (by rw [hyd]; exact h)
theorem near_no {x y : Int} (hy : 0 < y) (h : 2 * rMo x y < y ∨ (2 * rMo x y = y ∧ (rFd x y).natAbs % 2 = 0)) : rNd x y = rFd x y := by
  obtain ⟨h1, h2, h3⟩ := r_pos hy x
  rw [h2, h3] at h
  rw [h1, h2]
  have hyd : (y.natAbs : Int) = y := by omega
  exact near_no0 _ _ _ (by omega) (by rw [hyd]; exact h)
set_option maxRecDepth 20000 in
set_option maxHeartbeats 8000000 in
theorem rnear04_g {p q : Option Addr} {m n : Nat} {w : World} {x y : Int} (s : Bool) (h : ZR w s p m x) (k : ZR w false q n y) (hm : m ≤ 16384) (hn : n ≤ 40000) (hy : 0 < y) (L : Nat) (hrm : (rMo x y).natAbs < B32 ^ L) (hL : L ≤ 16384) (hc : y < 2 * rMo x y) :
    Calls Tryz.prog 119 #[.agg #[.bool s, .slice p m m], .agg #[.bool false, .slice q n n]] w fun e w' => ∃ v, e = .returned v ∧ GotR w.heap.size w' v (rNd x y) (20001) ∧ Below w.heap.size w w' := by
  have HRV : Hid (rNd x y = rFd x y + 1) := near_up hy (.inl hc)
  rw [HRV.out]
  have HC : Hid (cmpI (rMo x y * 2 ^ 1) y = 1) := by show _ = _; unfold cmpI; rw [if_neg (by omega), if_neg (by omega)]
  have HE : Hid (decide ((rFd x y).natAbs % 2 = 0) = true ∨ True) := .inr trivial
  have HA : Hid (ZR w s p m x ∧ ZR w false q n y) := ⟨h, k⟩
  have HM : Hid (m ≤ 16384 ∧ n ≤ 40000 ∧ 0 < y ∧ (rMo x y).natAbs < B32 ^ L ∧ L ≤ 16384) := ⟨hm, hn, hy, hrm, hL⟩
  clear h k hm hn hy hc HRV hrm hL
  go_enter Tryz.func119, Tryz.ntmps119
  go_wp2_with fail
  obtain ⟨W0, hW0⟩ : ∃ W0, W0 = (((w.alloc (.cells #[.bool s, .slice p m m] 70)).alloc (.cells #[.bool false, .slice q n n] 70)).alloc (.cells #[.bool false, .slice none 0 0] 70)) := ⟨_, rfl⟩
  have Xa : Hid (Box W0 (w.heap.size) (.bool s) (.slice p m m)) := by rw [hW0]; exact ⟨by go_simp, by go_simp, by go_simp, by go_simp⟩
  have Xb : Hid (Box W0 (w.heap.size + 1) (.bool false) (.slice q n n)) := by rw [hW0]; exact ⟨by go_simp, by go_simp, by go_simp, by go_simp⟩
  have Xr : Hid (Box W0 (w.heap.size + 1 + 1) (.bool false) (.slice none 0 0)) := by rw [hW0]; exact ⟨by go_simp, by go_simp, by go_simp, by go_simp⟩
  have hb0 : Below w.heap.size w W0 := by rw [hW0]; exact below3 w _ _ _
  rw [← hW0]
  clear hW0
  have hbw : Below w.heap.size w w := Below.refl _ _
  obtain ⟨gr, hgr⟩ : ∃ g, g = w.heap.size + 1 + 1 := ⟨_, rfl⟩
  have HGr : Hid (w.heap.size ≤ gr) := by rw [hgr]; show _ ≤ _; omega
  rw [← hgr] at Xr
  try rw [← hgr]
  obtain ⟨gb, hgb⟩ : ∃ g, g = w.heap.size + 1 := ⟨_, rfl⟩
  have HGb : Hid (w.heap.size ≤ gb) := by rw [hgb]; show _ ≤ _; omega
  rw [← hgb] at Xb
  try rw [← hgb]
  obtain ⟨ga, hga⟩ : ∃ g, g = w.heap.size := ⟨_, rfl⟩
  have HGa : Hid (w.heap.size ≤ ga) := by rw [hga]; show _ ≤ _; omega
  rw [← hga] at Xa
  try rw [← hga]
  have HGD : Hid (ga ≠ gb ∧ ga ≠ gr ∧ gb ≠ ga ∧ gb ≠ gr ∧ gr ≠ ga ∧ gr ≠ gb) := by rw [hga, hgb, hgr]; exact ⟨by omega, by omega, by omega, by omega, by omega, by omega⟩
  clear hga hgb hgr
  replace hbw := Below.on hbw hb0
  clear hb0
  refine (rfloor04 s (HA.out.1.below hbw) (HA.out.2.below hbw) HM.out.1 HM.out.2.1 HM.out.2.2.1).mono ?_
  rintro e v1 ⟨s1, g1, m1, s2, g2, m2, rfl, hg1, hg2, hz1, hz2, hl1, hl2, hb1⟩
  have HR1 : Hid (gr < g1 ∧ w.heap.size ≤ g1) := ⟨Nat.lt_of_lt_of_le Xr.out.lt hg1, Nat.le_trans hbw.size hg1⟩
  replace Xa : Hid _ := Xa.out.below hb1
  replace Xb : Hid _ := Xb.out.below hb1
  replace Xr : Hid _ := Xr.out.below hb1
  replace hbw := Below.on hbw hb1
  clear hb1
  have Z1 : Hid (ZR v1 s1 (some ⟨g1, 0, none⟩) m1 (rFd x y)) := hz1
  have Z2 : Hid (ZR v1 s2 (some ⟨g2, 0, none⟩) m2 (rMo x y)) := hz2
  have hm2 : m2 ≤ 16384 := by
    obtain ⟨z2, hA2, hN2⟩ := hz2.ex
    have := (hN2.len_le B32_one (k := L)).2 HM.out.2.2.2.1
    rw [hA2.len] at this
    exact Nat.le_trans this HM.out.2.2.2.2
  have HL1 : Hid (m1 ≤ 20000 ∧ m2 ≤ 16384) := ⟨hl1, hm2⟩
  clear hz1 hz2 hl1 hl2 hm2 hg1 hg2
  go_wp2_with fail
  have HDQ : Hid (gr < v1.heap.size) := Xr.out.lt
  have HDR0 : Hid (gr ≠ v1.heap.size) := Nat.ne_of_lt Xr.out.lt
  rw [show v1.heap.size + 1 = (v1.alloc (.cells #[.bool s1, .slice (some ⟨g1, 0, none⟩) m1 m1] 70)).heap.size from by simp]
  have Xq0 : Hid (Box (v1.alloc (.cells #[.bool s1, .slice (some ⟨g1, 0, none⟩) m1 m1] 70)) v1.heap.size (.bool s1) (.slice (some ⟨g1, 0, none⟩) m1 m1)) := Box.new v1 _ _ _
  have hbn : Below v1.heap.size v1 (v1.alloc (.cells #[.bool s1, .slice (some ⟨g1, 0, none⟩) m1 m1] 70)) := below1 v1 _
  generalize v1.alloc (.cells #[.bool s1, .slice (some ⟨g1, 0, none⟩) m1 m1] 70) = W6 at *
  have HGq : Hid (w.heap.size ≤ v1.heap.size) := hbw.size
  replace Xa : Hid _ := Xa.out.below hbn
  replace Xb : Hid _ := Xb.out.below hbn
  replace Xr : Hid _ := Xr.out.below hbn
  replace Z1 : Hid _ := Z1.out.below hbn
  replace Z2 : Hid _ := Z2.out.below hbn
  replace hbw := Below.on hbw hbn
  clear hbn
  generalize v1.heap.size = gq at *
  have Xq := Xq0
  clear Xq0
  have Xt0 : Hid (Box (W6.alloc (.cells #[.bool s2, .slice (some ⟨g2, 0, none⟩) m2 m2] 70)) W6.heap.size (.bool s2) (.slice (some ⟨g2, 0, none⟩) m2 m2)) := Box.new W6 _ _ _
  have hbn : Below W6.heap.size W6 (W6.alloc (.cells #[.bool s2, .slice (some ⟨g2, 0, none⟩) m2 m2] 70)) := below1 W6 _
  generalize W6.alloc (.cells #[.bool s2, .slice (some ⟨g2, 0, none⟩) m2 m2] 70) = W7 at *
  have HGt : Hid (w.heap.size ≤ W6.heap.size) := hbw.size
  replace Xa : Hid _ := Xa.out.below hbn
  replace Xb : Hid _ := Xb.out.below hbn
  replace Xr : Hid _ := Xr.out.below hbn
  replace Xq : Hid _ := Xq.out.below hbn
  replace Z1 : Hid _ := Z1.out.below hbn
  replace Z2 : Hid _ := Z2.out.below hbn
  replace hbw := Below.on hbw hbn
  clear hbn
  generalize W6.heap.size = gt at *
  have Xt := Xt0
  clear Xt0
  obtain ⟨W8, hW8⟩ : ∃ W1, W1 = W7.drew := ⟨_, rfl⟩
  have hbd : Below W7.heap.size W7 W8 := by rw [hW8]; exact bDrew1 (Below.refl _ _)
  replace Xa : Hid _ := Xa.out.below hbd
  replace Xb : Hid _ := Xb.out.below hbd
  replace Xr : Hid _ := Xr.out.below hbd
  replace Xq : Hid _ := Xq.out.below hbd
  replace Xt : Hid _ := Xt.out.below hbd
  replace Z1 : Hid _ := Z1.out.below hbd
  replace Z2 : Hid _ := Z2.out.below hbd
  replace hbw := Below.on hbw hbd
  clear hbd
  have HJ : Hid ((fun W' : World => W'.cell? ⟨gt, 0, none⟩ = some (.bool s2) ∧ W'.cell? ⟨gt, 1, none⟩ = some (.slice (some ⟨g2, 0, none⟩) m2 m2) ∧ W'.cell? ⟨gb, 0, none⟩ = some (.bool false) ∧ W'.cell? ⟨gb, 1, none⟩ = some (.slice q n n)) W8) := ⟨Xt.out.c0, Xt.out.c1, Xb.out.c0, Xb.out.c1⟩
  refine wp_region_J (fun W' => W'.cell? ⟨gt, 0, none⟩ = some (.bool s2) ∧ W'.cell? ⟨gt, 1, none⟩ = some (.slice (some ⟨g2, 0, none⟩) m2 m2) ∧ W'.cell? ⟨gb, 0, none⟩ = some (.bool false) ∧ W'.cell? ⟨gb, 1, none⟩ = some (.slice q n n)) (by kernel_rfl) ?_
  rw [← hW8]
  clear hW8
  refine wpJ_take (i := 0) (v := ?v1x0) rfl (by kernel_rfl) (by kernel_rfl) (by kernel_rfl) (fun _ _ _ h => h) (by kernel_rfl) ?hy1x0 HJ.out ?rest1x0
  case hy1x0 => (intro W' hJ; obtain ⟨j0, j1, j2, j3⟩ := hJ; go_simp; first | done | with_reducible rfl)
  refine wpJ_take (i := 2) (v := ?v2x2) rfl (by kernel_rfl) (by kernel_rfl) (by kernel_rfl) (fun _ _ _ h => h) (by kernel_rfl) ?hy2x2 HJ.out ?rest2x2
  case hy2x2 => (intro W' hJ; obtain ⟨j0, j1, j2, j3⟩ := hJ; go_simp; first | done | with_reducible rfl)
  refine wpJ_one (i := 1) (by kernel_rfl) rfl (by kernel_rfl) (fun KJ hK => ?_)
  go_simp
  refine (rshl04 s2 Z2.out HL1.out.2 1 (.inl (by decide))).mono ?_
  rintro e v3 ⟨v, rfl, hv, hb3⟩
  obtain ⟨s3, g3, m3, rfl, hg3, hz3, hl3⟩ := hv
  have HN3 : Hid (W8.heap.size ≤ g3) := hg3
  have HB3 : Hid (W8.heap.size ≤ v3.heap.size) := hb3.size
  replace Xa : Hid _ := Xa.out.below hb3
  replace Xb : Hid _ := Xb.out.below hb3
  replace Xr : Hid _ := Xr.out.below hb3
  replace Xq : Hid _ := Xq.out.below hb3
  replace Xt : Hid _ := Xt.out.below hb3
  replace Z1 : Hid _ := Z1.out.below hb3
  replace Z2 : Hid _ := Z2.out.below hb3
  replace hbw := Below.on hbw hb3
  clear hb3
  have Z3 : Hid (ZR v3 s3 (some ⟨g3, 0, none⟩) m3 (rMo x y * 2 ^ 1)) := hz3
  have HL3 : Hid (m3 ≤ 40000) := hl3
  clear hz3 hl3 hg3
  refine hK _ _ ⟨Xt.out.c0, Xt.out.c1, Xb.out.c0, Xb.out.c1⟩ ?_
  clear hK
  refine wpJ_one (i := 3) (by kernel_rfl) rfl (by kernel_rfl) (fun KJ hK => ?_)
  go_simp
  refine (rcmp04 s3 false Z3.out (HA.out.2.below hbw) (by have := HL3.out; omega) (by have := HM.out; omega)).mono ?_
  rintro e v4 ⟨rfl, hb4⟩
  rw [HC.out]
  replace Xa : Hid _ := Xa.out.below hb4
  replace Xb : Hid _ := Xb.out.below hb4
  replace Xr : Hid _ := Xr.out.below hb4
  replace Xq : Hid _ := Xq.out.below hb4
  replace Xt : Hid _ := Xt.out.below hb4
  replace Z1 : Hid _ := Z1.out.below hb4
  replace Z2 : Hid _ := Z2.out.below hb4
  replace Z3 : Hid _ := Z3.out.below hb4
  replace hbw := Below.on hbw hb4
  clear hb4
  clear HJ
  have HJ : Hid ((fun W' : World => W'.cell? ⟨gt, 0, none⟩ = some (.bool s2) ∧ W'.cell? ⟨gt, 1, none⟩ = some (.slice (some ⟨g2, 0, none⟩) m2 m2) ∧ W'.cell? ⟨gb, 0, none⟩ = some (.bool false) ∧ W'.cell? ⟨gb, 1, none⟩ = some (.slice q n n)) v4) := ⟨Xt.out.c0, Xt.out.c1, Xb.out.c0, Xb.out.c1⟩
  refine hK _ _ HJ.out ?_
  clear hK
  refine wpJ_take (i := 4) (v := ?v3x4) rfl (by kernel_rfl) (by kernel_rfl) (by kernel_rfl) (fun _ _ _ h => h) (by kernel_rfl) ?hy3x4 HJ.out ?rest3x4
  case hy3x4 => (intro W' hJ; obtain ⟨j0, j1, j2, j3⟩ := hJ; go_simp; first | done | with_reducible rfl)
  refine wpJ_done (by kernel_rfl) ?_ _
  clear HJ
  obtain ⟨cq0, cq1, fq0, fq1⟩ := Xq.out
  have hneq := Xq.out.lt
  go_wp2_with fail
  clear cq0 cq1 fq0 fq1 hneq
  obtain ⟨W9, hW9⟩ : ∃ W1, W1 = v4.drew := ⟨_, rfl⟩
  have hbd : Below v4.heap.size v4 W9 := by rw [hW9]; exact bDrew1 (Below.refl _ _)
  replace Xa : Hid _ := Xa.out.below hbd
  replace Xb : Hid _ := Xb.out.below hbd
  replace Xr : Hid _ := Xr.out.below hbd
  replace Xq : Hid _ := Xq.out.below hbd
  replace Xt : Hid _ := Xt.out.below hbd
  replace Z1 : Hid _ := Z1.out.below hbd
  replace Z2 : Hid _ := Z2.out.below hbd
  replace Z3 : Hid _ := Z3.out.below hbd
  replace hbw := Below.on hbw hbd
  clear hbd
  have HJ : Hid ((fun W' : World => W'.cell? ⟨gq, 0, none⟩ = some (.bool s1) ∧ W'.cell? ⟨gq, 1, none⟩ = some (.slice (some ⟨g1, 0, none⟩) m1 m1)) W9) := ⟨Xq.out.c0, Xq.out.c1⟩
  refine wp_region_J (fun W' => W'.cell? ⟨gq, 0, none⟩ = some (.bool s1) ∧ W'.cell? ⟨gq, 1, none⟩ = some (.slice (some ⟨g1, 0, none⟩) m1 m1)) (by kernel_rfl) ?_
  rw [← hW9]
  clear hW9
  refine wpJ_take (i := 0) (v := ?v4x0) rfl (by kernel_rfl) (by kernel_rfl) (by kernel_rfl) (fun _ _ _ h => h) (by kernel_rfl) ?hy4x0 HJ.out ?rest4x0
  case hy4x0 => (intro W' hJ; obtain ⟨j0, j1⟩ := hJ; go_simp; first | done | with_reducible rfl)
  refine wpJ_one (i := 1) (by kernel_rfl) rfl (by kernel_rfl) (fun KJ hK => ?_)
  go_simp
  refine (rof04 1 _ (by decide) (by decide)).mono ?_
  rintro e v6 ⟨s6, g6, m6, rfl, hz6, hl6, hb6⟩
  replace Xa : Hid _ := Xa.out.below hb6
  replace Xb : Hid _ := Xb.out.below hb6
  replace Xr : Hid _ := Xr.out.below hb6
  replace Xq : Hid _ := Xq.out.below hb6
  replace Xt : Hid _ := Xt.out.below hb6
  replace Z1 : Hid _ := Z1.out.below hb6
  replace Z2 : Hid _ := Z2.out.below hb6
  replace Z3 : Hid _ := Z3.out.below hb6
  replace hbw := Below.on hbw hb6
  clear hb6
  have Z6 : Hid (ZR v6 s6 (some ⟨g6, 0, none⟩) m6 1) := hz6
  have HL6 : Hid (m6 ≤ 3) := hl6
  clear hz6 hl6
  refine hK _ _ ⟨Xq.out.c0, Xq.out.c1⟩ ?_
  clear hK
  have HRB : Hid (gr < v6.heap.size ∧ w.heap.size ≤ v6.heap.size) := ⟨Xr.out.lt, hbw.size⟩
  refine wpJ_one (i := 2) (by kernel_rfl) rfl (by kernel_rfl) (fun KJ hK => ?_)
  go_simp
  refine (radd04 s1 s6 Z1.out Z6.out (by have := HL1.out; omega) (by have := HL6.out; omega)).mono ?_
  rintro e v9 ⟨v, rfl, hv, hb9⟩
  obtain ⟨s9, g9, m9, rfl, hg9, hz9, hl9⟩ := hv
  have HN9 : Hid (v6.heap.size ≤ g9) := hg9
  have HB9 : Hid (v6.heap.size ≤ v9.heap.size) := hb9.size
  replace Xa : Hid _ := Xa.out.below hb9
  replace Xb : Hid _ := Xb.out.below hb9
  replace Xr : Hid _ := Xr.out.below hb9
  replace Xq : Hid _ := Xq.out.below hb9
  replace Xt : Hid _ := Xt.out.below hb9
  replace Z1 : Hid _ := Z1.out.below hb9
  replace Z2 : Hid _ := Z2.out.below hb9
  replace Z3 : Hid _ := Z3.out.below hb9
  replace Z6 : Hid _ := Z6.out.below hb9
  replace hbw := Below.on hbw hb9
  clear hb9
  have Z9 : Hid (ZR v9 s9 (some ⟨g9, 0, none⟩) m9 (rFd x y + 1)) := hz9
  have HL9 : Hid (m9 ≤ max m1 m6 + 1) := hl9
  clear hz9 hl9 hg9
  refine hK _ _ ⟨Xq.out.c0, Xq.out.c1⟩ ?_
  clear hK
  have hq1 := HDR0.out
  have hq2 : gq ≠ gr := fun h => hq1 h.symm
  obtain ⟨cr0, cr1, fr0, fr1⟩ := Xr.out
  have hner := Xr.out.lt
  obtain ⟨cq0, cq1, fq0, fq1⟩ := Xq.out
  have hneq := Xq.out.lt
  obtain ⟨hgd0, hgd1, hgd2, hgd3, hgd4, hgd5⟩ := HGD.out
  refine wpJ_one (i := 3) (by kernel_rfl) rfl (by kernel_rfl) (fun KJ hK => ?_)
  go_simp
  have HJ2 : Hid ((fun W' : World => W'.cell? ⟨gq, 0, none⟩ = some (.bool s1) ∧ W'.cell? ⟨gq, 1, none⟩ = some (.slice (some ⟨g1, 0, none⟩) m1 m1)) ((v9.setCell ⟨gr, 0, none⟩ (.bool s9)).setCell ⟨gr, 1, none⟩ (.slice (some ⟨g9, 0, none⟩) m9 m9))) := ⟨by go_simp, by go_simp⟩
  refine hK _ _ HJ2.out ?_
  clear hK HJ
  have HJ := HJ2
  clear HJ2
  refine wpJ_done (by kernel_rfl) ?_ _
  clear HJ
  go_wp2_with fail
  refine bodyPost_ret (v := .agg #[.bool s9, .slice (some ⟨g9, 0, none⟩) m9 m9]) (by rw [results_cell1 rfl]; go_simp) rfl ⟨_, rfl, ⟨s9, g9, m9, rfl, Nat.le_trans HRB.out.2 HN9.out, ?_, ?_⟩, ?_⟩
  · have := HN9.out; have := HRB.out.1
    exact (Z9.out.set _ _ _ (by omega)).set _ _ _ (by omega)
  · have := HL9.out; have := HL6.out; have := HL1.out; omega
  · exact bSet (bSet hbw _ _ _ HGr.out) _ _ _ HGr.out
set_option maxRecDepth 20000 in
set_option maxHeartbeats 8000000 in
theorem rnear04_o {p q : Option Addr} {m n : Nat} {w : World} {x y : Int} (s : Bool) (h : ZR w s p m x) (k : ZR w false q n y) (hm : m ≤ 16384) (hn : n ≤ 40000) (hy : 0 < y) (L : Nat) (hrm : (rMo x y).natAbs < B32 ^ L) (hL : L ≤ 16384) (hc : 2 * rMo x y = y ∧ (rFd x y).natAbs % 2 = 1) :
    Calls Tryz.prog 119 #[.agg #[.bool s, .slice p m m], .agg #[.bool false, .slice q n n]] w fun e w' => ∃ v, e = .returned v ∧ GotR w.heap.size w' v (rNd x y) (20001) ∧ Below w.heap.size w w' := by
  have HRV : Hid (rNd x y = rFd x y + 1) := near_up hy (.inr hc)
  rw [HRV.out]
  have HC : Hid (cmpI (rMo x y * 2 ^ 1) y = 0) := by show _ = _; unfold cmpI; rw [if_neg (by omega), if_pos (by omega)]
  have HE : Hid (decide ((rFd x y).natAbs % 2 = 0) = false ∨ False) := .inl (by rw [hc.2]; rfl)
  have HA : Hid (ZR w s p m x ∧ ZR w false q n y) := ⟨h, k⟩
  have HM : Hid (m ≤ 16384 ∧ n ≤ 40000 ∧ 0 < y ∧ (rMo x y).natAbs < B32 ^ L ∧ L ≤ 16384) := ⟨hm, hn, hy, hrm, hL⟩
  clear h k hm hn hy hc HRV hrm hL
  go_enter Tryz.func119, Tryz.ntmps119
  go_wp2_with fail
  obtain ⟨W0, hW0⟩ : ∃ W0, W0 = (((w.alloc (.cells #[.bool s, .slice p m m] 70)).alloc (.cells #[.bool false, .slice q n n] 70)).alloc (.cells #[.bool false, .slice none 0 0] 70)) := ⟨_, rfl⟩
  have Xa : Hid (Box W0 (w.heap.size) (.bool s) (.slice p m m)) := by rw [hW0]; exact ⟨by go_simp, by go_simp, by go_simp, by go_simp⟩
  have Xb : Hid (Box W0 (w.heap.size + 1) (.bool false) (.slice q n n)) := by rw [hW0]; exact ⟨by go_simp, by go_simp, by go_simp, by go_simp⟩
  have Xr : Hid (Box W0 (w.heap.size + 1 + 1) (.bool false) (.slice none 0 0)) := by rw [hW0]; exact ⟨by go_simp, by go_simp, by go_simp, by go_simp⟩
  have hb0 : Below w.heap.size w W0 := by rw [hW0]; exact below3 w _ _ _
  rw [← hW0]
  clear hW0
  have hbw : Below w.heap.size w w := Below.refl _ _
  obtain ⟨gr, hgr⟩ : ∃ g, g = w.heap.size + 1 + 1 := ⟨_, rfl⟩
  have HGr : Hid (w.heap.size ≤ gr) := by rw [hgr]; show _ ≤ _; omega
  rw [← hgr] at Xr
  try rw [← hgr]
  obtain ⟨gb, hgb⟩ : ∃ g, g = w.heap.size + 1 := ⟨_, rfl⟩
  have HGb : Hid (w.heap.size ≤ gb) := by rw [hgb]; show _ ≤ _; omega
  rw [← hgb] at Xb
  try rw [← hgb]
  obtain ⟨ga, hga⟩ : ∃ g, g = w.heap.size := ⟨_, rfl⟩
  have HGa : Hid (w.heap.size ≤ ga) := by rw [hga]; show _ ≤ _; omega
  rw [← hga] at Xa
  try rw [← hga]
  have HGD : Hid (ga ≠ gb ∧ ga ≠ gr ∧ gb ≠ ga ∧ gb ≠ gr ∧ gr ≠ ga ∧ gr ≠ gb) := by rw [hga, hgb, hgr]; exact ⟨by omega, by omega, by omega, by omega, by omega, by omega⟩
  clear hga hgb hgr
  replace hbw := Below.on hbw hb0
  clear hb0
  refine (rfloor04 s (HA.out.1.below hbw) (HA.out.2.below hbw) HM.out.1 HM.out.2.1 HM.out.2.2.1).mono ?_
  rintro e v1 ⟨s1, g1, m1, s2, g2, m2, rfl, hg1, hg2, hz1, hz2, hl1, hl2, hb1⟩
  have HR1 : Hid (gr < g1 ∧ w.heap.size ≤ g1) := ⟨Nat.lt_of_lt_of_le Xr.out.lt hg1, Nat.le_trans hbw.size hg1⟩
  replace Xa : Hid _ := Xa.out.below hb1
  replace Xb : Hid _ := Xb.out.below hb1
  replace Xr : Hid _ := Xr.out.below hb1
  replace hbw := Below.on hbw hb1
  clear hb1
  have Z1 : Hid (ZR v1 s1 (some ⟨g1, 0, none⟩) m1 (rFd x y)) := hz1
  have Z2 : Hid (ZR v1 s2 (some ⟨g2, 0, none⟩) m2 (rMo x y)) := hz2
  have hm2 : m2 ≤ 16384 := by
    obtain ⟨z2, hA2, hN2⟩ := hz2.ex
    have := (hN2.len_le B32_one (k := L)).2 HM.out.2.2.2.1
    rw [hA2.len] at this
    exact Nat.le_trans this HM.out.2.2.2.2
  have HL1 : Hid (m1 ≤ 20000 ∧ m2 ≤ 16384) := ⟨hl1, hm2⟩
  clear hz1 hz2 hl1 hl2 hm2 hg1 hg2
  go_wp2_with fail
  have HDQ : Hid (gr < v1.heap.size) := Xr.out.lt
  have HDR0 : Hid (gr ≠ v1.heap.size) := Nat.ne_of_lt Xr.out.lt
  rw [show v1.heap.size + 1 = (v1.alloc (.cells #[.bool s1, .slice (some ⟨g1, 0, none⟩) m1 m1] 70)).heap.size from by simp]
  have Xq0 : Hid (Box (v1.alloc (.cells #[.bool s1, .slice (some ⟨g1, 0, none⟩) m1 m1] 70)) v1.heap.size (.bool s1) (.slice (some ⟨g1, 0, none⟩) m1 m1)) := Box.new v1 _ _ _
  have hbn : Below v1.heap.size v1 (v1.alloc (.cells #[.bool s1, .slice (some ⟨g1, 0, none⟩) m1 m1] 70)) := below1 v1 _
  generalize v1.alloc (.cells #[.bool s1, .slice (some ⟨g1, 0, none⟩) m1 m1] 70) = W6 at *
  have HGq : Hid (w.heap.size ≤ v1.heap.size) := hbw.size
  replace Xa : Hid _ := Xa.out.below hbn
  replace Xb : Hid _ := Xb.out.below hbn
  replace Xr : Hid _ := Xr.out.below hbn
  replace Z1 : Hid _ := Z1.out.below hbn
  replace Z2 : Hid _ := Z2.out.below hbn
  replace hbw := Below.on hbw hbn
  clear hbn
  generalize v1.heap.size = gq at *
  have Xq := Xq0
  clear Xq0
  have Xt0 : Hid (Box (W6.alloc (.cells #[.bool s2, .slice (some ⟨g2, 0, none⟩) m2 m2] 70)) W6.heap.size (.bool s2) (.slice (some ⟨g2, 0, none⟩) m2 m2)) := Box.new W6 _ _ _
  have hbn : Below W6.heap.size W6 (W6.alloc (.cells #[.bool s2, .slice (some ⟨g2, 0, none⟩) m2 m2] 70)) := below1 W6 _
  generalize W6.alloc (.cells #[.bool s2, .slice (some ⟨g2, 0, none⟩) m2 m2] 70) = W7 at *
  have HGt : Hid (w.heap.size ≤ W6.heap.size) := hbw.size
  replace Xa : Hid _ := Xa.out.below hbn
  replace Xb : Hid _ := Xb.out.below hbn
  replace Xr : Hid _ := Xr.out.below hbn
  replace Xq : Hid _ := Xq.out.below hbn
  replace Z1 : Hid _ := Z1.out.below hbn
  replace Z2 : Hid _ := Z2.out.below hbn
  replace hbw := Below.on hbw hbn
  clear hbn
  generalize W6.heap.size = gt at *
  have Xt := Xt0
  clear Xt0
  obtain ⟨W8, hW8⟩ : ∃ W1, W1 = W7.drew := ⟨_, rfl⟩
  have hbd : Below W7.heap.size W7 W8 := by rw [hW8]; exact bDrew1 (Below.refl _ _)
  replace Xa : Hid _ := Xa.out.below hbd
  replace Xb : Hid _ := Xb.out.below hbd
  replace Xr : Hid _ := Xr.out.below hbd
  replace Xq : Hid _ := Xq.out.below hbd
  replace Xt : Hid _ := Xt.out.below hbd
  replace Z1 : Hid _ := Z1.out.below hbd
  replace Z2 : Hid _ := Z2.out.below hbd
  replace hbw := Below.on hbw hbd
  clear hbd
  have HJ : Hid ((fun W' : World => W'.cell? ⟨gt, 0, none⟩ = some (.bool s2) ∧ W'.cell? ⟨gt, 1, none⟩ = some (.slice (some ⟨g2, 0, none⟩) m2 m2) ∧ W'.cell? ⟨gb, 0, none⟩ = some (.bool false) ∧ W'.cell? ⟨gb, 1, none⟩ = some (.slice q n n)) W8) := ⟨Xt.out.c0, Xt.out.c1, Xb.out.c0, Xb.out.c1⟩
  refine wp_region_J (fun W' => W'.cell? ⟨gt, 0, none⟩ = some (.bool s2) ∧ W'.cell? ⟨gt, 1, none⟩ = some (.slice (some ⟨g2, 0, none⟩) m2 m2) ∧ W'.cell? ⟨gb, 0, none⟩ = some (.bool false) ∧ W'.cell? ⟨gb, 1, none⟩ = some (.slice q n n)) (by kernel_rfl) ?_
  rw [← hW8]
  clear hW8
  refine wpJ_take (i := 0) (v := ?v5x0) rfl (by kernel_rfl) (by kernel_rfl) (by kernel_rfl) (fun _ _ _ h => h) (by kernel_rfl) ?hy5x0 HJ.out ?rest5x0
  case hy5x0 => (intro W' hJ; obtain ⟨j0, j1, j2, j3⟩ := hJ; go_simp; first | done | with_reducible rfl)
  refine wpJ_take (i := 2) (v := ?v6x2) rfl (by kernel_rfl) (by kernel_rfl) (by kernel_rfl) (fun _ _ _ h => h) (by kernel_rfl) ?hy6x2 HJ.out ?rest6x2
  case hy6x2 => (intro W' hJ; obtain ⟨j0, j1, j2, j3⟩ := hJ; go_simp; first | done | with_reducible rfl)
  refine wpJ_one (i := 1) (by kernel_rfl) rfl (by kernel_rfl) (fun KJ hK => ?_)
  go_simp
  refine (rshl04 s2 Z2.out HL1.out.2 1 (.inl (by decide))).mono ?_
  rintro e v3 ⟨v, rfl, hv, hb3⟩
  obtain ⟨s3, g3, m3, rfl, hg3, hz3, hl3⟩ := hv
  have HN3 : Hid (W8.heap.size ≤ g3) := hg3
  have HB3 : Hid (W8.heap.size ≤ v3.heap.size) := hb3.size
  replace Xa : Hid _ := Xa.out.below hb3
  replace Xb : Hid _ := Xb.out.below hb3
  replace Xr : Hid _ := Xr.out.below hb3
  replace Xq : Hid _ := Xq.out.below hb3
  replace Xt : Hid _ := Xt.out.below hb3
  replace Z1 : Hid _ := Z1.out.below hb3
  replace Z2 : Hid _ := Z2.out.below hb3
  replace hbw := Below.on hbw hb3
  clear hb3
  have Z3 : Hid (ZR v3 s3 (some ⟨g3, 0, none⟩) m3 (rMo x y * 2 ^ 1)) := hz3
  have HL3 : Hid (m3 ≤ 40000) := hl3
  clear hz3 hl3 hg3
  refine hK _ _ ⟨Xt.out.c0, Xt.out.c1, Xb.out.c0, Xb.out.c1⟩ ?_
  clear hK
  refine wpJ_one (i := 3) (by kernel_rfl) rfl (by kernel_rfl) (fun KJ hK => ?_)
  go_simp
  refine (rcmp04 s3 false Z3.out (HA.out.2.below hbw) (by have := HL3.out; omega) (by have := HM.out; omega)).mono ?_
  rintro e v4 ⟨rfl, hb4⟩
  rw [HC.out]
  replace Xa : Hid _ := Xa.out.below hb4
  replace Xb : Hid _ := Xb.out.below hb4
  replace Xr : Hid _ := Xr.out.below hb4
  replace Xq : Hid _ := Xq.out.below hb4
  replace Xt : Hid _ := Xt.out.below hb4
  replace Z1 : Hid _ := Z1.out.below hb4
  replace Z2 : Hid _ := Z2.out.below hb4
  replace Z3 : Hid _ := Z3.out.below hb4
  replace hbw := Below.on hbw hb4
  clear hb4
  clear HJ
  have HJ : Hid ((fun W' : World => W'.cell? ⟨gt, 0, none⟩ = some (.bool s2) ∧ W'.cell? ⟨gt, 1, none⟩ = some (.slice (some ⟨g2, 0, none⟩) m2 m2) ∧ W'.cell? ⟨gb, 0, none⟩ = some (.bool false) ∧ W'.cell? ⟨gb, 1, none⟩ = some (.slice q n n)) v4) := ⟨Xt.out.c0, Xt.out.c1, Xb.out.c0, Xb.out.c1⟩
  refine hK _ _ HJ.out ?_
  clear hK
  refine wpJ_take (i := 4) (v := ?v7x4) rfl (by kernel_rfl) (by kernel_rfl) (by kernel_rfl) (fun _ _ _ h => h) (by kernel_rfl) ?hy7x4 HJ.out ?rest7x4
  case hy7x4 => (intro W' hJ; obtain ⟨j0, j1, j2, j3⟩ := hJ; go_simp; first | done | with_reducible rfl)
  refine wpJ_done (by kernel_rfl) ?_ _
  clear HJ
  obtain ⟨cq0, cq1, fq0, fq1⟩ := Xq.out
  have hneq := Xq.out.lt
  go_wp2_with fail
  clear cq0 cq1 fq0 fq1 hneq
  refine (reven04 s1 Z1.out (by have := HL1.out; omega) false (by have h9 := HE.out; simp only [or_false] at h9; exact h9.symm)).mono ?_
  rintro e v5 ⟨rfl, hb5⟩
  replace Xa : Hid _ := Xa.out.below hb5
  replace Xb : Hid _ := Xb.out.below hb5
  replace Xr : Hid _ := Xr.out.below hb5
  replace Xq : Hid _ := Xq.out.below hb5
  replace Xt : Hid _ := Xt.out.below hb5
  replace Z1 : Hid _ := Z1.out.below hb5
  replace Z2 : Hid _ := Z2.out.below hb5
  replace Z3 : Hid _ := Z3.out.below hb5
  replace hbw := Below.on hbw hb5
  clear hb5
  obtain ⟨cq0, cq1, fq0, fq1⟩ := Xq.out
  have hneq := Xq.out.lt
  go_wp2_with fail
  clear cq0 cq1 fq0 fq1 hneq
  obtain ⟨W9, hW9⟩ : ∃ W1, W1 = v5.drew := ⟨_, rfl⟩
  have hbd : Below v5.heap.size v5 W9 := by rw [hW9]; exact bDrew1 (Below.refl _ _)
  replace Xa : Hid _ := Xa.out.below hbd
  replace Xb : Hid _ := Xb.out.below hbd
  replace Xr : Hid _ := Xr.out.below hbd
  replace Xq : Hid _ := Xq.out.below hbd
  replace Xt : Hid _ := Xt.out.below hbd
  replace Z1 : Hid _ := Z1.out.below hbd
  replace Z2 : Hid _ := Z2.out.below hbd
  replace Z3 : Hid _ := Z3.out.below hbd
  replace hbw := Below.on hbw hbd
  clear hbd
  have HJ : Hid ((fun W' : World => W'.cell? ⟨gq, 0, none⟩ = some (.bool s1) ∧ W'.cell? ⟨gq, 1, none⟩ = some (.slice (some ⟨g1, 0, none⟩) m1 m1)) W9) := ⟨Xq.out.c0, Xq.out.c1⟩
  refine wp_region_J (fun W' => W'.cell? ⟨gq, 0, none⟩ = some (.bool s1) ∧ W'.cell? ⟨gq, 1, none⟩ = some (.slice (some ⟨g1, 0, none⟩) m1 m1)) (by kernel_rfl) ?_
  rw [← hW9]
  clear hW9
  refine wpJ_take (i := 0) (v := ?v8x0) rfl (by kernel_rfl) (by kernel_rfl) (by kernel_rfl) (fun _ _ _ h => h) (by kernel_rfl) ?hy8x0 HJ.out ?rest8x0
  case hy8x0 => (intro W' hJ; obtain ⟨j0, j1⟩ := hJ; go_simp; first | done | with_reducible rfl)
  refine wpJ_one (i := 1) (by kernel_rfl) rfl (by kernel_rfl) (fun KJ hK => ?_)
  go_simp
  refine (rof04 1 _ (by decide) (by decide)).mono ?_
  rintro e v6 ⟨s6, g6, m6, rfl, hz6, hl6, hb6⟩
  replace Xa : Hid _ := Xa.out.below hb6
  replace Xb : Hid _ := Xb.out.below hb6
  replace Xr : Hid _ := Xr.out.below hb6
  replace Xq : Hid _ := Xq.out.below hb6
  replace Xt : Hid _ := Xt.out.below hb6
  replace Z1 : Hid _ := Z1.out.below hb6
  replace Z2 : Hid _ := Z2.out.below hb6
  replace Z3 : Hid _ := Z3.out.below hb6
  replace hbw := Below.on hbw hb6
  clear hb6
  have Z6 : Hid (ZR v6 s6 (some ⟨g6, 0, none⟩) m6 1) := hz6
  have HL6 : Hid (m6 ≤ 3) := hl6
  clear hz6 hl6
  refine hK _ _ ⟨Xq.out.c0, Xq.out.c1⟩ ?_
  clear hK
  have HRB : Hid (gr < v6.heap.size ∧ w.heap.size ≤ v6.heap.size) := ⟨Xr.out.lt, hbw.size⟩
  refine wpJ_one (i := 2) (by kernel_rfl) rfl (by kernel_rfl) (fun KJ hK => ?_)
  go_simp
  refine (radd04 s1 s6 Z1.out Z6.out (by have := HL1.out; omega) (by have := HL6.out; omega)).mono ?_
  rintro e v9 ⟨v, rfl, hv, hb9⟩
  obtain ⟨s9, g9, m9, rfl, hg9, hz9, hl9⟩ := hv
  have HN9 : Hid (v6.heap.size ≤ g9) := hg9
  have HB9 : Hid (v6.heap.size ≤ v9.heap.size) := hb9.size
  replace Xa : Hid _ := Xa.out.below hb9
  replace Xb : Hid _ := Xb.out.below hb9
  replace Xr : Hid _ := Xr.out.below hb9
  replace Xq : Hid _ := Xq.out.below hb9
  replace Xt : Hid _ := Xt.out.below hb9
  replace Z1 : Hid _ := Z1.out.below hb9
  replace Z2 : Hid _ := Z2.out.below hb9
  replace Z3 : Hid _ := Z3.out.below hb9
  replace Z6 : Hid _ := Z6.out.below hb9
  replace hbw := Below.on hbw hb9
  clear hb9
  have Z9 : Hid (ZR v9 s9 (some ⟨g9, 0, none⟩) m9 (rFd x y + 1)) := hz9
  have HL9 : Hid (m9 ≤ max m1 m6 + 1) := hl9
  clear hz9 hl9 hg9
  refine hK _ _ ⟨Xq.out.c0, Xq.out.c1⟩ ?_
  clear hK
  have hq1 := HDR0.out
  have hq2 : gq ≠ gr := fun h => hq1 h.symm
  obtain ⟨cr0, cr1, fr0, fr1⟩ := Xr.out
  have hner := Xr.out.lt
  obtain ⟨cq0, cq1, fq0, fq1⟩ := Xq.out
  have hneq := Xq.out.lt
  obtain ⟨hgd0, hgd1, hgd2, hgd3, hgd4, hgd5⟩ := HGD.out
  refine wpJ_one (i := 3) (by kernel_rfl) rfl (by kernel_rfl) (fun KJ hK => ?_)
  go_simp
  have HJ2 : Hid ((fun W' : World => W'.cell? ⟨gq, 0, none⟩ = some (.bool s1) ∧ W'.cell? ⟨gq, 1, none⟩ = some (.slice (some ⟨g1, 0, none⟩) m1 m1)) ((v9.setCell ⟨gr, 0, none⟩ (.bool s9)).setCell ⟨gr, 1, none⟩ (.slice (some ⟨g9, 0, none⟩) m9 m9))) := ⟨by go_simp, by go_simp⟩
  refine hK _ _ HJ2.out ?_
  clear hK HJ
  have HJ := HJ2
  clear HJ2
  refine wpJ_done (by kernel_rfl) ?_ _
  clear HJ
  go_wp2_with fail
  refine bodyPost_ret (v := .agg #[.bool s9, .slice (some ⟨g9, 0, none⟩) m9 m9]) (by rw [results_cell1 rfl]; go_simp) rfl ⟨_, rfl, ⟨s9, g9, m9, rfl, Nat.le_trans HRB.out.2 HN9.out, ?_, ?_⟩, ?_⟩
  · have := HN9.out; have := HRB.out.1
    exact (Z9.out.set _ _ _ (by omega)).set _ _ _ (by omega)
  · have := HL9.out; have := HL6.out; have := HL1.out; omega
  · exact bSet (bSet hbw _ _ _ HGr.out) _ _ _ HGr.out
set_option maxRecDepth 20000 in
set_option maxHeartbeats 8000000 in
theorem rnear04_e {p q : Option Addr} {m n : Nat} {w : World} {x y : Int} (s : Bool) (h : ZR w s p m x) (k : ZR w false q n y) (hm : m ≤ 16384) (hn : n ≤ 40000) (hy : 0 < y) (L : Nat) (hrm : (rMo x y).natAbs < B32 ^ L) (hL : L ≤ 16384) (hc : 2 * rMo x y = y ∧ (rFd x y).natAbs % 2 = 0) :
    Calls Tryz.prog 119 #[.agg #[.bool s, .slice p m m], .agg #[.bool false, .slice q n n]] w fun e w' => ∃ v, e = .returned v ∧ GotR w.heap.size w' v (rNd x y) (20001) ∧ Below w.heap.size w w' := by
  have HRV : Hid (rNd x y = rFd x y) := near_no hy (.inr hc)
  rw [HRV.out]
  have HC : Hid (cmpI (rMo x y * 2 ^ 1) y = 0) := by show _ = _; unfold cmpI; rw [if_neg (by omega), if_pos (by omega)]
  have HE : Hid (decide ((rFd x y).natAbs % 2 = 0) = true ∨ False) := .inl (by rw [hc.2]; rfl)
  have HA : Hid (ZR w s p m x ∧ ZR w false q n y) := ⟨h, k⟩
  have HM : Hid (m ≤ 16384 ∧ n ≤ 40000 ∧ 0 < y ∧ (rMo x y).natAbs < B32 ^ L ∧ L ≤ 16384) := ⟨hm, hn, hy, hrm, hL⟩
  clear h k hm hn hy hc HRV hrm hL
  go_enter Tryz.func119, Tryz.ntmps119
  go_wp2_with fail
  obtain ⟨W0, hW0⟩ : ∃ W0, W0 = (((w.alloc (.cells #[.bool s, .slice p m m] 70)).alloc (.cells #[.bool false, .slice q n n] 70)).alloc (.cells #[.bool false, .slice none 0 0] 70)) := ⟨_, rfl⟩
  have Xa : Hid (Box W0 (w.heap.size) (.bool s) (.slice p m m)) := by rw [hW0]; exact ⟨by go_simp, by go_simp, by go_simp, by go_simp⟩
  have Xb : Hid (Box W0 (w.heap.size + 1) (.bool false) (.slice q n n)) := by rw [hW0]; exact ⟨by go_simp, by go_simp, by go_simp, by go_simp⟩
  have Xr : Hid (Box W0 (w.heap.size + 1 + 1) (.bool false) (.slice none 0 0)) := by rw [hW0]; exact ⟨by go_simp, by go_simp, by go_simp, by go_simp⟩
  have hb0 : Below w.heap.size w W0 := by rw [hW0]; exact below3 w _ _ _
  rw [← hW0]
  clear hW0
  have hbw : Below w.heap.size w w := Below.refl _ _
  obtain ⟨gr, hgr⟩ : ∃ g, g = w.heap.size + 1 + 1 := ⟨_, rfl⟩
  have HGr : Hid (w.heap.size ≤ gr) := by rw [hgr]; show _ ≤ _; omega
  rw [← hgr] at Xr
  try rw [← hgr]
  obtain ⟨gb, hgb⟩ : ∃ g, g = w.heap.size + 1 := ⟨_, rfl⟩
  have HGb : Hid (w.heap.size ≤ gb) := by rw [hgb]; show _ ≤ _; omega
  rw [← hgb] at Xb
  try rw [← hgb]
  obtain ⟨ga, hga⟩ : ∃ g, g = w.heap.size := ⟨_, rfl⟩
  have HGa : Hid (w.heap.size ≤ ga) := by rw [hga]; show _ ≤ _; omega
  rw [← hga] at Xa
  try rw [← hga]
  have HGD : Hid (ga ≠ gb ∧ ga ≠ gr ∧ gb ≠ ga ∧ gb ≠ gr ∧ gr ≠ ga ∧ gr ≠ gb) := by rw [hga, hgb, hgr]; exact ⟨by omega, by omega, by omega, by omega, by omega, by omega⟩
  clear hga hgb hgr
  replace hbw := Below.on hbw hb0
  clear hb0
  refine (rfloor04 s (HA.out.1.below hbw) (HA.out.2.below hbw) HM.out.1 HM.out.2.1 HM.out.2.2.1).mono ?_
  rintro e v1 ⟨s1, g1, m1, s2, g2, m2, rfl, hg1, hg2, hz1, hz2, hl1, hl2, hb1⟩
  have HR1 : Hid (gr < g1 ∧ w.heap.size ≤ g1) := ⟨Nat.lt_of_lt_of_le Xr.out.lt hg1, Nat.le_trans hbw.size hg1⟩
  replace Xa : Hid _ := Xa.out.below hb1
  replace Xb : Hid _ := Xb.out.below hb1
  replace Xr : Hid _ := Xr.out.below hb1
  replace hbw := Below.on hbw hb1
  clear hb1
  have Z1 : Hid (ZR v1 s1 (some ⟨g1, 0, none⟩) m1 (rFd x y)) := hz1
  have Z2 : Hid (ZR v1 s2 (some ⟨g2, 0, none⟩) m2 (rMo x y)) := hz2
  have hm2 : m2 ≤ 16384 := by
    obtain ⟨z2, hA2, hN2⟩ := hz2.ex
    have := (hN2.len_le B32_one (k := L)).2 HM.out.2.2.2.1
    rw [hA2.len] at this
    exact Nat.le_trans this HM.out.2.2.2.2
  have HL1 : Hid (m1 ≤ 20000 ∧ m2 ≤ 16384) := ⟨hl1, hm2⟩
  clear hz1 hz2 hl1 hl2 hm2 hg1 hg2
  go_wp2_with fail
  have HDQ : Hid (gr < v1.heap.size) := Xr.out.lt
  have HDR0 : Hid (gr ≠ v1.heap.size) := Nat.ne_of_lt Xr.out.lt
  rw [show v1.heap.size + 1 = (v1.alloc (.cells #[.bool s1, .slice (some ⟨g1, 0, none⟩) m1 m1] 70)).heap.size from by simp]
  have Xq0 : Hid (Box (v1.alloc (.cells #[.bool s1, .slice (some ⟨g1, 0, none⟩) m1 m1] 70)) v1.heap.size (.bool s1) (.slice (some ⟨g1, 0, none⟩) m1 m1)) := Box.new v1 _ _ _
  have hbn : Below v1.heap.size v1 (v1.alloc (.cells #[.bool s1, .slice (some ⟨g1, 0, none⟩) m1 m1] 70)) := below1 v1 _
  generalize v1.alloc (.cells #[.bool s1, .slice (some ⟨g1, 0, none⟩) m1 m1] 70) = W6 at *
  have HGq : Hid (w.heap.size ≤ v1.heap.size) := hbw.size
  replace Xa : Hid _ := Xa.out.below hbn
  replace Xb : Hid _ := Xb.out.below hbn
  replace Xr : Hid _ := Xr.out.below hbn
  replace Z1 : Hid _ := Z1.out.below hbn
  replace Z2 : Hid _ := Z2.out.below hbn
  replace hbw := Below.on hbw hbn
  clear hbn
  generalize v1.heap.size = gq at *
  have Xq := Xq0
  clear Xq0
  have Xt0 : Hid (Box (W6.alloc (.cells #[.bool s2, .slice (some ⟨g2, 0, none⟩) m2 m2] 70)) W6.heap.size (.bool s2) (.slice (some ⟨g2, 0, none⟩) m2 m2)) := Box.new W6 _ _ _
  have hbn : Below W6.heap.size W6 (W6.alloc (.cells #[.bool s2, .slice (some ⟨g2, 0, none⟩) m2 m2] 70)) := below1 W6 _
  generalize W6.alloc (.cells #[.bool s2, .slice (some ⟨g2, 0, none⟩) m2 m2] 70) = W7 at *
  have HGt : Hid (w.heap.size ≤ W6.heap.size) := hbw.size
  replace Xa : Hid _ := Xa.out.below hbn
  replace Xb : Hid _ := Xb.out.below hbn
  replace Xr : Hid _ := Xr.out.below hbn
  replace Xq : Hid _ := Xq.out.below hbn
  replace Z1 : Hid _ := Z1.out.below hbn
  replace Z2 : Hid _ := Z2.out.below hbn
  replace hbw := Below.on hbw hbn
  clear hbn
  generalize W6.heap.size = gt at *
  have Xt := Xt0
  clear Xt0
  obtain ⟨W8, hW8⟩ : ∃ W1, W1 = W7.drew := ⟨_, rfl⟩
  have hbd : Below W7.heap.size W7 W8 := by rw [hW8]; exact bDrew1 (Below.refl _ _)
  replace Xa : Hid _ := Xa.out.below hbd
  replace Xb : Hid _ := Xb.out.below hbd
  replace Xr : Hid _ := Xr.out.below hbd
  replace Xq : Hid _ := Xq.out.below hbd
  replace Xt : Hid _ := Xt.out.below hbd
  replace Z1 : Hid _ := Z1.out.below hbd
  replace Z2 : Hid _ := Z2.out.below hbd
  replace hbw := Below.on hbw hbd
  clear hbd
  have HJ : Hid ((fun W' : World => W'.cell? ⟨gt, 0, none⟩ = some (.bool s2) ∧ W'.cell? ⟨gt, 1, none⟩ = some (.slice (some ⟨g2, 0, none⟩) m2 m2) ∧ W'.cell? ⟨gb, 0, none⟩ = some (.bool false) ∧ W'.cell? ⟨gb, 1, none⟩ = some (.slice q n n)) W8) := ⟨Xt.out.c0, Xt.out.c1, Xb.out.c0, Xb.out.c1⟩
  refine wp_region_J (fun W' => W'.cell? ⟨gt, 0, none⟩ = some (.bool s2) ∧ W'.cell? ⟨gt, 1, none⟩ = some (.slice (some ⟨g2, 0, none⟩) m2 m2) ∧ W'.cell? ⟨gb, 0, none⟩ = some (.bool false) ∧ W'.cell? ⟨gb, 1, none⟩ = some (.slice q n n)) (by kernel_rfl) ?_
  rw [← hW8]
  clear hW8
  refine wpJ_take (i := 0) (v := ?v9x0) rfl (by kernel_rfl) (by kernel_rfl) (by kernel_rfl) (fun _ _ _ h => h) (by kernel_rfl) ?hy9x0 HJ.out ?rest9x0
  case hy9x0 => (intro W' hJ; obtain ⟨j0, j1, j2, j3⟩ := hJ; go_simp; first | done | with_reducible rfl)
  refine wpJ_take (i := 2) (v := ?v10x2) rfl (by kernel_rfl) (by kernel_rfl) (by kernel_rfl) (fun _ _ _ h => h) (by kernel_rfl) ?hy10x2 HJ.out ?rest10x2
  case hy10x2 => (intro W' hJ; obtain ⟨j0, j1, j2, j3⟩ := hJ; go_simp; first | done | with_reducible rfl)
  refine wpJ_one (i := 1) (by kernel_rfl) rfl (by kernel_rfl) (fun KJ hK => ?_)
  go_simp
  refine (rshl04 s2 Z2.out HL1.out.2 1 (.inl (by decide))).mono ?_
  rintro e v3 ⟨v, rfl, hv, hb3⟩
  obtain ⟨s3, g3, m3, rfl, hg3, hz3, hl3⟩ := hv
  have HN3 : Hid (W8.heap.size ≤ g3) := hg3
  have HB3 : Hid (W8.heap.size ≤ v3.heap.size) := hb3.size
  replace Xa : Hid _ := Xa.out.below hb3
  replace Xb : Hid _ := Xb.out.below hb3
  replace Xr : Hid _ := Xr.out.below hb3
  replace Xq : Hid _ := Xq.out.below hb3
  replace Xt : Hid _ := Xt.out.below hb3
  replace Z1 : Hid _ := Z1.out.below hb3
  replace Z2 : Hid _ := Z2.out.below hb3
  replace hbw := Below.on hbw hb3
  clear hb3
  have Z3 : Hid (ZR v3 s3 (some ⟨g3, 0, none⟩) m3 (rMo x y * 2 ^ 1)) := hz3
  have HL3 : Hid (m3 ≤ 40000) := hl3
  clear hz3 hl3 hg3
  refine hK _ _ ⟨Xt.out.c0, Xt.out.c1, Xb.out.c0, Xb.out.c1⟩ ?_
  clear hK
  refine wpJ_one (i := 3) (by kernel_rfl) rfl (by kernel_rfl) (fun KJ hK => ?_)
  go_simp
  refine (rcmp04 s3 false Z3.out (HA.out.2.below hbw) (by have := HL3.out; omega) (by have := HM.out; omega)).mono ?_
  rintro e v4 ⟨rfl, hb4⟩
  rw [HC.out]
  replace Xa : Hid _ := Xa.out.below hb4
  replace Xb : Hid _ := Xb.out.below hb4
  replace Xr : Hid _ := Xr.out.below hb4
  replace Xq : Hid _ := Xq.out.below hb4
  replace Xt : Hid _ := Xt.out.below hb4
  replace Z1 : Hid _ := Z1.out.below hb4
  replace Z2 : Hid _ := Z2.out.below hb4
  replace Z3 : Hid _ := Z3.out.below hb4
  replace hbw := Below.on hbw hb4
  clear hb4
  clear HJ
  have HJ : Hid ((fun W' : World => W'.cell? ⟨gt, 0, none⟩ = some (.bool s2) ∧ W'.cell? ⟨gt, 1, none⟩ = some (.slice (some ⟨g2, 0, none⟩) m2 m2) ∧ W'.cell? ⟨gb, 0, none⟩ = some (.bool false) ∧ W'.cell? ⟨gb, 1, none⟩ = some (.slice q n n)) v4) := ⟨Xt.out.c0, Xt.out.c1, Xb.out.c0, Xb.out.c1⟩
  refine hK _ _ HJ.out ?_
  clear hK
  refine wpJ_take (i := 4) (v := ?v11x4) rfl (by kernel_rfl) (by kernel_rfl) (by kernel_rfl) (fun _ _ _ h => h) (by kernel_rfl) ?hy11x4 HJ.out ?rest11x4
  case hy11x4 => (intro W' hJ; obtain ⟨j0, j1, j2, j3⟩ := hJ; go_simp; first | done | with_reducible rfl)
  refine wpJ_done (by kernel_rfl) ?_ _
  clear HJ
  obtain ⟨cq0, cq1, fq0, fq1⟩ := Xq.out
  have hneq := Xq.out.lt
  go_wp2_with fail
  clear cq0 cq1 fq0 fq1 hneq
  refine (reven04 s1 Z1.out (by have := HL1.out; omega) true (by have h9 := HE.out; simp only [or_false] at h9; exact h9.symm)).mono ?_
  rintro e v5 ⟨rfl, hb5⟩
  replace Xa : Hid _ := Xa.out.below hb5
  replace Xb : Hid _ := Xb.out.below hb5
  replace Xr : Hid _ := Xr.out.below hb5
  replace Xq : Hid _ := Xq.out.below hb5
  replace Xt : Hid _ := Xt.out.below hb5
  replace Z1 : Hid _ := Z1.out.below hb5
  replace Z2 : Hid _ := Z2.out.below hb5
  replace Z3 : Hid _ := Z3.out.below hb5
  replace hbw := Below.on hbw hb5
  clear hb5
  obtain ⟨cq0, cq1, fq0, fq1⟩ := Xq.out
  have hneq := Xq.out.lt
  obtain ⟨cr0, cr1, fr0, fr1⟩ := Xr.out
  have hner := Xr.out.lt
  go_wp2_with fail
  refine bodyPost_ret (v := .agg #[.bool s1, .slice (some ⟨g1, 0, none⟩) m1 m1]) (by rw [results_cell1 rfl]; go_simp) rfl ⟨_, rfl, ⟨s1, g1, m1, rfl, HR1.out.2, ?_, Nat.le_succ_of_le HL1.out.1⟩, ?_⟩
  · have := HR1.out.1
    exact (Z1.out.set _ _ _ (by omega)).set _ _ _ (by omega)
  · exact bSet (bSet hbw _ _ _ HGr.out) _ _ _ HGr.out
set_option maxRecDepth 20000 in
set_option maxHeartbeats 8000000 in
theorem rnear04_l {p q : Option Addr} {m n : Nat} {w : World} {x y : Int} (s : Bool) (h : ZR w s p m x) (k : ZR w false q n y) (hm : m ≤ 16384) (hn : n ≤ 40000) (hy : 0 < y) (L : Nat) (hrm : (rMo x y).natAbs < B32 ^ L) (hL : L ≤ 16384) (hc : 2 * rMo x y < y) :
    Calls Tryz.prog 119 #[.agg #[.bool s, .slice p m m], .agg #[.bool false, .slice q n n]] w fun e w' => ∃ v, e = .returned v ∧ GotR w.heap.size w' v (rNd x y) (20001) ∧ Below w.heap.size w w' := by
  have HRV : Hid (rNd x y = rFd x y) := near_no hy (.inl hc)
  rw [HRV.out]
  have HC : Hid (cmpI (rMo x y * 2 ^ 1) y = (-1)) := by show _ = _; unfold cmpI; rw [if_pos (by omega)]
  have HE : Hid (decide ((rFd x y).natAbs % 2 = 0) = true ∨ True) := .inr trivial
  have HA : Hid (ZR w s p m x ∧ ZR w false q n y) := ⟨h, k⟩
  have HM : Hid (m ≤ 16384 ∧ n ≤ 40000 ∧ 0 < y ∧ (rMo x y).natAbs < B32 ^ L ∧ L ≤ 16384) := ⟨hm, hn, hy, hrm, hL⟩
  clear h k hm hn hy hc HRV hrm hL
  go_enter Tryz.func119, Tryz.ntmps119
  go_wp2_with fail
  obtain ⟨W0, hW0⟩ : ∃ W0, W0 = (((w.alloc (.cells #[.bool s, .slice p m m] 70)).alloc (.cells #[.bool false, .slice q n n] 70)).alloc (.cells #[.bool false, .slice none 0 0] 70)) := ⟨_, rfl⟩
  have Xa : Hid (Box W0 (w.heap.size) (.bool s) (.slice p m m)) := by rw [hW0]; exact ⟨by go_simp, by go_simp, by go_simp, by go_simp⟩
  have Xb : Hid (Box W0 (w.heap.size + 1) (.bool false) (.slice q n n)) := by rw [hW0]; exact ⟨by go_simp, by go_simp, by go_simp, by go_simp⟩
  have Xr : Hid (Box W0 (w.heap.size + 1 + 1) (.bool false) (.slice none 0 0)) := by rw [hW0]; exact ⟨by go_simp, by go_simp, by go_simp, by go_simp⟩
  have hb0 : Below w.heap.size w W0 := by rw [hW0]; exact below3 w _ _ _
  rw [← hW0]
  clear hW0
  have hbw : Below w.heap.size w w := Below.refl _ _
  obtain ⟨gr, hgr⟩ : ∃ g, g = w.heap.size + 1 + 1 := ⟨_, rfl⟩
  have HGr : Hid (w.heap.size ≤ gr) := by rw [hgr]; show _ ≤ _; omega
  rw [← hgr] at Xr
  try rw [← hgr]
  obtain ⟨gb, hgb⟩ : ∃ g, g = w.heap.size + 1 := ⟨_, rfl⟩
  have HGb : Hid (w.heap.size ≤ gb) := by rw [hgb]; show _ ≤ _; omega
  rw [← hgb] at Xb
  try rw [← hgb]
  obtain ⟨ga, hga⟩ : ∃ g, g = w.heap.size := ⟨_, rfl⟩
  have HGa : Hid (w.heap.size ≤ ga) := by rw [hga]; show _ ≤ _; omega
  rw [← hga] at Xa
  try rw [← hga]
  have HGD : Hid (ga ≠ gb ∧ ga ≠ gr ∧ gb ≠ ga ∧ gb ≠ gr ∧ gr ≠ ga ∧ gr ≠ gb) := by rw [hga, hgb, hgr]; exact ⟨by omega, by omega, by omega, by omega, by omega, by omega⟩
  clear hga hgb hgr
  replace hbw := Below.on hbw hb0
  clear hb0
  refine (rfloor04 s (HA.out.1.below hbw) (HA.out.2.below hbw) HM.out.1 HM.out.2.1 HM.out.2.2.1).mono ?_
  rintro e v1 ⟨s1, g1, m1, s2, g2, m2, rfl, hg1, hg2, hz1, hz2, hl1, hl2, hb1⟩
  have HR1 : Hid (gr < g1 ∧ w.heap.size ≤ g1) := ⟨Nat.lt_of_lt_of_le Xr.out.lt hg1, Nat.le_trans hbw.size hg1⟩
  replace Xa : Hid _ := Xa.out.below hb1
  replace Xb : Hid _ := Xb.out.below hb1
  replace Xr : Hid _ := Xr.out.below hb1
  replace hbw := Below.on hbw hb1
  clear hb1
  have Z1 : Hid (ZR v1 s1 (some ⟨g1, 0, none⟩) m1 (rFd x y)) := hz1
  have Z2 : Hid (ZR v1 s2 (some ⟨g2, 0, none⟩) m2 (rMo x y)) := hz2
  have hm2 : m2 ≤ 16384 := by
    obtain ⟨z2, hA2, hN2⟩ := hz2.ex
    have := (hN2.len_le B32_one (k := L)).2 HM.out.2.2.2.1
    rw [hA2.len] at this
    exact Nat.le_trans this HM.out.2.2.2.2
  have HL1 : Hid (m1 ≤ 20000 ∧ m2 ≤ 16384) := ⟨hl1, hm2⟩
  clear hz1 hz2 hl1 hl2 hm2 hg1 hg2
  go_wp2_with fail
  have HDQ : Hid (gr < v1.heap.size) := Xr.out.lt
  have HDR0 : Hid (gr ≠ v1.heap.size) := Nat.ne_of_lt Xr.out.lt
  rw [show v1.heap.size + 1 = (v1.alloc (.cells #[.bool s1, .slice (some ⟨g1, 0, none⟩) m1 m1] 70)).heap.size from by simp]
  have Xq0 : Hid (Box (v1.alloc (.cells #[.bool s1, .slice (some ⟨g1, 0, none⟩) m1 m1] 70)) v1.heap.size (.bool s1) (.slice (some ⟨g1, 0, none⟩) m1 m1)) := Box.new v1 _ _ _
  have hbn : Below v1.heap.size v1 (v1.alloc (.cells #[.bool s1, .slice (some ⟨g1, 0, none⟩) m1 m1] 70)) := below1 v1 _
  generalize v1.alloc (.cells #[.bool s1, .slice (some ⟨g1, 0, none⟩) m1 m1] 70) = W6 at *
  have HGq : Hid (w.heap.size ≤ v1.heap.size) := hbw.size
  replace Xa : Hid _ := Xa.out.below hbn
  replace Xb : Hid _ := Xb.out.below hbn
  replace Xr : Hid _ := Xr.out.below hbn
  replace Z1 : Hid _ := Z1.out.below hbn
  replace Z2 : Hid _ := Z2.out.below hbn
  replace hbw := Below.on hbw hbn
  clear hbn
  generalize v1.heap.size = gq at *
  have Xq := Xq0
  clear Xq0
  have Xt0 : Hid (Box (W6.alloc (.cells #[.bool s2, .slice (some ⟨g2, 0, none⟩) m2 m2] 70)) W6.heap.size (.bool s2) (.slice (some ⟨g2, 0, none⟩) m2 m2)) := Box.new W6 _ _ _
  have hbn : Below W6.heap.size W6 (W6.alloc (.cells #[.bool s2, .slice (some ⟨g2, 0, none⟩) m2 m2] 70)) := below1 W6 _
  generalize W6.alloc (.cells #[.bool s2, .slice (some ⟨g2, 0, none⟩) m2 m2] 70) = W7 at *
  have HGt : Hid (w.heap.size ≤ W6.heap.size) := hbw.size
  replace Xa : Hid _ := Xa.out.below hbn
  replace Xb : Hid _ := Xb.out.below hbn
  replace Xr : Hid _ := Xr.out.below hbn
  replace Xq : Hid _ := Xq.out.below hbn
  replace Z1 : Hid _ := Z1.out.below hbn
  replace Z2 : Hid _ := Z2.out.below hbn
  replace hbw := Below.on hbw hbn
  clear hbn
  generalize W6.heap.size = gt at *
  have Xt := Xt0
  clear Xt0
  obtain ⟨W8, hW8⟩ : ∃ W1, W1 = W7.drew := ⟨_, rfl⟩
  have hbd : Below W7.heap.size W7 W8 := by rw [hW8]; exact bDrew1 (Below.refl _ _)
  replace Xa : Hid _ := Xa.out.below hbd
  replace Xb : Hid _ := Xb.out.below hbd
  replace Xr : Hid _ := Xr.out.below hbd
  replace Xq : Hid _ := Xq.out.below hbd
  replace Xt : Hid _ := Xt.out.below hbd
  replace Z1 : Hid _ := Z1.out.below hbd
  replace Z2 : Hid _ := Z2.out.below hbd
  replace hbw := Below.on hbw hbd
  clear hbd
  have HJ : Hid ((fun W' : World => W'.cell? ⟨gt, 0, none⟩ = some (.bool s2) ∧ W'.cell? ⟨gt, 1, none⟩ = some (.slice (some ⟨g2, 0, none⟩) m2 m2) ∧ W'.cell? ⟨gb, 0, none⟩ = some (.bool false) ∧ W'.cell? ⟨gb, 1, none⟩ = some (.slice q n n)) W8) := ⟨Xt.out.c0, Xt.out.c1, Xb.out.c0, Xb.out.c1⟩
  refine wp_region_J (fun W' => W'.cell? ⟨gt, 0, none⟩ = some (.bool s2) ∧ W'.cell? ⟨gt, 1, none⟩ = some (.slice (some ⟨g2, 0, none⟩) m2 m2) ∧ W'.cell? ⟨gb, 0, none⟩ = some (.bool false) ∧ W'.cell? ⟨gb, 1, none⟩ = some (.slice q n n)) (by kernel_rfl) ?_
  rw [← hW8]
  clear hW8
  refine wpJ_take (i := 0) (v := ?v12x0) rfl (by kernel_rfl) (by kernel_rfl) (by kernel_rfl) (fun _ _ _ h => h) (by kernel_rfl) ?hy12x0 HJ.out ?rest12x0
  case hy12x0 => (intro W' hJ; obtain ⟨j0, j1, j2, j3⟩ := hJ; go_simp; first | done | with_reducible rfl)
  refine wpJ_take (i := 2) (v := ?v13x2) rfl (by kernel_rfl) (by kernel_rfl) (by kernel_rfl) (fun _ _ _ h => h) (by kernel_rfl) ?hy13x2 HJ.out ?rest13x2
  case hy13x2 => (intro W' hJ; obtain ⟨j0, j1, j2, j3⟩ := hJ; go_simp; first | done | with_reducible rfl)
  refine wpJ_one (i := 1) (by kernel_rfl) rfl (by kernel_rfl) (fun KJ hK => ?_)
  go_simp
  refine (rshl04 s2 Z2.out HL1.out.2 1 (.inl (by decide))).mono ?_
  rintro e v3 ⟨v, rfl, hv, hb3⟩
  obtain ⟨s3, g3, m3, rfl, hg3, hz3, hl3⟩ := hv
  have HN3 : Hid (W8.heap.size ≤ g3) := hg3
  have HB3 : Hid (W8.heap.size ≤ v3.heap.size) := hb3.size
  replace Xa : Hid _ := Xa.out.below hb3
  replace Xb : Hid _ := Xb.out.below hb3
  replace Xr : Hid _ := Xr.out.below hb3
  replace Xq : Hid _ := Xq.out.below hb3
  replace Xt : Hid _ := Xt.out.below hb3
  replace Z1 : Hid _ := Z1.out.below hb3
  replace Z2 : Hid _ := Z2.out.below hb3
  replace hbw := Below.on hbw hb3
  clear hb3
  have Z3 : Hid (ZR v3 s3 (some ⟨g3, 0, none⟩) m3 (rMo x y * 2 ^ 1)) := hz3
  have HL3 : Hid (m3 ≤ 40000) := hl3
  clear hz3 hl3 hg3
  refine hK _ _ ⟨Xt.out.c0, Xt.out.c1, Xb.out.c0, Xb.out.c1⟩ ?_
  clear hK
  refine wpJ_one (i := 3) (by kernel_rfl) rfl (by kernel_rfl) (fun KJ hK => ?_)
  go_simp
  refine (rcmp04 s3 false Z3.out (HA.out.2.below hbw) (by have := HL3.out; omega) (by have := HM.out; omega)).mono ?_
  rintro e v4 ⟨rfl, hb4⟩
  rw [HC.out]
  replace Xa : Hid _ := Xa.out.below hb4
  replace Xb : Hid _ := Xb.out.below hb4
  replace Xr : Hid _ := Xr.out.below hb4
  replace Xq : Hid _ := Xq.out.below hb4
  replace Xt : Hid _ := Xt.out.below hb4
  replace Z1 : Hid _ := Z1.out.below hb4
  replace Z2 : Hid _ := Z2.out.below hb4
  replace Z3 : Hid _ := Z3.out.below hb4
  replace hbw := Below.on hbw hb4
  clear hb4
  clear HJ
  have HJ : Hid ((fun W' : World => W'.cell? ⟨gt, 0, none⟩ = some (.bool s2) ∧ W'.cell? ⟨gt, 1, none⟩ = some (.slice (some ⟨g2, 0, none⟩) m2 m2) ∧ W'.cell? ⟨gb, 0, none⟩ = some (.bool false) ∧ W'.cell? ⟨gb, 1, none⟩ = some (.slice q n n)) v4) := ⟨Xt.out.c0, Xt.out.c1, Xb.out.c0, Xb.out.c1⟩
  refine hK _ _ HJ.out ?_
  clear hK
  refine wpJ_take (i := 4) (v := ?v14x4) rfl (by kernel_rfl) (by kernel_rfl) (by kernel_rfl) (fun _ _ _ h => h) (by kernel_rfl) ?hy14x4 HJ.out ?rest14x4
  case hy14x4 => (intro W' hJ; obtain ⟨j0, j1, j2, j3⟩ := hJ; go_simp; first | done | with_reducible rfl)
  refine wpJ_done (by kernel_rfl) ?_ _
  clear HJ
  obtain ⟨cq0, cq1, fq0, fq1⟩ := Xq.out
  have hneq := Xq.out.lt
  obtain ⟨cr0, cr1, fr0, fr1⟩ := Xr.out
  have hner := Xr.out.lt
  go_wp2_with fail
  refine bodyPost_ret (v := .agg #[.bool s1, .slice (some ⟨g1, 0, none⟩) m1 m1]) (by rw [results_cell1 rfl]; go_simp) rfl ⟨_, rfl, ⟨s1, g1, m1, rfl, HR1.out.2, ?_, Nat.le_succ_of_le HL1.out.1⟩, ?_⟩
  · have := HR1.out.1
    exact (Z1.out.set _ _ _ (by omega)).set _ _ _ (by omega)
  · exact bSet (bSet hbw _ _ _ HGr.out) _ _ _ HGr.out
theorem rnear04 {p q : Option Addr} {m n : Nat} {w : World} {x y : Int} (s : Bool) (h : ZR w s p m x) (k : ZR w false q n y) (hm : m ≤ 16384) (hn : n ≤ 40000) (hy : 0 < y) (L : Nat) (hrm : (rMo x y).natAbs < B32 ^ L) (hL : L ≤ 16384) :
    Calls Tryz.prog 119 #[.agg #[.bool s, .slice p m m], .agg #[.bool false, .slice q n n]] w fun e w' => ∃ v, e = .returned v ∧ GotR w.heap.size w' v (rNd x y) (20001) ∧ Below w.heap.size w w' := by
  rcases Int.lt_trichotomy (2 * rMo x y) y with h1 | h1 | h1
  · exact rnear04_l s h k hm hn hy L hrm hL h1
  · rcases Nat.mod_two_eq_zero_or_one (rFd x y).natAbs with h2 | h2
    · exact rnear04_e s h k hm hn hy L hrm hL ⟨h1, h2⟩
    · exact rnear04_o s h k hm hn hy L hrm hL ⟨h1, h2⟩
  · exact rnear04_g s h k hm hn hy L hrm hL h1
end Go.Proofs.YtgodajcnhipleaaGreatDoor

namespace Go.Proofs.YtgodajcnhipleaaGreatDoor
open Go.RowKit Go.Shelf

theorem rFd_flip {x y : Int} (hy : y < 0) : rFd (-x) (-y) = rFd x y := by
  unfold rFd
  rw [decide_eq_true hy, decide_eq_false (p := -y < 0) (by omega), Int.natAbs_neg, Int.natAbs_neg]
  by_cases h : x = 0
  · subst h; simp [fl, iv]
  · rw [show decide (-x < 0) = !decide (x < 0) from by by_cases h1 : x < 0 <;> simp [h1] <;> omega]
    simp
theorem ne_zero0 (s : Bool) (d : Nat) (hd : 0 < d) : ne s 0 d = 0 := by
  unfold ne neUp
  rw [Nat.zero_div, Nat.zero_mod]
  have h1 : decide (d < 2 * 0) = false := decide_eq_false (by omega)
  have h2 : decide (2 * 0 = d) = false := decide_eq_false (by omega)
  rw [h1, h2]
  cases s <;> rfl
theorem rNd_flip {x y : Int} (hy : y < 0) : rNd (-x) (-y) = rNd x y := by
  unfold rNd
  rw [decide_eq_true hy, decide_eq_false (p := -y < 0) (by omega), Int.natAbs_neg, Int.natAbs_neg]
  by_cases h : x = 0
  · subst h
    rw [Int.natAbs_zero, ne_zero0 _ _ (by omega), ne_zero0 _ _ (by omega)]
  · rw [show decide (-x < 0) = !decide (x < 0) from by by_cases h1 : x < 0 <;> simp [h1] <;> omega]
    simp
theorem rCd_flip {x y : Int} : -(rFd (-x) y) = rCd x y := by
  unfold rFd rCd
  by_cases h : x = 0
  · subst h; simp [fl, ce, iv]
  · rw [show decide (-x < 0) = !decide (x < 0) from by by_cases h1 : x < 0 <;> simp [h1] <;> omega, Int.natAbs_neg, show ((!decide (x < 0)) != decide (y < 0)) = !(decide (x < 0) != decide (y < 0)) from by cases decide (x < 0) <;> cases decide (y < 0) <;> rfl, fl_not, Int.neg_neg]
theorem rMo_eq {x y : Int} (hy : y ≠ 0) : x - y * rFd x y = rMo x y := by
  have h := fl_mo (decide (x < 0)) (decide (y < 0)) x.natAbs y.natAbs (by omega)
  rw [iv_abs, iv_abs] at h
  unfold rFd rMo
  rw [Int.mul_comm]
  omega
theorem rMo_lt {x y : Int} {n : Nat} (hy : 0 < y) (h : y.natAbs < B32 ^ n) : (rMo x y).natAbs < B32 ^ n := by
  refine Nat.lt_of_le_of_lt ?_ h
  have h1 := Nat.mod_lt x.natAbs (by omega : 0 < y.natAbs)
  unfold rMo mo
  rw [iv_natAbs]
  split <;> omega
theorem ZR.lt_pow {w : World} {s : Bool} {p : Option Addr} {m : Nat} {z : Int} (h : ZR w s p m z) : z.natAbs < B32 ^ m := by
  obtain ⟨zs, hA, hN⟩ := h.ex
  exact (hN.len_le B32_one (k := m)).1 (by rw [hA.len]; exact Nat.le_refl _)
set_option maxRecDepth 20000 in
set_option maxHeartbeats 8000000 in
theorem rfloordiv04_p {p q : Option Addr} {m n : Nat} {w : World} {x y : Int} (s : Bool) (h : ZR w s p m x) (k : ZR w false q n y) (hm : m ≤ 16384) (hn : n ≤ 16384) (hy : 0 < y) :
    Calls Tryz.prog 92 #[.agg #[.bool s, .slice p m m], .agg #[.bool false, .slice q n n]] w fun e w' => ∃ v, e = .returned v ∧ GotR w.heap.size w' v (rFd x y) (20001) ∧ Below w.heap.size w w' := by
  have HA : Hid (ZR w s p m x ∧ ZR w false q n y) := ⟨h, k⟩
  have HM : Hid (m ≤ 16384 ∧ n ≤ 16384 ∧ 0 < y) := ⟨hm, hn, hy⟩
  clear h k hm hn hy
  go_enter Tryz.func92, Tryz.ntmps92
  go_wp2_with fail
  obtain ⟨W0, hW0⟩ : ∃ W0, W0 = (((w.alloc (.cells #[.bool s, .slice p m m] 70)).alloc (.cells #[.bool false, .slice q n n] 70)).alloc (.cells #[.bool false, .slice none 0 0] 70)) := ⟨_, rfl⟩
  have Xa : Hid (Box W0 (w.heap.size) (.bool s) (.slice p m m)) := by rw [hW0]; exact ⟨by go_simp, by go_simp, by go_simp, by go_simp⟩
  have Xb : Hid (Box W0 (w.heap.size + 1) (.bool false) (.slice q n n)) := by rw [hW0]; exact ⟨by go_simp, by go_simp, by go_simp, by go_simp⟩
  have Xr : Hid (Box W0 (w.heap.size + 1 + 1) (.bool false) (.slice none 0 0)) := by rw [hW0]; exact ⟨by go_simp, by go_simp, by go_simp, by go_simp⟩
  have hb0 : Below w.heap.size w W0 := by rw [hW0]; exact below3 w _ _ _
  rw [← hW0]
  clear hW0
  have hbw : Below w.heap.size w w := Below.refl _ _
  obtain ⟨gr, hgr⟩ : ∃ g, g = w.heap.size + 1 + 1 := ⟨_, rfl⟩
  have HGr : Hid (w.heap.size ≤ gr) := by rw [hgr]; show _ ≤ _; omega
  rw [← hgr] at Xr
  try rw [← hgr]
  obtain ⟨gb, hgb⟩ : ∃ g, g = w.heap.size + 1 := ⟨_, rfl⟩
  have HGb : Hid (w.heap.size ≤ gb) := by rw [hgb]; show _ ≤ _; omega
  rw [← hgb] at Xb
  try rw [← hgb]
  obtain ⟨ga, hga⟩ : ∃ g, g = w.heap.size := ⟨_, rfl⟩
  have HGa : Hid (w.heap.size ≤ ga) := by rw [hga]; show _ ≤ _; omega
  rw [← hga] at Xa
  try rw [← hga]
  have HGD : Hid (ga ≠ gb ∧ ga ≠ gr ∧ gb ≠ ga ∧ gb ≠ gr ∧ gr ≠ ga ∧ gr ≠ gb) := by rw [hga, hgb, hgr]; exact ⟨by omega, by omega, by omega, by omega, by omega, by omega⟩
  clear hga hgb hgr
  replace hbw := Below.on hbw hb0
  clear hb0
  obtain ⟨ca0, ca1, fa0, fa1⟩ := Xa.out
  have hnea := Xa.out.lt
  obtain ⟨cb0, cb1, fb0, fb1⟩ := Xb.out
  have hneb := Xb.out.lt
  go_wp2_with fail
  clear ca0 ca1 fa0 fa1 hnea
  clear cb0 cb1 fb0 fb1 hneb
  refine (rfloor04 s (HA.out.1.below hbw) (HA.out.2.below hbw) HM.out.1 (Nat.le_trans HM.out.2.1 (by decide)) (by have := HM.out.2.2; omega)).mono ?_
  rintro e v1 ⟨s1, g1, m1, s2, g2, m2, rfl, hg1, hg2, hz1, hz2, hl1, hl2, hb1⟩
  have HR1 : Hid (gr < g1 ∧ w.heap.size ≤ g1) := ⟨Nat.lt_of_lt_of_le Xr.out.lt hg1, Nat.le_trans hbw.size hg1⟩
  replace Xa : Hid _ := Xa.out.below hb1
  replace Xb : Hid _ := Xb.out.below hb1
  replace Xr : Hid _ := Xr.out.below hb1
  replace hbw := Below.on hbw hb1
  clear hb1
  have Z1 : Hid (ZR v1 s1 (some ⟨g1, 0, none⟩) m1 (rFd (x) (y))) := hz1
  have HL1 : Hid (m1 ≤ 20001) := Nat.le_succ_of_le hl1
  clear hz1 hz2 hl1 hl2 hg1 hg2
  have HDR0 : Hid (gr ≠ v1.heap.size) := Nat.ne_of_lt Xr.out.lt
  have hq1 := HDR0.out
  have hq2 : v1.heap.size ≠ gr := fun h => hq1 h.symm
  obtain ⟨cr0, cr1, fr0, fr1⟩ := Xr.out
  have hner := Xr.out.lt
  go_wp2_with fail
  refine bodyPost_ret (v := .agg #[.bool s1, .slice (some ⟨g1, 0, none⟩) m1 m1]) (by rw [results_cell1 rfl]; go_simp) rfl ⟨_, rfl, ⟨s1, g1, m1, rfl, HR1.out.2, ?_, HL1.out⟩, ?_⟩
  · clear hq1 hq2
    have := HR1.out.1
    exact ((Z1.out.set _ _ _ (by omega)).set _ _ _ (by omega)).below (below2 _ _ _)
  · exact Below.on (bSet (bSet hbw _ _ _ HGr.out) _ _ _ HGr.out) (below2 _ _ _)
set_option maxRecDepth 20000 in
set_option maxHeartbeats 8000000 in
theorem rfloordiv04_n {p q : Option Addr} {m n : Nat} {w : World} {x y : Int} (s : Bool) (h : ZR w s p m x) (k : ZR w true q n y) (hm : m ≤ 16384) (hn : n ≤ 16384) (hy : y < 0) :
    Calls Tryz.prog 92 #[.agg #[.bool s, .slice p m m], .agg #[.bool true, .slice q n n]] w fun e w' => ∃ v, e = .returned v ∧ GotR w.heap.size w' v (rFd x y) (20001) ∧ Below w.heap.size w w' := by
  rw [← rFd_flip hy]
  have HA : Hid (ZR w s p m x ∧ ZR w true q n y) := ⟨h, k⟩
  have HM : Hid (m ≤ 16384 ∧ n ≤ 16384 ∧ y < 0) := ⟨hm, hn, hy⟩
  clear h k hm hn hy
  go_enter Tryz.func92, Tryz.ntmps92
  go_wp2_with fail
  obtain ⟨W0, hW0⟩ : ∃ W0, W0 = (((w.alloc (.cells #[.bool s, .slice p m m] 70)).alloc (.cells #[.bool true, .slice q n n] 70)).alloc (.cells #[.bool false, .slice none 0 0] 70)) := ⟨_, rfl⟩
  have Xa : Hid (Box W0 (w.heap.size) (.bool s) (.slice p m m)) := by rw [hW0]; exact ⟨by go_simp, by go_simp, by go_simp, by go_simp⟩
  have Xb : Hid (Box W0 (w.heap.size + 1) (.bool true) (.slice q n n)) := by rw [hW0]; exact ⟨by go_simp, by go_simp, by go_simp, by go_simp⟩
  have Xr : Hid (Box W0 (w.heap.size + 1 + 1) (.bool false) (.slice none 0 0)) := by rw [hW0]; exact ⟨by go_simp, by go_simp, by go_simp, by go_simp⟩
  have hb0 : Below w.heap.size w W0 := by rw [hW0]; exact below3 w _ _ _
  rw [← hW0]
  clear hW0
  have hbw : Below w.heap.size w w := Below.refl _ _
  obtain ⟨gr, hgr⟩ : ∃ g, g = w.heap.size + 1 + 1 := ⟨_, rfl⟩
  have HGr : Hid (w.heap.size ≤ gr) := by rw [hgr]; show _ ≤ _; omega
  rw [← hgr] at Xr
  try rw [← hgr]
  obtain ⟨gb, hgb⟩ : ∃ g, g = w.heap.size + 1 := ⟨_, rfl⟩
  have HGb : Hid (w.heap.size ≤ gb) := by rw [hgb]; show _ ≤ _; omega
  rw [← hgb] at Xb
  try rw [← hgb]
  obtain ⟨ga, hga⟩ : ∃ g, g = w.heap.size := ⟨_, rfl⟩
  have HGa : Hid (w.heap.size ≤ ga) := by rw [hga]; show _ ≤ _; omega
  rw [← hga] at Xa
  try rw [← hga]
  have HGD : Hid (ga ≠ gb ∧ ga ≠ gr ∧ gb ≠ ga ∧ gb ≠ gr ∧ gr ≠ ga ∧ gr ≠ gb) := by rw [hga, hgb, hgr]; exact ⟨by omega, by omega, by omega, by omega, by omega, by omega⟩
  clear hga hgb hgr
  replace hbw := Below.on hbw hb0
  clear hb0
  obtain ⟨W1, hW1⟩ : ∃ W1, W1 = W0.drew := ⟨_, rfl⟩
  have hbd : Below W0.heap.size W0 W1 := by rw [hW1]; exact bDrew1 (Below.refl _ _)
  replace Xa : Hid _ := Xa.out.below hbd
  replace Xb : Hid _ := Xb.out.below hbd
  replace Xr : Hid _ := Xr.out.below hbd
  replace hbw := Below.on hbw hbd
  clear hbd
  refine wp_region_J (fun _ => True) (by kernel_rfl) ?_
  rw [← hW1]
  clear hW1
  refine wpJ_cutA (fun a0 a' W' => ∃ s3 g3 m3 s4 g4 m4, a' = (((a0.put (some 9) (.agg #[.bool s, .slice p m m])).put (some 10) (.agg #[.bool s3, .slice (some ⟨g3, 0, none⟩) m3 m3])).put (some 11) (.agg #[.bool true, .slice q n n])).put (some 12) (.agg #[.bool s4, .slice (some ⟨g4, 0, none⟩) m4 m4]) ∧ Box W' ga (.bool s3) (.slice (some ⟨g3, 0, none⟩) m3 m3) ∧ Box W' gb (.bool s4) (.slice (some ⟨g4, 0, none⟩) m4 m4) ∧ Box W' gr (.bool false) (.slice none 0 0) ∧ ZR W' s3 (some ⟨g3, 0, none⟩) m3 (-x) ∧ ZR W' s4 (some ⟨g4, 0, none⟩) m4 (-y) ∧ m3 ≤ 16384 ∧ m4 ≤ 16384 ∧ Below w.heap.size w W') ?_ ?_
  · rintro a' Wc ⟨s3, g3, m3, s4, g4, m4, rfl, xa, xb, xr, z3, z4, l3, l4, hbc⟩
    have hs4 : s4 = false := by rw [z4.sg]; exact decide_eq_false (by have := HM.out.2.2; omega)
    subst hs4
    have Ca : Hid (Box Wc ga (.bool s3) (.slice (some ⟨g3, 0, none⟩) m3 m3)) := xa
    have Cb : Hid (Box Wc gb (.bool false) (.slice (some ⟨g4, 0, none⟩) m4 m4)) := xb
    have Cr : Hid (Box Wc gr (.bool false) (.slice none 0 0)) := xr
    have Z3 : Hid (ZR Wc s3 (some ⟨g3, 0, none⟩) m3 (-x)) := z3
    have Z4 : Hid (ZR Wc false (some ⟨g4, 0, none⟩) m4 (-y)) := z4
    have HL3 : Hid (m3 ≤ 16384 ∧ m4 ≤ 16384) := ⟨l3, l4⟩
    clear Xa Xb Xr hbw xa xb xr z3 z4 l3 l4
    have Xa := Ca
    have Xb := Cb
    have Xr := Cr
    have hbw := hbc
    clear Ca Cb Cr hbc
    obtain ⟨ca0, ca1, fa0, fa1⟩ := Xa.out
    have hnea := Xa.out.lt
    obtain ⟨cb0, cb1, fb0, fb1⟩ := Xb.out
    have hneb := Xb.out.lt
    go_wp2_with fail
    clear ca0 ca1 fa0 fa1 hnea
    clear cb0 cb1 fb0 fb1 hneb
    refine (rfloor04 s3 Z3.out Z4.out HL3.out.1 (Nat.le_trans HL3.out.2 (by decide)) (by have := HM.out.2.2; omega)).mono ?_
    rintro e v1 ⟨s1, g1, m1, s2, g2, m2, rfl, hg1, hg2, hz1, hz2, hl1, hl2, hb1⟩
    have HR1 : Hid (gr < g1 ∧ w.heap.size ≤ g1) := ⟨Nat.lt_of_lt_of_le Xr.out.lt hg1, Nat.le_trans hbw.size hg1⟩
    replace Xa : Hid _ := Xa.out.below hb1
    replace Xb : Hid _ := Xb.out.below hb1
    replace Xr : Hid _ := Xr.out.below hb1
    replace Z3 : Hid _ := Z3.out.below hb1
    replace Z4 : Hid _ := Z4.out.below hb1
    replace hbw := Below.on hbw hb1
    clear hb1
    have Z1 : Hid (ZR v1 s1 (some ⟨g1, 0, none⟩) m1 (rFd (-x) (-y))) := hz1
    have HL1 : Hid (m1 ≤ 20001) := Nat.le_succ_of_le hl1
    clear hz1 hz2 hl1 hl2 hg1 hg2
    have HDR0 : Hid (gr ≠ v1.heap.size) := Nat.ne_of_lt Xr.out.lt
    have hq1 := HDR0.out
    have hq2 : v1.heap.size ≠ gr := fun h => hq1 h.symm
    obtain ⟨cr0, cr1, fr0, fr1⟩ := Xr.out
    have hner := Xr.out.lt
    go_wp2_with fail
    refine bodyPost_ret (v := .agg #[.bool s1, .slice (some ⟨g1, 0, none⟩) m1 m1]) (by rw [results_cell1 rfl]; go_simp) rfl ⟨_, rfl, ⟨s1, g1, m1, rfl, HR1.out.2, ?_, HL1.out⟩, ?_⟩
    · clear hq1 hq2
      have := HR1.out.1
      exact ((Z1.out.set _ _ _ (by omega)).set _ _ _ (by omega)).below (below2 _ _ _)
    · exact Below.on (bSet (bSet hbw _ _ _ HGr.out) _ _ _ HGr.out) (below2 _ _ _)
  · skip
    refine wpJ_two (i := 0) (k := 2) (by kernel_rfl) rfl rfl (by kernel_rfl) (by kernel_rfl) (fun KJ hK => ?_) (fun KJ hK => ?_)
    · skip
      obtain ⟨ca0, ca1, fa0, fa1⟩ := Xa.out
      have hnea := Xa.out.lt
      go_simp
      refine hK _ _ trivial ?_
      clear hK
      clear ca0 ca1 fa0 fa1 hnea
      refine wpJ_two (i := 1) (k := 2) (by kernel_rfl) rfl rfl (by kernel_rfl) (by kernel_rfl) (fun KJ hK => ?_) (fun KJ hK => ?_)
      · skip
        go_simp
        refine (rflip_any s (HA.out.1.below hbw) (by have := HM.out; omega)).mono ?_
        rintro e v3 ⟨v, rfl, hv, hb3⟩
        obtain ⟨s3, g3, m3, rfl, hg3, hz3, hl3⟩ := hv
        have HG3 : Hid (ga < g3 ∧ gb < g3) := ⟨Nat.lt_of_lt_of_le Xa.out.lt hg3, Nat.lt_of_lt_of_le Xb.out.lt hg3⟩
        replace Xa : Hid _ := Xa.out.below hb3
        replace Xb : Hid _ := Xb.out.below hb3
        replace Xr : Hid _ := Xr.out.below hb3
        replace hbw := Below.on hbw hb3
        clear hb3
        have Z3 : Hid (ZR v3 s3 (some ⟨g3, 0, none⟩) m3 (-x)) := hz3
        have HL3 : Hid (m3 ≤ 16384) := by have := HM.out; show m3 ≤ _; omega
        clear hz3 hl3 hg3
        refine hK _ _ trivial ?_
        clear hK
        obtain ⟨cb0, cb1, fb0, fb1⟩ := Xb.out
        have hneb := Xb.out.lt
        refine wpJ_one (i := 2) (by kernel_rfl) rfl (by kernel_rfl) (fun KJ hK => ?_)
        go_simp
        refine hK _ _ trivial ?_
        clear hK
        clear cb0 cb1 fb0 fb1 hneb
        refine wpJ_one (i := 3) (by kernel_rfl) rfl (by kernel_rfl) (fun KJ hK => ?_)
        go_simp
        refine (rflip_any true (HA.out.2.below hbw) (by have := HM.out; omega)).mono ?_
        rintro e v4 ⟨v, rfl, hv, hb4⟩
        obtain ⟨s4, g4, m4, rfl, hg4, hz4, hl4⟩ := hv
        have HG4 : Hid (ga < g4 ∧ gb < g4) := ⟨Nat.lt_of_lt_of_le Xa.out.lt hg4, Nat.lt_of_lt_of_le Xb.out.lt hg4⟩
        replace Xa : Hid _ := Xa.out.below hb4
        replace Xb : Hid _ := Xb.out.below hb4
        replace Xr : Hid _ := Xr.out.below hb4
        replace Z3 : Hid _ := Z3.out.below hb4
        replace hbw := Below.on hbw hb4
        clear hb4
        have Z4 : Hid (ZR v4 s4 (some ⟨g4, 0, none⟩) m4 (-y)) := hz4
        have HL4 : Hid (m4 ≤ 16384) := by have := HM.out; show m4 ≤ _; omega
        clear hz4 hl4 hg4
        refine hK _ _ trivial ?_
        clear hK
        obtain ⟨ca0, ca1, fa0, fa1⟩ := Xa.out
        have hnea := Xa.out.lt
        obtain ⟨cb0, cb1, fb0, fb1⟩ := Xb.out
        have hneb := Xb.out.lt
        obtain ⟨cr0, cr1, fr0, fr1⟩ := Xr.out
        have hner := Xr.out.lt
        obtain ⟨hgd0, hgd1, hgd2, hgd3, hgd4, hgd5⟩ := HGD.out
        refine wpJ_one (i := 4) (by kernel_rfl) rfl (by kernel_rfl) (fun KJ hK => ?_)
        go_simp
        have Xa2 : Hid (Box ((v4.setCell ⟨ga, 0, none⟩ (.bool s3)).setCell ⟨ga, 1, none⟩ (.slice (some ⟨g3, 0, none⟩) m3 m3)) ga (.bool s3) (.slice (some ⟨g3, 0, none⟩) m3 m3)) := ⟨by go_simp, by go_simp, by go_simp, by go_simp⟩
        have Xb2 : Hid (Box ((v4.setCell ⟨ga, 0, none⟩ (.bool s3)).setCell ⟨ga, 1, none⟩ (.slice (some ⟨g3, 0, none⟩) m3 m3)) gb (.bool true) (.slice q n n)) := ⟨by go_simp, by go_simp, by go_simp, by go_simp⟩
        have Xr2 : Hid (Box ((v4.setCell ⟨ga, 0, none⟩ (.bool s3)).setCell ⟨ga, 1, none⟩ (.slice (some ⟨g3, 0, none⟩) m3 m3)) gr (.bool false) (.slice none 0 0)) := ⟨by go_simp, by go_simp, by go_simp, by go_simp⟩
        clear hgd0 hgd1 hgd2 hgd3 hgd4 hgd5
        have Z32 : Hid (ZR ((v4.setCell ⟨ga, 0, none⟩ (.bool s3)).setCell ⟨ga, 1, none⟩ (.slice (some ⟨g3, 0, none⟩) m3 m3)) s3 (some ⟨g3, 0, none⟩) m3 (-x)) := (Z3.out.set _ _ _ (Nat.ne_of_gt HG3.out.1)).set _ _ _ (Nat.ne_of_gt HG3.out.1)
        have Z42 : Hid (ZR ((v4.setCell ⟨ga, 0, none⟩ (.bool s3)).setCell ⟨ga, 1, none⟩ (.slice (some ⟨g3, 0, none⟩) m3 m3)) s4 (some ⟨g4, 0, none⟩) m4 (-y)) := (Z4.out.set _ _ _ (Nat.ne_of_gt HG4.out.1)).set _ _ _ (Nat.ne_of_gt HG4.out.1)
        have hbw2 : Below w.heap.size w ((v4.setCell ⟨ga, 0, none⟩ (.bool s3)).setCell ⟨ga, 1, none⟩ (.slice (some ⟨g3, 0, none⟩) m3 m3)) := bSet (bSet hbw _ _ _ HGa.out) _ _ _ HGa.out
        refine hK _ _ trivial ?_
        clear hK
        clear ca0 ca1 fa0 fa1 hnea
        clear cb0 cb1 fb0 fb1 hneb
        clear cr0 cr1 fr0 fr1 hner
        clear hbw Z3 Z4 Xa Xb Xr
        generalize ((v4.setCell ⟨ga, 0, none⟩ (.bool s3)).setCell ⟨ga, 1, none⟩ (.slice (some ⟨g3, 0, none⟩) m3 m3)) = Wa at *
        have hbw := hbw2
        have Z3 := Z32
        have Z4 := Z42
        have Xa := Xa2
        have Xb := Xb2
        have Xr := Xr2
        clear hbw2 Z32 Z42 Xa2 Xb2 Xr2
        obtain ⟨cb0, cb1, fb0, fb1⟩ := Xb.out
        have hneb := Xb.out.lt
        obtain ⟨ca0, ca1, fa0, fa1⟩ := Xa.out
        have hnea := Xa.out.lt
        obtain ⟨cr0, cr1, fr0, fr1⟩ := Xr.out
        have hner := Xr.out.lt
        obtain ⟨hgd0, hgd1, hgd2, hgd3, hgd4, hgd5⟩ := HGD.out
        refine wpJ_one (i := 5) (by kernel_rfl) rfl (by kernel_rfl) (fun KJ hK => ?_)
        go_simp
        have Xb2 : Hid (Box ((Wa.setCell ⟨gb, 0, none⟩ (.bool s4)).setCell ⟨gb, 1, none⟩ (.slice (some ⟨g4, 0, none⟩) m4 m4)) gb (.bool s4) (.slice (some ⟨g4, 0, none⟩) m4 m4)) := ⟨by go_simp, by go_simp, by go_simp, by go_simp⟩
        have Xa2 : Hid (Box ((Wa.setCell ⟨gb, 0, none⟩ (.bool s4)).setCell ⟨gb, 1, none⟩ (.slice (some ⟨g4, 0, none⟩) m4 m4)) ga (.bool s3) (.slice (some ⟨g3, 0, none⟩) m3 m3)) := ⟨by go_simp, by go_simp, by go_simp, by go_simp⟩
        have Xr2 : Hid (Box ((Wa.setCell ⟨gb, 0, none⟩ (.bool s4)).setCell ⟨gb, 1, none⟩ (.slice (some ⟨g4, 0, none⟩) m4 m4)) gr (.bool false) (.slice none 0 0)) := ⟨by go_simp, by go_simp, by go_simp, by go_simp⟩
        clear hgd0 hgd1 hgd2 hgd3 hgd4 hgd5
        have Z32 : Hid (ZR ((Wa.setCell ⟨gb, 0, none⟩ (.bool s4)).setCell ⟨gb, 1, none⟩ (.slice (some ⟨g4, 0, none⟩) m4 m4)) s3 (some ⟨g3, 0, none⟩) m3 (-x)) := (Z3.out.set _ _ _ (Nat.ne_of_gt HG3.out.2)).set _ _ _ (Nat.ne_of_gt HG3.out.2)
        have Z42 : Hid (ZR ((Wa.setCell ⟨gb, 0, none⟩ (.bool s4)).setCell ⟨gb, 1, none⟩ (.slice (some ⟨g4, 0, none⟩) m4 m4)) s4 (some ⟨g4, 0, none⟩) m4 (-y)) := (Z4.out.set _ _ _ (Nat.ne_of_gt HG4.out.2)).set _ _ _ (Nat.ne_of_gt HG4.out.2)
        have hbw2 : Below w.heap.size w ((Wa.setCell ⟨gb, 0, none⟩ (.bool s4)).setCell ⟨gb, 1, none⟩ (.slice (some ⟨g4, 0, none⟩) m4 m4)) := bSet (bSet hbw _ _ _ HGb.out) _ _ _ HGb.out
        refine hK _ _ trivial ?_
        clear hK
        clear cb0 cb1 fb0 fb1 hneb
        clear ca0 ca1 fa0 fa1 hnea
        clear cr0 cr1 fr0 fr1 hner
        clear hbw Z3 Z4 Xa Xb Xr
        generalize ((Wa.setCell ⟨gb, 0, none⟩ (.bool s4)).setCell ⟨gb, 1, none⟩ (.slice (some ⟨g4, 0, none⟩) m4 m4)) = Wb at *
        have hbw := hbw2
        have Z3 := Z32
        have Z4 := Z42
        have Xa := Xa2
        have Xb := Xb2
        have Xr := Xr2
        clear hbw2 Z32 Z42 Xa2 Xb2 Xr2
        refine wpJ_done (by kernel_rfl) ?_ _
        exact ⟨rfl, s3, g3, m3, s4, g4, m4, by kernel_rfl, Xa.out, Xb.out, Xr.out, Z3.out, Z4.out, HL3.out, HL4.out, hbw⟩
      · skip
        obtain ⟨cb0, cb1, fb0, fb1⟩ := Xb.out
        have hneb := Xb.out.lt
        go_simp
        refine hK _ _ trivial ?_
        clear hK
        clear cb0 cb1 fb0 fb1 hneb
        refine wpJ_one (i := 1) (by kernel_rfl) rfl (by kernel_rfl) (fun KJ hK => ?_)
        go_simp
        refine (rflip_any s (HA.out.1.below hbw) (by have := HM.out; omega)).mono ?_
        rintro e v3 ⟨v, rfl, hv, hb3⟩
        obtain ⟨s3, g3, m3, rfl, hg3, hz3, hl3⟩ := hv
        have HG3 : Hid (ga < g3 ∧ gb < g3) := ⟨Nat.lt_of_lt_of_le Xa.out.lt hg3, Nat.lt_of_lt_of_le Xb.out.lt hg3⟩
        replace Xa : Hid _ := Xa.out.below hb3
        replace Xb : Hid _ := Xb.out.below hb3
        replace Xr : Hid _ := Xr.out.below hb3
        replace hbw := Below.on hbw hb3
        clear hb3
        have Z3 : Hid (ZR v3 s3 (some ⟨g3, 0, none⟩) m3 (-x)) := hz3
        have HL3 : Hid (m3 ≤ 16384) := by have := HM.out; show m3 ≤ _; omega
        clear hz3 hl3 hg3
        refine hK _ _ trivial ?_
        clear hK
        refine wpJ_one (i := 3) (by kernel_rfl) rfl (by kernel_rfl) (fun KJ hK => ?_)
        go_simp
        refine (rflip_any true (HA.out.2.below hbw) (by have := HM.out; omega)).mono ?_
        rintro e v4 ⟨v, rfl, hv, hb4⟩
        obtain ⟨s4, g4, m4, rfl, hg4, hz4, hl4⟩ := hv
        have HG4 : Hid (ga < g4 ∧ gb < g4) := ⟨Nat.lt_of_lt_of_le Xa.out.lt hg4, Nat.lt_of_lt_of_le Xb.out.lt hg4⟩
        replace Xa : Hid _ := Xa.out.below hb4
        replace Xb : Hid _ := Xb.out.below hb4
        replace Xr : Hid _ := Xr.out.below hb4
        replace Z3 : Hid _ := Z3.out.below hb4
        replace hbw := Below.on hbw hb4
        clear hb4
        have Z4 : Hid (ZR v4 s4 (some ⟨g4, 0, none⟩) m4 (-y)) := hz4
        have HL4 : Hid (m4 ≤ 16384) := by have := HM.out; show m4 ≤ _; omega
        clear hz4 hl4 hg4
        refine hK _ _ trivial ?_
        clear hK
        obtain ⟨ca0, ca1, fa0, fa1⟩ := Xa.out
        have hnea := Xa.out.lt
        obtain ⟨cb0, cb1, fb0, fb1⟩ := Xb.out
        have hneb := Xb.out.lt
        obtain ⟨cr0, cr1, fr0, fr1⟩ := Xr.out
        have hner := Xr.out.lt
        obtain ⟨hgd0, hgd1, hgd2, hgd3, hgd4, hgd5⟩ := HGD.out
        refine wpJ_one (i := 4) (by kernel_rfl) rfl (by kernel_rfl) (fun KJ hK => ?_)
        go_simp
        have Xa2 : Hid (Box ((v4.setCell ⟨ga, 0, none⟩ (.bool s3)).setCell ⟨ga, 1, none⟩ (.slice (some ⟨g3, 0, none⟩) m3 m3)) ga (.bool s3) (.slice (some ⟨g3, 0, none⟩) m3 m3)) := ⟨by go_simp, by go_simp, by go_simp, by go_simp⟩
        have Xb2 : Hid (Box ((v4.setCell ⟨ga, 0, none⟩ (.bool s3)).setCell ⟨ga, 1, none⟩ (.slice (some ⟨g3, 0, none⟩) m3 m3)) gb (.bool true) (.slice q n n)) := ⟨by go_simp, by go_simp, by go_simp, by go_simp⟩
        have Xr2 : Hid (Box ((v4.setCell ⟨ga, 0, none⟩ (.bool s3)).setCell ⟨ga, 1, none⟩ (.slice (some ⟨g3, 0, none⟩) m3 m3)) gr (.bool false) (.slice none 0 0)) := ⟨by go_simp, by go_simp, by go_simp, by go_simp⟩
        clear hgd0 hgd1 hgd2 hgd3 hgd4 hgd5
        have Z32 : Hid (ZR ((v4.setCell ⟨ga, 0, none⟩ (.bool s3)).setCell ⟨ga, 1, none⟩ (.slice (some ⟨g3, 0, none⟩) m3 m3)) s3 (some ⟨g3, 0, none⟩) m3 (-x)) := (Z3.out.set _ _ _ (Nat.ne_of_gt HG3.out.1)).set _ _ _ (Nat.ne_of_gt HG3.out.1)
        have Z42 : Hid (ZR ((v4.setCell ⟨ga, 0, none⟩ (.bool s3)).setCell ⟨ga, 1, none⟩ (.slice (some ⟨g3, 0, none⟩) m3 m3)) s4 (some ⟨g4, 0, none⟩) m4 (-y)) := (Z4.out.set _ _ _ (Nat.ne_of_gt HG4.out.1)).set _ _ _ (Nat.ne_of_gt HG4.out.1)
        have hbw2 : Below w.heap.size w ((v4.setCell ⟨ga, 0, none⟩ (.bool s3)).setCell ⟨ga, 1, none⟩ (.slice (some ⟨g3, 0, none⟩) m3 m3)) := bSet (bSet hbw _ _ _ HGa.out) _ _ _ HGa.out
        refine hK _ _ trivial ?_
        clear hK
        clear ca0 ca1 fa0 fa1 hnea
        clear cb0 cb1 fb0 fb1 hneb
        clear cr0 cr1 fr0 fr1 hner
        clear hbw Z3 Z4 Xa Xb Xr
        generalize ((v4.setCell ⟨ga, 0, none⟩ (.bool s3)).setCell ⟨ga, 1, none⟩ (.slice (some ⟨g3, 0, none⟩) m3 m3)) = Wa at *
        have hbw := hbw2
        have Z3 := Z32
        have Z4 := Z42
        have Xa := Xa2
        have Xb := Xb2
        have Xr := Xr2
        clear hbw2 Z32 Z42 Xa2 Xb2 Xr2
        obtain ⟨cb0, cb1, fb0, fb1⟩ := Xb.out
        have hneb := Xb.out.lt
        obtain ⟨ca0, ca1, fa0, fa1⟩ := Xa.out
        have hnea := Xa.out.lt
        obtain ⟨cr0, cr1, fr0, fr1⟩ := Xr.out
        have hner := Xr.out.lt
        obtain ⟨hgd0, hgd1, hgd2, hgd3, hgd4, hgd5⟩ := HGD.out
        refine wpJ_one (i := 5) (by kernel_rfl) rfl (by kernel_rfl) (fun KJ hK => ?_)
        go_simp
        have Xb2 : Hid (Box ((Wa.setCell ⟨gb, 0, none⟩ (.bool s4)).setCell ⟨gb, 1, none⟩ (.slice (some ⟨g4, 0, none⟩) m4 m4)) gb (.bool s4) (.slice (some ⟨g4, 0, none⟩) m4 m4)) := ⟨by go_simp, by go_simp, by go_simp, by go_simp⟩
        have Xa2 : Hid (Box ((Wa.setCell ⟨gb, 0, none⟩ (.bool s4)).setCell ⟨gb, 1, none⟩ (.slice (some ⟨g4, 0, none⟩) m4 m4)) ga (.bool s3) (.slice (some ⟨g3, 0, none⟩) m3 m3)) := ⟨by go_simp, by go_simp, by go_simp, by go_simp⟩
        have Xr2 : Hid (Box ((Wa.setCell ⟨gb, 0, none⟩ (.bool s4)).setCell ⟨gb, 1, none⟩ (.slice (some ⟨g4, 0, none⟩) m4 m4)) gr (.bool false) (.slice none 0 0)) := ⟨by go_simp, by go_simp, by go_simp, by go_simp⟩
        clear hgd0 hgd1 hgd2 hgd3 hgd4 hgd5
        have Z32 : Hid (ZR ((Wa.setCell ⟨gb, 0, none⟩ (.bool s4)).setCell ⟨gb, 1, none⟩ (.slice (some ⟨g4, 0, none⟩) m4 m4)) s3 (some ⟨g3, 0, none⟩) m3 (-x)) := (Z3.out.set _ _ _ (Nat.ne_of_gt HG3.out.2)).set _ _ _ (Nat.ne_of_gt HG3.out.2)
        have Z42 : Hid (ZR ((Wa.setCell ⟨gb, 0, none⟩ (.bool s4)).setCell ⟨gb, 1, none⟩ (.slice (some ⟨g4, 0, none⟩) m4 m4)) s4 (some ⟨g4, 0, none⟩) m4 (-y)) := (Z4.out.set _ _ _ (Nat.ne_of_gt HG4.out.2)).set _ _ _ (Nat.ne_of_gt HG4.out.2)
        have hbw2 : Below w.heap.size w ((Wa.setCell ⟨gb, 0, none⟩ (.bool s4)).setCell ⟨gb, 1, none⟩ (.slice (some ⟨g4, 0, none⟩) m4 m4)) := bSet (bSet hbw _ _ _ HGb.out) _ _ _ HGb.out
        refine hK _ _ trivial ?_
        clear hK
        clear cb0 cb1 fb0 fb1 hneb
        clear ca0 ca1 fa0 fa1 hnea
        clear cr0 cr1 fr0 fr1 hner
        clear hbw Z3 Z4 Xa Xb Xr
        generalize ((Wa.setCell ⟨gb, 0, none⟩ (.bool s4)).setCell ⟨gb, 1, none⟩ (.slice (some ⟨g4, 0, none⟩) m4 m4)) = Wb at *
        have hbw := hbw2
        have Z3 := Z32
        have Z4 := Z42
        have Xa := Xa2
        have Xb := Xb2
        have Xr := Xr2
        clear hbw2 Z32 Z42 Xa2 Xb2 Xr2
        refine wpJ_done (by kernel_rfl) ?_ _
        exact ⟨rfl, s3, g3, m3, s4, g4, m4, by kernel_rfl, Xa.out, Xb.out, Xr.out, Z3.out, Z4.out, HL3.out, HL4.out, hbw⟩
    · skip
      obtain ⟨cb0, cb1, fb0, fb1⟩ := Xb.out
      have hneb := Xb.out.lt
      go_simp
      refine hK _ _ trivial ?_
      clear hK
      clear cb0 cb1 fb0 fb1 hneb
      obtain ⟨ca0, ca1, fa0, fa1⟩ := Xa.out
      have hnea := Xa.out.lt
      refine wpJ_one (i := 0) (by kernel_rfl) rfl (by kernel_rfl) (fun KJ hK => ?_)
      go_simp
      refine hK _ _ trivial ?_
      clear hK
      clear ca0 ca1 fa0 fa1 hnea
      refine wpJ_one (i := 1) (by kernel_rfl) rfl (by kernel_rfl) (fun KJ hK => ?_)
      go_simp
      refine (rflip_any s (HA.out.1.below hbw) (by have := HM.out; omega)).mono ?_
      rintro e v3 ⟨v, rfl, hv, hb3⟩
      obtain ⟨s3, g3, m3, rfl, hg3, hz3, hl3⟩ := hv
      have HG3 : Hid (ga < g3 ∧ gb < g3) := ⟨Nat.lt_of_lt_of_le Xa.out.lt hg3, Nat.lt_of_lt_of_le Xb.out.lt hg3⟩
      replace Xa : Hid _ := Xa.out.below hb3
      replace Xb : Hid _ := Xb.out.below hb3
      replace Xr : Hid _ := Xr.out.below hb3
      replace hbw := Below.on hbw hb3
      clear hb3
      have Z3 : Hid (ZR v3 s3 (some ⟨g3, 0, none⟩) m3 (-x)) := hz3
      have HL3 : Hid (m3 ≤ 16384) := by have := HM.out; show m3 ≤ _; omega
      clear hz3 hl3 hg3
      refine hK _ _ trivial ?_
      clear hK
      refine wpJ_one (i := 3) (by kernel_rfl) rfl (by kernel_rfl) (fun KJ hK => ?_)
      go_simp
      refine (rflip_any true (HA.out.2.below hbw) (by have := HM.out; omega)).mono ?_
      rintro e v4 ⟨v, rfl, hv, hb4⟩
      obtain ⟨s4, g4, m4, rfl, hg4, hz4, hl4⟩ := hv
      have HG4 : Hid (ga < g4 ∧ gb < g4) := ⟨Nat.lt_of_lt_of_le Xa.out.lt hg4, Nat.lt_of_lt_of_le Xb.out.lt hg4⟩
      replace Xa : Hid _ := Xa.out.below hb4
      replace Xb : Hid _ := Xb.out.below hb4
      replace Xr : Hid _ := Xr.out.below hb4
      replace Z3 : Hid _ := Z3.out.below hb4
      replace hbw := Below.on hbw hb4
      clear hb4
      have Z4 : Hid (ZR v4 s4 (some ⟨g4, 0, none⟩) m4 (-y)) := hz4
      have HL4 : Hid (m4 ≤ 16384) := by have := HM.out; show m4 ≤ _; omega
      clear hz4 hl4 hg4
      refine hK _ _ trivial ?_
      clear hK
      obtain ⟨ca0, ca1, fa0, fa1⟩ := Xa.out
      have hnea := Xa.out.lt
      obtain ⟨cb0, cb1, fb0, fb1⟩ := Xb.out
      have hneb := Xb.out.lt
      obtain ⟨cr0, cr1, fr0, fr1⟩ := Xr.out
      have hner := Xr.out.lt
      obtain ⟨hgd0, hgd1, hgd2, hgd3, hgd4, hgd5⟩ := HGD.out
      refine wpJ_one (i := 4) (by kernel_rfl) rfl (by kernel_rfl) (fun KJ hK => ?_)
      go_simp
      have Xa2 : Hid (Box ((v4.setCell ⟨ga, 0, none⟩ (.bool s3)).setCell ⟨ga, 1, none⟩ (.slice (some ⟨g3, 0, none⟩) m3 m3)) ga (.bool s3) (.slice (some ⟨g3, 0, none⟩) m3 m3)) := ⟨by go_simp, by go_simp, by go_simp, by go_simp⟩
      have Xb2 : Hid (Box ((v4.setCell ⟨ga, 0, none⟩ (.bool s3)).setCell ⟨ga, 1, none⟩ (.slice (some ⟨g3, 0, none⟩) m3 m3)) gb (.bool true) (.slice q n n)) := ⟨by go_simp, by go_simp, by go_simp, by go_simp⟩
      have Xr2 : Hid (Box ((v4.setCell ⟨ga, 0, none⟩ (.bool s3)).setCell ⟨ga, 1, none⟩ (.slice (some ⟨g3, 0, none⟩) m3 m3)) gr (.bool false) (.slice none 0 0)) := ⟨by go_simp, by go_simp, by go_simp, by go_simp⟩
      clear hgd0 hgd1 hgd2 hgd3 hgd4 hgd5
      have Z32 : Hid (ZR ((v4.setCell ⟨ga, 0, none⟩ (.bool s3)).setCell ⟨ga, 1, none⟩ (.slice (some ⟨g3, 0, none⟩) m3 m3)) s3 (some ⟨g3, 0, none⟩) m3 (-x)) := (Z3.out.set _ _ _ (Nat.ne_of_gt HG3.out.1)).set _ _ _ (Nat.ne_of_gt HG3.out.1)
      have Z42 : Hid (ZR ((v4.setCell ⟨ga, 0, none⟩ (.bool s3)).setCell ⟨ga, 1, none⟩ (.slice (some ⟨g3, 0, none⟩) m3 m3)) s4 (some ⟨g4, 0, none⟩) m4 (-y)) := (Z4.out.set _ _ _ (Nat.ne_of_gt HG4.out.1)).set _ _ _ (Nat.ne_of_gt HG4.out.1)
      have hbw2 : Below w.heap.size w ((v4.setCell ⟨ga, 0, none⟩ (.bool s3)).setCell ⟨ga, 1, none⟩ (.slice (some ⟨g3, 0, none⟩) m3 m3)) := bSet (bSet hbw _ _ _ HGa.out) _ _ _ HGa.out
      refine hK _ _ trivial ?_
      clear hK
      clear ca0 ca1 fa0 fa1 hnea
      clear cb0 cb1 fb0 fb1 hneb
      clear cr0 cr1 fr0 fr1 hner
      clear hbw Z3 Z4 Xa Xb Xr
      generalize ((v4.setCell ⟨ga, 0, none⟩ (.bool s3)).setCell ⟨ga, 1, none⟩ (.slice (some ⟨g3, 0, none⟩) m3 m3)) = Wa at *
      have hbw := hbw2
      have Z3 := Z32
      have Z4 := Z42
      have Xa := Xa2
      have Xb := Xb2
      have Xr := Xr2
      clear hbw2 Z32 Z42 Xa2 Xb2 Xr2
      obtain ⟨cb0, cb1, fb0, fb1⟩ := Xb.out
      have hneb := Xb.out.lt
      obtain ⟨ca0, ca1, fa0, fa1⟩ := Xa.out
      have hnea := Xa.out.lt
      obtain ⟨cr0, cr1, fr0, fr1⟩ := Xr.out
      have hner := Xr.out.lt
      obtain ⟨hgd0, hgd1, hgd2, hgd3, hgd4, hgd5⟩ := HGD.out
      refine wpJ_one (i := 5) (by kernel_rfl) rfl (by kernel_rfl) (fun KJ hK => ?_)
      go_simp
      have Xb2 : Hid (Box ((Wa.setCell ⟨gb, 0, none⟩ (.bool s4)).setCell ⟨gb, 1, none⟩ (.slice (some ⟨g4, 0, none⟩) m4 m4)) gb (.bool s4) (.slice (some ⟨g4, 0, none⟩) m4 m4)) := ⟨by go_simp, by go_simp, by go_simp, by go_simp⟩
      have Xa2 : Hid (Box ((Wa.setCell ⟨gb, 0, none⟩ (.bool s4)).setCell ⟨gb, 1, none⟩ (.slice (some ⟨g4, 0, none⟩) m4 m4)) ga (.bool s3) (.slice (some ⟨g3, 0, none⟩) m3 m3)) := ⟨by go_simp, by go_simp, by go_simp, by go_simp⟩
      have Xr2 : Hid (Box ((Wa.setCell ⟨gb, 0, none⟩ (.bool s4)).setCell ⟨gb, 1, none⟩ (.slice (some ⟨g4, 0, none⟩) m4 m4)) gr (.bool false) (.slice none 0 0)) := ⟨by go_simp, by go_simp, by go_simp, by go_simp⟩
      clear hgd0 hgd1 hgd2 hgd3 hgd4 hgd5
      have Z32 : Hid (ZR ((Wa.setCell ⟨gb, 0, none⟩ (.bool s4)).setCell ⟨gb, 1, none⟩ (.slice (some ⟨g4, 0, none⟩) m4 m4)) s3 (some ⟨g3, 0, none⟩) m3 (-x)) := (Z3.out.set _ _ _ (Nat.ne_of_gt HG3.out.2)).set _ _ _ (Nat.ne_of_gt HG3.out.2)
      have Z42 : Hid (ZR ((Wa.setCell ⟨gb, 0, none⟩ (.bool s4)).setCell ⟨gb, 1, none⟩ (.slice (some ⟨g4, 0, none⟩) m4 m4)) s4 (some ⟨g4, 0, none⟩) m4 (-y)) := (Z4.out.set _ _ _ (Nat.ne_of_gt HG4.out.2)).set _ _ _ (Nat.ne_of_gt HG4.out.2)
      have hbw2 : Below w.heap.size w ((Wa.setCell ⟨gb, 0, none⟩ (.bool s4)).setCell ⟨gb, 1, none⟩ (.slice (some ⟨g4, 0, none⟩) m4 m4)) := bSet (bSet hbw _ _ _ HGb.out) _ _ _ HGb.out
      refine hK _ _ trivial ?_
      clear hK
      clear cb0 cb1 fb0 fb1 hneb
      clear ca0 ca1 fa0 fa1 hnea
      clear cr0 cr1 fr0 fr1 hner
      clear hbw Z3 Z4 Xa Xb Xr
      generalize ((Wa.setCell ⟨gb, 0, none⟩ (.bool s4)).setCell ⟨gb, 1, none⟩ (.slice (some ⟨g4, 0, none⟩) m4 m4)) = Wb at *
      have hbw := hbw2
      have Z3 := Z32
      have Z4 := Z42
      have Xa := Xa2
      have Xb := Xb2
      have Xr := Xr2
      clear hbw2 Z32 Z42 Xa2 Xb2 Xr2
      refine wpJ_done (by kernel_rfl) ?_ _
      exact ⟨rfl, s3, g3, m3, s4, g4, m4, by kernel_rfl, Xa.out, Xb.out, Xr.out, Z3.out, Z4.out, HL3.out, HL4.out, hbw⟩
theorem rfloordiv04 {p q : Option Addr} {m n : Nat} {w : World} {x y : Int} (s t : Bool) (h : ZR w s p m x) (k : ZR w t q n y) (hm : m ≤ 16384) (hn : n ≤ 16384) (hy : y ≠ 0) :
    Calls Tryz.prog 92 #[.agg #[.bool s, .slice p m m], .agg #[.bool t, .slice q n n]] w fun e w' => ∃ v, e = .returned v ∧ GotR w.heap.size w' v (rFd x y) (20001) ∧ Below w.heap.size w w' := by
  cases t
  · have := of_decide_eq_false k.sg.symm
    exact rfloordiv04_p s h k hm hn (by omega)
  · exact rfloordiv04_n s h k hm hn (of_decide_eq_true k.sg.symm)
set_option maxRecDepth 20000 in
set_option maxHeartbeats 8000000 in
theorem rneardiv04_p {p q : Option Addr} {m n : Nat} {w : World} {x y : Int} (s : Bool) (h : ZR w s p m x) (k : ZR w false q n y) (hm : m ≤ 16384) (hn : n ≤ 16384) (hy : 0 < y) :
    Calls Tryz.prog 94 #[.agg #[.bool s, .slice p m m], .agg #[.bool false, .slice q n n]] w fun e w' => ∃ v, e = .returned v ∧ GotR w.heap.size w' v (rNd x y) (20001) ∧ Below w.heap.size w w' := by
  have HA : Hid (ZR w s p m x ∧ ZR w false q n y) := ⟨h, k⟩
  have HM : Hid (m ≤ 16384 ∧ n ≤ 16384 ∧ 0 < y) := ⟨hm, hn, hy⟩
  clear h k hm hn hy
  go_enter Tryz.func94, Tryz.ntmps94
  go_wp2_with fail
  obtain ⟨W0, hW0⟩ : ∃ W0, W0 = (((w.alloc (.cells #[.bool s, .slice p m m] 70)).alloc (.cells #[.bool false, .slice q n n] 70)).alloc (.cells #[.bool false, .slice none 0 0] 70)) := ⟨_, rfl⟩
  have Xa : Hid (Box W0 (w.heap.size) (.bool s) (.slice p m m)) := by rw [hW0]; exact ⟨by go_simp, by go_simp, by go_simp, by go_simp⟩
  have Xb : Hid (Box W0 (w.heap.size + 1) (.bool false) (.slice q n n)) := by rw [hW0]; exact ⟨by go_simp, by go_simp, by go_simp, by go_simp⟩
  have Xr : Hid (Box W0 (w.heap.size + 1 + 1) (.bool false) (.slice none 0 0)) := by rw [hW0]; exact ⟨by go_simp, by go_simp, by go_simp, by go_simp⟩
  have hb0 : Below w.heap.size w W0 := by rw [hW0]; exact below3 w _ _ _
  rw [← hW0]
  clear hW0
  have hbw : Below w.heap.size w w := Below.refl _ _
  obtain ⟨gr, hgr⟩ : ∃ g, g = w.heap.size + 1 + 1 := ⟨_, rfl⟩
  have HGr : Hid (w.heap.size ≤ gr) := by rw [hgr]; show _ ≤ _; omega
  rw [← hgr] at Xr
  try rw [← hgr]
  obtain ⟨gb, hgb⟩ : ∃ g, g = w.heap.size + 1 := ⟨_, rfl⟩
  have HGb : Hid (w.heap.size ≤ gb) := by rw [hgb]; show _ ≤ _; omega
  rw [← hgb] at Xb
  try rw [← hgb]
  obtain ⟨ga, hga⟩ : ∃ g, g = w.heap.size := ⟨_, rfl⟩
  have HGa : Hid (w.heap.size ≤ ga) := by rw [hga]; show _ ≤ _; omega
  rw [← hga] at Xa
  try rw [← hga]
  have HGD : Hid (ga ≠ gb ∧ ga ≠ gr ∧ gb ≠ ga ∧ gb ≠ gr ∧ gr ≠ ga ∧ gr ≠ gb) := by rw [hga, hgb, hgr]; exact ⟨by omega, by omega, by omega, by omega, by omega, by omega⟩
  clear hga hgb hgr
  replace hbw := Below.on hbw hb0
  clear hb0
  obtain ⟨ca0, ca1, fa0, fa1⟩ := Xa.out
  have hnea := Xa.out.lt
  obtain ⟨cb0, cb1, fb0, fb1⟩ := Xb.out
  have hneb := Xb.out.lt
  go_wp2_with fail
  clear ca0 ca1 fa0 fa1 hnea
  clear cb0 cb1 fb0 fb1 hneb
  have HRB : Hid (gr < W0.heap.size ∧ w.heap.size ≤ W0.heap.size) := ⟨Xr.out.lt, hbw.size⟩
  have hpy : 0 < y := by have := HM.out.2.2; omega
  refine (rnear04 s (HA.out.1.below hbw) (HA.out.2.below hbw) HM.out.1 (Nat.le_trans HM.out.2.1 (by decide)) hpy _ (rMo_lt hpy (ZR.lt_pow (HA.out.2.below hbw))) HM.out.2.1).mono ?_
  rintro e v1 ⟨v, rfl, hv, hb1⟩
  obtain ⟨s1, g1, m1, rfl, hg1, hz1, hl1⟩ := hv
  have HN1 : Hid (W0.heap.size ≤ g1) := hg1
  have HB1 : Hid (W0.heap.size ≤ v1.heap.size) := hb1.size
  replace Xa : Hid _ := Xa.out.below hb1
  replace Xb : Hid _ := Xb.out.below hb1
  replace Xr : Hid _ := Xr.out.below hb1
  replace hbw := Below.on hbw hb1
  clear hb1
  have Z1 : Hid (ZR v1 s1 (some ⟨g1, 0, none⟩) m1 (rNd (x) (y))) := hz1
  have HL1 : Hid (m1 ≤ 20001) := hl1
  clear hz1 hl1 hg1
  clear hpy
  obtain ⟨cr0, cr1, fr0, fr1⟩ := Xr.out
  have hner := Xr.out.lt
  go_wp2_with fail
  refine bodyPost_ret (v := .agg #[.bool s1, .slice (some ⟨g1, 0, none⟩) m1 m1]) (by rw [results_cell1 rfl]; go_simp) rfl ⟨_, rfl, ⟨s1, g1, m1, rfl, Nat.le_trans HRB.out.2 HN1.out, ?_, HL1.out⟩, ?_⟩
  · have := HN1.out; have := HRB.out.1
    exact (Z1.out.set _ _ _ (by omega)).set _ _ _ (by omega)
  · exact bSet (bSet hbw _ _ _ HGr.out) _ _ _ HGr.out
set_option maxRecDepth 20000 in
set_option maxHeartbeats 8000000 in
theorem rneardiv04_n {p q : Option Addr} {m n : Nat} {w : World} {x y : Int} (s : Bool) (h : ZR w s p m x) (k : ZR w true q n y) (hm : m ≤ 16384) (hn : n ≤ 16384) (hy : y < 0) :
    Calls Tryz.prog 94 #[.agg #[.bool s, .slice p m m], .agg #[.bool true, .slice q n n]] w fun e w' => ∃ v, e = .returned v ∧ GotR w.heap.size w' v (rNd x y) (20001) ∧ Below w.heap.size w w' := by
  rw [← rNd_flip hy]
  have HA : Hid (ZR w s p m x ∧ ZR w true q n y) := ⟨h, k⟩
  have HM : Hid (m ≤ 16384 ∧ n ≤ 16384 ∧ y < 0) := ⟨hm, hn, hy⟩
  clear h k hm hn hy
  go_enter Tryz.func94, Tryz.ntmps94
  go_wp2_with fail
  obtain ⟨W0, hW0⟩ : ∃ W0, W0 = (((w.alloc (.cells #[.bool s, .slice p m m] 70)).alloc (.cells #[.bool true, .slice q n n] 70)).alloc (.cells #[.bool false, .slice none 0 0] 70)) := ⟨_, rfl⟩
  have Xa : Hid (Box W0 (w.heap.size) (.bool s) (.slice p m m)) := by rw [hW0]; exact ⟨by go_simp, by go_simp, by go_simp, by go_simp⟩
  have Xb : Hid (Box W0 (w.heap.size + 1) (.bool true) (.slice q n n)) := by rw [hW0]; exact ⟨by go_simp, by go_simp, by go_simp, by go_simp⟩
  have Xr : Hid (Box W0 (w.heap.size + 1 + 1) (.bool false) (.slice none 0 0)) := by rw [hW0]; exact ⟨by go_simp, by go_simp, by go_simp, by go_simp⟩
  have hb0 : Below w.heap.size w W0 := by rw [hW0]; exact below3 w _ _ _
  rw [← hW0]
  clear hW0
  have hbw : Below w.heap.size w w := Below.refl _ _
  obtain ⟨gr, hgr⟩ : ∃ g, g = w.heap.size + 1 + 1 := ⟨_, rfl⟩
  have HGr : Hid (w.heap.size ≤ gr) := by rw [hgr]; show _ ≤ _; omega
  rw [← hgr] at Xr
  try rw [← hgr]
  obtain ⟨gb, hgb⟩ : ∃ g, g = w.heap.size + 1 := ⟨_, rfl⟩
  have HGb : Hid (w.heap.size ≤ gb) := by rw [hgb]; show _ ≤ _; omega
  rw [← hgb] at Xb
  try rw [← hgb]
  obtain ⟨ga, hga⟩ : ∃ g, g = w.heap.size := ⟨_, rfl⟩
  have HGa : Hid (w.heap.size ≤ ga) := by rw [hga]; show _ ≤ _; omega
  rw [← hga] at Xa
  try rw [← hga]
  have HGD : Hid (ga ≠ gb ∧ ga ≠ gr ∧ gb ≠ ga ∧ gb ≠ gr ∧ gr ≠ ga ∧ gr ≠ gb) := by rw [hga, hgb, hgr]; exact ⟨by omega, by omega, by omega, by omega, by omega, by omega⟩
  clear hga hgb hgr
  replace hbw := Below.on hbw hb0
  clear hb0
  obtain ⟨W1, hW1⟩ : ∃ W1, W1 = W0.drew := ⟨_, rfl⟩
  have hbd : Below W0.heap.size W0 W1 := by rw [hW1]; exact bDrew1 (Below.refl _ _)
  replace Xa : Hid _ := Xa.out.below hbd
  replace Xb : Hid _ := Xb.out.below hbd
  replace Xr : Hid _ := Xr.out.below hbd
  replace hbw := Below.on hbw hbd
  clear hbd
  refine wp_region_J (fun _ => True) (by kernel_rfl) ?_
  rw [← hW1]
  clear hW1
  refine wpJ_cutA (fun a0 a' W' => ∃ s3 g3 m3 s4 g4 m4, a' = (((a0.put (some 7) (.agg #[.bool s, .slice p m m])).put (some 8) (.agg #[.bool s3, .slice (some ⟨g3, 0, none⟩) m3 m3])).put (some 9) (.agg #[.bool true, .slice q n n])).put (some 10) (.agg #[.bool s4, .slice (some ⟨g4, 0, none⟩) m4 m4]) ∧ Box W' ga (.bool s3) (.slice (some ⟨g3, 0, none⟩) m3 m3) ∧ Box W' gb (.bool s4) (.slice (some ⟨g4, 0, none⟩) m4 m4) ∧ Box W' gr (.bool false) (.slice none 0 0) ∧ ZR W' s3 (some ⟨g3, 0, none⟩) m3 (-x) ∧ ZR W' s4 (some ⟨g4, 0, none⟩) m4 (-y) ∧ m3 ≤ 16384 ∧ m4 ≤ 16384 ∧ Below w.heap.size w W') ?_ ?_
  · rintro a' Wc ⟨s3, g3, m3, s4, g4, m4, rfl, xa, xb, xr, z3, z4, l3, l4, hbc⟩
    have hs4 : s4 = false := by rw [z4.sg]; exact decide_eq_false (by have := HM.out.2.2; omega)
    subst hs4
    have Ca : Hid (Box Wc ga (.bool s3) (.slice (some ⟨g3, 0, none⟩) m3 m3)) := xa
    have Cb : Hid (Box Wc gb (.bool false) (.slice (some ⟨g4, 0, none⟩) m4 m4)) := xb
    have Cr : Hid (Box Wc gr (.bool false) (.slice none 0 0)) := xr
    have Z3 : Hid (ZR Wc s3 (some ⟨g3, 0, none⟩) m3 (-x)) := z3
    have Z4 : Hid (ZR Wc false (some ⟨g4, 0, none⟩) m4 (-y)) := z4
    have HL3 : Hid (m3 ≤ 16384 ∧ m4 ≤ 16384) := ⟨l3, l4⟩
    clear Xa Xb Xr hbw xa xb xr z3 z4 l3 l4
    have Xa := Ca
    have Xb := Cb
    have Xr := Cr
    have hbw := hbc
    clear Ca Cb Cr hbc
    obtain ⟨ca0, ca1, fa0, fa1⟩ := Xa.out
    have hnea := Xa.out.lt
    obtain ⟨cb0, cb1, fb0, fb1⟩ := Xb.out
    have hneb := Xb.out.lt
    go_wp2_with fail
    clear ca0 ca1 fa0 fa1 hnea
    clear cb0 cb1 fb0 fb1 hneb
    have HRB : Hid (gr < Wc.heap.size ∧ w.heap.size ≤ Wc.heap.size) := ⟨Xr.out.lt, hbw.size⟩
    have hpy : 0 < -y := by have := HM.out.2.2; omega
    refine (rnear04 s3 Z3.out Z4.out HL3.out.1 (Nat.le_trans HL3.out.2 (by decide)) hpy _ (rMo_lt hpy (ZR.lt_pow Z4.out)) HL3.out.2).mono ?_
    rintro e v1 ⟨v, rfl, hv, hb1⟩
    obtain ⟨s1, g1, m1, rfl, hg1, hz1, hl1⟩ := hv
    have HN1 : Hid (Wc.heap.size ≤ g1) := hg1
    have HB1 : Hid (Wc.heap.size ≤ v1.heap.size) := hb1.size
    replace Xa : Hid _ := Xa.out.below hb1
    replace Xb : Hid _ := Xb.out.below hb1
    replace Xr : Hid _ := Xr.out.below hb1
    replace Z3 : Hid _ := Z3.out.below hb1
    replace Z4 : Hid _ := Z4.out.below hb1
    replace hbw := Below.on hbw hb1
    clear hb1
    have Z1 : Hid (ZR v1 s1 (some ⟨g1, 0, none⟩) m1 (rNd (-x) (-y))) := hz1
    have HL1 : Hid (m1 ≤ 20001) := hl1
    clear hz1 hl1 hg1
    clear hpy
    obtain ⟨cr0, cr1, fr0, fr1⟩ := Xr.out
    have hner := Xr.out.lt
    go_wp2_with fail
    refine bodyPost_ret (v := .agg #[.bool s1, .slice (some ⟨g1, 0, none⟩) m1 m1]) (by rw [results_cell1 rfl]; go_simp) rfl ⟨_, rfl, ⟨s1, g1, m1, rfl, Nat.le_trans HRB.out.2 HN1.out, ?_, HL1.out⟩, ?_⟩
    · have := HN1.out; have := HRB.out.1
      exact (Z1.out.set _ _ _ (by omega)).set _ _ _ (by omega)
    · exact bSet (bSet hbw _ _ _ HGr.out) _ _ _ HGr.out
  · skip
    refine wpJ_two (i := 0) (k := 2) (by kernel_rfl) rfl rfl (by kernel_rfl) (by kernel_rfl) (fun KJ hK => ?_) (fun KJ hK => ?_)
    · skip
      obtain ⟨ca0, ca1, fa0, fa1⟩ := Xa.out
      have hnea := Xa.out.lt
      go_simp
      refine hK _ _ trivial ?_
      clear hK
      clear ca0 ca1 fa0 fa1 hnea
      refine wpJ_two (i := 1) (k := 2) (by kernel_rfl) rfl rfl (by kernel_rfl) (by kernel_rfl) (fun KJ hK => ?_) (fun KJ hK => ?_)
      · skip
        go_simp
        refine (rflip_any s (HA.out.1.below hbw) (by have := HM.out; omega)).mono ?_
        rintro e v3 ⟨v, rfl, hv, hb3⟩
        obtain ⟨s3, g3, m3, rfl, hg3, hz3, hl3⟩ := hv
        have HG3 : Hid (ga < g3 ∧ gb < g3) := ⟨Nat.lt_of_lt_of_le Xa.out.lt hg3, Nat.lt_of_lt_of_le Xb.out.lt hg3⟩
        replace Xa : Hid _ := Xa.out.below hb3
        replace Xb : Hid _ := Xb.out.below hb3
        replace Xr : Hid _ := Xr.out.below hb3
        replace hbw := Below.on hbw hb3
        clear hb3
        have Z3 : Hid (ZR v3 s3 (some ⟨g3, 0, none⟩) m3 (-x)) := hz3
        have HL3 : Hid (m3 ≤ 16384) := by have := HM.out; show m3 ≤ _; omega
        clear hz3 hl3 hg3
        refine hK _ _ trivial ?_
        clear hK
        obtain ⟨cb0, cb1, fb0, fb1⟩ := Xb.out
        have hneb := Xb.out.lt
        refine wpJ_one (i := 2) (by kernel_rfl) rfl (by kernel_rfl) (fun KJ hK => ?_)
        go_simp
        refine hK _ _ trivial ?_
        clear hK
        clear cb0 cb1 fb0 fb1 hneb
        refine wpJ_one (i := 3) (by kernel_rfl) rfl (by kernel_rfl) (fun KJ hK => ?_)
        go_simp
        refine (rflip_any true (HA.out.2.below hbw) (by have := HM.out; omega)).mono ?_
        rintro e v4 ⟨v, rfl, hv, hb4⟩
        obtain ⟨s4, g4, m4, rfl, hg4, hz4, hl4⟩ := hv
        have HG4 : Hid (ga < g4 ∧ gb < g4) := ⟨Nat.lt_of_lt_of_le Xa.out.lt hg4, Nat.lt_of_lt_of_le Xb.out.lt hg4⟩
        replace Xa : Hid _ := Xa.out.below hb4
        replace Xb : Hid _ := Xb.out.below hb4
        replace Xr : Hid _ := Xr.out.below hb4
        replace Z3 : Hid _ := Z3.out.below hb4
        replace hbw := Below.on hbw hb4
        clear hb4
        have Z4 : Hid (ZR v4 s4 (some ⟨g4, 0, none⟩) m4 (-y)) := hz4
        have HL4 : Hid (m4 ≤ 16384) := by have := HM.out; show m4 ≤ _; omega
        clear hz4 hl4 hg4
        refine hK _ _ trivial ?_
        clear hK
        obtain ⟨ca0, ca1, fa0, fa1⟩ := Xa.out
        have hnea := Xa.out.lt
        obtain ⟨cb0, cb1, fb0, fb1⟩ := Xb.out
        have hneb := Xb.out.lt
        obtain ⟨cr0, cr1, fr0, fr1⟩ := Xr.out
        have hner := Xr.out.lt
        obtain ⟨hgd0, hgd1, hgd2, hgd3, hgd4, hgd5⟩ := HGD.out
        refine wpJ_one (i := 4) (by kernel_rfl) rfl (by kernel_rfl) (fun KJ hK => ?_)
        go_simp
        have Xa2 : Hid (Box ((v4.setCell ⟨ga, 0, none⟩ (.bool s3)).setCell ⟨ga, 1, none⟩ (.slice (some ⟨g3, 0, none⟩) m3 m3)) ga (.bool s3) (.slice (some ⟨g3, 0, none⟩) m3 m3)) := ⟨by go_simp, by go_simp, by go_simp, by go_simp⟩
        have Xb2 : Hid (Box ((v4.setCell ⟨ga, 0, none⟩ (.bool s3)).setCell ⟨ga, 1, none⟩ (.slice (some ⟨g3, 0, none⟩) m3 m3)) gb (.bool true) (.slice q n n)) := ⟨by go_simp, by go_simp, by go_simp, by go_simp⟩
        have Xr2 : Hid (Box ((v4.setCell ⟨ga, 0, none⟩ (.bool s3)).setCell ⟨ga, 1, none⟩ (.slice (some ⟨g3, 0, none⟩) m3 m3)) gr (.bool false) (.slice none 0 0)) := ⟨by go_simp, by go_simp, by go_simp, by go_simp⟩
        clear hgd0 hgd1 hgd2 hgd3 hgd4 hgd5
        have Z32 : Hid (ZR ((v4.setCell ⟨ga, 0, none⟩ (.bool s3)).setCell ⟨ga, 1, none⟩ (.slice (some ⟨g3, 0, none⟩) m3 m3)) s3 (some ⟨g3, 0, none⟩) m3 (-x)) := (Z3.out.set _ _ _ (Nat.ne_of_gt HG3.out.1)).set _ _ _ (Nat.ne_of_gt HG3.out.1)
        have Z42 : Hid (ZR ((v4.setCell ⟨ga, 0, none⟩ (.bool s3)).setCell ⟨ga, 1, none⟩ (.slice (some ⟨g3, 0, none⟩) m3 m3)) s4 (some ⟨g4, 0, none⟩) m4 (-y)) := (Z4.out.set _ _ _ (Nat.ne_of_gt HG4.out.1)).set _ _ _ (Nat.ne_of_gt HG4.out.1)
        have hbw2 : Below w.heap.size w ((v4.setCell ⟨ga, 0, none⟩ (.bool s3)).setCell ⟨ga, 1, none⟩ (.slice (some ⟨g3, 0, none⟩) m3 m3)) := bSet (bSet hbw _ _ _ HGa.out) _ _ _ HGa.out
        refine hK _ _ trivial ?_
        clear hK
        clear ca0 ca1 fa0 fa1 hnea
        clear cb0 cb1 fb0 fb1 hneb
        clear cr0 cr1 fr0 fr1 hner
        clear hbw Z3 Z4 Xa Xb Xr
        generalize ((v4.setCell ⟨ga, 0, none⟩ (.bool s3)).setCell ⟨ga, 1, none⟩ (.slice (some ⟨g3, 0, none⟩) m3 m3)) = Wa at *
        have hbw := hbw2
        have Z3 := Z32
        have Z4 := Z42
        have Xa := Xa2
        have Xb := Xb2
        have Xr := Xr2
        clear hbw2 Z32 Z42 Xa2 Xb2 Xr2
        obtain ⟨cb0, cb1, fb0, fb1⟩ := Xb.out
        have hneb := Xb.out.lt
        obtain ⟨ca0, ca1, fa0, fa1⟩ := Xa.out
        have hnea := Xa.out.lt
        obtain ⟨cr0, cr1, fr0, fr1⟩ := Xr.out
        have hner := Xr.out.lt
        obtain ⟨hgd0, hgd1, hgd2, hgd3, hgd4, hgd5⟩ := HGD.out
        refine wpJ_one (i := 5) (by kernel_rfl) rfl (by kernel_rfl) (fun KJ hK => ?_)
        go_simp
        have Xb2 : Hid (Box ((Wa.setCell ⟨gb, 0, none⟩ (.bool s4)).setCell ⟨gb, 1, none⟩ (.slice (some ⟨g4, 0, none⟩) m4 m4)) gb (.bool s4) (.slice (some ⟨g4, 0, none⟩) m4 m4)) := ⟨by go_simp, by go_simp, by go_simp, by go_simp⟩
        have Xa2 : Hid (Box ((Wa.setCell ⟨gb, 0, none⟩ (.bool s4)).setCell ⟨gb, 1, none⟩ (.slice (some ⟨g4, 0, none⟩) m4 m4)) ga (.bool s3) (.slice (some ⟨g3, 0, none⟩) m3 m3)) := ⟨by go_simp, by go_simp, by go_simp, by go_simp⟩
        have Xr2 : Hid (Box ((Wa.setCell ⟨gb, 0, none⟩ (.bool s4)).setCell ⟨gb, 1, none⟩ (.slice (some ⟨g4, 0, none⟩) m4 m4)) gr (.bool false) (.slice none 0 0)) := ⟨by go_simp, by go_simp, by go_simp, by go_simp⟩
        clear hgd0 hgd1 hgd2 hgd3 hgd4 hgd5
        have Z32 : Hid (ZR ((Wa.setCell ⟨gb, 0, none⟩ (.bool s4)).setCell ⟨gb, 1, none⟩ (.slice (some ⟨g4, 0, none⟩) m4 m4)) s3 (some ⟨g3, 0, none⟩) m3 (-x)) := (Z3.out.set _ _ _ (Nat.ne_of_gt HG3.out.2)).set _ _ _ (Nat.ne_of_gt HG3.out.2)
        have Z42 : Hid (ZR ((Wa.setCell ⟨gb, 0, none⟩ (.bool s4)).setCell ⟨gb, 1, none⟩ (.slice (some ⟨g4, 0, none⟩) m4 m4)) s4 (some ⟨g4, 0, none⟩) m4 (-y)) := (Z4.out.set _ _ _ (Nat.ne_of_gt HG4.out.2)).set _ _ _ (Nat.ne_of_gt HG4.out.2)
        have hbw2 : Below w.heap.size w ((Wa.setCell ⟨gb, 0, none⟩ (.bool s4)).setCell ⟨gb, 1, none⟩ (.slice (some ⟨g4, 0, none⟩) m4 m4)) := bSet (bSet hbw _ _ _ HGb.out) _ _ _ HGb.out
        refine hK _ _ trivial ?_
        clear hK
        clear cb0 cb1 fb0 fb1 hneb
        clear ca0 ca1 fa0 fa1 hnea
        clear cr0 cr1 fr0 fr1 hner
        clear hbw Z3 Z4 Xa Xb Xr
        generalize ((Wa.setCell ⟨gb, 0, none⟩ (.bool s4)).setCell ⟨gb, 1, none⟩ (.slice (some ⟨g4, 0, none⟩) m4 m4)) = Wb at *
        have hbw := hbw2
        have Z3 := Z32
        have Z4 := Z42
        have Xa := Xa2
        have Xb := Xb2
        have Xr := Xr2
        clear hbw2 Z32 Z42 Xa2 Xb2 Xr2
        refine wpJ_done (by kernel_rfl) ?_ _
        exact ⟨rfl, s3, g3, m3, s4, g4, m4, by kernel_rfl, Xa.out, Xb.out, Xr.out, Z3.out, Z4.out, HL3.out, HL4.out, hbw⟩
      · skip
        obtain ⟨cb0, cb1, fb0, fb1⟩ := Xb.out
        have hneb := Xb.out.lt
        go_simp
        refine hK _ _ trivial ?_
        clear hK
        clear cb0 cb1 fb0 fb1 hneb
        refine wpJ_one (i := 1) (by kernel_rfl) rfl (by kernel_rfl) (fun KJ hK => ?_)
        go_simp
        refine (rflip_any s (HA.out.1.below hbw) (by have := HM.out; omega)).mono ?_
        rintro e v3 ⟨v, rfl, hv, hb3⟩
        obtain ⟨s3, g3, m3, rfl, hg3, hz3, hl3⟩ := hv
        have HG3 : Hid (ga < g3 ∧ gb < g3) := ⟨Nat.lt_of_lt_of_le Xa.out.lt hg3, Nat.lt_of_lt_of_le Xb.out.lt hg3⟩
        replace Xa : Hid _ := Xa.out.below hb3
        replace Xb : Hid _ := Xb.out.below hb3
        replace Xr : Hid _ := Xr.out.below hb3
        replace hbw := Below.on hbw hb3
        clear hb3
        have Z3 : Hid (ZR v3 s3 (some ⟨g3, 0, none⟩) m3 (-x)) := hz3
        have HL3 : Hid (m3 ≤ 16384) := by have := HM.out; show m3 ≤ _; omega
        clear hz3 hl3 hg3
        refine hK _ _ trivial ?_
        clear hK
        refine wpJ_one (i := 3) (by kernel_rfl) rfl (by kernel_rfl) (fun KJ hK => ?_)
        go_simp
        refine (rflip_any true (HA.out.2.below hbw) (by have := HM.out; omega)).mono ?_
        rintro e v4 ⟨v, rfl, hv, hb4⟩
        obtain ⟨s4, g4, m4, rfl, hg4, hz4, hl4⟩ := hv
        have HG4 : Hid (ga < g4 ∧ gb < g4) := ⟨Nat.lt_of_lt_of_le Xa.out.lt hg4, Nat.lt_of_lt_of_le Xb.out.lt hg4⟩
        replace Xa : Hid _ := Xa.out.below hb4
        replace Xb : Hid _ := Xb.out.below hb4
        replace Xr : Hid _ := Xr.out.below hb4
        replace Z3 : Hid _ := Z3.out.below hb4
        replace hbw := Below.on hbw hb4
        clear hb4
        have Z4 : Hid (ZR v4 s4 (some ⟨g4, 0, none⟩) m4 (-y)) := hz4
        have HL4 : Hid (m4 ≤ 16384) := by have := HM.out; show m4 ≤ _; omega
        clear hz4 hl4 hg4
        refine hK _ _ trivial ?_
        clear hK
        obtain ⟨ca0, ca1, fa0, fa1⟩ := Xa.out
        have hnea := Xa.out.lt
        obtain ⟨cb0, cb1, fb0, fb1⟩ := Xb.out
        have hneb := Xb.out.lt
        obtain ⟨cr0, cr1, fr0, fr1⟩ := Xr.out
        have hner := Xr.out.lt
        obtain ⟨hgd0, hgd1, hgd2, hgd3, hgd4, hgd5⟩ := HGD.out
        refine wpJ_one (i := 4) (by kernel_rfl) rfl (by kernel_rfl) (fun KJ hK => ?_)
        go_simp
        have Xa2 : Hid (Box ((v4.setCell ⟨ga, 0, none⟩ (.bool s3)).setCell ⟨ga, 1, none⟩ (.slice (some ⟨g3, 0, none⟩) m3 m3)) ga (.bool s3) (.slice (some ⟨g3, 0, none⟩) m3 m3)) := ⟨by go_simp, by go_simp, by go_simp, by go_simp⟩
        have Xb2 : Hid (Box ((v4.setCell ⟨ga, 0, none⟩ (.bool s3)).setCell ⟨ga, 1, none⟩ (.slice (some ⟨g3, 0, none⟩) m3 m3)) gb (.bool true) (.slice q n n)) := ⟨by go_simp, by go_simp, by go_simp, by go_simp⟩
        have Xr2 : Hid (Box ((v4.setCell ⟨ga, 0, none⟩ (.bool s3)).setCell ⟨ga, 1, none⟩ (.slice (some ⟨g3, 0, none⟩) m3 m3)) gr (.bool false) (.slice none 0 0)) := ⟨by go_simp, by go_simp, by go_simp, by go_simp⟩
        clear hgd0 hgd1 hgd2 hgd3 hgd4 hgd5
        have Z32 : Hid (ZR ((v4.setCell ⟨ga, 0, none⟩ (.bool s3)).setCell ⟨ga, 1, none⟩ (.slice (some ⟨g3, 0, none⟩) m3 m3)) s3 (some ⟨g3, 0, none⟩) m3 (-x)) := (Z3.out.set _ _ _ (Nat.ne_of_gt HG3.out.1)).set _ _ _ (Nat.ne_of_gt HG3.out.1)
        have Z42 : Hid (ZR ((v4.setCell ⟨ga, 0, none⟩ (.bool s3)).setCell ⟨ga, 1, none⟩ (.slice (some ⟨g3, 0, none⟩) m3 m3)) s4 (some ⟨g4, 0, none⟩) m4 (-y)) := (Z4.out.set _ _ _ (Nat.ne_of_gt HG4.out.1)).set _ _ _ (Nat.ne_of_gt HG4.out.1)
        have hbw2 : Below w.heap.size w ((v4.setCell ⟨ga, 0, none⟩ (.bool s3)).setCell ⟨ga, 1, none⟩ (.slice (some ⟨g3, 0, none⟩) m3 m3)) := bSet (bSet hbw _ _ _ HGa.out) _ _ _ HGa.out
        refine hK _ _ trivial ?_
        clear hK
        clear ca0 ca1 fa0 fa1 hnea
        clear cb0 cb1 fb0 fb1 hneb
        clear cr0 cr1 fr0 fr1 hner
        clear hbw Z3 Z4 Xa Xb Xr
        generalize ((v4.setCell ⟨ga, 0, none⟩ (.bool s3)).setCell ⟨ga, 1, none⟩ (.slice (some ⟨g3, 0, none⟩) m3 m3)) = Wa at *
        have hbw := hbw2
        have Z3 := Z32
        have Z4 := Z42
        have Xa := Xa2
        have Xb := Xb2
        have Xr := Xr2
        clear hbw2 Z32 Z42 Xa2 Xb2 Xr2
        obtain ⟨cb0, cb1, fb0, fb1⟩ := Xb.out
        have hneb := Xb.out.lt
        obtain ⟨ca0, ca1, fa0, fa1⟩ := Xa.out
        have hnea := Xa.out.lt
        obtain ⟨cr0, cr1, fr0, fr1⟩ := Xr.out
        have hner := Xr.out.lt
        obtain ⟨hgd0, hgd1, hgd2, hgd3, hgd4, hgd5⟩ := HGD.out
        refine wpJ_one (i := 5) (by kernel_rfl) rfl (by kernel_rfl) (fun KJ hK => ?_)
        go_simp
        have Xb2 : Hid (Box ((Wa.setCell ⟨gb, 0, none⟩ (.bool s4)).setCell ⟨gb, 1, none⟩ (.slice (some ⟨g4, 0, none⟩) m4 m4)) gb (.bool s4) (.slice (some ⟨g4, 0, none⟩) m4 m4)) := ⟨by go_simp, by go_simp, by go_simp, by go_simp⟩
        have Xa2 : Hid (Box ((Wa.setCell ⟨gb, 0, none⟩ (.bool s4)).setCell ⟨gb, 1, none⟩ (.slice (some ⟨g4, 0, none⟩) m4 m4)) ga (.bool s3) (.slice (some ⟨g3, 0, none⟩) m3 m3)) := ⟨by go_simp, by go_simp, by go_simp, by go_simp⟩
        have Xr2 : Hid (Box ((Wa.setCell ⟨gb, 0, none⟩ (.bool s4)).setCell ⟨gb, 1, none⟩ (.slice (some ⟨g4, 0, none⟩) m4 m4)) gr (.bool false) (.slice none 0 0)) := ⟨by go_simp, by go_simp, by go_simp, by go_simp⟩
        clear hgd0 hgd1 hgd2 hgd3 hgd4 hgd5
        have Z32 : Hid (ZR ((Wa.setCell ⟨gb, 0, none⟩ (.bool s4)).setCell ⟨gb, 1, none⟩ (.slice (some ⟨g4, 0, none⟩) m4 m4)) s3 (some ⟨g3, 0, none⟩) m3 (-x)) := (Z3.out.set _ _ _ (Nat.ne_of_gt HG3.out.2)).set _ _ _ (Nat.ne_of_gt HG3.out.2)
        have Z42 : Hid (ZR ((Wa.setCell ⟨gb, 0, none⟩ (.bool s4)).setCell ⟨gb, 1, none⟩ (.slice (some ⟨g4, 0, none⟩) m4 m4)) s4 (some ⟨g4, 0, none⟩) m4 (-y)) := (Z4.out.set _ _ _ (Nat.ne_of_gt HG4.out.2)).set _ _ _ (Nat.ne_of_gt HG4.out.2)
        have hbw2 : Below w.heap.size w ((Wa.setCell ⟨gb, 0, none⟩ (.bool s4)).setCell ⟨gb, 1, none⟩ (.slice (some ⟨g4, 0, none⟩) m4 m4)) := bSet (bSet hbw _ _ _ HGb.out) _ _ _ HGb.out
        refine hK _ _ trivial ?_
        clear hK
        clear cb0 cb1 fb0 fb1 hneb
        clear ca0 ca1 fa0 fa1 hnea
        clear cr0 cr1 fr0 fr1 hner
        clear hbw Z3 Z4 Xa Xb Xr
        generalize ((Wa.setCell ⟨gb, 0, none⟩ (.bool s4)).setCell ⟨gb, 1, none⟩ (.slice (some ⟨g4, 0, none⟩) m4 m4)) = Wb at *
        have hbw := hbw2
        have Z3 := Z32
        have Z4 := Z42
        have Xa := Xa2
        have Xb := Xb2
        have Xr := Xr2
        clear hbw2 Z32 Z42 Xa2 Xb2 Xr2
        refine wpJ_done (by kernel_rfl) ?_ _
        exact ⟨rfl, s3, g3, m3, s4, g4, m4, by kernel_rfl, Xa.out, Xb.out, Xr.out, Z3.out, Z4.out, HL3.out, HL4.out, hbw⟩
    · skip
      obtain ⟨cb0, cb1, fb0, fb1⟩ := Xb.out
      have hneb := Xb.out.lt
      go_simp
      refine hK _ _ trivial ?_
      clear hK
      clear cb0 cb1 fb0 fb1 hneb
      obtain ⟨ca0, ca1, fa0, fa1⟩ := Xa.out
      have hnea := Xa.out.lt
      refine wpJ_one (i := 0) (by kernel_rfl) rfl (by kernel_rfl) (fun KJ hK => ?_)
      go_simp
      refine hK _ _ trivial ?_
      clear hK
      clear ca0 ca1 fa0 fa1 hnea
      refine wpJ_one (i := 1) (by kernel_rfl) rfl (by kernel_rfl) (fun KJ hK => ?_)
      go_simp
      refine (rflip_any s (HA.out.1.below hbw) (by have := HM.out; omega)).mono ?_
      rintro e v3 ⟨v, rfl, hv, hb3⟩
      obtain ⟨s3, g3, m3, rfl, hg3, hz3, hl3⟩ := hv
      have HG3 : Hid (ga < g3 ∧ gb < g3) := ⟨Nat.lt_of_lt_of_le Xa.out.lt hg3, Nat.lt_of_lt_of_le Xb.out.lt hg3⟩
      replace Xa : Hid _ := Xa.out.below hb3
      replace Xb : Hid _ := Xb.out.below hb3
      replace Xr : Hid _ := Xr.out.below hb3
      replace hbw := Below.on hbw hb3
      clear hb3
      have Z3 : Hid (ZR v3 s3 (some ⟨g3, 0, none⟩) m3 (-x)) := hz3
      have HL3 : Hid (m3 ≤ 16384) := by have := HM.out; show m3 ≤ _; omega
      clear hz3 hl3 hg3
      refine hK _ _ trivial ?_
      clear hK
      refine wpJ_one (i := 3) (by kernel_rfl) rfl (by kernel_rfl) (fun KJ hK => ?_)
      go_simp
      refine (rflip_any true (HA.out.2.below hbw) (by have := HM.out; omega)).mono ?_
      rintro e v4 ⟨v, rfl, hv, hb4⟩
      obtain ⟨s4, g4, m4, rfl, hg4, hz4, hl4⟩ := hv
      have HG4 : Hid (ga < g4 ∧ gb < g4) := ⟨Nat.lt_of_lt_of_le Xa.out.lt hg4, Nat.lt_of_lt_of_le Xb.out.lt hg4⟩
      replace Xa : Hid _ := Xa.out.below hb4
      replace Xb : Hid _ := Xb.out.below hb4
      replace Xr : Hid _ := Xr.out.below hb4
      replace Z3 : Hid _ := Z3.out.below hb4
      replace hbw := Below.on hbw hb4
      clear hb4
      have Z4 : Hid (ZR v4 s4 (some ⟨g4, 0, none⟩) m4 (-y)) := hz4
      have HL4 : Hid (m4 ≤ 16384) := by have := HM.out; show m4 ≤ _; omega
      clear hz4 hl4 hg4
      refine hK _ _ trivial ?_
      clear hK
      obtain ⟨ca0, ca1, fa0, fa1⟩ := Xa.out
      have hnea := Xa.out.lt
      obtain ⟨cb0, cb1, fb0, fb1⟩ := Xb.out
      have hneb := Xb.out.lt
      obtain ⟨cr0, cr1, fr0, fr1⟩ := Xr.out
      have hner := Xr.out.lt
      obtain ⟨hgd0, hgd1, hgd2, hgd3, hgd4, hgd5⟩ := HGD.out
      refine wpJ_one (i := 4) (by kernel_rfl) rfl (by kernel_rfl) (fun KJ hK => ?_)
      go_simp
      have Xa2 : Hid (Box ((v4.setCell ⟨ga, 0, none⟩ (.bool s3)).setCell ⟨ga, 1, none⟩ (.slice (some ⟨g3, 0, none⟩) m3 m3)) ga (.bool s3) (.slice (some ⟨g3, 0, none⟩) m3 m3)) := ⟨by go_simp, by go_simp, by go_simp, by go_simp⟩
      have Xb2 : Hid (Box ((v4.setCell ⟨ga, 0, none⟩ (.bool s3)).setCell ⟨ga, 1, none⟩ (.slice (some ⟨g3, 0, none⟩) m3 m3)) gb (.bool true) (.slice q n n)) := ⟨by go_simp, by go_simp, by go_simp, by go_simp⟩
      have Xr2 : Hid (Box ((v4.setCell ⟨ga, 0, none⟩ (.bool s3)).setCell ⟨ga, 1, none⟩ (.slice (some ⟨g3, 0, none⟩) m3 m3)) gr (.bool false) (.slice none 0 0)) := ⟨by go_simp, by go_simp, by go_simp, by go_simp⟩
      clear hgd0 hgd1 hgd2 hgd3 hgd4 hgd5
      have Z32 : Hid (ZR ((v4.setCell ⟨ga, 0, none⟩ (.bool s3)).setCell ⟨ga, 1, none⟩ (.slice (some ⟨g3, 0, none⟩) m3 m3)) s3 (some ⟨g3, 0, none⟩) m3 (-x)) := (Z3.out.set _ _ _ (Nat.ne_of_gt HG3.out.1)).set _ _ _ (Nat.ne_of_gt HG3.out.1)
      have Z42 : Hid (ZR ((v4.setCell ⟨ga, 0, none⟩ (.bool s3)).setCell ⟨ga, 1, none⟩ (.slice (some ⟨g3, 0, none⟩) m3 m3)) s4 (some ⟨g4, 0, none⟩) m4 (-y)) := (Z4.out.set _ _ _ (Nat.ne_of_gt HG4.out.1)).set _ _ _ (Nat.ne_of_gt HG4.out.1)
      have hbw2 : Below w.heap.size w ((v4.setCell ⟨ga, 0, none⟩ (.bool s3)).setCell ⟨ga, 1, none⟩ (.slice (some ⟨g3, 0, none⟩) m3 m3)) := bSet (bSet hbw _ _ _ HGa.out) _ _ _ HGa.out
      refine hK _ _ trivial ?_
      clear hK
      clear ca0 ca1 fa0 fa1 hnea
      clear cb0 cb1 fb0 fb1 hneb
      clear cr0 cr1 fr0 fr1 hner
      clear hbw Z3 Z4 Xa Xb Xr
      generalize ((v4.setCell ⟨ga, 0, none⟩ (.bool s3)).setCell ⟨ga, 1, none⟩ (.slice (some ⟨g3, 0, none⟩) m3 m3)) = Wa at *
      have hbw := hbw2
      have Z3 := Z32
      have Z4 := Z42
      have Xa := Xa2
      have Xb := Xb2
      have Xr := Xr2
      clear hbw2 Z32 Z42 Xa2 Xb2 Xr2
      obtain ⟨cb0, cb1, fb0, fb1⟩ := Xb.out
      have hneb := Xb.out.lt
      obtain ⟨ca0, ca1, fa0, fa1⟩ := Xa.out
      have hnea := Xa.out.lt
      obtain ⟨cr0, cr1, fr0, fr1⟩ := Xr.out
      have hner := Xr.out.lt
      obtain ⟨hgd0, hgd1, hgd2, hgd3, hgd4, hgd5⟩ := HGD.out
      refine wpJ_one (i := 5) (by kernel_rfl) rfl (by kernel_rfl) (fun KJ hK => ?_)
      go_simp
      have Xb2 : Hid (Box ((Wa.setCell ⟨gb, 0, none⟩ (.bool s4)).setCell ⟨gb, 1, none⟩ (.slice (some ⟨g4, 0, none⟩) m4 m4)) gb (.bool s4) (.slice (some ⟨g4, 0, none⟩) m4 m4)) := ⟨by go_simp, by go_simp, by go_simp, by go_simp⟩
      have Xa2 : Hid (Box ((Wa.setCell ⟨gb, 0, none⟩ (.bool s4)).setCell ⟨gb, 1, none⟩ (.slice (some ⟨g4, 0, none⟩) m4 m4)) ga (.bool s3) (.slice (some ⟨g3, 0, none⟩) m3 m3)) := ⟨by go_simp, by go_simp, by go_simp, by go_simp⟩
      have Xr2 : Hid (Box ((Wa.setCell ⟨gb, 0, none⟩ (.bool s4)).setCell ⟨gb, 1, none⟩ (.slice (some ⟨g4, 0, none⟩) m4 m4)) gr (.bool false) (.slice none 0 0)) := ⟨by go_simp, by go_simp, by go_simp, by go_simp⟩
      clear hgd0 hgd1 hgd2 hgd3 hgd4 hgd5
      have Z32 : Hid (ZR ((Wa.setCell ⟨gb, 0, none⟩ (.bool s4)).setCell ⟨gb, 1, none⟩ (.slice (some ⟨g4, 0, none⟩) m4 m4)) s3 (some ⟨g3, 0, none⟩) m3 (-x)) := (Z3.out.set _ _ _ (Nat.ne_of_gt HG3.out.2)).set _ _ _ (Nat.ne_of_gt HG3.out.2)
      have Z42 : Hid (ZR ((Wa.setCell ⟨gb, 0, none⟩ (.bool s4)).setCell ⟨gb, 1, none⟩ (.slice (some ⟨g4, 0, none⟩) m4 m4)) s4 (some ⟨g4, 0, none⟩) m4 (-y)) := (Z4.out.set _ _ _ (Nat.ne_of_gt HG4.out.2)).set _ _ _ (Nat.ne_of_gt HG4.out.2)
      have hbw2 : Below w.heap.size w ((Wa.setCell ⟨gb, 0, none⟩ (.bool s4)).setCell ⟨gb, 1, none⟩ (.slice (some ⟨g4, 0, none⟩) m4 m4)) := bSet (bSet hbw _ _ _ HGb.out) _ _ _ HGb.out
      refine hK _ _ trivial ?_
      clear hK
      clear cb0 cb1 fb0 fb1 hneb
      clear ca0 ca1 fa0 fa1 hnea
      clear cr0 cr1 fr0 fr1 hner
      clear hbw Z3 Z4 Xa Xb Xr
      generalize ((Wa.setCell ⟨gb, 0, none⟩ (.bool s4)).setCell ⟨gb, 1, none⟩ (.slice (some ⟨g4, 0, none⟩) m4 m4)) = Wb at *
      have hbw := hbw2
      have Z3 := Z32
      have Z4 := Z42
      have Xa := Xa2
      have Xb := Xb2
      have Xr := Xr2
      clear hbw2 Z32 Z42 Xa2 Xb2 Xr2
      refine wpJ_done (by kernel_rfl) ?_ _
      exact ⟨rfl, s3, g3, m3, s4, g4, m4, by kernel_rfl, Xa.out, Xb.out, Xr.out, Z3.out, Z4.out, HL3.out, HL4.out, hbw⟩
theorem rneardiv04 {p q : Option Addr} {m n : Nat} {w : World} {x y : Int} (s t : Bool) (h : ZR w s p m x) (k : ZR w t q n y) (hm : m ≤ 16384) (hn : n ≤ 16384) (hy : y ≠ 0) :
    Calls Tryz.prog 94 #[.agg #[.bool s, .slice p m m], .agg #[.bool t, .slice q n n]] w fun e w' => ∃ v, e = .returned v ∧ GotR w.heap.size w' v (rNd x y) (20001) ∧ Below w.heap.size w w' := by
  cases t
  · have := of_decide_eq_false k.sg.symm
    exact rneardiv04_p s h k hm hn (by omega)
  · exact rneardiv04_n s h k hm hn (of_decide_eq_true k.sg.symm)
end Go.Proofs.YtgodajcnhipleaaGreatDoor

