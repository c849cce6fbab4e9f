import Derived.Test.YtoalblaklcekeaaGreatDoorJ13
import Derived.Test.YtoalblaklcekeaaGreatDoorJ11
import Derived.Test.YtoalblaklcekeaaGreatDoorJ10
import Derived.Test.YtoalblaklcekeaaGreatDoorJ12
import Derived.Test.YtoalblaklcekeaaGreatDoorJ19
import Derived.Test.YtoalblaklcekeaaGreatDoorJ9
import Derived.Test.YtoalblaklcekeaaGreatDoorJ17
import Derived.Laws.Cover1
import Derived.Deep.RegionLaw
import Derived.Deep.LoopGhost
namespace Go.Proofs.YtoalblaklcekeaaGreatDoor
open Go.RowKit Go.Shelf
theorem iv_sums {s t : Bool} {x y : Int} (h1 : s = decide (x < 0)) (h2 : t = decide (y < 0)) (h3 : s = t) : iv s (x.natAbs + y.natAbs) = x + y := by
  rw [h3] at h1 ⊢
  cases t
  · have a := of_decide_eq_false h1.symm; have b := of_decide_eq_false h2.symm; rw [iv_f]; omega
  · have a := of_decide_eq_true h1.symm; have b := of_decide_eq_true h2.symm; rw [iv_t]; omega
theorem iv_sumg {s t : Bool} {x y : Int} (h1 : s = decide (x < 0)) (h2 : t = decide (y < 0)) (h3 : s ≠ t) (h4 : y.natAbs ≤ x.natAbs) : iv s (x.natAbs - y.natAbs) = x + y := by
  cases s <;> cases t
  · exact absurd rfl h3
  · have a := of_decide_eq_false h1.symm; have b := of_decide_eq_true h2.symm; rw [iv_f]; omega
  · have a := of_decide_eq_true h1.symm; have b := of_decide_eq_false h2.symm; rw [iv_t]; omega
  · exact absurd rfl h3
theorem iv_suml {s t : Bool} {x y : Int} (h1 : s = decide (x < 0)) (h2 : t = decide (y < 0)) (h3 : s ≠ t) (h4 : x.natAbs < y.natAbs) : iv t (y.natAbs - x.natAbs) = x + y := by
  cases s <;> cases t
  · exact absurd rfl h3
  · have a := of_decide_eq_false h1.symm; have b := of_decide_eq_true h2.symm; rw [iv_t]; omega
  · have a := of_decide_eq_true h1.symm; have b := of_decide_eq_false h2.symm; rw [iv_f]; omega
  · exact absurd rfl h3
theorem sum_len32 {xs ys zs : List Nat} {a b m n : Nat} (hx : Nf B32 xs a) (hy : Nf B32 ys b) (lx : xs.length = m) (ly : ys.length = n) (hz : Nf B32 zs (a + b)) : zs.length ≤ max m n + 1 := by
  refine (hz.len_le B32_one).2 ?_
  have h1 := (hx.len_le B32_one (k := max m n)).1 (by omega)
  have h2 := (hy.len_le B32_one (k := max m n)).1 (by omega)
  rw [Nat.pow_succ]
  have : B32 ^ (max m n) * 2 ≤ B32 ^ (max m n) * B32 := Nat.mul_le_mul_left _ (by rw [B32_eq]; omega)
  omega
theorem iv_mul2 (s t : Bool) (a b : Nat) : iv (!(s == t)) (a * b) = iv s a * iv t b := by cases s <;> cases t <;> simp [iv, Int.neg_mul, Int.mul_neg]
set_option maxRecDepth 20000 in
set_option maxHeartbeats 4000000 in
theorem rmul04 {p q : Option Addr} {m n : Nat} {w : World} {x y : Int} (s t : Bool) (h : ZR w s p m x) (k : ZR w t q n y) (hm : m ≤ 50000) (hn : n ≤ 50000) :
    Calls Tryz.prog 114 #[.agg #[.bool s, .slice p m m], .agg #[.bool t, .slice q n n]] w fun e w' => ∃ v, e = .returned v ∧ GotR w.heap.size w' v (x * y) (m + n) ∧ Below w.heap.size w w' := by
  have HA : Hid (ZR w s p m x) := h
  have HB : Hid (ZR w t q n y) := k
  have HM : Hid (m ≤ 50000 ∧ n ≤ 50000) := ⟨hm, hn⟩
  clear h k hm hn
  go_enter Tryz.func114, Tryz.ntmps114
  go_wp2_with fail
  obtain ⟨W0, hW0⟩ : ∃ W0, W0 = (((w.alloc (.cells #[.bool s, .slice p m m] 110)).alloc (.cells #[.bool t, .slice q n n] 110)).alloc (.cells #[.bool false, .slice none 0 0] 110)) := ⟨_, rfl⟩
  have Xa : Hid (Box W0 (w.heap.size) (.bool s) (.slice p m m)) := by rw [hW0]; exact ⟨by go_simp, by go_simp, by go_simp, by go_simp⟩
  have Xb : Hid (Box W0 (w.heap.size + 1) (.bool t) (.slice q n n)) := by rw [hW0]; exact ⟨by go_simp, by go_simp, by go_simp, by go_simp⟩
  have Xr : Hid (Box W0 (w.heap.size + 1 + 1) (.bool false) (.slice none 0 0)) := by rw [hW0]; exact ⟨by go_simp, by go_simp, by go_simp, by go_simp⟩
  have hb0 : Below w.heap.size w W0 := by rw [hW0]; exact below3 w _ _ _
  rw [← hW0]
  clear hW0
  have hbw : Below w.heap.size w w := Below.refl _ _
  obtain ⟨gr, hgr⟩ : ∃ g, g = w.heap.size + 1 + 1 := ⟨_, rfl⟩
  have HGr : Hid (w.heap.size ≤ gr) := by rw [hgr]; show _ ≤ _; omega
  rw [← hgr] at Xr
  try rw [← hgr]
  obtain ⟨gb, hgb⟩ : ∃ g, g = w.heap.size + 1 := ⟨_, rfl⟩
  have HGb : Hid (w.heap.size ≤ gb) := by rw [hgb]; show _ ≤ _; omega
  rw [← hgb] at Xb
  try rw [← hgb]
  obtain ⟨ga, hga⟩ : ∃ g, g = w.heap.size := ⟨_, rfl⟩
  have HGa : Hid (w.heap.size ≤ ga) := by rw [hga]; show _ ≤ _; omega
  rw [← hga] at Xa
  try rw [← hga]
  have HGD : Hid (ga ≠ gb ∧ ga ≠ gr ∧ gb ≠ ga ∧ gb ≠ gr ∧ gr ≠ ga ∧ gr ≠ gb) := by rw [hga, hgb, hgr]; exact ⟨by omega, by omega, by omega, by omega, by omega, by omega⟩
  clear hga hgb hgr
  replace HA : Hid _ := HA.out.below hb0
  replace HB : Hid _ := HB.out.below hb0
  replace hbw := Below.on hbw hb0
  clear hb0
  obtain ⟨xs, hAx, hNx⟩ := HA.out.ex
  obtain ⟨ys, hAy, hNy⟩ := HB.out.ex
  have HNX : Hid (Nf B32 xs x.natAbs ∧ Nf B32 ys y.natAbs) := ⟨hNx, hNy⟩
  have HZV : Hid (iv (!(s == t)) (x.natAbs * y.natAbs) = x * y) := by rw [← HA.out.iv, ← HB.out.iv, iv_natAbs, iv_natAbs]; exact iv_mul2 s t _ _
  clear hNx hNy
  have AX : Hid (At32 W0 p m m xs) := hAx
  have AY : Hid (At32 W0 q n n ys) := hAy
  clear hAx hAy
  obtain ⟨W1, hW1⟩ : ∃ W1, W1 = W0.drew := ⟨_, rfl⟩
  have hbd : Below W0.heap.size W0 W1 := by rw [hW1]; exact bDrew1 (Below.refl _ _)
  replace Xa : Hid _ := Xa.out.below hbd
  replace Xb : Hid _ := Xb.out.below hbd
  replace Xr : Hid _ := Xr.out.below hbd
  replace HA : Hid _ := HA.out.below hbd
  replace HB : Hid _ := HB.out.below hbd
  replace AX : Hid _ := AX.out.below hbd
  replace AY : Hid _ := AY.out.below hbd
  replace hbw := Below.on hbw hbd
  clear hbd
  have HJ : Hid ((fun W' : World => W'.cell? ⟨ga, 0, none⟩ = some (.bool s) ∧ W'.cell? ⟨ga, 1, none⟩ = some (.slice p m m) ∧ W'.cell? ⟨gb, 0, none⟩ = some (.bool t) ∧ W'.cell? ⟨gb, 1, none⟩ = some (.slice q n n)) W1) := ⟨Xa.out.c0, Xa.out.c1, Xb.out.c0, Xb.out.c1⟩
  refine wp_region_J (fun W' => W'.cell? ⟨ga, 0, none⟩ = some (.bool s) ∧ W'.cell? ⟨ga, 1, none⟩ = some (.slice p m m) ∧ W'.cell? ⟨gb, 0, none⟩ = some (.bool t) ∧ W'.cell? ⟨gb, 1, none⟩ = some (.slice q n n)) (by kernel_rfl) ?_
  rw [← hW1]
  clear hW1
  refine wpJ_tk 0 (v := ?v1x0) rfl ?hy1x0 HJ.out ?_
  case hy1x0 => (intro W' hJ; obtain ⟨j0, j1, j2, j3⟩ := hJ; go_simp; first | done | with_reducible rfl)
  refine wpJ_tk 1 (v := ?v2x1) rfl ?hy2x1 HJ.out ?_
  case hy2x1 => (intro W' hJ; obtain ⟨j0, j1, j2, j3⟩ := hJ; go_simp; first | done | with_reducible rfl)
  refine wpJ_tk 2 (v := ?v3x2) rfl ?hy3x2 HJ.out ?_
  case hy3x2 => (intro W' hJ; obtain ⟨j0, j1, j2, j3⟩ := hJ; go_simp; first | done | with_reducible rfl)
  refine wpJ_tk 3 (v := ?v4x3) rfl ?hy4x3 HJ.out ?_
  case hy4x3 => (intro W' hJ; obtain ⟨j0, j1, j2, j3⟩ := hJ; go_simp; first | done | with_reducible rfl)
  refine wpJ_tk 4 (v := ?v5x4) rfl ?hy5x4 HJ.out ?_
  case hy5x4 => (intro W' hJ; obtain ⟨j0, j1, j2, j3⟩ := hJ; go_simp; first | done | with_reducible rfl)
  refine wpJ_tk 5 (v := ?v6x5) rfl ?hy6x5 HJ.out ?_
  case hy6x5 => (intro W' hJ; obtain ⟨j0, j1, j2, j3⟩ := hJ; go_simp; first | done | with_reducible rfl)
  refine wpJ_tk 6 (v := ?v7x6) rfl ?hy7x6 HJ.out ?_
  case hy7x6 => (intro W' hJ; obtain ⟨j0, j1, j2, j3⟩ := hJ; go_simp; first | done | with_reducible rfl)
  refine wpJ_tk 7 (v := ?v8x7) rfl ?hy8x7 HJ.out ?_
  case hy8x7 => (intro W' hJ; obtain ⟨j0, j1, j2, j3⟩ := hJ; go_simp; first | done | with_reducible rfl)
  refine wpJ_tk 8 (v := ?v9x8) rfl ?hy9x8 HJ.out ?_
  case hy9x8 => (intro W' hJ; obtain ⟨j0, j1, j2, j3⟩ := hJ; go_simp; first | done | with_reducible rfl)
  refine wpJ_one (i := 9) (by kernel_rfl) rfl (by kernel_rfl) (fun KJ hK => ?_)
  go_simp
  refine (rmul_any AX.out AY.out HNX.out.1 HNX.out.2 (by have := HM.out; omega) (by have := HM.out; omega)).mono ?_
  rintro e w2 ⟨p2, m2, z2, rfl, hA2, hN2, hl2, hb2⟩
  replace Xa : Hid _ := Xa.out.below hb2
  replace Xb : Hid _ := Xb.out.below hb2
  replace Xr : Hid _ := Xr.out.below hb2
  replace HA : Hid _ := HA.out.below hb2
  replace HB : Hid _ := HB.out.below hb2
  replace AX : Hid _ := AX.out.below hb2
  replace AY : Hid _ := AY.out.below hb2
  replace hbw := Below.on hbw hb2
  clear hb2
  have A2 : Hid (At32 w2 p2 m2 m2 z2) := hA2
  have N2 : Hid (Nf B32 z2 (x.natAbs * y.natAbs)) := hN2
  have HLL : Hid (m2 ≤ m + n) := hl2
  have HRL : Hid (gr < w2.heap.size) := Xr.out.lt
  have HBS : Hid (w.heap.size ≤ w2.heap.size) := hbw.size
  clear hA2 hN2 hl2
  refine hK _ _ ⟨Xa.out.c0, Xa.out.c1, Xb.out.c0, Xb.out.c1⟩ ?_
  clear hK
  refine wpJ_one (i := 10) (by kernel_rfl) rfl (by kernel_rfl) (fun KJ hK => ?_)
  go_simp
  refine (rmk_any (!(s == t)) A2.out N2.out (by have := HLL.out; have := HM.out; omega)).mono ?_
  rintro e w3 ⟨v, rfl, hv, hb3⟩
  rw [HZV.out] at hv
  replace Xa : Hid _ := Xa.out.below hb3
  replace Xb : Hid _ := Xb.out.below hb3
  replace Xr : Hid _ := Xr.out.below hb3
  replace HA : Hid _ := HA.out.below hb3
  replace HB : Hid _ := HB.out.below hb3
  replace AX : Hid _ := AX.out.below hb3
  replace AY : Hid _ := AY.out.below hb3
  replace A2 : Hid _ := A2.out.below hb3
  replace hbw := Below.on hbw hb3
  clear hb3
  obtain ⟨s9, g9, m9, rfl, hg9, hz9, hl9⟩ := hv
  have ZA : Hid (ZR w3 s9 (some ⟨g9, 0, none⟩) m9 (x * y)) := hz9
  have HL : Hid (m9 ≤ m + n) := by have := hl9; have := HLL.out; show m9 ≤ _; omega
  have HGE : Hid (gr < g9) := Nat.lt_of_lt_of_le HRL.out hg9
  have HGB : Hid (w.heap.size ≤ g9) := Nat.le_trans HBS.out hg9
  clear hg9 hz9 hl9
  refine hK _ _ ⟨Xa.out.c0, Xa.out.c1, Xb.out.c0, Xb.out.c1⟩ ?_
  clear hK
  obtain ⟨cr0, cr1, fr0, fr1⟩ := Xr.out
  have hner := Xr.out.lt
  obtain ⟨ca0, ca1, fa0, fa1⟩ := Xa.out
  have hnea := Xa.out.lt
  obtain ⟨cb0, cb1, fb0, fb1⟩ := Xb.out
  have hneb := Xb.out.lt
  obtain ⟨hgd0, hgd1, hgd2, hgd3, hgd4, hgd5⟩ := HGD.out
  refine wpJ_one (i := 11) (by kernel_rfl) rfl (by kernel_rfl) (fun KJ hK => ?_)
  go_simp
  have HJ2 : Hid ((fun W' : World => W'.cell? ⟨ga, 0, none⟩ = some (.bool s) ∧ W'.cell? ⟨ga, 1, none⟩ = some (.slice p m m) ∧ W'.cell? ⟨gb, 0, none⟩ = some (.bool t) ∧ W'.cell? ⟨gb, 1, none⟩ = some (.slice q n n)) ((w3.setCell ⟨gr, 0, none⟩ (.bool s9)).setCell ⟨gr, 1, none⟩ (.slice (some ⟨g9, 0, none⟩) m9 m9))) := ⟨by go_simp, by go_simp, by go_simp, by go_simp⟩
  refine hK _ _ HJ2.out ?_
  clear hK HJ
  have HJ := HJ2
  clear HJ2
  refine wpJ_done (by kernel_rfl) ?_ _
  clear HJ
  go_wp2_with fail
  refine bodyPost_ret (v := .agg #[.bool s9, .slice (some ⟨g9, 0, none⟩) m9 m9]) (by rw [results_cell1 rfl]; go_simp) rfl ⟨_, rfl, ⟨s9, g9, m9, rfl, HGB.out, ?_, HL.out⟩, ?_⟩
  · have := HGE.out
    exact (ZA.out.set _ _ _ (by omega)).set _ _ _ (by omega)
  · exact bSet (bSet hbw _ _ _ HGr.out) _ _ _ HGr.out
set_option maxRecDepth 20000 in
set_option maxHeartbeats 4000000 in
theorem radd04_s {p q : Option Addr} {m n : Nat} {w : World} {x y : Int} (s t : Bool) (h : ZR w s p m x) (k : ZR w t q n y) (hm : m ≤ 50000) (hn : n ≤ 50000) (hst : s = t) :
    Calls Tryz.prog 112 #[.agg #[.bool s, .slice p m m], .agg #[.bool t, .slice q n n]] w fun e w' => ∃ v, e = .returned v ∧ GotR w.heap.size w' v (x + y) (max m n + 1) ∧ Below w.heap.size w w' := by
  have HA : Hid (ZR w s p m x) := h
  have HB : Hid (ZR w t q n y) := k
  have HM : Hid (m ≤ 50000 ∧ n ≤ 50000) := ⟨hm, hn⟩
  clear h k hm hn
  have hse : (s == t) = true := by simpa using hst
  have HST : Hid (s = t) := hst
  clear hst
  go_enter Tryz.func112, Tryz.ntmps112
  go_wp2_with fail
  obtain ⟨W0, hW0⟩ : ∃ W0, W0 = (((w.alloc (.cells #[.bool s, .slice p m m] 110)).alloc (.cells #[.bool t, .slice q n n] 110)).alloc (.cells #[.bool false, .slice none 0 0] 110)) := ⟨_, rfl⟩
  have Xa : Hid (Box W0 (w.heap.size) (.bool s) (.slice p m m)) := by rw [hW0]; exact ⟨by go_simp, by go_simp, by go_simp, by go_simp⟩
  have Xb : Hid (Box W0 (w.heap.size + 1) (.bool t) (.slice q n n)) := by rw [hW0]; exact ⟨by go_simp, by go_simp, by go_simp, by go_simp⟩
  have Xr : Hid (Box W0 (w.heap.size + 1 + 1) (.bool false) (.slice none 0 0)) := by rw [hW0]; exact ⟨by go_simp, by go_simp, by go_simp, by go_simp⟩
  have hb0 : Below w.heap.size w W0 := by rw [hW0]; exact below3 w _ _ _
  rw [← hW0]
  clear hW0
  have hbw : Below w.heap.size w w := Below.refl _ _
  obtain ⟨gr, hgr⟩ : ∃ g, g = w.heap.size + 1 + 1 := ⟨_, rfl⟩
  have HGr : Hid (w.heap.size ≤ gr) := by rw [hgr]; show _ ≤ _; omega
  rw [← hgr] at Xr
  try rw [← hgr]
  obtain ⟨gb, hgb⟩ : ∃ g, g = w.heap.size + 1 := ⟨_, rfl⟩
  have HGb : Hid (w.heap.size ≤ gb) := by rw [hgb]; show _ ≤ _; omega
  rw [← hgb] at Xb
  try rw [← hgb]
  obtain ⟨ga, hga⟩ : ∃ g, g = w.heap.size := ⟨_, rfl⟩
  have HGa : Hid (w.heap.size ≤ ga) := by rw [hga]; show _ ≤ _; omega
  rw [← hga] at Xa
  try rw [← hga]
  have HGD : Hid (ga ≠ gb ∧ ga ≠ gr ∧ gb ≠ ga ∧ gb ≠ gr ∧ gr ≠ ga ∧ gr ≠ gb) := by rw [hga, hgb, hgr]; exact ⟨by omega, by omega, by omega, by omega, by omega, by omega⟩
  clear hga hgb hgr
  replace HA : Hid _ := HA.out.below hb0
  replace HB : Hid _ := HB.out.below hb0
  replace hbw := Below.on hbw hb0
  clear hb0
  obtain ⟨xs, hAx, hNx⟩ := HA.out.ex
  obtain ⟨ys, hAy, hNy⟩ := HB.out.ex
  have HNX : Hid (Nf B32 xs x.natAbs ∧ Nf B32 ys y.natAbs) := ⟨hNx, hNy⟩
  clear hNx hNy
  have AX : Hid (At32 W0 p m m xs) := hAx
  have AY : Hid (At32 W0 q n n ys) := hAy
  clear hAx hAy
  have HZV : Hid (iv s (x.natAbs + y.natAbs) = x + y) := by have h1 := HA.out.sg; have h2 := HB.out.sg; have h3 := HST.out; exact iv_sums h1 h2 h3
  obtain ⟨W1, hW1⟩ : ∃ W1, W1 = W0.drew := ⟨_, rfl⟩
  have hbd : Below W0.heap.size W0 W1 := by rw [hW1]; exact bDrew1 (Below.refl _ _)
  replace Xa : Hid _ := Xa.out.below hbd
  replace Xb : Hid _ := Xb.out.below hbd
  replace Xr : Hid _ := Xr.out.below hbd
  replace HA : Hid _ := HA.out.below hbd
  replace HB : Hid _ := HB.out.below hbd
  replace AX : Hid _ := AX.out.below hbd
  replace AY : Hid _ := AY.out.below hbd
  replace hbw := Below.on hbw hbd
  clear hbd
  have HJ : Hid ((fun W' : World => W'.cell? ⟨ga, 0, none⟩ = some (.bool s) ∧ W'.cell? ⟨ga, 1, none⟩ = some (.slice p m m) ∧ W'.cell? ⟨gb, 0, none⟩ = some (.bool t) ∧ W'.cell? ⟨gb, 1, none⟩ = some (.slice q n n)) W1) := ⟨Xa.out.c0, Xa.out.c1, Xb.out.c0, Xb.out.c1⟩
  refine wp_region_J (fun W' => W'.cell? ⟨ga, 0, none⟩ = some (.bool s) ∧ W'.cell? ⟨ga, 1, none⟩ = some (.slice p m m) ∧ W'.cell? ⟨gb, 0, none⟩ = some (.bool t) ∧ W'.cell? ⟨gb, 1, none⟩ = some (.slice q n n)) (by kernel_rfl) ?_
  rw [← hW1]
  clear hW1
  refine wpJ_tk 0 (v := ?v10x0) rfl ?hy10x0 HJ.out ?_
  case hy10x0 => (intro W' hJ; obtain ⟨j0, j1, j2, j3⟩ := hJ; go_simp; first | done | with_reducible rfl)
  refine wpJ_tk 1 (v := ?v11x1) rfl ?hy11x1 HJ.out ?_
  case hy11x1 => (intro W' hJ; obtain ⟨j0, j1, j2, j3⟩ := hJ; go_simp; first | done | with_reducible rfl)
  refine wpJ_tk 2 (v := ?v12x2) rfl ?hy12x2 HJ.out ?_
  case hy12x2 => (intro W' hJ; obtain ⟨j0, j1, j2, j3⟩ := hJ; go_simp; first | done | with_reducible rfl)
  refine wpJ_tk 3 (v := ?v13x3) rfl ?hy13x3 HJ.out ?_
  case hy13x3 => (intro W' hJ; obtain ⟨j0, j1, j2, j3⟩ := hJ; go_simp; first | done | with_reducible rfl)
  refine wpJ_tk 4 (v := ?v14x4) rfl ?hy14x4 HJ.out ?_
  case hy14x4 => (intro W' hJ; obtain ⟨j0, j1, j2, j3⟩ := hJ; go_simp; first | done | with_reducible rfl)
  refine wpJ_tk 5 (v := ?v15x5) rfl ?hy15x5 HJ.out ?_
  case hy15x5 => (intro W' hJ; obtain ⟨j0, j1, j2, j3⟩ := hJ; go_simp; first | done | with_reducible rfl)
  refine wpJ_one (i := 6) (by kernel_rfl) rfl (by kernel_rfl) (fun KJ hK => ?_)
  go_simp
  refine (radd_any AX.out AY.out HNX.out.1 HNX.out.2 (by have := HM.out; omega) (by have := HM.out; omega)).mono ?_
  rintro e w2 ⟨p2, m2, z2, rfl, hA2, hN2, hb2⟩
  have hl2 : m2 ≤ max m n + 1 := by rw [← hA2.len]; exact sum_len32 HNX.out.1 HNX.out.2 AX.out.len AY.out.len hN2
  replace Xa : Hid _ := Xa.out.below hb2
  replace Xb : Hid _ := Xb.out.below hb2
  replace Xr : Hid _ := Xr.out.below hb2
  replace HA : Hid _ := HA.out.below hb2
  replace HB : Hid _ := HB.out.below hb2
  replace AX : Hid _ := AX.out.below hb2
  replace AY : Hid _ := AY.out.below hb2
  replace hbw := Below.on hbw hb2
  clear hb2
  have A2 : Hid (At32 w2 p2 m2 m2 z2) := hA2
  have N2 : Hid (Nf B32 z2 (x.natAbs + y.natAbs)) := hN2
  have HLL : Hid (m2 ≤ max m n + 1) := hl2
  have HRL : Hid (gr < w2.heap.size) := Xr.out.lt
  have HBS : Hid (w.heap.size ≤ w2.heap.size) := hbw.size
  clear hA2 hN2 hl2
  refine hK _ _ ⟨Xa.out.c0, Xa.out.c1, Xb.out.c0, Xb.out.c1⟩ ?_
  clear hK
  refine wpJ_one (i := 7) (by kernel_rfl) rfl (by kernel_rfl) (fun KJ hK => ?_)
  go_simp
  refine (rmk_any s A2.out N2.out (by have := HLL.out; have := HM.out; omega)).mono ?_
  rintro e w3 ⟨v, rfl, hv, hb3⟩
  rw [HZV.out] at hv
  replace Xa : Hid _ := Xa.out.below hb3
  replace Xb : Hid _ := Xb.out.below hb3
  replace Xr : Hid _ := Xr.out.below hb3
  replace HA : Hid _ := HA.out.below hb3
  replace HB : Hid _ := HB.out.below hb3
  replace AX : Hid _ := AX.out.below hb3
  replace AY : Hid _ := AY.out.below hb3
  replace A2 : Hid _ := A2.out.below hb3
  replace hbw := Below.on hbw hb3
  clear hb3
  obtain ⟨s9, g9, m9, rfl, hg9, hz9, hl9⟩ := hv
  have ZA : Hid (ZR w3 s9 (some ⟨g9, 0, none⟩) m9 (x + y)) := hz9
  have HL : Hid (m9 ≤ max m n + 1) := by have := hl9; have := HLL.out; show m9 ≤ _; omega
  have HGE : Hid (gr < g9) := Nat.lt_of_lt_of_le HRL.out hg9
  have HGB : Hid (w.heap.size ≤ g9) := Nat.le_trans HBS.out hg9
  clear hg9 hz9 hl9
  refine hK _ _ ⟨Xa.out.c0, Xa.out.c1, Xb.out.c0, Xb.out.c1⟩ ?_
  clear hK
  obtain ⟨cr0, cr1, fr0, fr1⟩ := Xr.out
  have hner := Xr.out.lt
  obtain ⟨ca0, ca1, fa0, fa1⟩ := Xa.out
  have hnea := Xa.out.lt
  obtain ⟨cb0, cb1, fb0, fb1⟩ := Xb.out
  have hneb := Xb.out.lt
  obtain ⟨hgd0, hgd1, hgd2, hgd3, hgd4, hgd5⟩ := HGD.out
  refine wpJ_one (i := 8) (by kernel_rfl) rfl (by kernel_rfl) (fun KJ hK => ?_)
  go_simp
  have HJ2 : Hid ((fun W' : World => W'.cell? ⟨ga, 0, none⟩ = some (.bool s) ∧ W'.cell? ⟨ga, 1, none⟩ = some (.slice p m m) ∧ W'.cell? ⟨gb, 0, none⟩ = some (.bool t) ∧ W'.cell? ⟨gb, 1, none⟩ = some (.slice q n n)) ((w3.setCell ⟨gr, 0, none⟩ (.bool s9)).setCell ⟨gr, 1, none⟩ (.slice (some ⟨g9, 0, none⟩) m9 m9))) := ⟨by go_simp, by go_simp, by go_simp, by go_simp⟩
  refine hK _ _ HJ2.out ?_
  clear hK HJ
  have HJ := HJ2
  clear HJ2
  refine wpJ_done (by kernel_rfl) ?_ _
  clear HJ
  go_wp2_with fail
  refine bodyPost_ret (v := .agg #[.bool s9, .slice (some ⟨g9, 0, none⟩) m9 m9]) (by rw [results_cell1 rfl]; go_simp) rfl ⟨_, rfl, ⟨s9, g9, m9, rfl, HGB.out, ?_, HL.out⟩, ?_⟩
  · have := HGE.out
    exact (ZA.out.set _ _ _ (by omega)).set _ _ _ (by omega)
  · exact bSet (bSet hbw _ _ _ HGr.out) _ _ _ HGr.out
set_option maxRecDepth 20000 in
set_option maxHeartbeats 4000000 in
theorem radd04_g {p q : Option Addr} {m n : Nat} {w : World} {x y : Int} (s t : Bool) (h : ZR w s p m x) (k : ZR w t q n y) (hm : m ≤ 50000) (hn : n ≤ 50000) (hst : s ≠ t) (hcm : y.natAbs ≤ x.natAbs) :
    Calls Tryz.prog 112 #[.agg #[.bool s, .slice p m m], .agg #[.bool t, .slice q n n]] w fun e w' => ∃ v, e = .returned v ∧ GotR w.heap.size w' v (x + y) (max m n + 1) ∧ Below w.heap.size w w' := by
  have HA : Hid (ZR w s p m x) := h
  have HB : Hid (ZR w t q n y) := k
  have HM : Hid (m ≤ 50000 ∧ n ≤ 50000) := ⟨hm, hn⟩
  clear h k hm hn
  have hse : (s == t) = false := by simpa using hst
  have HST : Hid (s ≠ t) := hst
  have HCM : Hid (y.natAbs ≤ x.natAbs) := hcm
  clear hst hcm
  go_enter Tryz.func112, Tryz.ntmps112
  go_wp2_with fail
  obtain ⟨W0, hW0⟩ : ∃ W0, W0 = (((w.alloc (.cells #[.bool s, .slice p m m] 110)).alloc (.cells #[.bool t, .slice q n n] 110)).alloc (.cells #[.bool false, .slice none 0 0] 110)) := ⟨_, rfl⟩
  have Xa : Hid (Box W0 (w.heap.size) (.bool s) (.slice p m m)) := by rw [hW0]; exact ⟨by go_simp, by go_simp, by go_simp, by go_simp⟩
  have Xb : Hid (Box W0 (w.heap.size + 1) (.bool t) (.slice q n n)) := by rw [hW0]; exact ⟨by go_simp, by go_simp, by go_simp, by go_simp⟩
  have Xr : Hid (Box W0 (w.heap.size + 1 + 1) (.bool false) (.slice none 0 0)) := by rw [hW0]; exact ⟨by go_simp, by go_simp, by go_simp, by go_simp⟩
  have hb0 : Below w.heap.size w W0 := by rw [hW0]; exact below3 w _ _ _
  rw [← hW0]
  clear hW0
  have hbw : Below w.heap.size w w := Below.refl _ _
  obtain ⟨gr, hgr⟩ : ∃ g, g = w.heap.size + 1 + 1 := ⟨_, rfl⟩
  have HGr : Hid (w.heap.size ≤ gr) := by rw [hgr]; show _ ≤ _; omega
  rw [← hgr] at Xr
  try rw [← hgr]
  obtain ⟨gb, hgb⟩ : ∃ g, g = w.heap.size + 1 := ⟨_, rfl⟩
  have HGb : Hid (w.heap.size ≤ gb) := by rw [hgb]; show _ ≤ _; omega
  rw [← hgb] at Xb
  try rw [← hgb]
  obtain ⟨ga, hga⟩ : ∃ g, g = w.heap.size := ⟨_, rfl⟩
  have HGa : Hid (w.heap.size ≤ ga) := by rw [hga]; show _ ≤ _; omega
  rw [← hga] at Xa
  try rw [← hga]
  have HGD : Hid (ga ≠ gb ∧ ga ≠ gr ∧ gb ≠ ga ∧ gb ≠ gr ∧ gr ≠ ga ∧ gr ≠ gb) := by rw [hga, hgb, hgr]; exact ⟨by omega, by omega, by omega, by omega, by omega, by omega⟩
  clear hga hgb hgr
  replace HA : Hid _ := HA.out.below hb0
  replace HB : Hid _ := HB.out.below hb0
  replace hbw := Below.on hbw hb0
  clear hb0
  obtain ⟨xs, hAx, hNx⟩ := HA.out.ex
  obtain ⟨ys, hAy, hNy⟩ := HB.out.ex
  have HNX : Hid (Nf B32 xs x.natAbs ∧ Nf B32 ys y.natAbs) := ⟨hNx, hNy⟩
  clear hNx hNy
  have AX : Hid (At32 W0 p m m xs) := hAx
  have AY : Hid (At32 W0 q n n ys) := hAy
  clear hAx hAy
  have HZV : Hid (iv s (x.natAbs - y.natAbs) = x + y) := by have h1 := HA.out.sg; have h2 := HB.out.sg; have h3 := HST.out; exact iv_sumg h1 h2 h3 HCM.out
  obtain ⟨cm, hcm⟩ : ∃ cm, cm = cmpN x.natAbs y.natAbs := ⟨_, rfl⟩
  have HCQ : Hid (cm = cmpN x.natAbs y.natAbs) := hcm
  have hcc : decide (0 ≤ cm) = true := decide_eq_true (by rw [hcm]; have := HCM.out; unfold cmpN; split <;> (try split) <;> omega)
  clear hcm
  refine (rcmp_any AX.out AY.out HNX.out.1 HNX.out.2).mono ?_
  rintro e w9 ⟨rfl, rd, rfl⟩
  rw [← HCQ.out]
  have hbr := bDrewN (Below.refl W0.heap.size W0) rd
  generalize W0.drewN rd = W9 at *
  replace Xa : Hid _ := Xa.out.below hbr
  replace Xb : Hid _ := Xb.out.below hbr
  replace Xr : Hid _ := Xr.out.below hbr
  replace HA : Hid _ := HA.out.below hbr
  replace HB : Hid _ := HB.out.below hbr
  replace AX : Hid _ := AX.out.below hbr
  replace AY : Hid _ := AY.out.below hbr
  replace hbw := Below.on hbw hbr
  clear hbr
  obtain ⟨ca0, ca1, fa0, fa1⟩ := Xa.out
  have hnea := Xa.out.lt
  obtain ⟨cb0, cb1, fb0, fb1⟩ := Xb.out
  have hneb := Xb.out.lt
  go_wp2_with fail
  clear ca0 ca1 fa0 fa1 hnea
  clear cb0 cb1 fb0 fb1 hneb
  clear hcc
  obtain ⟨W1, hW1⟩ : ∃ W1, W1 = W9.drew := ⟨_, rfl⟩
  have hbd : Below W9.heap.size W9 W1 := by rw [hW1]; exact bDrew1 (Below.refl _ _)
  replace Xa : Hid _ := Xa.out.below hbd
  replace Xb : Hid _ := Xb.out.below hbd
  replace Xr : Hid _ := Xr.out.below hbd
  replace HA : Hid _ := HA.out.below hbd
  replace HB : Hid _ := HB.out.below hbd
  replace AX : Hid _ := AX.out.below hbd
  replace AY : Hid _ := AY.out.below hbd
  replace hbw := Below.on hbw hbd
  clear hbd
  have HJ : Hid ((fun W' : World => W'.cell? ⟨ga, 0, none⟩ = some (.bool s) ∧ W'.cell? ⟨ga, 1, none⟩ = some (.slice p m m) ∧ W'.cell? ⟨gb, 0, none⟩ = some (.bool t) ∧ W'.cell? ⟨gb, 1, none⟩ = some (.slice q n n)) W1) := ⟨Xa.out.c0, Xa.out.c1, Xb.out.c0, Xb.out.c1⟩
  refine wp_region_J (fun W' => W'.cell? ⟨ga, 0, none⟩ = some (.bool s) ∧ W'.cell? ⟨ga, 1, none⟩ = some (.slice p m m) ∧ W'.cell? ⟨gb, 0, none⟩ = some (.bool t) ∧ W'.cell? ⟨gb, 1, none⟩ = some (.slice q n n)) (by kernel_rfl) ?_
  rw [← hW1]
  clear hW1
  refine wpJ_tk 0 (v := ?v16x0) rfl ?hy16x0 HJ.out ?_
  case hy16x0 => (intro W' hJ; obtain ⟨j0, j1, j2, j3⟩ := hJ; go_simp; first | done | with_reducible rfl)
  refine wpJ_tk 1 (v := ?v17x1) rfl ?hy17x1 HJ.out ?_
  case hy17x1 => (intro W' hJ; obtain ⟨j0, j1, j2, j3⟩ := hJ; go_simp; first | done | with_reducible rfl)
  refine wpJ_tk 2 (v := ?v18x2) rfl ?hy18x2 HJ.out ?_
  case hy18x2 => (intro W' hJ; obtain ⟨j0, j1, j2, j3⟩ := hJ; go_simp; first | done | with_reducible rfl)
  refine wpJ_tk 3 (v := ?v19x3) rfl ?hy19x3 HJ.out ?_
  case hy19x3 => (intro W' hJ; obtain ⟨j0, j1, j2, j3⟩ := hJ; go_simp; first | done | with_reducible rfl)
  refine wpJ_tk 4 (v := ?v20x4) rfl ?hy20x4 HJ.out ?_
  case hy20x4 => (intro W' hJ; obtain ⟨j0, j1, j2, j3⟩ := hJ; go_simp; first | done | with_reducible rfl)
  refine wpJ_tk 5 (v := ?v21x5) rfl ?hy21x5 HJ.out ?_
  case hy21x5 => (intro W' hJ; obtain ⟨j0, j1, j2, j3⟩ := hJ; go_simp; first | done | with_reducible rfl)
  refine wpJ_one (i := 6) (by kernel_rfl) rfl (by kernel_rfl) (fun KJ hK => ?_)
  go_simp
  refine (rsub_any AX.out AY.out HNX.out.1 HNX.out.2 (by have := HM.out; omega) HCM.out).mono ?_
  rintro e w2 ⟨p2, m2, z2, rfl, hA2, hN2, hl2q, hb2⟩
  have hl2 : m2 ≤ max m n + 1 := by omega
  clear hl2q
  replace Xa : Hid _ := Xa.out.below hb2
  replace Xb : Hid _ := Xb.out.below hb2
  replace Xr : Hid _ := Xr.out.below hb2
  replace HA : Hid _ := HA.out.below hb2
  replace HB : Hid _ := HB.out.below hb2
  replace AX : Hid _ := AX.out.below hb2
  replace AY : Hid _ := AY.out.below hb2
  replace hbw := Below.on hbw hb2
  clear hb2
  have A2 : Hid (At32 w2 p2 m2 m2 z2) := hA2
  have N2 : Hid (Nf B32 z2 (x.natAbs - y.natAbs)) := hN2
  have HLL : Hid (m2 ≤ max m n + 1) := hl2
  have HRL : Hid (gr < w2.heap.size) := Xr.out.lt
  have HBS : Hid (w.heap.size ≤ w2.heap.size) := hbw.size
  clear hA2 hN2 hl2
  refine hK _ _ ⟨Xa.out.c0, Xa.out.c1, Xb.out.c0, Xb.out.c1⟩ ?_
  clear hK
  refine wpJ_one (i := 7) (by kernel_rfl) rfl (by kernel_rfl) (fun KJ hK => ?_)
  go_simp
  refine (rmk_any s A2.out N2.out (by have := HLL.out; have := HM.out; omega)).mono ?_
  rintro e w3 ⟨v, rfl, hv, hb3⟩
  rw [HZV.out] at hv
  replace Xa : Hid _ := Xa.out.below hb3
  replace Xb : Hid _ := Xb.out.below hb3
  replace Xr : Hid _ := Xr.out.below hb3
  replace HA : Hid _ := HA.out.below hb3
  replace HB : Hid _ := HB.out.below hb3
  replace AX : Hid _ := AX.out.below hb3
  replace AY : Hid _ := AY.out.below hb3
  replace A2 : Hid _ := A2.out.below hb3
  replace hbw := Below.on hbw hb3
  clear hb3
  obtain ⟨s9, g9, m9, rfl, hg9, hz9, hl9⟩ := hv
  have ZA : Hid (ZR w3 s9 (some ⟨g9, 0, none⟩) m9 (x + y)) := hz9
  have HL : Hid (m9 ≤ max m n + 1) := by have := hl9; have := HLL.out; show m9 ≤ _; omega
  have HGE : Hid (gr < g9) := Nat.lt_of_lt_of_le HRL.out hg9
  have HGB : Hid (w.heap.size ≤ g9) := Nat.le_trans HBS.out hg9
  clear hg9 hz9 hl9
  refine hK _ _ ⟨Xa.out.c0, Xa.out.c1, Xb.out.c0, Xb.out.c1⟩ ?_
  clear hK
  obtain ⟨cr0, cr1, fr0, fr1⟩ := Xr.out
  have hner := Xr.out.lt
  obtain ⟨ca0, ca1, fa0, fa1⟩ := Xa.out
  have hnea := Xa.out.lt
  obtain ⟨cb0, cb1, fb0, fb1⟩ := Xb.out
  have hneb := Xb.out.lt
  obtain ⟨hgd0, hgd1, hgd2, hgd3, hgd4, hgd5⟩ := HGD.out
  refine wpJ_one (i := 8) (by kernel_rfl) rfl (by kernel_rfl) (fun KJ hK => ?_)
  go_simp
  have HJ2 : Hid ((fun W' : World => W'.cell? ⟨ga, 0, none⟩ = some (.bool s) ∧ W'.cell? ⟨ga, 1, none⟩ = some (.slice p m m) ∧ W'.cell? ⟨gb, 0, none⟩ = some (.bool t) ∧ W'.cell? ⟨gb, 1, none⟩ = some (.slice q n n)) ((w3.setCell ⟨gr, 0, none⟩ (.bool s9)).setCell ⟨gr, 1, none⟩ (.slice (some ⟨g9, 0, none⟩) m9 m9))) := ⟨by go_simp, by go_simp, by go_simp, by go_simp⟩
  refine hK _ _ HJ2.out ?_
  clear hK HJ
  have HJ := HJ2
  clear HJ2
  refine wpJ_done (by kernel_rfl) ?_ _
  clear HJ
  go_wp2_with fail
  refine bodyPost_ret (v := .agg #[.bool s9, .slice (some ⟨g9, 0, none⟩) m9 m9]) (by rw [results_cell1 rfl]; go_simp) rfl ⟨_, rfl, ⟨s9, g9, m9, rfl, HGB.out, ?_, HL.out⟩, ?_⟩
  · have := HGE.out
    exact (ZA.out.set _ _ _ (by omega)).set _ _ _ (by omega)
  · exact bSet (bSet hbw _ _ _ HGr.out) _ _ _ HGr.out
set_option maxRecDepth 20000 in
set_option maxHeartbeats 4000000 in
theorem radd04_l {p q : Option Addr} {m n : Nat} {w : World} {x y : Int} (s t : Bool) (h : ZR w s p m x) (k : ZR w t q n y) (hm : m ≤ 50000) (hn : n ≤ 50000) (hst : s ≠ t) (hcm : x.natAbs < y.natAbs) :
    Calls Tryz.prog 112 #[.agg #[.bool s, .slice p m m], .agg #[.bool t, .slice q n n]] w fun e w' => ∃ v, e = .returned v ∧ GotR w.heap.size w' v (x + y) (max m n + 1) ∧ Below w.heap.size w w' := by
  have HA : Hid (ZR w s p m x) := h
  have HB : Hid (ZR w t q n y) := k
  have HM : Hid (m ≤ 50000 ∧ n ≤ 50000) := ⟨hm, hn⟩
  clear h k hm hn
  have hse : (s == t) = false := by simpa using hst
  have HST : Hid (s ≠ t) := hst
  have HCM : Hid (x.natAbs < y.natAbs) := hcm
  clear hst hcm
  go_enter Tryz.func112, Tryz.ntmps112
  go_wp2_with fail
  obtain ⟨W0, hW0⟩ : ∃ W0, W0 = (((w.alloc (.cells #[.bool s, .slice p m m] 110)).alloc (.cells #[.bool t, .slice q n n] 110)).alloc (.cells #[.bool false, .slice none 0 0] 110)) := ⟨_, rfl⟩
  have Xa : Hid (Box W0 (w.heap.size) (.bool s) (.slice p m m)) := by rw [hW0]; exact ⟨by go_simp, by go_simp, by go_simp, by go_simp⟩
  have Xb : Hid (Box W0 (w.heap.size + 1) (.bool t) (.slice q n n)) := by rw [hW0]; exact ⟨by go_simp, by go_simp, by go_simp, by go_simp⟩
  have Xr : Hid (Box W0 (w.heap.size + 1 + 1) (.bool false) (.slice none 0 0)) := by rw [hW0]; exact ⟨by go_simp, by go_simp, by go_simp, by go_simp⟩
  have hb0 : Below w.heap.size w W0 := by rw [hW0]; exact below3 w _ _ _
  rw [← hW0]
  clear hW0
  have hbw : Below w.heap.size w w := Below.refl _ _
  obtain ⟨gr, hgr⟩ : ∃ g, g = w.heap.size + 1 + 1 := ⟨_, rfl⟩
  have HGr : Hid (w.heap.size ≤ gr) := by rw [hgr]; show _ ≤ _; omega
  rw [← hgr] at Xr
  try rw [← hgr]
  obtain ⟨gb, hgb⟩ : ∃ g, g = w.heap.size + 1 := ⟨_, rfl⟩
  have HGb : Hid (w.heap.size ≤ gb) := by rw [hgb]; show _ ≤ _; omega
  rw [← hgb] at Xb
  try rw [← hgb]
  obtain ⟨ga, hga⟩ : ∃ g, g = w.heap.size := ⟨_, rfl⟩
  have HGa : Hid (w.heap.size ≤ ga) := by rw [hga]; show _ ≤ _; omega
  rw [← hga] at Xa
  try rw [← hga]
  have HGD : Hid (ga ≠ gb ∧ ga ≠ gr ∧ gb ≠ ga ∧ gb ≠ gr ∧ gr ≠ ga ∧ gr ≠ gb) := by rw [hga, hgb, hgr]; exact ⟨by omega, by omega, by omega, by omega, by omega, by omega⟩
  clear hga hgb hgr
  replace HA : Hid _ := HA.out.below hb0
  replace HB : Hid _ := HB.out.below hb0
  replace hbw := Below.on hbw hb0
  clear hb0
  obtain ⟨xs, hAx, hNx⟩ := HA.out.ex
  obtain ⟨ys, hAy, hNy⟩ := HB.out.ex
  have HNX : Hid (Nf B32 xs x.natAbs ∧ Nf B32 ys y.natAbs) := ⟨hNx, hNy⟩
  clear hNx hNy
  have AX : Hid (At32 W0 p m m xs) := hAx
  have AY : Hid (At32 W0 q n n ys) := hAy
  clear hAx hAy
  have HZV : Hid (iv t (y.natAbs - x.natAbs) = x + y) := by have h1 := HA.out.sg; have h2 := HB.out.sg; have h3 := HST.out; exact iv_suml h1 h2 h3 HCM.out
  obtain ⟨cm, hcm⟩ : ∃ cm, cm = cmpN x.natAbs y.natAbs := ⟨_, rfl⟩
  have HCQ : Hid (cm = cmpN x.natAbs y.natAbs) := hcm
  have hcc : decide (0 ≤ cm) = false := decide_eq_false (by rw [hcm, cmpN_lt HCM.out]; omega)
  clear hcm
  refine (rcmp_any AX.out AY.out HNX.out.1 HNX.out.2).mono ?_
  rintro e w9 ⟨rfl, rd, rfl⟩
  rw [← HCQ.out]
  have hbr := bDrewN (Below.refl W0.heap.size W0) rd
  generalize W0.drewN rd = W9 at *
  replace Xa : Hid _ := Xa.out.below hbr
  replace Xb : Hid _ := Xb.out.below hbr
  replace Xr : Hid _ := Xr.out.below hbr
  replace HA : Hid _ := HA.out.below hbr
  replace HB : Hid _ := HB.out.below hbr
  replace AX : Hid _ := AX.out.below hbr
  replace AY : Hid _ := AY.out.below hbr
  replace hbw := Below.on hbw hbr
  clear hbr
  obtain ⟨ca0, ca1, fa0, fa1⟩ := Xa.out
  have hnea := Xa.out.lt
  obtain ⟨cb0, cb1, fb0, fb1⟩ := Xb.out
  have hneb := Xb.out.lt
  go_wp2_with fail
  clear ca0 ca1 fa0 fa1 hnea
  clear cb0 cb1 fb0 fb1 hneb
  clear hcc
  obtain ⟨W1, hW1⟩ : ∃ W1, W1 = W9.drew := ⟨_, rfl⟩
  have hbd : Below W9.heap.size W9 W1 := by rw [hW1]; exact bDrew1 (Below.refl _ _)
  replace Xa : Hid _ := Xa.out.below hbd
  replace Xb : Hid _ := Xb.out.below hbd
  replace Xr : Hid _ := Xr.out.below hbd
  replace HA : Hid _ := HA.out.below hbd
  replace HB : Hid _ := HB.out.below hbd
  replace AX : Hid _ := AX.out.below hbd
  replace AY : Hid _ := AY.out.below hbd
  replace hbw := Below.on hbw hbd
  clear hbd
  have HJ : Hid ((fun W' : World => W'.cell? ⟨ga, 0, none⟩ = some (.bool s) ∧ W'.cell? ⟨ga, 1, none⟩ = some (.slice p m m) ∧ W'.cell? ⟨gb, 0, none⟩ = some (.bool t) ∧ W'.cell? ⟨gb, 1, none⟩ = some (.slice q n n)) W1) := ⟨Xa.out.c0, Xa.out.c1, Xb.out.c0, Xb.out.c1⟩
  refine wp_region_J (fun W' => W'.cell? ⟨ga, 0, none⟩ = some (.bool s) ∧ W'.cell? ⟨ga, 1, none⟩ = some (.slice p m m) ∧ W'.cell? ⟨gb, 0, none⟩ = some (.bool t) ∧ W'.cell? ⟨gb, 1, none⟩ = some (.slice q n n)) (by kernel_rfl) ?_
  rw [← hW1]
  clear hW1
  refine wpJ_tk 0 (v := ?v22x0) rfl ?hy22x0 HJ.out ?_
  case hy22x0 => (intro W' hJ; obtain ⟨j0, j1, j2, j3⟩ := hJ; go_simp; first | done | with_reducible rfl)
  refine wpJ_tk 1 (v := ?v23x1) rfl ?hy23x1 HJ.out ?_
  case hy23x1 => (intro W' hJ; obtain ⟨j0, j1, j2, j3⟩ := hJ; go_simp; first | done | with_reducible rfl)
  refine wpJ_tk 2 (v := ?v24x2) rfl ?hy24x2 HJ.out ?_
  case hy24x2 => (intro W' hJ; obtain ⟨j0, j1, j2, j3⟩ := hJ; go_simp; first | done | with_reducible rfl)
  refine wpJ_tk 3 (v := ?v25x3) rfl ?hy25x3 HJ.out ?_
  case hy25x3 => (intro W' hJ; obtain ⟨j0, j1, j2, j3⟩ := hJ; go_simp; first | done | with_reducible rfl)
  refine wpJ_tk 4 (v := ?v26x4) rfl ?hy26x4 HJ.out ?_
  case hy26x4 => (intro W' hJ; obtain ⟨j0, j1, j2, j3⟩ := hJ; go_simp; first | done | with_reducible rfl)
  refine wpJ_tk 5 (v := ?v27x5) rfl ?hy27x5 HJ.out ?_
  case hy27x5 => (intro W' hJ; obtain ⟨j0, j1, j2, j3⟩ := hJ; go_simp; first | done | with_reducible rfl)
  refine wpJ_one (i := 6) (by kernel_rfl) rfl (by kernel_rfl) (fun KJ hK => ?_)
  go_simp
  refine (rsub_any AY.out AX.out HNX.out.2 HNX.out.1 (by have := HM.out; omega) (Nat.le_of_lt HCM.out)).mono ?_
  rintro e w2 ⟨p2, m2, z2, rfl, hA2, hN2, hl2q, hb2⟩
  have hl2 : m2 ≤ max m n + 1 := by omega
  clear hl2q
  replace Xa : Hid _ := Xa.out.below hb2
  replace Xb : Hid _ := Xb.out.below hb2
  replace Xr : Hid _ := Xr.out.below hb2
  replace HA : Hid _ := HA.out.below hb2
  replace HB : Hid _ := HB.out.below hb2
  replace AX : Hid _ := AX.out.below hb2
  replace AY : Hid _ := AY.out.below hb2
  replace hbw := Below.on hbw hb2
  clear hb2
  have A2 : Hid (At32 w2 p2 m2 m2 z2) := hA2
  have N2 : Hid (Nf B32 z2 (y.natAbs - x.natAbs)) := hN2
  have HLL : Hid (m2 ≤ max m n + 1) := hl2
  have HRL : Hid (gr < w2.heap.size) := Xr.out.lt
  have HBS : Hid (w.heap.size ≤ w2.heap.size) := hbw.size
  clear hA2 hN2 hl2
  refine hK _ _ ⟨Xa.out.c0, Xa.out.c1, Xb.out.c0, Xb.out.c1⟩ ?_
  clear hK
  refine wpJ_one (i := 7) (by kernel_rfl) rfl (by kernel_rfl) (fun KJ hK => ?_)
  go_simp
  refine (rmk_any t A2.out N2.out (by have := HLL.out; have := HM.out; omega)).mono ?_
  rintro e w3 ⟨v, rfl, hv, hb3⟩
  rw [HZV.out] at hv
  replace Xa : Hid _ := Xa.out.below hb3
  replace Xb : Hid _ := Xb.out.below hb3
  replace Xr : Hid _ := Xr.out.below hb3
  replace HA : Hid _ := HA.out.below hb3
  replace HB : Hid _ := HB.out.below hb3
  replace AX : Hid _ := AX.out.below hb3
  replace AY : Hid _ := AY.out.below hb3
  replace A2 : Hid _ := A2.out.below hb3
  replace hbw := Below.on hbw hb3
  clear hb3
  obtain ⟨s9, g9, m9, rfl, hg9, hz9, hl9⟩ := hv
  have ZA : Hid (ZR w3 s9 (some ⟨g9, 0, none⟩) m9 (x + y)) := hz9
  have HL : Hid (m9 ≤ max m n + 1) := by have := hl9; have := HLL.out; show m9 ≤ _; omega
  have HGE : Hid (gr < g9) := Nat.lt_of_lt_of_le HRL.out hg9
  have HGB : Hid (w.heap.size ≤ g9) := Nat.le_trans HBS.out hg9
  clear hg9 hz9 hl9
  refine hK _ _ ⟨Xa.out.c0, Xa.out.c1, Xb.out.c0, Xb.out.c1⟩ ?_
  clear hK
  obtain ⟨cr0, cr1, fr0, fr1⟩ := Xr.out
  have hner := Xr.out.lt
  obtain ⟨ca0, ca1, fa0, fa1⟩ := Xa.out
  have hnea := Xa.out.lt
  obtain ⟨cb0, cb1, fb0, fb1⟩ := Xb.out
  have hneb := Xb.out.lt
  obtain ⟨hgd0, hgd1, hgd2, hgd3, hgd4, hgd5⟩ := HGD.out
  refine wpJ_one (i := 8) (by kernel_rfl) rfl (by kernel_rfl) (fun KJ hK => ?_)
  go_simp
  have HJ2 : Hid ((fun W' : World => W'.cell? ⟨ga, 0, none⟩ = some (.bool s) ∧ W'.cell? ⟨ga, 1, none⟩ = some (.slice p m m) ∧ W'.cell? ⟨gb, 0, none⟩ = some (.bool t) ∧ W'.cell? ⟨gb, 1, none⟩ = some (.slice q n n)) ((w3.setCell ⟨gr, 0, none⟩ (.bool s9)).setCell ⟨gr, 1, none⟩ (.slice (some ⟨g9, 0, none⟩) m9 m9))) := ⟨by go_simp, by go_simp, by go_simp, by go_simp⟩
  refine hK _ _ HJ2.out ?_
  clear hK HJ
  have HJ := HJ2
  clear HJ2
  refine wpJ_done (by kernel_rfl) ?_ _
  clear HJ
  go_wp2_with fail
  refine bodyPost_ret (v := .agg #[.bool s9, .slice (some ⟨g9, 0, none⟩) m9 m9]) (by rw [results_cell1 rfl]; go_simp) rfl ⟨_, rfl, ⟨s9, g9, m9, rfl, HGB.out, ?_, HL.out⟩, ?_⟩
  · have := HGE.out
    exact (ZA.out.set _ _ _ (by omega)).set _ _ _ (by omega)
  · exact bSet (bSet hbw _ _ _ HGr.out) _ _ _ HGr.out
theorem radd04 {p q : Option Addr} {m n : Nat} {w : World} {x y : Int} (s t : Bool) (h : ZR w s p m x) (k : ZR w t q n y) (hm : m ≤ 50000) (hn : n ≤ 50000) : Calls Tryz.prog 112 #[.agg #[.bool s, .slice p m m], .agg #[.bool t, .slice q n n]] w fun e w' => ∃ v, e = .returned v ∧ GotR w.heap.size w' v (x + y) (max m n + 1) ∧ Below w.heap.size w w' := by
  by_cases hst : s = t
  · exact radd04_s s t h k hm hn hst
  · rcases Nat.lt_or_ge x.natAbs y.natAbs with hl | hl
    · exact radd04_l s t h k hm hn hst hl
    · exact radd04_g s t h k hm hn hst hl
set_option maxRecDepth 20000 in
set_option maxHeartbeats 4000000 in
theorem rsub04 {p q : Option Addr} {m n : Nat} {w : World} {x y : Int} (s t : Bool) (h : ZR w s p m x) (k : ZR w t q n y) (hm : m ≤ 50000) (hn : n ≤ 50000) :
    Calls Tryz.prog 113 #[.agg #[.bool s, .slice p m m], .agg #[.bool t, .slice q n n]] w fun e w' => ∃ v, e = .returned v ∧ GotR w.heap.size w' v (x - y) (max m n + 1) ∧ Below w.heap.size w w' := by
  have HA : Hid (ZR w s p m x) := h
  have HB : Hid (ZR w t q n y) := k
  have HM : Hid (m ≤ 50000 ∧ n ≤ 50000) := ⟨hm, hn⟩
  clear h k hm hn
  go_enter Tryz.func113, Tryz.ntmps113
  go_wp2_with fail
  obtain ⟨W0, hW0⟩ : ∃ W0, W0 = (((w.alloc (.cells #[.bool s, .slice p m m] 110)).alloc (.cells #[.bool t, .slice q n n] 110)).alloc (.cells #[.bool false, .slice none 0 0] 110)) := ⟨_, rfl⟩
  have Xa : Hid (Box W0 (w.heap.size) (.bool s) (.slice p m m)) := by rw [hW0]; exact ⟨by go_simp, by go_simp, by go_simp, by go_simp⟩
  have Xb : Hid (Box W0 (w.heap.size + 1) (.bool t) (.slice q n n)) := by rw [hW0]; exact ⟨by go_simp, by go_simp, by go_simp, by go_simp⟩
  have Xr : Hid (Box W0 (w.heap.size + 1 + 1) (.bool false) (.slice none 0 0)) := by rw [hW0]; exact ⟨by go_simp, by go_simp, by go_simp, by go_simp⟩
  have hb0 : Below w.heap.size w W0 := by rw [hW0]; exact below3 w _ _ _
  rw [← hW0]
  clear hW0
  have hbw : Below w.heap.size w w := Below.refl _ _
  obtain ⟨gr, hgr⟩ : ∃ g, g = w.heap.size + 1 + 1 := ⟨_, rfl⟩
  have HGr : Hid (w.heap.size ≤ gr) := by rw [hgr]; show _ ≤ _; omega
  rw [← hgr] at Xr
  try rw [← hgr]
  obtain ⟨gb, hgb⟩ : ∃ g, g = w.heap.size + 1 := ⟨_, rfl⟩
  have HGb : Hid (w.heap.size ≤ gb) := by rw [hgb]; show _ ≤ _; omega
  rw [← hgb] at Xb
  try rw [← hgb]
  obtain ⟨ga, hga⟩ : ∃ g, g = w.heap.size := ⟨_, rfl⟩
  have HGa : Hid (w.heap.size ≤ ga) := by rw [hga]; show _ ≤ _; omega
  rw [← hga] at Xa
  try rw [← hga]
  have HGD : Hid (ga ≠ gb ∧ ga ≠ gr ∧ gb ≠ ga ∧ gb ≠ gr ∧ gr ≠ ga ∧ gr ≠ gb) := by rw [hga, hgb, hgr]; exact ⟨by omega, by omega, by omega, by omega, by omega, by omega⟩
  clear hga hgb hgr
  replace HA : Hid _ := HA.out.below hb0
  replace HB : Hid _ := HB.out.below hb0
  replace hbw := Below.on hbw hb0
  clear hb0
  obtain ⟨W1, hW1⟩ : ∃ W1, W1 = W0.drew := ⟨_, rfl⟩
  have hbd : Below W0.heap.size W0 W1 := by rw [hW1]; exact bDrew1 (Below.refl _ _)
  replace Xa : Hid _ := Xa.out.below hbd
  replace Xb : Hid _ := Xb.out.below hbd
  replace Xr : Hid _ := Xr.out.below hbd
  replace HA : Hid _ := HA.out.below hbd
  replace HB : Hid _ := HB.out.below hbd
  replace hbw := Below.on hbw hbd
  clear hbd
  have HJ : Hid ((fun W' : World => W'.cell? ⟨ga, 0, none⟩ = some (.bool s) ∧ W'.cell? ⟨ga, 1, none⟩ = some (.slice p m m) ∧ W'.cell? ⟨gb, 0, none⟩ = some (.bool t) ∧ W'.cell? ⟨gb, 1, none⟩ = some (.slice q n n)) W1) := ⟨Xa.out.c0, Xa.out.c1, Xb.out.c0, Xb.out.c1⟩
  refine wp_region_J (fun W' => W'.cell? ⟨ga, 0, none⟩ = some (.bool s) ∧ W'.cell? ⟨ga, 1, none⟩ = some (.slice p m m) ∧ W'.cell? ⟨gb, 0, none⟩ = some (.bool t) ∧ W'.cell? ⟨gb, 1, none⟩ = some (.slice q n n)) (by kernel_rfl) ?_
  rw [← hW1]
  clear hW1
  refine wpJ_tk 0 (v := ?v1x0) rfl ?hy1x0 HJ.out ?_
  case hy1x0 => (intro W' hJ; obtain ⟨j0, j1, j2, j3⟩ := hJ; go_simp; first | done | with_reducible rfl)
  refine wpJ_tk 1 (v := ?v2x1) rfl ?hy2x1 HJ.out ?_
  case hy2x1 => (intro W' hJ; obtain ⟨j0, j1, j2, j3⟩ := hJ; go_simp; first | done | with_reducible rfl)
  refine wpJ_one (i := 2) (by kernel_rfl) rfl (by kernel_rfl) (fun KJ hK => ?_)
  go_simp
  refine (rflip_any t HB.out (by have := HM.out; omega)).mono ?_
  rintro e w2 ⟨v, rfl, hv, hb2⟩
  obtain ⟨s2, g2, m2, rfl, hg2, hz2, hl2⟩ := hv
  replace Xa : Hid _ := Xa.out.below hb2
  replace Xb : Hid _ := Xb.out.below hb2
  replace Xr : Hid _ := Xr.out.below hb2
  replace HA : Hid _ := HA.out.below hb2
  replace HB : Hid _ := HB.out.below hb2
  replace hbw := Below.on hbw hb2
  clear hb2
  have ZB : Hid (ZR w2 s2 (some ⟨g2, 0, none⟩) m2 (-y)) := hz2
  have HL2 : Hid (m2 ≤ n) := hl2
  have HRL : Hid (gr < w2.heap.size) := Xr.out.lt
  have HBS : Hid (w.heap.size ≤ w2.heap.size) := hbw.size
  clear hg2 hz2 hl2
  refine hK _ _ ⟨Xa.out.c0, Xa.out.c1, Xb.out.c0, Xb.out.c1⟩ ?_
  clear hK
  refine wpJ_one (i := 3) (by kernel_rfl) rfl (by kernel_rfl) (fun KJ hK => ?_)
  go_simp
  refine (radd04 s s2 HA.out ZB.out HM.out.1 (Nat.le_trans HL2.out HM.out.2)).mono ?_
  rintro e w3 ⟨v, rfl, hv, hb3⟩
  rw [← Int.sub_eq_add_neg] at hv
  replace Xa : Hid _ := Xa.out.below hb3
  replace Xb : Hid _ := Xb.out.below hb3
  replace Xr : Hid _ := Xr.out.below hb3
  replace HA : Hid _ := HA.out.below hb3
  replace HB : Hid _ := HB.out.below hb3
  replace ZB : Hid _ := ZB.out.below hb3
  replace hbw := Below.on hbw hb3
  clear hb3
  have HLL : Hid (max m m2 + 1 ≤ max m n + 1) := by have := HL2.out; show _ ≤ _; omega
  obtain ⟨s9, g9, m9, rfl, hg9, hz9, hl9⟩ := hv
  have ZA : Hid (ZR w3 s9 (some ⟨g9, 0, none⟩) m9 (x - y)) := hz9
  have HL : Hid (m9 ≤ max m n + 1) := by have := hl9; have := HLL.out; show m9 ≤ _; omega
  have HGE : Hid (gr < g9) := Nat.lt_of_lt_of_le HRL.out hg9
  have HGB : Hid (w.heap.size ≤ g9) := Nat.le_trans HBS.out hg9
  clear hg9 hz9 hl9
  refine hK _ _ ⟨Xa.out.c0, Xa.out.c1, Xb.out.c0, Xb.out.c1⟩ ?_
  clear hK
  obtain ⟨cr0, cr1, fr0, fr1⟩ := Xr.out
  have hner := Xr.out.lt
  obtain ⟨ca0, ca1, fa0, fa1⟩ := Xa.out
  have hnea := Xa.out.lt
  obtain ⟨cb0, cb1, fb0, fb1⟩ := Xb.out
  have hneb := Xb.out.lt
  obtain ⟨hgd0, hgd1, hgd2, hgd3, hgd4, hgd5⟩ := HGD.out
  refine wpJ_one (i := 4) (by kernel_rfl) rfl (by kernel_rfl) (fun KJ hK => ?_)
  go_simp
  have HJ2 : Hid ((fun W' : World => W'.cell? ⟨ga, 0, none⟩ = some (.bool s) ∧ W'.cell? ⟨ga, 1, none⟩ = some (.slice p m m) ∧ W'.cell? ⟨gb, 0, none⟩ = some (.bool t) ∧ W'.cell? ⟨gb, 1, none⟩ = some (.slice q n n)) ((w3.setCell ⟨gr, 0, none⟩ (.bool s9)).setCell ⟨gr, 1, none⟩ (.slice (some ⟨g9, 0, none⟩) m9 m9))) := ⟨by go_simp, by go_simp, by go_simp, by go_simp⟩
  refine hK _ _ HJ2.out ?_
  clear hK HJ
  have HJ := HJ2
  clear HJ2
  refine wpJ_done (by kernel_rfl) ?_ _
  clear HJ
  go_wp2_with fail
  refine bodyPost_ret (v := .agg #[.bool s9, .slice (some ⟨g9, 0, none⟩) m9 m9]) (by rw [results_cell1 rfl]; go_simp) rfl ⟨_, rfl, ⟨s9, g9, m9, rfl, HGB.out, ?_, HL.out⟩, ?_⟩
  · have := HGE.out
    exact (ZA.out.set _ _ _ (by omega)).set _ _ _ (by omega)
  · exact bSet (bSet hbw _ _ _ HGr.out) _ _ _ HGr.out
set_option maxRecDepth 20000 in
set_option maxHeartbeats 4000000 in
theorem rsign04 {p : Option Addr} {m : Nat} {w : World} {z : Int} (s : Bool) (h : ZR w s p m z) :
    Calls Tryz.prog 216 #[.agg #[.bool s, .slice p m m]] w fun e w' => e = .returned (.int .i64 (sgnI z)) ∧ Below w.heap.size w w' := by
  have hz := h.zero
  have hsg := h.sg
  obtain ⟨sg, hs⟩ : ∃ sg, sg = sgnI z := ⟨_, rfl⟩
  rw [← hs]
  by_cases hm : m = 0
  · have hv : sg = 0 := by rw [hs, hz.1 hm]; rfl
    subst hv
    subst hm
    clear h hz hsg hs
    go_enter Tryz.func216, Tryz.ntmps216
    go_wp2_with fail
    go_ret
    exact ⟨rfl, below1 w _⟩
  · have hm0 : ((m : Int) == 0) = false := by simp; omega
    have hz0 : z ≠ 0 := fun e => hm (hz.2 e)
    cases s
    · have hv : sg = 1 := by rw [hs]; unfold sgnI; have := of_decide_eq_false hsg.symm; rw [if_neg this, if_neg hz0]
      subst hv
      clear h hz hsg hs hz0
      go_enter Tryz.func216, Tryz.ntmps216
      go_wp2_with fail
      go_ret
      exact ⟨rfl, below1 w _⟩
    · have hv : sg = -1 := by rw [hs]; unfold sgnI; have := of_decide_eq_true hsg.symm; rw [if_pos this]
      subst hv
      clear h hz hsg hs hz0
      go_enter Tryz.func216, Tryz.ntmps216
      go_wp2_with fail
      go_ret
      exact ⟨rfl, below1 w _⟩
def NewAt (B : Nat) (w : World) (p : Option Addr) (m c : Nat) (us : List Nat) : Prop := At w p m c us ∧ (m = 0 ∨ ∃ g, p = some ⟨g, 0, none⟩ ∧ B ≤ g)
theorem NewAt.below {B : Nat} {w w' : World} {p : Option Addr} {m c : Nat} {us : List Nat} (h : NewAt B w p m c us) (hb : Below w.heap.size w w') : NewAt B w' p m c us := ⟨h.1.below hb, h.2⟩
theorem NewAt.mono {B B' : Nat} {w : World} {p : Option Addr} {m c : Nat} {us : List Nat} (h : NewAt B w p m c us) (hB : B' ≤ B) : NewAt B' w p m c us :=
  ⟨h.1, h.2.imp id (fun ⟨g, e, k⟩ => ⟨g, e, Nat.le_trans hB k⟩)⟩
theorem NewAt.set {B : Nat} {w : World} {p : Option Addr} {m c : Nat} {us : List Nat} (h : NewAt B w p m c us) {r : Nat} (hr : r < B) (o : Nat) (v : Value) : NewAt B (w.setCell ⟨r, o, none⟩ v) p m c us := by
  refine ⟨?_, h.2⟩
  rcases h.2 with h0 | ⟨g, rfl, hg⟩
  · subst h0
    obtain rfl : us = [] := List.eq_nil_of_length_eq_zero h.1.len
    exact At.empty _ _ _ h.1.big
  · exact h.1.setOther _ _ _ (by omega)
def DocZ (z : Int) (s : Bool) (us : List Nat) (er : Int) : Prop :=
  (z.natAbs < LIM ∧ s = decide (z < 0) ∧ Nf B64 us z.natAbs ∧ er = 0) ∨ (LIM ≤ z.natAbs ∧ s = false ∧ us = [] ∧ er = 5)
theorem DocZ.inj {z : Int} {s s' : Bool} {us us' : List Nat} {er er' : Int} (h : DocZ z s us er) (k : DocZ z s' us' er') : s = s' ∧ us = us' ∧ er = er' := by
  rcases h with ⟨h0, rfl, h1, rfl⟩ | ⟨h0, rfl, rfl, rfl⟩ <;> rcases k with ⟨k0, rfl, k1, rfl⟩ | ⟨k0, rfl, rfl, rfl⟩
  · exact ⟨rfl, h1.inj B64_one k1, rfl⟩
  · omega
  · omega
  · exact ⟨rfl, rfl, rfl⟩
theorem rshr_allt {p : Option Addr} {n : Nat} {xs : List Nat} {v : Nat} {w : World} (h : At32 w p n n xs) (hx : Nf B32 xs v) (hn : n ≤ 16384) (N : Nat) (hN2 : N ≤ 9223372036854775807) :
    Calls Tryz.prog 116 #[.slice p n n, .int .i64 N] w fun e w' => ∃ p' m' zs, e = .returned (.slice p' m' m') ∧ At32 w' p' m' m' zs ∧ Nf B32 zs (v / 2 ^ N) ∧ m' ≤ n ∧ Below w.heap.size w w' := by
  rcases Nat.eq_zero_or_pos N with h0 | h0
  · subst h0
    refine (rshr_0 h hx hn).mono ?_
    rintro e w' ⟨g, rfl, h1, hb⟩
    exact ⟨_, n, xs, rfl, h1, by rw [Nat.pow_zero, Nat.div_one]; exact hx, Nat.le_refl _, hb⟩
  · exact rfshr_any h hx hn N h0 hN2
theorem tz_val {z : Int} {k : Nat} (_hz : z ≠ 0) (h : TzIs z.natAbs k) : ∃ zo : Int, zo.natAbs = z.natAbs / 2 ^ k ∧ zo % 2 = 1 ∧ zo * ((2 ^ k : Nat) : Int) = z ∧ decide (zo < 0) = decide (z < 0) ∧ iv (decide (z < 0)) (z.natAbs / 2 ^ k) = zo := by
  have h1 := Nat.div_add_mod z.natAbs (2 ^ k)
  rw [h.1, Nat.add_zero, Nat.mul_comm] at h1
  have h2 := h.2
  generalize z.natAbs / 2 ^ k = A at h1 h2 ⊢
  have hp : 0 < 2 ^ k := Nat.two_pow_pos k
  have hA : 0 < A := by omega
  rcases Int.lt_or_le z 0 with hn | hn
  · refine ⟨-(A : Int), by omega, by omega, ?_, ?_, ?_⟩
    · rw [Int.neg_mul, ← Int.natCast_mul, h1]; omega
    · rw [decide_eq_true hn]; exact decide_eq_true (by omega)
    · rw [decide_eq_true hn]; rfl
  · refine ⟨(A : Int), by omega, by omega, ?_, ?_, ?_⟩
    · rw [← Int.natCast_mul, h1]; omega
    · rw [decide_eq_false (show ¬ z < 0 by omega)]; exact decide_eq_false (by omega)
    · rw [decide_eq_false (show ¬ z < 0 by omega)]; rfl
abbrev F32t : Value := FV 2147483648 24 (-149) 104 2139095040 2143289345
abbrev F64t : Value := FV 9223372036854775808 53 (-1074) 971 9218868437227405312 9221120237041090561
set_option maxRecDepth 20000 in
set_option maxHeartbeats 4000000 in
theorem rparts_320t (s : Nat) (hs : s < 8388608) (w : World) : Calls Tryz.prog 148 #[F32t, U s] w fun e w' => e = .returned (.tuple #[U s, .int .i64 (-149)]) ∧ Below w.heap.size w w' := by
  obtain ⟨z, hz⟩ : ∃ z, z = s / 8388608 := ⟨_, rfl⟩
  obtain ⟨r, hr⟩ : ∃ r, r = s % 8388608 := ⟨_, rfl⟩
  have d1 : (s : Int).tdiv 8388608 = (z : Int) := by rw [Int.tdiv_eq_ediv_of_nonneg (by omega)]; omega
  have d2 : (s : Int).tmod 8388608 = (r : Int) := by rw [Int.tmod_eq_emod_of_nonneg (by omega)]; omega
  have d3 : IntKind.u64.wrap (z : Int) = (z : Int) := by rw [IntKind.wrap_u64]; omega
  have d4 : IntKind.u64.wrap (r : Int) = (r : Int) := by rw [IntKind.wrap_u64]; omega
  have hz0 : z = 0 := by omega
  have hrs : r = s := by omega
  subst hz0
  subst hrs
  clear hz hr hs
  go_enter Tryz.func148, Tryz.ntmps148
  go_wp2_with fail
  go_quiet (fail)
  go_wp2_with fail
  go_quiet (fail)
  go_wp2_with fail
  go_ret2
  exact ⟨rfl, bwDrewN (bwDrewN (bwAlloc w _) _) _⟩
set_option maxRecDepth 20000 in
set_option maxHeartbeats 4000000 in
theorem rparts_32nt (s : Nat) (hs : 8388608 ≤ s) (hs9 : s < 9223372036854775808) (w : World) : Calls Tryz.prog 148 #[F32t, U s] w fun e w' => e = .returned (.tuple #[U (s - (s / 8388608 - 1) * 8388608), .int .i64 ((-149) + ((s / 8388608 - 1 : Nat) : Int))]) ∧ Below w.heap.size w w' := by
  obtain ⟨z, hz⟩ : ∃ z, z = s / 8388608 := ⟨_, rfl⟩
  obtain ⟨r, hr⟩ : ∃ r, r = s % 8388608 := ⟨_, rfl⟩
  have d1 : (s : Int).tdiv 8388608 = (z : Int) := by rw [Int.tdiv_eq_ediv_of_nonneg (by omega)]; omega
  have d2 : (s : Int).tmod 8388608 = (r : Int) := by rw [Int.tmod_eq_emod_of_nonneg (by omega)]; omega
  have d3 : IntKind.u64.wrap (z : Int) = (z : Int) := by rw [IntKind.wrap_u64]; omega
  have d4 : IntKind.u64.wrap (r : Int) = (r : Int) := by rw [IntKind.wrap_u64]; omega
  have hzb : ((z : Int) == 0) = false := by simp; omega
  obtain ⟨y, hy⟩ : ∃ y, y = s - (z - 1) * 8388608 := ⟨_, rfl⟩
  obtain ⟨x, hx⟩ : ∃ x : Int, x = (-149) + ((z - 1 : Nat) : Int) := ⟨_, rfl⟩
  obtain ⟨x1, hx1⟩ : ∃ x1 : Int, x1 = (-149) + (z : Int) := ⟨_, rfl⟩
  rw [← hz, ← hy, ← hx]
  have d5 : IntKind.u64.wrap (8388608 + (r : Int)) = (y : Int) := by rw [IntKind.wrap_u64]; omega
  have d6 : IntKind.i64.wrap (z : Int) = (z : Int) := by simp [IntKind.wrap, IntKind.signed, IntKind.bits]; omega
  have d7 : IntKind.i64.wrap ((-149) + (z : Int)) = x1 := by rw [hx1]; simp [IntKind.wrap, IntKind.signed, IntKind.bits]; omega
  have d8 : IntKind.i64.wrap (x1 - 1) = x := by simp [IntKind.wrap, IntKind.signed, IntKind.bits]; omega
  clear hz hr hs hs9 hy hx hx1
  go_enter Tryz.func148, Tryz.ntmps148
  go_wp2_with fail
  go_quiet (fail)
  go_wp2_with fail
  go_quiet (fail)
  go_wp2_with fail
  go_ret2
  exact ⟨rfl, bwDrewN (bwDrewN (bwAlloc w _) _) _⟩
set_option maxRecDepth 20000 in
set_option maxHeartbeats 4000000 in
theorem rparts_64nt (s : Nat) (hs : 4503599627370496 ≤ s) (hs9 : s < 9223372036854775808) (w : World) : Calls Tryz.prog 148 #[F64t, U s] w fun e w' => e = .returned (.tuple #[U (s - (s / 4503599627370496 - 1) * 4503599627370496), .int .i64 ((-1074) + ((s / 4503599627370496 - 1 : Nat) : Int))]) ∧ Below w.heap.size w w' := by
  obtain ⟨z, hz⟩ : ∃ z, z = s / 4503599627370496 := ⟨_, rfl⟩
  obtain ⟨r, hr⟩ : ∃ r, r = s % 4503599627370496 := ⟨_, rfl⟩
  have d1 : (s : Int).tdiv 4503599627370496 = (z : Int) := by rw [Int.tdiv_eq_ediv_of_nonneg (by omega)]; omega
  have d2 : (s : Int).tmod 4503599627370496 = (r : Int) := by rw [Int.tmod_eq_emod_of_nonneg (by omega)]; omega
  have d3 : IntKind.u64.wrap (z : Int) = (z : Int) := by rw [IntKind.wrap_u64]; omega
  have d4 : IntKind.u64.wrap (r : Int) = (r : Int) := by rw [IntKind.wrap_u64]; omega
  have hzb : ((z : Int) == 0) = false := by simp; omega
  obtain ⟨y, hy⟩ : ∃ y, y = s - (z - 1) * 4503599627370496 := ⟨_, rfl⟩
  obtain ⟨x, hx⟩ : ∃ x : Int, x = (-1074) + ((z - 1 : Nat) : Int) := ⟨_, rfl⟩
  obtain ⟨x1, hx1⟩ : ∃ x1 : Int, x1 = (-1074) + (z : Int) := ⟨_, rfl⟩
  rw [← hz, ← hy, ← hx]
  have d5 : IntKind.u64.wrap (4503599627370496 + (r : Int)) = (y : Int) := by rw [IntKind.wrap_u64]; omega
  have d6 : IntKind.i64.wrap (z : Int) = (z : Int) := by simp [IntKind.wrap, IntKind.signed, IntKind.bits]; omega
  have d7 : IntKind.i64.wrap ((-1074) + (z : Int)) = x1 := by rw [hx1]; simp [IntKind.wrap, IntKind.signed, IntKind.bits]; omega
  have d8 : IntKind.i64.wrap (x1 - 1) = x := by simp [IntKind.wrap, IntKind.signed, IntKind.bits]; omega
  clear hz hr hs hs9 hy hx hx1
  go_enter Tryz.func148, Tryz.ntmps148
  go_wp2_with fail
  go_quiet (fail)
  go_wp2_with fail
  go_quiet (fail)
  go_wp2_with fail
  go_ret2
  exact ⟨rfl, bwDrewN (bwDrewN (bwAlloc w _) _) _⟩
set_option maxRecDepth 20000 in
set_option maxHeartbeats 4000000 in
theorem rparts_640t (s : Nat) (hs : s < 4503599627370496) (w : World) : Calls Tryz.prog 148 #[F64t, U s] w fun e w' => e = .returned (.tuple #[U s, .int .i64 (-1074)]) ∧ Below w.heap.size w w' := by
  obtain ⟨z, hz⟩ : ∃ z, z = s / 4503599627370496 := ⟨_, rfl⟩
  obtain ⟨r, hr⟩ : ∃ r, r = s % 4503599627370496 := ⟨_, rfl⟩
  have d1 : (s : Int).tdiv 4503599627370496 = (z : Int) := by rw [Int.tdiv_eq_ediv_of_nonneg (by omega)]; omega
  have d2 : (s : Int).tmod 4503599627370496 = (r : Int) := by rw [Int.tmod_eq_emod_of_nonneg (by omega)]; omega
  have d3 : IntKind.u64.wrap (z : Int) = (z : Int) := by rw [IntKind.wrap_u64]; omega
  have d4 : IntKind.u64.wrap (r : Int) = (r : Int) := by rw [IntKind.wrap_u64]; omega
  have hz0 : z = 0 := by omega
  have hrs : r = s := by omega
  subst hz0
  subst hrs
  clear hz hr hs
  go_enter Tryz.func148, Tryz.ntmps148
  go_wp2_with fail
  go_quiet (fail)
  go_wp2_with fail
  go_quiet (fail)
  go_wp2_with fail
  go_ret2
  exact ⟨rfl, bwDrewN (bwDrewN (bwAlloc w _) _) _⟩
theorem rparts_all64 (s : Nat) (hs9 : s < 9223372036854775808) (w : World) : Calls Tryz.prog 148 #[F64t, U s] w fun e w' => e = .returned (.tuple #[U (s - (s / 4503599627370496 - 1) * 4503599627370496), .int .i64 ((-1074) + ((s / 4503599627370496 - 1 : Nat) : Int))]) ∧ Below w.heap.size w w' := by
  by_cases h : s < 4503599627370496
  · have h1 : s / 4503599627370496 = 0 := Nat.div_eq_of_lt h
    rw [h1, show 0 - 1 = 0 from rfl, Nat.zero_mul, Nat.sub_zero, show ((-1074 : Int) + ((0 : Nat) : Int)) = -1074 from rfl]
    exact rparts_640t s h w
  · exact rparts_64nt s (by omega) (by omega) w
theorem rparts_all32 (s : Nat) (hs9 : s < 2147483648) (w : World) : Calls Tryz.prog 148 #[F32t, U s] w fun e w' => e = .returned (.tuple #[U (s - (s / 8388608 - 1) * 8388608), .int .i64 ((-149) + ((s / 8388608 - 1 : Nat) : Int))]) ∧ Below w.heap.size w w' := by
  by_cases h : s < 8388608
  · have h1 : s / 8388608 = 0 := Nat.div_eq_of_lt h
    rw [h1, show 0 - 1 = 0 from rfl, Nat.zero_mul, Nat.sub_zero, show ((-149 : Int) + ((0 : Nat) : Int)) = -149 from rfl]
    exact rparts_320t s h w
  · exact rparts_32nt s (by omega) (by omega) w
theorem num_vf {f p m l : Int} {S I H : Nat} (F : Pm f p m l S I H) {b : Nat} (hr : b % S < I) {z e : Int} (hv : VF S H l b z e) {man k : Nat} (hman : man = b % S - (b % S / H - 1) * H) (hk : TzIs man k) (h0 : man ≠ 0) : z = iv (decide (S ≤ b)) (man / 2 ^ k) ∧ e = l + ((b % S / H - 1 : Nat) : Int) + k := by
  obtain ⟨z1, e1, v1, v2⟩ := vf_ex F hr
  obtain ⟨rfl, rfl⟩ := dv_inj hv.fm v1.fm (hv.v.trans v1.v.symm)
  rw [← hman] at v2
  have hlo := F.lo
  have hst := F.st _ hr
  have h9 := F.h9
  have hp := F.hp
  have hmn : man < 2 * H := by
    have e1 := Nat.div_add_mod (b % S) H
    have e2 := Nat.mod_lt (b % S) hp
    rw [Nat.mul_comm] at e1
    by_cases e3 : b % S / H = 0
    · rw [e3] at e1 hman; rw [hman]; omega
    · rw [hman, Nat.sub_mul]; omega
  have hk53 : k < 54 := by
    have h1 : 2 ^ k ≤ man := by
      have h2 := Nat.div_add_mod man (2 ^ k)
      rw [hk.1, Nat.add_zero] at h2
      have h3 : 1 ≤ man / 2 ^ k := by have h8 := hk.2; generalize man / 2 ^ k = q8 at h8 ⊢; omega
      have h4 : 2 ^ k * 1 ≤ 2 ^ k * (man / 2 ^ k) := Nat.mul_le_mul_left _ h3
      omega
    have h5 : 2 ^ k < 2 ^ 54 := Nat.lt_of_le_of_lt h1 (Nat.lt_of_lt_of_le hmn (Nat.le_trans h9 (by decide)))
    exact (Nat.pow_lt_pow_iff_right (by decide)).1 h5
  obtain ⟨y, hy⟩ : ∃ y : Int, y = iv (decide (S ≤ b)) man := ⟨_, rfl⟩
  have hyv : (if S ≤ b then -((man : Nat) : Int) else ((man : Nat) : Int)) = y := by
    rw [hy]
    by_cases hS : S ≤ b
    · rw [if_pos hS, decide_eq_true hS]; rfl
    · rw [if_neg hS, decide_eq_false hS]; rfl
  rw [hyv] at v2
  have hya : y.natAbs = man := by rw [← hyv]; split <;> omega
  have hy0 : y ≠ 0 := by omega
  rw [← hya] at hk
  obtain ⟨zo, o1, o2, o3, o4, o5⟩ := tz_val hy0 hk
  have hys : decide (y < 0) = decide (S ≤ b) := by
    rw [← hyv]
    by_cases hS : S ≤ b
    · rw [if_pos hS, decide_eq_true hS]; exact decide_eq_true (by omega)
    · rw [if_neg hS, decide_eq_false hS]; exact decide_eq_false (by omega)
  have hfo : DFm zo (l + ((b % S / H - 1 : Nat) : Int) + k) := .inr ⟨o2, by omega, by omega⟩
  have hq : dv z e = dv zo (l + ((b % S / H - 1 : Nat) : Int) + k) := by rw [v2, dv_up k (by omega), o3]
  obtain ⟨h1, h2⟩ := dv_inj hv.fm hfo hq
  refine ⟨?_, h2⟩
  rw [h1, ← o5, hys, hya]
theorem num_zero {f p m l : Int} {S I H : Nat} (F : Pm f p m l S I H) {b : Nat} (hr : b % S < I) {z e : Int} (hv : VF S H l b z e) (hman : b % S - (b % S / H - 1) * H = 0) : z = 0 ∧ e = 0 := by
  obtain ⟨z1, e1, v1, v2⟩ := vf_ex F hr
  obtain ⟨rfl, rfl⟩ := dv_inj hv.fm v1.fm (hv.v.trans v1.v.symm)
  rw [hman] at v2
  have h0 : dv z e = 0 := by
    rw [v2]
    split
    · rw [show (-((0 : Nat) : Int)) = 0 from rfl, dv_zero]
    · rw [show ((0 : Nat) : Int) = 0 from rfl, dv_zero]
  have hz := dv_eq_zero h0
  rcases hv.fm with ⟨_, h⟩ | ⟨h, _⟩
  · exact ⟨hz, h⟩
  · rw [hz] at h; exact absurd h (by decide)
set_option maxRecDepth 20000 in
set_option maxHeartbeats 8000000 in
theorem number_z64 {b : Nat} (hr : b % 9223372036854775808 < 9218868437227405312) {z e : Int} (hv : VF 9223372036854775808 4503599627370496 (-1074) b z e) (h0 : b % 9223372036854775808 - (b % 9223372036854775808 / 4503599627370496 - 1) * 4503599627370496 = 0) (w : World) :
    Calls Tryz.prog 107 #[.int .i64 64, U b] w fun en w' => ∃ s p m, en = .returned (.tuple #[.agg #[.bool s, .slice p m m], .int .i64 e]) ∧ ZR w' s p m z ∧ m ≤ 2 ∧ Below w.heap.size w w' := by
  obtain ⟨man, hman⟩ : ∃ man, man = b % 9223372036854775808 - (b % 9223372036854775808 / 4503599627370496 - 1) * 4503599627370496 := ⟨_, rfl⟩
  obtain ⟨ex, hex⟩ : ∃ ex : Int, ex = (-1074) + ((b % 9223372036854775808 / 4503599627370496 - 1 : Nat) : Int) := ⟨_, rfl⟩
  have hs9 : b % 9223372036854775808 < 9223372036854775808 := by omega
  have hst := pm_64.st _ hr
  have hm9 : man < B64 := by
    have h1 := Nat.div_add_mod (b % 9223372036854775808) 4503599627370496
    rw [B64_eq, hman]
    omega
  have HP : Hid (∀ w, Calls Tryz.prog 148 #[F64t, U (b % 9223372036854775808)] w fun e w' => e = .returned (.tuple #[U man, .int .i64 ex]) ∧ Below w.heap.size w w') := by rw [hman, hex]; exact fun w => rparts_all64 _ hs9 w
  obtain ⟨rfl, rfl⟩ := num_zero pm_64 hr hv h0
  obtain rfl : man = 0 := by rw [hman, h0]
  clear hr hv h0 hman hex hs9 hst hm9
  go_enter Tryz.func107, Tryz.ntmps107
  go_wp2_with fail
  obtain ⟨W0, hW0⟩ : ∃ W0, W0 = (w.alloc (.cells #[.bool false, .slice none 0 0] 110)) := ⟨_, rfl⟩
  have Xr : Hid (Box W0 (w.heap.size) (.bool false) (.slice none 0 0)) := by rw [hW0]; exact ⟨by go_simp, by go_simp, by go_simp, by go_simp⟩
  have hb0 : Below w.heap.size w W0 := by rw [hW0]; exact below1 w _
  rw [← hW0]
  clear hW0
  have hbw : Below w.heap.size w w := Below.refl _ _
  obtain ⟨gr, hgr⟩ : ∃ g, g = w.heap.size := ⟨_, rfl⟩
  have HGr : Hid (w.heap.size ≤ gr) := by rw [hgr]; show _ ≤ _; omega
  rw [← hgr] at Xr
  try rw [← hgr]
  clear hgr
  replace hbw := Below.on hbw hb0
  clear hb0
  refine (rf_64.of _).mono ?_
  rintro e v1 ⟨rfl, hb1⟩
  replace Xr : Hid _ := Xr.out.below hb1
  replace hbw := Below.on hbw hb1
  clear hb1
  go_wp2_with fail
  have Xk0 : Hid (B6q (v1.alloc (.cells #[U 9223372036854775808, .int .i64 53, .int .i64 (-1074), .int .i64 971, U 9218868437227405312, U 9221120237041090561] 117)) v1.heap.size (U 9223372036854775808) (.int .i64 53) (.int .i64 (-1074)) (.int .i64 971) (U 9218868437227405312) (U 9221120237041090561)) := B6q.new v1 _ _ _ _ _ _ _
  have hbn : Below v1.heap.size v1 (v1.alloc (.cells #[U 9223372036854775808, .int .i64 53, .int .i64 (-1074), .int .i64 971, U 9218868437227405312, U 9221120237041090561] 117)) := below1 v1 _
  generalize v1.alloc (.cells #[U 9223372036854775808, .int .i64 53, .int .i64 (-1074), .int .i64 971, U 9218868437227405312, U 9221120237041090561] 117) = Wk at *
  have HGk : Hid (w.heap.size ≤ v1.heap.size) := hbw.size
  replace Xr : Hid _ := Xr.out.below hbn
  replace hbw := Below.on hbw hbn
  clear hbn
  generalize v1.heap.size = gk at *
  have Xk := Xk0
  clear Xk0
  refine (cut_any (by decide) (by decide) b _).mono ?_
  rintro e9 v2 ⟨rfl, hb2⟩
  replace Xr : Hid _ := Xr.out.below hb2
  replace Xk : Hid _ := Xk.out.below hb2
  replace hbw := Below.on hbw hb2
  clear hb2
  obtain ⟨neg, hneg⟩ : ∃ neg, neg = decide (9223372036854775808 ≤ b) := ⟨_, rfl⟩
  rw [← hneg]
  obtain ⟨sz, hsz⟩ : ∃ sz, sz = b % 9223372036854775808 := ⟨_, rfl⟩
  rw [← hsz]
  rw [← hsz] at HP
  clear hneg hsz
  obtain ⟨ck0, ck1, ck2, ck3, ck4, ck5, fk0, fk1, fk2, fk3, fk4, fk5⟩ := Xk.out
  have hnek : gk < v2.heap.size := World.block_lt_of_cell? v2 _ ck0
  go_wp2_with fail
  clear ck0 ck1 ck2 ck3 ck4 ck5 fk0 fk1 fk2 fk3 fk4 fk5 hnek
  refine (HP.out _).mono ?_
  rintro e v3 ⟨rfl, hb3⟩
  replace Xr : Hid _ := Xr.out.below hb3
  replace Xk : Hid _ := Xk.out.below hb3
  replace hbw := Below.on hbw hb3
  clear hb3
  go_wp2_with fail
  refine (rword 0 (by decide) _).mono ?_
  rintro e9 v4 ⟨g4, zs, rfl, hl4, hA4, hN4, hb4⟩
  obtain rfl : zs = [] := hN4.inj B32_one (Nf.nil _)
  replace Xr : Hid _ := Xr.out.below hb4
  replace Xk : Hid _ := Xk.out.below hb4
  replace hbw := Below.on hbw hb4
  clear hb4
  clear hA4 hN4 hl4
  go_wp2_with fail
  refine (rzeros_nil _ _ _).mono ?_
  rintro e2 v5 ⟨rfl, hw⟩
  obtain rfl := hw.symm
  clear hw
  obtain ⟨cr0, cr1, fr0, fr1⟩ := Xr.out
  have hner := Xr.out.lt
  go_wp2_with fail
  refine bodyPost_ret (v := .tuple #[.agg #[.bool false, .slice none 0 0], .int .i64 0]) (by rw [results_cell_tmp rfl]; go_simp) rfl ⟨false, none, 0, rfl, ⟨⟨[], At32.empty _ _ 0 (by decide), Nf.nil _⟩, rfl⟩, by decide, ?_⟩
  first | exact hbw | exact bSet (bSet hbw _ _ _ HGr.out) _ _ _ HGr.out
set_option maxRecDepth 20000 in
set_option maxHeartbeats 8000000 in
theorem number_n64 {b : Nat} (hr : b % 9223372036854775808 < 9218868437227405312) {z e : Int} (hv : VF 9223372036854775808 4503599627370496 (-1074) b z e) (h0 : b % 9223372036854775808 - (b % 9223372036854775808 / 4503599627370496 - 1) * 4503599627370496 ≠ 0) (w : World) :
    Calls Tryz.prog 107 #[.int .i64 64, U b] w fun en w' => ∃ s p m, en = .returned (.tuple #[.agg #[.bool s, .slice p m m], .int .i64 e]) ∧ ZR w' s p m z ∧ m ≤ 2 ∧ Below w.heap.size w w' := by
  obtain ⟨man, hman⟩ : ∃ man, man = b % 9223372036854775808 - (b % 9223372036854775808 / 4503599627370496 - 1) * 4503599627370496 := ⟨_, rfl⟩
  obtain ⟨ex, hex⟩ : ∃ ex : Int, ex = (-1074) + ((b % 9223372036854775808 / 4503599627370496 - 1 : Nat) : Int) := ⟨_, rfl⟩
  have hs9 : b % 9223372036854775808 < 9223372036854775808 := by omega
  have hst := pm_64.st _ hr
  have hm9 : man < B64 := by
    have h1 := Nat.div_add_mod (b % 9223372036854775808) 4503599627370496
    rw [B64_eq, hman]
    omega
  have HP : Hid (∀ w, Calls Tryz.prog 148 #[F64t, U (b % 9223372036854775808)] w fun e w' => e = .returned (.tuple #[U man, .int .i64 ex]) ∧ Below w.heap.size w w') := by rw [hman, hex]; exact fun w => rparts_all64 _ hs9 w
  rw [← hman] at h0
  obtain ⟨K, hK⟩ := TzO.ex man
  have hK : TzIs man K := by rcases hK with ⟨h, _⟩ | ⟨_, h⟩; (exact absurd h h0); exact h
  obtain ⟨hz, he⟩ := num_vf pm_64 hr hv hman hK h0
  rw [← hex] at he
  have hlo := pm_64.lo
  have hK64 : K < 64 := by
    have h1 : 2 ^ K ≤ man := by
      have h2 := Nat.div_add_mod man (2 ^ K)
      rw [hK.1, Nat.add_zero] at h2
      have h3 : 1 ≤ man / 2 ^ K := by have h8 := hK.2; generalize man / 2 ^ K = q8 at h8 ⊢; omega
      have h4 : 2 ^ K * 1 ≤ 2 ^ K * (man / 2 ^ K) := Nat.mul_le_mul_left _ h3
      omega
    have h5 : 2 ^ K < 2 ^ 64 := Nat.lt_of_le_of_lt h1 (by rw [B64_eq] at hm9; exact hm9)
    exact (Nat.pow_lt_pow_iff_right (by decide)).1 h5
  have hwe : ex + (K : Int) = e := by omega
  have w1 : wrap64 (ex + (K : Int)) = e := by simp only [wrap64]; omega
  have w2 : IntKind.i64.wrap (ex + (K : Int)) = e := by simp [IntKind.wrap, IntKind.signed, IntKind.bits]; omega
  obtain ⟨neg, hneg⟩ : ∃ neg, neg = decide (9223372036854775808 ≤ b) := ⟨_, rfl⟩
  rw [← hneg] at hz
  have HK : Hid (TzIs man K ∧ K < 64 ∧ 0 < man ∧ man < B64 ∧ z = iv neg (man / 2 ^ K) ∧ neg = decide (9223372036854775808 ≤ b) ∧ wrap64 (ex + (K : Int)) = e ∧ IntKind.i64.wrap (ex + (K : Int)) = e) := ⟨hK, hK64, by omega, hm9, hz, hneg, w1, w2⟩
  clear hr hv h0 hman hex hs9 hst hm9 hK hK64 hz he hneg w1 w2 hlo hwe
  go_enter Tryz.func107, Tryz.ntmps107
  go_wp2_with fail
  obtain ⟨W0, hW0⟩ : ∃ W0, W0 = (w.alloc (.cells #[.bool false, .slice none 0 0] 110)) := ⟨_, rfl⟩
  have Xr : Hid (Box W0 (w.heap.size) (.bool false) (.slice none 0 0)) := by rw [hW0]; exact ⟨by go_simp, by go_simp, by go_simp, by go_simp⟩
  have hb0 : Below w.heap.size w W0 := by rw [hW0]; exact below1 w _
  rw [← hW0]
  clear hW0
  have hbw : Below w.heap.size w w := Below.refl _ _
  obtain ⟨gr, hgr⟩ : ∃ g, g = w.heap.size := ⟨_, rfl⟩
  have HGr : Hid (w.heap.size ≤ gr) := by rw [hgr]; show _ ≤ _; omega
  rw [← hgr] at Xr
  try rw [← hgr]
  clear hgr
  replace hbw := Below.on hbw hb0
  clear hb0
  refine (rf_64.of _).mono ?_
  rintro e v1 ⟨rfl, hb1⟩
  replace Xr : Hid _ := Xr.out.below hb1
  replace hbw := Below.on hbw hb1
  clear hb1
  go_wp2_with fail
  have Xk0 : Hid (B6q (v1.alloc (.cells #[U 9223372036854775808, .int .i64 53, .int .i64 (-1074), .int .i64 971, U 9218868437227405312, U 9221120237041090561] 117)) v1.heap.size (U 9223372036854775808) (.int .i64 53) (.int .i64 (-1074)) (.int .i64 971) (U 9218868437227405312) (U 9221120237041090561)) := B6q.new v1 _ _ _ _ _ _ _
  have hbn : Below v1.heap.size v1 (v1.alloc (.cells #[U 9223372036854775808, .int .i64 53, .int .i64 (-1074), .int .i64 971, U 9218868437227405312, U 9221120237041090561] 117)) := below1 v1 _
  generalize v1.alloc (.cells #[U 9223372036854775808, .int .i64 53, .int .i64 (-1074), .int .i64 971, U 9218868437227405312, U 9221120237041090561] 117) = Wk at *
  have HGk : Hid (w.heap.size ≤ v1.heap.size) := hbw.size
  replace Xr : Hid _ := Xr.out.below hbn
  replace hbw := Below.on hbw hbn
  clear hbn
  generalize v1.heap.size = gk at *
  have Xk := Xk0
  clear Xk0
  refine (cut_any (by decide) (by decide) b _).mono ?_
  rintro e9 v2 ⟨rfl, hb2⟩
  replace Xr : Hid _ := Xr.out.below hb2
  replace Xk : Hid _ := Xk.out.below hb2
  replace hbw := Below.on hbw hb2
  clear hb2
  rw [← HK.out.2.2.2.2.2.1]
  obtain ⟨sz, hsz⟩ : ∃ sz, sz = b % 9223372036854775808 := ⟨_, rfl⟩
  rw [← hsz]
  rw [← hsz] at HP
  clear hsz
  obtain ⟨ck0, ck1, ck2, ck3, ck4, ck5, fk0, fk1, fk2, fk3, fk4, fk5⟩ := Xk.out
  have hnek : gk < v2.heap.size := World.block_lt_of_cell? v2 _ ck0
  go_wp2_with fail
  clear ck0 ck1 ck2 ck3 ck4 ck5 fk0 fk1 fk2 fk3 fk4 fk5 hnek
  refine (HP.out _).mono ?_
  rintro e v3 ⟨rfl, hb3⟩
  replace Xr : Hid _ := Xr.out.below hb3
  replace Xk : Hid _ := Xk.out.below hb3
  replace hbw := Below.on hbw hb3
  clear hb3
  go_wp2_with fail
  refine (rword man HK.out.2.2.2.1 _).mono ?_
  rintro e9 v4 ⟨g4, zs, rfl, hl4, hA4, hN4, hb4⟩
  obtain ⟨n4, hn4⟩ : ∃ n4, n4 = zs.length := ⟨_, rfl⟩
  rw [← hn4] at hl4 hA4
  rw [← hn4]
  have hn0 : ¬ n4 = 0 := by
    intro h9
    have h8 : zs = [] := List.eq_nil_of_length_eq_zero (by omega)
    rw [h8] at hN4
    have := HK.out.2.2.1
    have h7 := hN4.val
    simp [valB] at h7
    omega
  have hn1 : ((n4 : Int) == 0) = false := by simp; omega
  have N4 : Hid (Nf B32 zs man ∧ n4 ≤ 2) := ⟨hN4, hl4⟩
  replace Xr : Hid _ := Xr.out.below hb4
  replace Xk : Hid _ := Xk.out.below hb4
  replace hbw := Below.on hbw hb4
  clear hb4
  have A4 : Hid (At32 v4 (some ⟨g4, 0, none⟩) n4 n4 zs) := hA4
  clear hA4 hN4 hl4 hn4
  go_wp2_with fail
  refine (rzeros_any (k := K) A4.out N4.out.1 (by have := N4.out; omega) HK.out.1 HK.out.2.2.1).mono ?_
  rintro e2 v5 ⟨rfl, hw⟩
  obtain rfl := hw.symm
  clear hw
  go_wp2_with fail
  refine (rshr_allt A4.out N4.out.1 (by have := N4.out; omega) K (by have := HK.out; omega)).mono ?_
  rintro e2 v6 ⟨p6, m6, z6, rfl, hA6, hN6, hl6, hb6⟩
  have N6 : Hid (Nf B32 z6 (man / 2 ^ K) ∧ m6 ≤ n4) := ⟨hN6, hl6⟩
  replace Xr : Hid _ := Xr.out.below hb6
  replace Xk : Hid _ := Xk.out.below hb6
  replace A4 : Hid _ := A4.out.below hb6
  replace hbw := Below.on hbw hb6
  clear hb6
  have A6 : Hid (At32 v6 p6 m6 m6 z6) := hA6
  clear hA6 hN6 hl6
  go_wp2_with fail
  have HR6 : Hid (gr < v6.heap.size) := Xr.out.lt
  refine (rmk_any neg A6.out N6.out.1 (by have := N4.out; have := N6.out; omega)).mono ?_
  rintro e v7 ⟨v, rfl, hv, hb7⟩
  obtain ⟨s7, g7, m7, rfl, hg7, hz7, hl7⟩ := hv
  have HN7 : Hid (v6.heap.size ≤ g7) := hg7
  have HB7 : Hid (v6.heap.size ≤ v7.heap.size) := hb7.size
  replace Xr : Hid _ := Xr.out.below hb7
  replace Xk : Hid _ := Xk.out.below hb7
  replace A4 : Hid _ := A4.out.below hb7
  replace A6 : Hid _ := A6.out.below hb7
  replace hbw := Below.on hbw hb7
  clear hb7
  have Z7 : Hid (ZR v7 s7 (some ⟨g7, 0, none⟩) m7 (iv neg (man / 2 ^ K))) := hz7
  have HL7 : Hid (m7 ≤ m6) := hl7
  clear hz7 hl7 hg7
  have w1 := HK.out.2.2.2.2.2.2.1
  have w2 := HK.out.2.2.2.2.2.2.2
  skip
  obtain ⟨cr0, cr1, fr0, fr1⟩ := Xr.out
  have hner := Xr.out.lt
  go_wp2_with fail
  refine bodyPost_ret (v := .tuple #[.agg #[.bool s7, .slice (some ⟨g7, 0, none⟩) m7 m7], .int .i64 e]) (by rw [results_cell_tmp rfl]; go_simp) rfl ⟨s7, _, m7, rfl, ?_, ?_, ?_⟩
  · rw [HK.out.2.2.2.2.1]
    have h9 := HN7.out
    have h8 := HR6.out
    exact (Z7.out.set _ _ _ (by omega)).set _ _ _ (by omega)
  · have := HL7.out; have := N6.out; have := N4.out; omega
  · exact bSet (bSet hbw _ _ _ HGr.out) _ _ _ HGr.out
set_option maxRecDepth 20000 in
set_option maxHeartbeats 8000000 in
theorem number_z32 {b : Nat} (hr : b % 2147483648 < 2139095040) {z e : Int} (hv : VF 2147483648 8388608 (-149) b z e) (h0 : b % 2147483648 - (b % 2147483648 / 8388608 - 1) * 8388608 = 0) (w : World) :
    Calls Tryz.prog 107 #[.int .i64 32, U b] w fun en w' => ∃ s p m, en = .returned (.tuple #[.agg #[.bool s, .slice p m m], .int .i64 e]) ∧ ZR w' s p m z ∧ m ≤ 2 ∧ Below w.heap.size w w' := by
  obtain ⟨man, hman⟩ : ∃ man, man = b % 2147483648 - (b % 2147483648 / 8388608 - 1) * 8388608 := ⟨_, rfl⟩
  obtain ⟨ex, hex⟩ : ∃ ex : Int, ex = (-149) + ((b % 2147483648 / 8388608 - 1 : Nat) : Int) := ⟨_, rfl⟩
  have hs9 : b % 2147483648 < 2147483648 := by omega
  have hst := pm_32.st _ hr
  have hm9 : man < B64 := by
    have h1 := Nat.div_add_mod (b % 2147483648) 8388608
    rw [B64_eq, hman]
    omega
  have HP : Hid (∀ w, Calls Tryz.prog 148 #[F32t, U (b % 2147483648)] w fun e w' => e = .returned (.tuple #[U man, .int .i64 ex]) ∧ Below w.heap.size w w') := by rw [hman, hex]; exact fun w => rparts_all32 _ hs9 w
  obtain ⟨rfl, rfl⟩ := num_zero pm_32 hr hv h0
  obtain rfl : man = 0 := by rw [hman, h0]
  clear hr hv h0 hman hex hs9 hst hm9
  go_enter Tryz.func107, Tryz.ntmps107
  go_wp2_with fail
  obtain ⟨W0, hW0⟩ : ∃ W0, W0 = (w.alloc (.cells #[.bool false, .slice none 0 0] 110)) := ⟨_, rfl⟩
  have Xr : Hid (Box W0 (w.heap.size) (.bool false) (.slice none 0 0)) := by rw [hW0]; exact ⟨by go_simp, by go_simp, by go_simp, by go_simp⟩
  have hb0 : Below w.heap.size w W0 := by rw [hW0]; exact below1 w _
  rw [← hW0]
  clear hW0
  have hbw : Below w.heap.size w w := Below.refl _ _
  obtain ⟨gr, hgr⟩ : ∃ g, g = w.heap.size := ⟨_, rfl⟩
  have HGr : Hid (w.heap.size ≤ gr) := by rw [hgr]; show _ ≤ _; omega
  rw [← hgr] at Xr
  try rw [← hgr]
  clear hgr
  replace hbw := Below.on hbw hb0
  clear hb0
  refine (rf_32.of _).mono ?_
  rintro e v1 ⟨rfl, hb1⟩
  replace Xr : Hid _ := Xr.out.below hb1
  replace hbw := Below.on hbw hb1
  clear hb1
  go_wp2_with fail
  have Xk0 : Hid (B6q (v1.alloc (.cells #[U 2147483648, .int .i64 24, .int .i64 (-149), .int .i64 104, U 2139095040, U 2143289345] 117)) v1.heap.size (U 2147483648) (.int .i64 24) (.int .i64 (-149)) (.int .i64 104) (U 2139095040) (U 2143289345)) := B6q.new v1 _ _ _ _ _ _ _
  have hbn : Below v1.heap.size v1 (v1.alloc (.cells #[U 2147483648, .int .i64 24, .int .i64 (-149), .int .i64 104, U 2139095040, U 2143289345] 117)) := below1 v1 _
  generalize v1.alloc (.cells #[U 2147483648, .int .i64 24, .int .i64 (-149), .int .i64 104, U 2139095040, U 2143289345] 117) = Wk at *
  have HGk : Hid (w.heap.size ≤ v1.heap.size) := hbw.size
  replace Xr : Hid _ := Xr.out.below hbn
  replace hbw := Below.on hbw hbn
  clear hbn
  generalize v1.heap.size = gk at *
  have Xk := Xk0
  clear Xk0
  refine (cut_any (by decide) (by decide) b _).mono ?_
  rintro e9 v2 ⟨rfl, hb2⟩
  replace Xr : Hid _ := Xr.out.below hb2
  replace Xk : Hid _ := Xk.out.below hb2
  replace hbw := Below.on hbw hb2
  clear hb2
  obtain ⟨neg, hneg⟩ : ∃ neg, neg = decide (2147483648 ≤ b) := ⟨_, rfl⟩
  rw [← hneg]
  obtain ⟨sz, hsz⟩ : ∃ sz, sz = b % 2147483648 := ⟨_, rfl⟩
  rw [← hsz]
  rw [← hsz] at HP
  clear hneg hsz
  obtain ⟨ck0, ck1, ck2, ck3, ck4, ck5, fk0, fk1, fk2, fk3, fk4, fk5⟩ := Xk.out
  have hnek : gk < v2.heap.size := World.block_lt_of_cell? v2 _ ck0
  go_wp2_with fail
  clear ck0 ck1 ck2 ck3 ck4 ck5 fk0 fk1 fk2 fk3 fk4 fk5 hnek
  refine (HP.out _).mono ?_
  rintro e v3 ⟨rfl, hb3⟩
  replace Xr : Hid _ := Xr.out.below hb3
  replace Xk : Hid _ := Xk.out.below hb3
  replace hbw := Below.on hbw hb3
  clear hb3
  go_wp2_with fail
  refine (rword 0 (by decide) _).mono ?_
  rintro e9 v4 ⟨g4, zs, rfl, hl4, hA4, hN4, hb4⟩
  obtain rfl : zs = [] := hN4.inj B32_one (Nf.nil _)
  replace Xr : Hid _ := Xr.out.below hb4
  replace Xk : Hid _ := Xk.out.below hb4
  replace hbw := Below.on hbw hb4
  clear hb4
  clear hA4 hN4 hl4
  go_wp2_with fail
  refine (rzeros_nil _ _ _).mono ?_
  rintro e2 v5 ⟨rfl, hw⟩
  obtain rfl := hw.symm
  clear hw
  obtain ⟨cr0, cr1, fr0, fr1⟩ := Xr.out
  have hner := Xr.out.lt
  go_wp2_with fail
  refine bodyPost_ret (v := .tuple #[.agg #[.bool false, .slice none 0 0], .int .i64 0]) (by rw [results_cell_tmp rfl]; go_simp) rfl ⟨false, none, 0, rfl, ⟨⟨[], At32.empty _ _ 0 (by decide), Nf.nil _⟩, rfl⟩, by decide, ?_⟩
  first | exact hbw | exact bSet (bSet hbw _ _ _ HGr.out) _ _ _ HGr.out
set_option maxRecDepth 20000 in
set_option maxHeartbeats 8000000 in
theorem number_n32 {b : Nat} (hr : b % 2147483648 < 2139095040) {z e : Int} (hv : VF 2147483648 8388608 (-149) b z e) (h0 : b % 2147483648 - (b % 2147483648 / 8388608 - 1) * 8388608 ≠ 0) (w : World) :
    Calls Tryz.prog 107 #[.int .i64 32, U b] w fun en w' => ∃ s p m, en = .returned (.tuple #[.agg #[.bool s, .slice p m m], .int .i64 e]) ∧ ZR w' s p m z ∧ m ≤ 2 ∧ Below w.heap.size w w' := by
  obtain ⟨man, hman⟩ : ∃ man, man = b % 2147483648 - (b % 2147483648 / 8388608 - 1) * 8388608 := ⟨_, rfl⟩
  obtain ⟨ex, hex⟩ : ∃ ex : Int, ex = (-149) + ((b % 2147483648 / 8388608 - 1 : Nat) : Int) := ⟨_, rfl⟩
  have hs9 : b % 2147483648 < 2147483648 := by omega
  have hst := pm_32.st _ hr
  have hm9 : man < B64 := by
    have h1 := Nat.div_add_mod (b % 2147483648) 8388608
    rw [B64_eq, hman]
    omega
  have HP : Hid (∀ w, Calls Tryz.prog 148 #[F32t, U (b % 2147483648)] w fun e w' => e = .returned (.tuple #[U man, .int .i64 ex]) ∧ Below w.heap.size w w') := by rw [hman, hex]; exact fun w => rparts_all32 _ hs9 w
  rw [← hman] at h0
  obtain ⟨K, hK⟩ := TzO.ex man
  have hK : TzIs man K := by rcases hK with ⟨h, _⟩ | ⟨_, h⟩; (exact absurd h h0); exact h
  obtain ⟨hz, he⟩ := num_vf pm_32 hr hv hman hK h0
  rw [← hex] at he
  have hlo := pm_32.lo
  have hK64 : K < 64 := by
    have h1 : 2 ^ K ≤ man := by
      have h2 := Nat.div_add_mod man (2 ^ K)
      rw [hK.1, Nat.add_zero] at h2
      have h3 : 1 ≤ man / 2 ^ K := by have h8 := hK.2; generalize man / 2 ^ K = q8 at h8 ⊢; omega
      have h4 : 2 ^ K * 1 ≤ 2 ^ K * (man / 2 ^ K) := Nat.mul_le_mul_left _ h3
      omega
    have h5 : 2 ^ K < 2 ^ 64 := Nat.lt_of_le_of_lt h1 (by rw [B64_eq] at hm9; exact hm9)
    exact (Nat.pow_lt_pow_iff_right (by decide)).1 h5
  have hwe : ex + (K : Int) = e := by omega
  have w1 : wrap64 (ex + (K : Int)) = e := by simp only [wrap64]; omega
  have w2 : IntKind.i64.wrap (ex + (K : Int)) = e := by simp [IntKind.wrap, IntKind.signed, IntKind.bits]; omega
  obtain ⟨neg, hneg⟩ : ∃ neg, neg = decide (2147483648 ≤ b) := ⟨_, rfl⟩
  rw [← hneg] at hz
  have HK : Hid (TzIs man K ∧ K < 64 ∧ 0 < man ∧ man < B64 ∧ z = iv neg (man / 2 ^ K) ∧ neg = decide (2147483648 ≤ b) ∧ wrap64 (ex + (K : Int)) = e ∧ IntKind.i64.wrap (ex + (K : Int)) = e) := ⟨hK, hK64, by omega, hm9, hz, hneg, w1, w2⟩
  clear hr hv h0 hman hex hs9 hst hm9 hK hK64 hz he hneg w1 w2 hlo hwe
  go_enter Tryz.func107, Tryz.ntmps107
  go_wp2_with fail
  obtain ⟨W0, hW0⟩ : ∃ W0, W0 = (w.alloc (.cells #[.bool false, .slice none 0 0] 110)) := ⟨_, rfl⟩
  have Xr : Hid (Box W0 (w.heap.size) (.bool false) (.slice none 0 0)) := by rw [hW0]; exact ⟨by go_simp, by go_simp, by go_simp, by go_simp⟩
  have hb0 : Below w.heap.size w W0 := by rw [hW0]; exact below1 w _
  rw [← hW0]
  clear hW0
  have hbw : Below w.heap.size w w := Below.refl _ _
  obtain ⟨gr, hgr⟩ : ∃ g, g = w.heap.size := ⟨_, rfl⟩
  have HGr : Hid (w.heap.size ≤ gr) := by rw [hgr]; show _ ≤ _; omega
  rw [← hgr] at Xr
  try rw [← hgr]
  clear hgr
  replace hbw := Below.on hbw hb0
  clear hb0
  refine (rf_32.of _).mono ?_
  rintro e v1 ⟨rfl, hb1⟩
  replace Xr : Hid _ := Xr.out.below hb1
  replace hbw := Below.on hbw hb1
  clear hb1
  go_wp2_with fail
  have Xk0 : Hid (B6q (v1.alloc (.cells #[U 2147483648, .int .i64 24, .int .i64 (-149), .int .i64 104, U 2139095040, U 2143289345] 117)) v1.heap.size (U 2147483648) (.int .i64 24) (.int .i64 (-149)) (.int .i64 104) (U 2139095040) (U 2143289345)) := B6q.new v1 _ _ _ _ _ _ _
  have hbn : Below v1.heap.size v1 (v1.alloc (.cells #[U 2147483648, .int .i64 24, .int .i64 (-149), .int .i64 104, U 2139095040, U 2143289345] 117)) := below1 v1 _
  generalize v1.alloc (.cells #[U 2147483648, .int .i64 24, .int .i64 (-149), .int .i64 104, U 2139095040, U 2143289345] 117) = Wk at *
  have HGk : Hid (w.heap.size ≤ v1.heap.size) := hbw.size
  replace Xr : Hid _ := Xr.out.below hbn
  replace hbw := Below.on hbw hbn
  clear hbn
  generalize v1.heap.size = gk at *
  have Xk := Xk0
  clear Xk0
  refine (cut_any (by decide) (by decide) b _).mono ?_
  rintro e9 v2 ⟨rfl, hb2⟩
  replace Xr : Hid _ := Xr.out.below hb2
  replace Xk : Hid _ := Xk.out.below hb2
  replace hbw := Below.on hbw hb2
  clear hb2
  rw [← HK.out.2.2.2.2.2.1]
  obtain ⟨sz, hsz⟩ : ∃ sz, sz = b % 2147483648 := ⟨_, rfl⟩
  rw [← hsz]
  rw [← hsz] at HP
  clear hsz
  obtain ⟨ck0, ck1, ck2, ck3, ck4, ck5, fk0, fk1, fk2, fk3, fk4, fk5⟩ := Xk.out
  have hnek : gk < v2.heap.size := World.block_lt_of_cell? v2 _ ck0
  go_wp2_with fail
  clear ck0 ck1 ck2 ck3 ck4 ck5 fk0 fk1 fk2 fk3 fk4 fk5 hnek
  refine (HP.out _).mono ?_
  rintro e v3 ⟨rfl, hb3⟩
  replace Xr : Hid _ := Xr.out.below hb3
  replace Xk : Hid _ := Xk.out.below hb3
  replace hbw := Below.on hbw hb3
  clear hb3
  go_wp2_with fail
  refine (rword man HK.out.2.2.2.1 _).mono ?_
  rintro e9 v4 ⟨g4, zs, rfl, hl4, hA4, hN4, hb4⟩
  obtain ⟨n4, hn4⟩ : ∃ n4, n4 = zs.length := ⟨_, rfl⟩
  rw [← hn4] at hl4 hA4
  rw [← hn4]
  have hn0 : ¬ n4 = 0 := by
    intro h9
    have h8 : zs = [] := List.eq_nil_of_length_eq_zero (by omega)
    rw [h8] at hN4
    have := HK.out.2.2.1
    have h7 := hN4.val
    simp [valB] at h7
    omega
  have hn1 : ((n4 : Int) == 0) = false := by simp; omega
  have N4 : Hid (Nf B32 zs man ∧ n4 ≤ 2) := ⟨hN4, hl4⟩
  replace Xr : Hid _ := Xr.out.below hb4
  replace Xk : Hid _ := Xk.out.below hb4
  replace hbw := Below.on hbw hb4
  clear hb4
  have A4 : Hid (At32 v4 (some ⟨g4, 0, none⟩) n4 n4 zs) := hA4
  clear hA4 hN4 hl4 hn4
  go_wp2_with fail
  refine (rzeros_any (k := K) A4.out N4.out.1 (by have := N4.out; omega) HK.out.1 HK.out.2.2.1).mono ?_
  rintro e2 v5 ⟨rfl, hw⟩
  obtain rfl := hw.symm
  clear hw
  go_wp2_with fail
  refine (rshr_allt A4.out N4.out.1 (by have := N4.out; omega) K (by have := HK.out; omega)).mono ?_
  rintro e2 v6 ⟨p6, m6, z6, rfl, hA6, hN6, hl6, hb6⟩
  have N6 : Hid (Nf B32 z6 (man / 2 ^ K) ∧ m6 ≤ n4) := ⟨hN6, hl6⟩
  replace Xr : Hid _ := Xr.out.below hb6
  replace Xk : Hid _ := Xk.out.below hb6
  replace A4 : Hid _ := A4.out.below hb6
  replace hbw := Below.on hbw hb6
  clear hb6
  have A6 : Hid (At32 v6 p6 m6 m6 z6) := hA6
  clear hA6 hN6 hl6
  go_wp2_with fail
  have HR6 : Hid (gr < v6.heap.size) := Xr.out.lt
  refine (rmk_any neg A6.out N6.out.1 (by have := N4.out; have := N6.out; omega)).mono ?_
  rintro e v7 ⟨v, rfl, hv, hb7⟩
  obtain ⟨s7, g7, m7, rfl, hg7, hz7, hl7⟩ := hv
  have HN7 : Hid (v6.heap.size ≤ g7) := hg7
  have HB7 : Hid (v6.heap.size ≤ v7.heap.size) := hb7.size
  replace Xr : Hid _ := Xr.out.below hb7
  replace Xk : Hid _ := Xk.out.below hb7
  replace A4 : Hid _ := A4.out.below hb7
  replace A6 : Hid _ := A6.out.below hb7
  replace hbw := Below.on hbw hb7
  clear hb7
  have Z7 : Hid (ZR v7 s7 (some ⟨g7, 0, none⟩) m7 (iv neg (man / 2 ^ K))) := hz7
  have HL7 : Hid (m7 ≤ m6) := hl7
  clear hz7 hl7 hg7
  have w1 := HK.out.2.2.2.2.2.2.1
  have w2 := HK.out.2.2.2.2.2.2.2
  skip
  obtain ⟨cr0, cr1, fr0, fr1⟩ := Xr.out
  have hner := Xr.out.lt
  go_wp2_with fail
  refine bodyPost_ret (v := .tuple #[.agg #[.bool s7, .slice (some ⟨g7, 0, none⟩) m7 m7], .int .i64 e]) (by rw [results_cell_tmp rfl]; go_simp) rfl ⟨s7, _, m7, rfl, ?_, ?_, ?_⟩
  · rw [HK.out.2.2.2.2.1]
    have h9 := HN7.out
    have h8 := HR6.out
    exact (Z7.out.set _ _ _ (by omega)).set _ _ _ (by omega)
  · have := HL7.out; have := N6.out; have := N4.out; omega
  · exact bSet (bSet hbw _ _ _ HGr.out) _ _ _ HGr.out
def OneZ (r : Int → Int) (sx : Bool) (xs : List Nat) (s : Bool) (us : List Nat) (er : Int) : Prop :=
  (formZ sx xs = false ∧ s = false ∧ us = [] ∧ er = 2) ∨ (formZ sx xs = true ∧ DocZ (r (iv sx (valB B64 xs))) s us er)
def TwoZ (r : Int → Int → Int) (sx : Bool) (xs : List Nat) (sy : Bool) (ys : List Nat) (s : Bool) (us : List Nat) (er : Int) : Prop :=
  ((formZ sx xs && formZ sy ys) = false ∧ s = false ∧ us = [] ∧ er = 2) ∨ ((formZ sx xs && formZ sy ys) = true ∧ DocZ (r (iv sx (valB B64 xs)) (iv sy (valB B64 ys))) s us er)
theorem OneZ.inj {r : Int → Int} {sx : Bool} {xs : List Nat} {s s' : Bool} {us us' : List Nat} {er er' : Int} (h : OneZ r sx xs s us er) (k : OneZ r sx xs s' us' er') : s = s' ∧ us = us' ∧ er = er' := by
  rcases h with ⟨h0, rfl, rfl, rfl⟩ | ⟨h0, h1⟩ <;> rcases k with ⟨k0, rfl, rfl, rfl⟩ | ⟨k0, k1⟩
  · exact ⟨rfl, rfl, rfl⟩
  · rw [h0] at k0; cases k0
  · rw [h0] at k0; cases k0
  · exact h1.inj k1
theorem TwoZ.inj {r : Int → Int → Int} {sx sy : Bool} {xs ys : List Nat} {s s' : Bool} {us us' : List Nat} {er er' : Int} (h : TwoZ r sx xs sy ys s us er) (k : TwoZ r sx xs sy ys s' us' er') : s = s' ∧ us = us' ∧ er = er' := by
  rcases h with ⟨h0, rfl, rfl, rfl⟩ | ⟨h0, h1⟩ <;> rcases k with ⟨k0, rfl, rfl, rfl⟩ | ⟨k0, k1⟩
  · exact ⟨rfl, rfl, rfl⟩
  · rw [h0] at k0; cases k0
  · rw [h0] at k0; cases k0
  · exact h1.inj k1
structure WinRel32 (w : World) (g off n : Nat) (W D d b : Nat) (ws : List Nat) (wr : World) : Prop where
  wrs : Wr g off (n + 1) w wr
  row : Row32 wr g off (n + 1) ws
  db : d < B32
  bb : b ≤ 1
  ge : W / D ≤ d
  sum : valB B32 ws + D * d = W + B32 ^ (n + 1) * b
theorem WinRel32.done {w : World} {g off n W D d : Nat} {ws : List Nat} {wr : World} (h : WinRel32 w g off n W D d 0 ws wr) (hD : 0 < D) : d = W / D ∧ valB B32 ws = W % D := by
  have h1 := h.sum; have h2 := h.ge
  rw [Nat.mul_zero, Nat.add_zero] at h1
  have h3 : d ≤ W / D := (Nat.le_div_iff_mul_le hD).2 (by rw [Nat.mul_comm]; omega)
  have h4 : d = W / D := by omega
  refine ⟨h4, ?_⟩
  have h5 := Nat.div_add_mod W D
  rw [← h4] at h5
  omega
theorem WinRel32.more {w : World} {g off n W D d : Nat} {ws : List Nat} {wr wr' : World} (h : WinRel32 w g off n W D d 1 ws wr) {cy : Nat} {ws' : List Nat} (hcy : cy ≤ 1) (hwr : Wr g off (n + 1) wr wr') (hrow : Row32 wr' g off (n + 1) ws') (hs : valB B32 ws' + B32 ^ (n + 1) * cy = valB B32 ws + D) :
    1 ≤ d ∧ WinRel32 w g off n W D (d - 1) (1 - cy) ws' wr' := by
  have h1 := h.sum; have h2 := h.ge; have h3 := h.db
  have hl := valB_lt B32_pos h.row.dig
  rw [h.row.len] at hl
  rw [Nat.mul_one] at h1
  have hgt : W < D * d := by omega
  have hd : 1 ≤ d := by
    rcases Nat.eq_zero_or_pos d with e | e
    · subst e; simp at hgt
    · exact e
  have hlt : W / D < d := Nat.div_lt_of_lt_mul hgt
  have e4 : D * d = D * (d - 1) + D := by rw [← Nat.mul_succ, show (d - 1).succ = d by omega]
  refine ⟨hd, h.wrs.trans hwr, hrow, by omega, by omega, by omega, ?_⟩
  rcases Nat.eq_zero_or_pos cy with e | e
  · subst e; rw [Nat.mul_zero, Nat.add_zero] at hs; rw [Nat.sub_zero, Nat.mul_one]; omega
  · obtain rfl : cy = 1 := by omega
    rw [Nat.mul_one] at hs; rw [Nat.sub_self, Nat.mul_zero]; omega
structure DgS (w : World) (g off n : Nat) (us vs : List Nat) (q k cy ow : Nat) (dk : List Nat) (wr : World) : Prop where
  wrs : Wr g off (n + 1) w wr
  row : Row32 wr g off (n + 1) dk
  hi : dk.drop k = us.drop k
  car : cy < B32
  owb : ow ≤ 1
  fin : k = n + 1 → cy = 0
  sum : valB B32 (dk.take k) + valB B32 (vs.take k) * q = valB B32 (us.take k) + B32 ^ k * (ow + cy)
theorem dgs_abs {P B S V U q d y u o c o' c' : Nat} (h : S + V * q = U + P * (o + c)) (hs : o + c + d + y * q = u + B * (o' + c')) : S + P * d + (V + P * y) * q = U + P * u + P * B * (o' + c') := by
  have e1 : P * (o + c + d + y * q) = P * (u + B * (o' + c')) := by rw [hs]
  rw [Nat.mul_add P (o + c + d) (y * q), Nat.mul_add P (o + c) d, Nat.mul_add P u] at e1
  have e2 : P * (y * q) = P * y * q := (Nat.mul_assoc _ _ _).symm
  have e3 : P * (B * (o' + c')) = P * B * (o' + c') := (Nat.mul_assoc _ _ _).symm
  rw [e2, e3] at e1
  rw [Nat.add_mul]
  generalize P * y * q = X1 at *
  generalize P * B * (o' + c') = X2 at *
  generalize P * (o + c) = X3 at *
  generalize P * d = X4 at *
  generalize P * u = X5 at *
  omega
theorem DgS.step {w : World} {g off n : Nat} {us vs : List Nat} {q k cy ow : Nat} {dk : List Nat} {wr : World} (h : DgS w g off n us vs q k cy ow dk wr) (hk : k < n + 1) (hvl : vs.length = n)
    {y u c1 lo cy' ow' d : Nat} (hy : y = vs.getD k 0) (hu : u = dk.getD k 0) (hc1 : c1 = cy + y * q) (hlo : c1 = lo + B32 * cy') (hcy' : cy' < B32) (how' : ow' ≤ 1) (hd : d + lo + ow = u + B32 * ow') (hdb : d < B32) :
    DgS w g off n us vs q (k + 1) cy' ow' (dk.set k d) (wr.setCell ⟨g, off + k, none⟩ (V d)) := by
  have hlen := h.row.len
  refine ⟨h.wrs.setCell (off + k) ⟨by omega, by omega⟩ _, h.row.set k d hk hdb, ?_, hcy', how', ?_, ?_⟩
  · rw [drop_set_lt]; exact drop_succ_of_drop h.hi
  · intro hkn
    have h0 : y = 0 := by
      rw [hy, List.getD_eq_getElem?_getD, List.getElem?_eq_none (by omega)]; rfl
    rw [h0, Nat.zero_mul] at hc1
    have := h.car
    rcases Nat.eq_zero_or_pos cy' with e | e
    · exact e
    · have : B32 * 1 ≤ B32 * cy' := Nat.mul_le_mul_left _ e
      omega
  · have huu : u = us.getD k 0 := hu.trans (getD_of_drop h.hi)
    rw [take_set_succ dk k d (by omega), valB_snoc, List.length_take, hlen, Nat.min_eq_left (by omega), valB_take_any _ us k, valB_take_any _ vs k, ← huu, ← hy, Nat.pow_succ]
    refine dgs_abs h.sum ?_
    rw [Nat.mul_add]
    omega
structure DgA (w : World) (g off n : Nat) (ws vs : List Nat) (k cy : Nat) (dk : List Nat) (wr : World) : Prop where
  wrs : Wr g off (n + 1) w wr
  row : Row32 wr g off (n + 1) dk
  hi : dk.drop k = ws.drop k
  car : cy ≤ 1
  sum : valB B32 (dk.take k) + B32 ^ k * cy = valB B32 (ws.take k) + valB B32 (vs.take k)
theorem DgA.step {w : World} {g off n : Nat} {ws vs : List Nat} {k cy : Nat} {dk : List Nat} {wr : World} (h : DgA w g off n ws vs k cy dk wr) (hk : k < n + 1)
    {y u lo cy' : Nat} (hy : y = vs.getD k 0) (hu : u = dk.getD k 0) (hs : cy + u + y = lo + B32 * cy') (hlo : lo < B32) (hcy' : cy' ≤ 1) :
    DgA w g off n ws vs (k + 1) cy' (dk.set k lo) (wr.setCell ⟨g, off + k, none⟩ (V lo)) := by
  have hlen := h.row.len
  refine ⟨h.wrs.setCell (off + k) ⟨by omega, by omega⟩ _, h.row.set k lo hk hlo, ?_, hcy', ?_⟩
  · rw [drop_set_lt]; exact drop_succ_of_drop h.hi
  · have huu : u = ws.getD k 0 := hu.trans (getD_of_drop h.hi)
    rw [take_set_succ dk k lo (by omega), valB_snoc, List.length_take, hlen, Nat.min_eq_left (by omega), valB_take_any _ ws k, valB_take_any _ vs k, ← huu, ← hy, Nat.pow_succ]
    have e1 := h.sum
    have e2 : B32 ^ k * (cy + u + y) = B32 ^ k * (lo + B32 * cy') := by rw [hs]
    rw [Nat.mul_add, Nat.mul_add, Nat.mul_add, ← Nat.mul_assoc] at e2
    omega
theorem Blk32.own {w : World} {g base : Nat} {xs : List Nat} (h : Blk32 w g xs) (hb : base ≤ g) (hm : xs.length ≤ maxLen) : w.ownsRow base 203 1 (.slice (some ⟨g, 0, none⟩) xs.length xs.length) xs.length (cellsV xs) :=
  ⟨by simp [cellsV], .inr ⟨g, xs.length, (cellsV xs).toArray, rfl, hb, h, Nat.le_refl _, hm, by simp [cellsV], by rw [Nat.mul_one]; exact List.take_of_length_le (by simp [cellsV])⟩⟩
structure RSmR (w : World) (g N : Nat) (xs : List Nat) (v c i cy : Nat) (ss : List Nat) (wr : World) : Prop where
  bel : Below g w wr
  own : wr.ownsRow g 203 1 (.slice (some ⟨g, 0, none⟩) i N) i (cellsV ss)
  len : ss.length = i
  dig : Dig B32 ss
  car : cy < B32
  sum : valB B32 ss + B32 ^ i * cy = valB B32 (xs.take i) * v + c
theorem rsm_step {xs ss : List Nat} {i cy x v c lo hh : Nat} (h : valB B32 ss + B32 ^ i * cy = valB B32 (xs.take i) * v + c) (hl : ss.length = i) (ex : x = xs.getD i 0) (hs : cy + x * v = lo + B32 * hh) :
    valB B32 (ss ++ [lo]) + B32 ^ (i + 1) * hh = valB B32 (xs.take (i + 1)) * v + c := by
  rw [valB_snoc, hl, valB_take_any _ xs i, ← ex, Nat.pow_succ, Nat.add_mul]
  have e1 : B32 ^ i * (cy + x * v) = B32 ^ i * (lo + B32 * hh) := by rw [hs]
  rw [Nat.mul_add, Nat.mul_add, ← Nat.mul_assoc, ← Nat.mul_assoc] at e1
  omega
theorem own_at32 {wr : World} {g i N : Nat} {ss : List Nat} (ho : wr.ownsRow g 203 1 (.slice (some ⟨g, 0, none⟩) i N) i (cellsV ss)) (hl : ss.length = i) (hd : Dig B32 ss) : At32 wr (some ⟨g, 0, none⟩) i N ss := by
  rcases ho.2 with ⟨h', _⟩ | ⟨g', cap', cur, h', hbase, hgc, hcap', hmx, hsz, htake⟩
  · simp at h'
  · simp only [Value.slice.injEq, Option.some.injEq, Addr.mk.injEq, and_true, true_and] at h'
    obtain ⟨rfl, rfl⟩ := h'
    refine ⟨hl, hcap', hmx, hd, .inr ⟨g, 0, rfl, fun jj hj => ?_⟩⟩
    rw [Nat.zero_add, cell_of_row wr g jj _ _ _ hgc]
    have e1 := cellsV_get ss jj (by rw [hl]; exact hj)
    rw [← htake, Nat.mul_one, List.getElem?_take, if_pos hj] at e1
    rw [← Array.getElem?_toList]; exact e1

set_option maxRecDepth 20000 in
set_option maxHeartbeats 2000000 in
theorem rsmall_any {p : Option Addr} {n c : Nat} {xs : List Nat} {a v u : Nat} {w : World} (h : At32 w p n c xs) (hx : Nf B32 xs a) (hn : n ≤ 4398046511104) (hv : v < B32) (hu : u < B32) :
    Calls Tryz.prog 187 #[.slice p n c, V v, V u] w fun e w' => ∃ g zs, e = .returned (.slice (some ⟨g, 0, none⟩) zs.length zs.length) ∧ Blk32 w' g zs ∧ Nf B32 zs (a * v + u) ∧ zs.length ≤ n + 1 ∧ Below w.heap.size w w' := by
  obtain ⟨i0, hi, hz0, hz1, hz2⟩ := info_parts Tryz.infoU32
  have HX : Hid (Nf B32 xs a) := hx
  have HLX : Hid (xs.length = n) := h.len
  have hcap := h.cap; have hbig := h.big
  unfold maxLen at hbig
  have huw : IntKind.u64.wrap (u : Int) = (u : Int) := wrap_mod _ _ (by rw [B32_eq] at hu; omega)
  clear hx
  go_enter Tryz.func187, Tryz.ntmps187
  go_wp2_with (at_make; refine wpList_make_own _ rfl _ _ 108 rfl w.heap.size 203 i0 (.int .u32 0) 1 Tryz.underlying108 hi hz0 hz1 _ _ _ (n + 1) rfl rfl (by omega) (by rw [hz2]; omega) (by unfold maxLen; omega) (Nat.le_refl _) ?_; intro w1 hown hgrow)
  have hb1 : Below w.heap.size w w1 := (Below.refl _ _).grown hgrow (Nat.le_refl _) (fun k hk => by simp at hk)
  have HO : Hid (RSmR w w.heap.size (n + 1) xs v u 0 u [] w1) := ⟨hb1, hown, rfl, Dig.nil _, hu, by simp [valB]⟩
  clear hown hgrow hb1
  obtain ⟨N, hN⟩ : ∃ N, N = n + 1 := ⟨_, rfl⟩
  rw [← hN] at HO ⊢
  have HN : Hid (N = n + 1) := hN
  clear hN
  go_loopg [7, 8, 9] n (fun gk sv cv iv wr => ∃ (i cy : Nat) (ss : List Nat), i + gk = n ∧ iv = .int .i64 i ∧ cv = U cy ∧ sv = .slice (some ⟨w.heap.size, 0, none⟩) i N ∧ Hid (RSmR w w.heap.size N xs v u i cy ss wr))
  case atStart => exact ⟨0, u, [], by omega, rfl, rfl, rfl, HO⟩
  case round =>
    obtain ⟨i, cy, ss, hig, rfl, rfl, rfl, HR⟩ := hrel
    have hcyb := HR.out.car
    cases gk with
    | zero =>
      obtain rfl : i = n := by omega
      have hni : ¬ i < i := by omega
      have hw32 : IntKind.u32.wrap (cy : Int) = (cy : Int) := wrap32 cy hcyb
      have HOA : Hid ((wr.alloc (.cells #[V cy] 203)).ownsRow w.heap.size 203 1 (.slice (some ⟨w.heap.size, 0, none⟩) i N) i (cellsV ss)) := HR.out.own.alloc _
      have hsp : i + 1 ≤ N := by have := HN.out; omega
      go_wp2_with (at_builtin; refine wpList_append_fits _ rfl (.tmp 40) (.tmp 43) 108 rfl w.heap.size 203 i0 1 Tryz.underlying108 hi hz1 w.heap.size i N (cellsV ss) rfl HOA.out ⟨wr.heap.size, 0, none⟩ 1 1 [V cy] rfl rfl (one_cell wr cy) (by intro u hu; simp at hu; subst hu; rfl) hsp ?_; intro w3 hw3 hgr3)
      have hR := HR.out
      have hbx : Below w.heap.size w w3 := (hR.bel.alloc hR.bel.size _).grown hgr3 (by have := hR.bel.size; simp; omega) (fun q hq => by simp at hq; omega)
      have e0 : cellsV (ss ++ [cy]) = cellsV ss ++ [V cy] := by unfold cellsV; rw [List.map_append]; rfl
      rw [← e0] at hw3
      have hl3 : (ss ++ [cy]).length = i + 1 := by simp [hR.len]
      have hd3 : Dig B32 (ss ++ [cy]) := hR.dig.append (Dig.cons hcyb (Dig.nil _))
      have A32 := own_at32 hw3 hl3 hd3
      have HNF : Hid (Nf B32 (trimL (ss ++ [cy])) (a * v + u)) := by
        have h1 := Nf.trim hd3
        have h2 := hR.sum
        rw [List.take_of_length_le (by rw [HLX.out]; omega), HX.out.val] at h2
        rw [valB_snoc, hR.len, h2] at h1; exact h1
      have hle := trimL_length_le (ss ++ [cy])
      have HLE : Hid ((trimL (ss ++ [cy])).length ≤ i + 1) := by show _ ≤ _; omega
      clear hw3 hgr3 e0 hl3 hd3 hle hR
      refine (rnorm_any A32 (by omega)).mono ?_
      rintro e w5 ⟨g5, rfl, hg5, hblk5, hb5⟩
      generalize trimL (ss ++ [cy]) = zs at *
      go_wp2_with fail
      go_ret
      exact ⟨g5, zs, rfl, hblk5, HNF.out, HLE.out, Below.on hbx hb5⟩
    | succ gg =>
      obtain ⟨g, off, rfl, hc⟩ := h.cells.resolve_left (by omega)
      obtain ⟨x, hxx⟩ : ∃ x, x = xs.getD i 0 := ⟨_, rfl⟩
      have hin : i < n := by omega
      have hcx0 : w.cell? ⟨g, off + i, none⟩ = some (V x) := by rw [hxx]; exact hc i hin
      have hcx : wr.cell? ⟨g, off + i, none⟩ = some (V x) := (HR.out.bel.cell (p := ⟨g, off + i, none⟩) (World.block_lt_of_cell? w _ hcx0)).trans hcx0
      have hxb : x < B32 := by rw [hxx]; exact HX.out.dig.getD B32_pos i
      have hxw : IntKind.u64.wrap (x : Int) = (x : Int) := wrap_mod _ _ (by rw [B32_eq] at hxb; omega)
      have hvw : IntKind.u64.wrap (v : Int) = (v : Int) := wrap_mod _ _ (by rw [B32_eq] at hv; omega)
      have HXE : Hid (x = xs.getD i 0) := hxx
      have hall := rmul_digit hxb hv B32_pos hcyb
      obtain ⟨xy, exy⟩ : ∃ xy, xy = x * v := ⟨_, rfl⟩
      rw [← exy] at hall
      rw [B64_eq] at hall
      have f1 : IntKind.u64.wrap ((x : Int) * (v : Int)) = (xy : Int) := by
        have e : ((x : Int) * (v : Int)) = ((x * v : Nat) : Int) := by simp
        rw [e, ← exy]; exact wrap_mod _ _ (by omega)
      obtain ⟨s2, es2⟩ : ∃ s2, s2 = cy + xy := ⟨_, rfl⟩
      have f3 : IntKind.u64.wrap ((cy : Int) + (xy : Int)) = (s2 : Int) := wrap_mod _ _ (by omega)
      have hs2 : s2 < 18446744073709551616 := by omega
      obtain ⟨lo, elo⟩ : ∃ lo, lo = s2 % B32 := ⟨_, rfl⟩
      obtain ⟨hh, ehh⟩ : ∃ hh, hh = s2 / B32 := ⟨_, rfl⟩
      have hlob : lo < B32 := by rw [elo]; exact Nat.mod_lt _ B32_pos
      have hhhb : hh < B32 := by rw [ehh]; exact Nat.div_lt_of_lt_mul (by rw [B32_two, B64_eq]; exact hs2)
      have f4 : bits .and .u64 (s2 : Int) 4294967295 = (lo : Int) := by rw [elo, B32_eq]; exact and32 s2 hs2
      have f5 : (s2 : Int) / 4294967296 = (hh : Int) := by rw [ehh, B32_eq]; exact div32 s2
      have f6 : IntKind.u32.wrap (lo : Int) = (lo : Int) := wrap32 lo hlob
      have HSUM : Hid (cy + x * v = lo + B32 * hh) := by
        have := Nat.mod_add_div s2 B32
        rw [← elo, ← ehh] at this
        show _ = _; omega
      have HOA : Hid ((wr.alloc (.cells #[V lo] 203)).ownsRow w.heap.size 203 1 (.slice (some ⟨w.heap.size, 0, none⟩) i N) i (cellsV ss)) := HR.out.own.alloc _
      have hsp : i + 1 ≤ N := by have := HN.out; omega
      clear hall exy es2 elo ehh hxx hcx0 hc
      go_wp2_with (at_builtin; refine wpList_append_fits _ rfl (.tmp 32) (.tmp 36) 108 rfl w.heap.size 203 i0 1 Tryz.underlying108 hi hz1 w.heap.size i N (cellsV ss) rfl HOA.out ⟨wr.heap.size, 0, none⟩ 1 1 [V lo] rfl rfl (one_cell wr lo) (by intro u hu; simp at hu; subst hu; rfl) hsp ?_; intro w3 hw3 hgr3)
      have HR3 : Hid (RSmR w w.heap.size N xs v u (i + 1) hh (ss ++ [lo]) w3) := by
        have hR := HR.out
        refine ⟨(hR.bel.alloc hR.bel.size _).grown hgr3 (by have := hR.bel.size; simp; omega) (fun q hq => by simp at hq; omega), ?_, by simp [hR.len], hR.dig.append (Dig.cons hlob (Dig.nil _)), hhhb, rsm_step hR.sum hR.len HXE.out HSUM.out⟩
        have e0 : cellsV (ss ++ [lo]) = cellsV ss ++ [V lo] := by unfold cellsV; rw [List.map_append]; rfl
        rw [e0]; exact hw3
      clear hw3 hgr3
      go_roundg gg
      case measure => omega
      case rel => exact ⟨i + 1, hh, ss ++ [lo], by omega, by go_num, rfl, rfl, HR3⟩
theorem wpList_make_room {P : Program} (w : World) {ops : Array Oper} {rest : List Oper} {o : Oper} {a : Act} {Q : Exit → Act → World → Prop}
    (hg : o.guard = none) (l c : Operand) (t : TypeId) (hop : o.op = Op.makeSlice t l c)
    (base : Nat) (e : TypeId) (i : TypeInfo) (z : Value) (size : Nat) (h1 : P.underlying t = some (.slice e)) (h2 : P.info? e = some i) (h3 : i.zero = some z) (h4 : i.size = size)
    (kl kc : IntKind) (L C : Int) (n m : Nat) (hl : a.eval l = .int kl L) (hc : a.eval c = .int kc C) (hL : L = (n : Int)) (hC : C = (m : Int)) (hnm : n ≤ m) (b2 : i.bytes * m ≤ 281474976710656) (b3 : m ≤ maxLen) (b4 : base ≤ w.heap.size)
    (hK : ∀ w', w'.ownsRow base e size (.slice (some ⟨w.heap.size, 0, none⟩) n m) n ((madeCells z.cells (m * size)).toList.take (n * size)) → w.grownBy w' none → wpList P ops Q rest (a.put o.dst (.slice (some ⟨w.heap.size, 0, none⟩) n m)) w') :
    wpList P ops Q (o :: rest) a w := by
  refine wpList_plain hg fun K hK' => ?_
  subst h4
  have h63' : (m : Int) ≤ 9223372036854775807 := by
    have h := b3
    simp [maxLen] at h
    omega
  have hb' : (i.bytes : Int) * (m : Int) ≤ 281474976710656 := by
    have h : ((i.bytes * m : Nat) : Int) ≤ 281474976710656 := by omega
    rwa [Int.natCast_mul] at h
  have hr := run_make (P := P) w t e i z h1 h2 h3 kl kc n m (by omega) (by omega) hb' h63'
  simp only [Int.toNat_natCast] at hr
  subst hL
  subst hC
  unfold Oper.wp
  simp [execOp, hop, hl, hc, hr, Result.andThen]
  refine hK' _ _ (hK _ ⟨?_, .inr ⟨_, m, _, rfl, b4, heap_alloc_new w _, hnm, b3, size_madeCells _ _, rfl⟩⟩ (World.grownBy_alloc w _ none))
  rw [List.length_take, Nat.min_eq_left]
  rw [Array.length_toList, size_madeCells]
  exact Nat.mul_le_mul_right _ hnm
theorem made_take (D M : Nat) (h : D ≤ M) : (madeCells (Value.cells (.int .u32 0)) (M * 1)).toList.take (D * 1) = cellsV (List.replicate D 0) := by
  rw [madeV, Nat.mul_one]
  unfold cellsV
  rw [List.map_replicate, List.map_replicate, List.take_replicate, Nat.min_eq_left h]
theorem valB_zeros (D : Nat) (zs : List Nat) : valB B32 (List.replicate D 0 ++ zs) = B32 ^ D * valB B32 zs := by
  rw [valB_append, valB_replicate, List.length_replicate, Nat.zero_add]

theorem own_below {w w' : World} {base g n m size : Nat} {e : TypeId} {xs : List Value} (h : w.ownsRow base e size (.slice (some ⟨g, 0, none⟩) n m) n xs) (hb : Below w.heap.size w w') (hg : g < w.heap.size) : w'.ownsRow base e size (.slice (some ⟨g, 0, none⟩) n m) n xs := by
  refine ⟨h.1, ?_⟩
  rcases h.2 with ⟨h', _⟩ | ⟨g', cap', cur, h', hbase, hgc, hr⟩
  · simp at h'
  · have h2 := h'
    simp only [Value.slice.injEq, Option.some.injEq, Addr.mk.injEq, and_true] at h2
    obtain ⟨rfl, _⟩ := h2
    exact .inr ⟨_, cap', cur, h', hbase, (hb.block _ hg).trans hgc, hr⟩
theorem blk_src {w : World} {g : Nat} {xs : List Nat} (h : Blk32 w g xs) : ∀ j u, (cellsV xs)[j]? = some u → w.cell? ((⟨g, 0, none⟩ : Addr).add j) = some u := by
  intro j u hu
  have hj : j < xs.length := by
    have := (List.getElem?_eq_some_iff.1 hu).1
    rwa [cellsV_length] at this
  have hadd : (⟨g, 0, none⟩ : Addr).add j = ⟨g, j, none⟩ := by unfold Addr.add; split <;> simp_all
  rw [hadd, h.cell j hj]
  rw [cellsV_get xs j hj] at hu
  exact hu

set_option maxRecDepth 20000 in
set_option maxHeartbeats 2000000 in
theorem rshl_any {p : Option Addr} {n c : Nat} {xs : List Nat} {a : Nat} {w : World} (h : At32 w p n c xs) (hx : Nf B32 xs a) (hn0 : 0 < n) (hn : n ≤ 16384) (N : Nat) (hN2 : N ≤ 524288) :
    Calls Tryz.prog 150 #[.slice p n c, .int .i64 N] w fun e w' => ∃ p' m' zs, e = .returned (.slice p' m' m') ∧ At32 w' p' m' m' zs ∧ Nf B32 zs (a * 2 ^ N) ∧ m' ≤ 40000 ∧ Below w.heap.size w w' := by
  obtain ⟨i0, hi, hz0, hz1, hz2⟩ := info_parts Tryz.infoU32
  have HX : Hid (Nf B32 xs a) := hx
  have HA : Hid (At32 w p n c xs) := h
  have HLX : Hid (xs.length = n) := h.len
  have cap := h.cap
  have big := h.big
  unfold maxLen at big
  have hne : ((n : Int) == 0) = false := by simp; omega
  clear hx h
  by_cases hN0 : N = 0
  · subst hN0
    go_enter Tryz.func150, Tryz.ntmps150
    go_wp2_with fail
    refine (rnorm_any HA.out (by omega)).mono ?_
    rw [trimL_of_Top HX.out.top]
    rintro e w1 ⟨g, rfl, hg, hb, hbl⟩
    have HB : Hid (Blk32 w1 g xs) := hb
    rw [HLX.out]
    clear hb
    go_wp2_with fail
    go_ret
    exact ⟨_, n, xs, rfl, HB.out.at_ HX.out.dig HLX.out (by unfold maxLen; omega), by rw [Nat.pow_zero, Nat.mul_one]; exact HX.out, by omega, hbl⟩
  · obtain ⟨D, hD⟩ : ∃ D, D = N / 32 := ⟨_, rfl⟩
    obtain ⟨R, hR⟩ : ∃ R, R = N % 32 := ⟨_, rfl⟩
    have d1 : (N : Int).tdiv 32 = (D : Int) := by rw [Int.tdiv_eq_ediv_of_nonneg (by omega)]; omega
    have d2 : (N : Int).tmod 32 = (R : Int) := by rw [Int.tmod_eq_emod_of_nonneg (by omega)]; omega
    have hNp : ¬ (N : Int) ≤ 0 := by omega
    have hR32 : R < 32 := by omega
    have hDb : D ≤ 16384 := by omega
    have HD : Hid (2 ^ N = B32 ^ D * 2 ^ R) := by show _ = _; rw [show B32 = 2 ^ 32 from rfl, ← Nat.pow_mul, ← Nat.pow_add]; congr 1; omega
    obtain ⟨M, hM⟩ : ∃ M, M = D + n + 1 := ⟨_, rfl⟩
    have hMI : (D : Int) + (n : Int) + 1 = (M : Int) := by omega
    have HM : Hid (M = D + n + 1) := hM
    have hMb : M ≤ 33000 := by omega
    have hDM : D ≤ M := by omega
    obtain ⟨d, hd⟩ : ∃ d, d = 2 ^ R := ⟨_, rfl⟩
    have hd1 : 1 ≤ d := by rw [hd]; exact Nat.pow_pos (by decide)
    have hdB : d < B32 := by rw [hd, show B32 = 2 ^ 32 from rfl]; exact Nat.pow_lt_pow_right (by decide) hR32
    have hdw : IntKind.u32.wrap (d : Int) = (d : Int) := wrap32 d hdB
    have hdI : (2 : Int) ^ R = (d : Int) := by rw [hd]; norm_cast
    have HDD : Hid (d = 2 ^ R ∧ 1 ≤ d ∧ d < B32) := ⟨hd, hd1, hdB⟩
    clear hD hR hM hd hd1 hdB
    go_enter Tryz.func150, Tryz.ntmps150
    go_wp2_with (at_make; refine wpList_make_room _ rfl _ _ 108 rfl w.heap.size 203 i0 (.int .u32 0) 1 Tryz.underlying108 hi hz0 hz1 _ _ _ _ D M rfl rfl (by omega) (by omega) hDM (by rw [hz2]; omega) (by unfold maxLen; omega) (Nat.le_refl _) ?_; intro w1 hown hgrow)
    have hb1 : Below w.heap.size w w1 := (Below.refl _ _).grown hgrow (Nat.le_refl _) (fun k hk => by simp at hk)
    rw [made_take D M hDM] at hown
    have HO : Hid (w1.ownsRow w.heap.size 203 1 (.slice (some ⟨w.heap.size, 0, none⟩) D M) D (cellsV (List.replicate D 0))) := hown
    have HA1 : Hid (At32 w1 p n c xs) := HA.out.below hb1
    have HB1 : Hid (Below w.heap.size w w1) := hb1
    have HSZ : Hid (w.heap.size < w1.heap.size) := by
      rcases HO.out.2 with ⟨h', _⟩ | ⟨g', _, _, h', _, hgc, _⟩
      · simp at h'
      · simp only [Value.slice.injEq, Option.some.injEq, Addr.mk.injEq, and_true] at h'
        obtain ⟨rfl, _⟩ := h'
        exact (Array.getElem?_eq_some_iff.1 hgc).1
    clear hown hgrow hb1 HA
    rw [show Value.int IntKind.u32 (d : Int) = V d from rfl, show Value.int IntKind.u32 0 = V 0 from rfl]
    refine (rsmall_any HA1.out HX.out (by omega) HDD.out.2.2 (show 0 < B32 by decide)).mono ?_
    rintro e w2 ⟨g2, z2, rfl, hk2, hn2, hl2, hb2⟩
    rw [Nat.add_zero] at hn2
    have HO2 : Hid (w2.ownsRow w.heap.size 203 1 (.slice (some ⟨w.heap.size, 0, none⟩) D M) D (cellsV (List.replicate D 0))) := own_below HO.out hb2 HSZ.out
    have HK2 : Hid (Blk32 w2 g2 z2) := hk2
    have HN2 : Hid (Nf B32 z2 (a * d)) := hn2
    have HB2 : Hid (Below w.heap.size w w2) := Below.on HB1.out hb2
    obtain ⟨l2, hle2⟩ : ∃ l2, l2 = z2.length := ⟨_, rfl⟩
    have HL2 : Hid (z2.length = l2) := hle2.symm
    rw [← hle2] at hl2 ⊢
    have hsp : D + l2 ≤ M := by have := HM.out; omega
    clear hk2 hn2 hb2 hle2 HO HA1 HB1
    go_wp2_with (at_builtin; refine wpList_append_fits _ rfl (.tmp 24) (.tmp 29) 108 rfl w.heap.size 203 i0 1 Tryz.underlying108 hi hz1 w.heap.size D M (cellsV (List.replicate D 0)) rfl HO2.out ⟨g2, 0, none⟩ l2 l2 (cellsV z2) rfl (by rw [cellsV_length, HL2.out, Nat.mul_one]) (blk_src HK2.out) (cellsV_one _) hsp ?_; intro w3 hw3 hgr3)
    have hd3 : Dig B32 (List.replicate D 0 ++ z2) := (Dig.replicate B32 D B32_pos).append HN2.out.dig
    have hl3 : (List.replicate D 0 ++ z2).length = D + l2 := by rw [List.length_append, List.length_replicate, HL2.out]
    have A3 : Hid (At32 w3 (some ⟨w.heap.size, 0, none⟩) (D + l2) M (List.replicate D 0 ++ z2)) := own_at32 (by rw [show cellsV (List.replicate D 0 ++ z2) = cellsV (List.replicate D 0) ++ cellsV z2 from by unfold cellsV; rw [List.map_append]]; exact hw3) hl3 hd3
    have HB3 : Hid (Below w.heap.size w w3) := HB2.out.grown hgr3 HB2.out.size (fun q hq => by simp at hq; omega)
    have NF3 : Hid (Nf B32 (trimL (List.replicate D 0 ++ z2)) (a * 2 ^ N)) := by
      have h1 := Nf.trim hd3
      rw [valB_zeros, HN2.out.val] at h1
      have e1 : B32 ^ D * (a * d) = a * 2 ^ N := by rw [HD.out, ← HDD.out.1, Nat.mul_left_comm]
      rw [e1] at h1; exact h1
    have hle3 : (trimL (List.replicate D 0 ++ z2)).length ≤ D + l2 := by have h1 := trimL_length_le (List.replicate D 0 ++ z2); omega
    clear hw3 hgr3 hl3 hd3
    refine (rnorm_any A3.out (by omega)).mono ?_
    rintro e w4 ⟨g4, rfl, hg4, hb4, hbl4⟩
    have A4 : Hid (At32 w4 (some ⟨g4, 0, none⟩) (trimL (List.replicate D 0 ++ z2)).length (trimL (List.replicate D 0 ++ z2)).length (trimL (List.replicate D 0 ++ z2))) := hb4.at_ NF3.out.dig rfl (by unfold maxLen; omega)
    have hbw4 := Below.on HB3.out hbl4
    generalize trimL (List.replicate D 0 ++ z2) = z4 at *
    clear hb4 hbl4 hg4
    go_wp2_with fail
    go_ret
    exact ⟨_, _, z4, rfl, A4.out, NF3.out, by omega, hbw4⟩
end Go.Proofs.YtoalblaklcekeaaGreatDoor
