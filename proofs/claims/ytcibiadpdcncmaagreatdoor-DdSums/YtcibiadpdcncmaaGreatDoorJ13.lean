import Derived.Test.YtcibiadpdcncmaaGreatDoorJ12
import Derived.Test.YtcibiadpdcncmaaGreatDoorJ11
namespace Go.Proofs.YtcibiadpdcncmaaGreatDoor
open Go.RowKit Go.Shelf
set_option maxRecDepth 20000
set_option maxHeartbeats 0
theorem told_ddf {h l : Nat} (d : DdF h l) (h0 : ux h + ux l ≠ 0) : toldN (ux h + ux l) ((ux h + ux l).natAbs * 2 ^ 0) = h := by
  rw [Nat.pow_zero, Nat.mul_one]
  have hlt := d.hi.lt
  have hrn := rn_rel d.rn
  have hne : ux h ≠ 0 := fun k => by rw [k] at hrn; omega
  have he := d.eq
  have hf := d.fit
  unfold rv at he
  unfold toldN
  generalize rg 0 (ux h + ux l).natAbs = r at he hf ⊢
  have hux := ux_eq h
  have hinj : ∀ {a b : Nat}, vs 4503599627370496 a = vs 4503599627370496 b → a = b := fun {a b} e => by
    rcases Nat.lt_trichotomy a b with k | k | k
    · have := vs_mono (H := 4503599627370496) (by decide) k; omega
    · exact k
    · have := vs_mono (H := 4503599627370496) (by decide) k; omega
  by_cases hneg : ux h + ux l < 0
  · rw [if_pos hneg] at he ⊢
    by_cases hs : 9223372036854775808 ≤ h
    · rw [if_pos hs] at hux
      have := hinj (a := r) (b := h % 9223372036854775808) (by omega)
      omega
    · rw [if_neg hs] at hux
      exact absurd (show ux h = 0 by omega) hne
  · rw [if_neg hneg] at he ⊢
    by_cases hs : 9223372036854775808 ≤ h
    · rw [if_pos hs] at hux
      exact absurd (show ux h = 0 by omega) hne
    · rw [if_neg hs] at hux
      have := hinj (a := r) (b := h % 9223372036854775808) (by omega)
      omega
theorem ddf_z {h l : Nat} (d : DdF h l) (h0 : ux h + ux l = 0) : h % 9223372036854775808 = 0 := by
  refine sz_0 ?_
  have he := d.eq
  rw [h0] at he
  rw [← he]; decide
theorem rabs_d {p : Option Addr} {m : Nat} {w : World} {z : Int} (s : Bool) (h : ZR w s p m z) (hm : m ≤ 100000) :
    Calls Tryz.prog 30 #[.agg #[.bool s, .slice p m m]] w fun en w' => ∃ v, en = .returned v ∧ GotR w.heap.size w' v (z.natAbs : Int) m ∧ Below w.heap.size w w' := by
  have HA : Hid (ZR w s p m z) := h
  have HM : Hid (m ≤ 100000) := hm
  clear h hm
  go_enter Tryz.func30, Tryz.ntmps30
  go_wp2_with fail
  obtain ⟨W0, hW0⟩ : ∃ W0, W0 = ((w.alloc (.cells #[.bool s, .slice p m m] 39)).alloc (.cells #[.bool false, .slice none 0 0] 39)) := ⟨_, rfl⟩
  have Xa : Hid (Box W0 (w.heap.size) (.bool s) (.slice p m m)) := by rw [hW0]; exact ⟨by go_simp, by go_simp, by go_simp, by go_simp⟩
  have Xr : Hid (Box W0 (w.heap.size + 1) (.bool false) (.slice none 0 0)) := by rw [hW0]; exact ⟨by go_simp, by go_simp, by go_simp, by go_simp⟩
  have hb0 : Below w.heap.size w W0 := by rw [hW0]; exact below2 w _ _
  rw [← hW0]
  clear hW0
  have hbw : Below w.heap.size w w := Below.refl _ _
  obtain ⟨gr, hgr⟩ : ∃ g, g = w.heap.size + 1 := ⟨_, rfl⟩
  have HGr : Hid (w.heap.size ≤ gr) := by rw [hgr]; show _ ≤ _; omega
  rw [← hgr] at Xr
  try rw [← hgr]
  obtain ⟨ga, hga⟩ : ∃ g, g = w.heap.size := ⟨_, rfl⟩
  have HGa : Hid (w.heap.size ≤ ga) := by rw [hga]; show _ ≤ _; omega
  rw [← hga] at Xa
  try rw [← hga]
  have HGD : Hid (ga ≠ gr ∧ gr ≠ ga) := by rw [hga, hgr]; exact ⟨by omega, by omega⟩
  clear hga hgr
  replace HA : Hid _ := HA.out.below hb0
  replace hbw := Below.on hbw hb0
  clear hb0
  obtain ⟨zs, hA, hN⟩ := HA.out.ex
  have HRL : Hid (gr < W0.heap.size) := Xr.out.lt
  have hiv : iv false z.natAbs = (z.natAbs : Int) := rfl
  refine (rmk_any false hA hN (by have := HM.out; omega)).mono ?_
  rintro e w1 ⟨v, rfl, hv, hb1⟩
  rw [hiv] at hv
  obtain ⟨s1, g1, m1, rfl, hg1, hz1, hl1⟩ := hv
  clear hA hN hiv
  have HGE : Hid (W0.heap.size ≤ g1 ∧ w.heap.size ≤ W0.heap.size) := ⟨hg1, hbw.size⟩
  replace Xa : Hid _ := Xa.out.below hb1
  replace Xr : Hid _ := Xr.out.below hb1
  replace HA : Hid _ := HA.out.below hb1
  replace hbw := Below.on hbw hb1
  clear hb1
  have ZA : Hid (ZR w1 s1 (some ⟨g1, 0, none⟩) m1 (z.natAbs : Int)) := hz1
  have HL : Hid (m1 ≤ m) := hl1
  clear hg1 hz1 hl1
  obtain ⟨cr0, cr1, fr0, fr1⟩ := Xr.out
  have hner := Xr.out.lt
  go_wp2_with fail
  refine bodyPost_ret (v := .agg #[.bool s1, .slice (some ⟨g1, 0, none⟩) m1 m1]) (by rw [results_cell1 rfl]; go_simp) rfl ⟨_, rfl, ⟨s1, g1, m1, rfl, ?_, ?_, HL.out⟩, ?_⟩
  · exact Nat.le_trans HGE.out.2 HGE.out.1
  · have := HGE.out.1; have := HRL.out
    exact (ZA.out.set _ _ _ (by omega)).set _ _ _ (by omega)
  · exact bSet (bSet hbw _ _ _ HGr.out) _ _ _ HGr.out
theorem docform20t {h l : Nat} (d : DdF h l) (w : World) :
    Calls Tryz.prog 29 #[.agg #[.int .u64 (h : Int), .int .u64 (l : Int)]] w fun en w' => en = .returned (.bool true) ∧ Below w.heap.size w w' := by
  have HDF := Hid.mk9 d
  have f1 := d.hi.fin
  have f2 := d.lo.fin
  clear d
  go_enter Tryz.func29, Tryz.ntmps29
  go_wp2_with fail
  obtain ⟨W0, hW0⟩ : ∃ W0, W0 = (w.alloc (.cells #[.int .u64 (h : Int), .int .u64 (l : Int)] 28)) := ⟨_, rfl⟩
  have Xa : Hid (Box W0 (w.heap.size) (.int .u64 (h : Int)) (.int .u64 (l : Int))) := by rw [hW0]; exact ⟨by go_simp, by go_simp, by go_simp, by go_simp⟩
  have hb0 : Below w.heap.size w W0 := by rw [hW0]; exact below1 w _
  rw [← hW0]
  clear hW0
  have hbw : Below w.heap.size w w := Below.refl _ _
  obtain ⟨ga, hga⟩ : ∃ g, g = w.heap.size := ⟨_, rfl⟩
  have HGa : Hid (w.heap.size ≤ ga) := by rw [hga]; show _ ≤ _; omega
  rw [← hga] at Xa
  try rw [← hga]
  clear hga
  replace hbw := Below.on hbw hb0
  clear hb0
  obtain ⟨ca0, ca1, fa0, fa1⟩ := Xa.out
  have hnea := Xa.out.lt
  go_wp2_with fail
  clear ca0 ca1 fa0 fa1 hnea
  refine (finite20 h _).mono ?_
  rintro e9 v9 ⟨rfl, hw⟩
  obtain rfl := hw.symm
  clear hw
  rw [decide_eq_true f1]
  obtain ⟨ca0, ca1, fa0, fa1⟩ := Xa.out
  have hnea := Xa.out.lt
  go_wp2_with fail
  clear ca0 ca1 fa0 fa1 hnea
  refine (finite20 l _).mono ?_
  rintro e9 v9 ⟨rfl, hw⟩
  obtain rfl := hw.symm
  clear hw
  rw [decide_eq_true f2]
  obtain ⟨ca0, ca1, fa0, fa1⟩ := Xa.out
  have hnea := Xa.out.lt
  go_wp2_with fail
  clear ca0 ca1 fa0 fa1 hnea
  refine (sum20 _).mono ?_
  rintro e v1 ⟨v, rfl, hv, hb1⟩
  obtain ⟨s1, g1, m1, rfl, hg1, hz1, hl1⟩ := hv
  try clear hv
  have HN1 : Hid (W0.heap.size ≤ g1) := hg1
  have HB1 : Hid (W0.heap.size ≤ v1.heap.size) := hb1.size
  replace Xa : Hid _ := Xa.out.below hb1
  replace hbw := Below.on hbw hb1
  clear hb1
  have Z1 : Hid (ZR v1 s1 (some ⟨g1, 0, none⟩) m1 (ux h + ux l)) := hz1
  have HL1 : Hid (m1 ≤ 2201) := hl1
  clear hz1 hl1 hg1
  go_wp2_with fail
  have Xs0 : Hid (Box (v1.alloc (.cells #[.bool s1, .slice (some ⟨g1, 0, none⟩) m1 m1] 39)) v1.heap.size (.bool s1) (.slice (some ⟨g1, 0, none⟩) m1 m1)) := Box.new v1 _ _ _
  have hbn : Below v1.heap.size v1 (v1.alloc (.cells #[.bool s1, .slice (some ⟨g1, 0, none⟩) m1 m1] 39)) := below1 v1 _
  generalize v1.alloc (.cells #[.bool s1, .slice (some ⟨g1, 0, none⟩) m1 m1] 39) = Ws at *
  have HGs : Hid (w.heap.size ≤ v1.heap.size) := hbw.size
  replace Xa : Hid _ := Xa.out.below hbn
  replace Z1 : Hid _ := Z1.out.below hbn
  replace hbw := Below.on hbw hbn
  clear hbn
  generalize v1.heap.size = gs at *
  have Xs := Xs0
  clear Xs0
  obtain ⟨cs0, cs1, fs0, fs1⟩ := Xs.out
  have hnes := Xs.out.lt
  go_wp2_with fail
  clear cs0 cs1 fs0 fs1 hnes
  refine (rsign04 s1 Z1.out).mono ?_
  rintro e v2 ⟨rfl, hb2⟩
  replace Xa : Hid _ := Xa.out.below hb2
  replace Xs : Hid _ := Xs.out.below hb2
  replace Z1 : Hid _ := Z1.out.below hb2
  replace hbw := Below.on hbw hb2
  clear hb2
  by_cases h0 : ux h + ux l = 0
  · rw [show sgnI (ux h + ux l) = 0 by rw [h0]; rfl]
    have H0 := Hid.mk9 h0
    clear h0
    obtain ⟨ca0, ca1, fa0, fa1⟩ := Xa.out
    have hnea := Xa.out.lt
    go_wp2_with fail
    clear ca0 ca1 fa0 fa1 hnea
    refine (nought20 h _).mono ?_
    rintro e9 v9 ⟨rfl, hw⟩
    obtain rfl := hw.symm
    clear hw
    rw [decide_eq_true (ddf_z HDF.out H0.out)]
    go_wp2_with fail
    go_ret
    exact ⟨rfl, hbw⟩
  have hs9 : (sgnI (ux h + ux l) == 0) = false := by
    rcases Int.lt_trichotomy (ux h + ux l) 0 with q | q | q
    · rw [show sgnI (ux h + ux l) = -1 from if_pos q]; rfl
    · exact absurd q h0
    · rw [show sgnI (ux h + ux l) = 1 by unfold sgnI; rw [if_neg (by omega), if_neg (by omega)]]; rfl
  obtain ⟨sg, hsg⟩ : ∃ sg, sg = sgnI (ux h + ux l) := ⟨_, rfl⟩
  rw [← hsg] at hs9 ⊢
  clear hsg
  have H0 := Hid.mk9 h0
  clear h0
  go_wp2_with fail
  obtain ⟨V7, hV7⟩ : ∃ W1, W1 = v2.drew := ⟨_, rfl⟩
  have hbd : Below v2.heap.size v2 V7 := by rw [hV7]; exact bDrew1 (Below.refl _ _)
  replace Xa : Hid _ := Xa.out.below hbd
  replace Xs : Hid _ := Xs.out.below hbd
  replace Z1 : Hid _ := Z1.out.below hbd
  replace hbw := Below.on hbw hbd
  clear hbd
  have HJ : Hid ((fun W' : World => W'.cell? ⟨gs, 0, none⟩ = some (.bool s1) ∧ W'.cell? ⟨gs, 1, none⟩ = some (.slice (some ⟨g1, 0, none⟩) m1 m1) ∧ W'.cell? ⟨ga, 0, none⟩ = some (.int .u64 (h : Int))) V7) := ⟨Xs.out.c0, Xs.out.c1, Xa.out.c0⟩
  refine wp_region_J (fun W' => W'.cell? ⟨gs, 0, none⟩ = some (.bool s1) ∧ W'.cell? ⟨gs, 1, none⟩ = some (.slice (some ⟨g1, 0, none⟩) m1 m1) ∧ W'.cell? ⟨ga, 0, none⟩ = some (.int .u64 (h : Int))) (by kernel_rfl) ?_
  rw [← hV7]
  clear hV7
  refine wpJ_tq 0 rfl HJ.out ?_
  refine wpJ_tq 2 rfl HJ.out ?_
  refine wpJ_tq 3 rfl HJ.out ?_
  refine wpJ_on 1 rfl fun KJ hK => ?_
  go_simp
  refine (told_a s1 Z1.out (by have := HL1.out; omega) H0.out (-1074) (by decide) (ux_bits h l) rfl).mono ?_
  rintro e v3 ⟨rfl, hb3⟩
  rw [show ((-1074 : Int) + 1074).toNat = 0 from rfl, told_ddf HDF.out H0.out]
  replace Xa : Hid _ := Xa.out.below hb3
  replace Xs : Hid _ := Xs.out.below hb3
  replace Z1 : Hid _ := Z1.out.below hb3
  replace hbw := Below.on hbw hb3
  clear hb3
  clear HJ
  have HJ : Hid ((fun W' : World => W'.cell? ⟨gs, 0, none⟩ = some (.bool s1) ∧ W'.cell? ⟨gs, 1, none⟩ = some (.slice (some ⟨g1, 0, none⟩) m1 m1) ∧ W'.cell? ⟨ga, 0, none⟩ = some (.int .u64 (h : Int))) v3) := ⟨Xs.out.c0, Xs.out.c1, Xa.out.c0⟩
  refine hK _ _ HJ.out ?_
  clear hK
  refine wpJ_tq 4 rfl HJ.out ?_
  refine wpJ_tq 5 rfl HJ.out ?_
  go_simp
  refine wpJ_done (by kernel_rfl) ?_ _
  clear HJ
  go_wp2_with fail
  have hself : ((h : Int) == (h : Int)) = true := beq_self_eq_true _
  go_ret
  exact ⟨by first | rfl | rw [hself] | simp, hbw⟩
theorem just20 {h l : Nat} (d : DdF h l) {p : Option Addr} {m : Nat} {s : Bool} {z : Int} {w : World} (hz : ZR w s p m z) (hm : m ≤ 40000) (he : ux h + ux l = z) :
    Calls Tryz.prog 61 #[.agg #[.int .u64 (h : Int), .int .u64 (l : Int)], .agg #[.bool s, .slice p m m]] w fun en w' => en = .returned (.bool true) ∧ Below w.heap.size w w' := by
  have HDF := Hid.mk9 d
  have HA : Hid (ZR w s p m z) := hz
  have HM : Hid (m ≤ 40000 ∧ ux h + ux l = z) := ⟨hm, he⟩
  clear d hz hm he
  go_enter Tryz.func61, Tryz.ntmps61
  go_wp2_with fail
  obtain ⟨W0, hW0⟩ : ∃ W0, W0 = ((w.alloc (.cells #[.int .u64 (h : Int), .int .u64 (l : Int)] 28)).alloc (.cells #[.bool s, .slice p m m] 39)) := ⟨_, rfl⟩
  have Xa : Hid (Box W0 (w.heap.size) (.int .u64 (h : Int)) (.int .u64 (l : Int))) := by rw [hW0]; exact ⟨by go_simp, by go_simp, by go_simp, by go_simp⟩
  have Xm : Hid (Box W0 (w.heap.size + 1) (.bool s) (.slice p m m)) := by rw [hW0]; exact ⟨by go_simp, by go_simp, by go_simp, by go_simp⟩
  have hb0 : Below w.heap.size w W0 := by rw [hW0]; exact below2 w _ _
  rw [← hW0]
  clear hW0
  have hbw : Below w.heap.size w w := Below.refl _ _
  obtain ⟨gm, hgm⟩ : ∃ g, g = w.heap.size + 1 := ⟨_, rfl⟩
  have HGm : Hid (w.heap.size ≤ gm) := by rw [hgm]; show _ ≤ _; omega
  rw [← hgm] at Xm
  try rw [← hgm]
  obtain ⟨ga, hga⟩ : ∃ g, g = w.heap.size := ⟨_, rfl⟩
  have HGa : Hid (w.heap.size ≤ ga) := by rw [hga]; show _ ≤ _; omega
  rw [← hga] at Xa
  try rw [← hga]
  have HGD : Hid (ga ≠ gm ∧ gm ≠ ga) := by rw [hga, hgm]; exact ⟨by omega, by omega⟩
  clear hga hgm
  replace HA : Hid _ := HA.out.below hb0
  replace hbw := Below.on hbw hb0
  clear hb0
  obtain ⟨V1, hV1⟩ : ∃ W1, W1 = W0.drew := ⟨_, rfl⟩
  have hbd : Below W0.heap.size W0 V1 := by rw [hV1]; exact bDrew1 (Below.refl _ _)
  replace Xa : Hid _ := Xa.out.below hbd
  replace Xm : Hid _ := Xm.out.below hbd
  replace HA : Hid _ := HA.out.below hbd
  replace hbw := Below.on hbw hbd
  clear hbd
  have HJ : Hid ((fun W' : World => W'.cell? ⟨ga, 0, none⟩ = some (.int .u64 (h : Int)) ∧ W'.cell? ⟨ga, 1, none⟩ = some (.int .u64 (l : Int)) ∧ W'.cell? ⟨gm, 0, none⟩ = some (.bool s) ∧ W'.cell? ⟨gm, 1, none⟩ = some (.slice p m m)) V1) := ⟨Xa.out.c0, Xa.out.c1, Xm.out.c0, Xm.out.c1⟩
  refine wp_region_J (fun W' => W'.cell? ⟨ga, 0, none⟩ = some (.int .u64 (h : Int)) ∧ W'.cell? ⟨ga, 1, none⟩ = some (.int .u64 (l : Int)) ∧ W'.cell? ⟨gm, 0, none⟩ = some (.bool s) ∧ W'.cell? ⟨gm, 1, none⟩ = some (.slice p m m)) (by kernel_rfl) ?_
  rw [← hV1]
  clear hV1
  refine wpJ_tq 0 rfl HJ.out ?_
  refine wpJ_on 1 rfl fun KJ hK => ?_
  go_simp
  refine (docform20t HDF.out _).mono ?_
  rintro e v1 ⟨rfl, hb1⟩
  replace Xa : Hid _ := Xa.out.below hb1
  replace Xm : Hid _ := Xm.out.below hb1
  replace HA : Hid _ := HA.out.below hb1
  replace hbw := Below.on hbw hb1
  clear hb1
  clear HJ
  have HJ : Hid ((fun W' : World => W'.cell? ⟨ga, 0, none⟩ = some (.int .u64 (h : Int)) ∧ W'.cell? ⟨ga, 1, none⟩ = some (.int .u64 (l : Int)) ∧ W'.cell? ⟨gm, 0, none⟩ = some (.bool s) ∧ W'.cell? ⟨gm, 1, none⟩ = some (.slice p m m)) v1) := ⟨Xa.out.c0, Xa.out.c1, Xm.out.c0, Xm.out.c1⟩
  refine hK _ _ HJ.out ?_
  clear hK
  refine wpJ_tq 2 rfl HJ.out ?_
  refine wpJ_tq 3 rfl HJ.out ?_
  refine wpJ_tq 5 rfl HJ.out ?_
  refine wpJ_on 4 rfl fun KJ hK => ?_
  go_simp
  refine (sum20 _).mono ?_
  rintro e v2 ⟨v, rfl, hv, hb2⟩
  obtain ⟨s2, g2, m2, rfl, hg2, hz2, hl2⟩ := hv
  try clear hv
  have HN2 : Hid (v1.heap.size ≤ g2) := hg2
  have HB2 : Hid (v1.heap.size ≤ v2.heap.size) := hb2.size
  replace Xa : Hid _ := Xa.out.below hb2
  replace Xm : Hid _ := Xm.out.below hb2
  replace HA : Hid _ := HA.out.below hb2
  replace hbw := Below.on hbw hb2
  clear hb2
  have Z2 : Hid (ZR v2 s2 (some ⟨g2, 0, none⟩) m2 (ux h + ux l)) := hz2
  have HL2 : Hid (m2 ≤ 2201) := hl2
  clear hz2 hl2 hg2
  refine hK _ _ ⟨Xa.out.c0, Xa.out.c1, Xm.out.c0, Xm.out.c1⟩ ?_
  clear hK
  refine wpJ_on 6 rfl fun KJ hK => ?_
  go_simp
  refine (rcmp04 s2 s Z2.out HA.out (by have := HL2.out; omega) (by have := HM.out.1; omega)).mono ?_
  rintro e v3 ⟨rfl, hb3⟩
  rw [show cmpI (ux h + ux l) z = 0 by rw [HM.out.2]; unfold cmpI; rw [if_neg (Int.lt_irrefl _), if_pos rfl]]
  replace Xa : Hid _ := Xa.out.below hb3
  replace Xm : Hid _ := Xm.out.below hb3
  replace HA : Hid _ := HA.out.below hb3
  replace Z2 : Hid _ := Z2.out.below hb3
  replace hbw := Below.on hbw hb3
  clear hb3
  clear HJ
  have HJ : Hid ((fun W' : World => W'.cell? ⟨ga, 0, none⟩ = some (.int .u64 (h : Int)) ∧ W'.cell? ⟨ga, 1, none⟩ = some (.int .u64 (l : Int)) ∧ W'.cell? ⟨gm, 0, none⟩ = some (.bool s) ∧ W'.cell? ⟨gm, 1, none⟩ = some (.slice p m m)) v3) := ⟨Xa.out.c0, Xa.out.c1, Xm.out.c0, Xm.out.c1⟩
  refine hK _ _ HJ.out ?_
  clear hK
  refine wpJ_tq 7 rfl HJ.out ?_
  refine wpJ_tq 8 rfl HJ.out ?_
  refine wpJ_tq 9 rfl HJ.out ?_
  refine wpJ_done (by kernel_rfl) ?_ _
  clear HJ
  go_wp2_with fail
  go_ret
  exact ⟨rfl, hbw⟩
theorem near20 {h l : Nat} (d : DdF h l) {p q : Option Addr} {m n k : Nat} {s t : Bool} {x y : Int} {w : World} (hx : ZR w s p m x) (hy : ZR w t q n y) (hm : m ≤ 10000) (hn : n ≤ 10000) (hk : k ≤ 1000) (hb : ((ux h + ux l) * y - x).natAbs * 2 ^ k ≤ x.natAbs) :
    Calls Tryz.prog 13 #[.agg #[.int .u64 (h : Int), .int .u64 (l : Int)], .agg #[.bool s, .slice p m m], .agg #[.bool t, .slice q n n], .int .i64 k] w fun en w' => en = .returned (.bool true) ∧ Below w.heap.size w w' := by
  have HDF := Hid.mk9 d
  have HA : Hid (ZR w s p m x) := hx
  have HB : Hid (ZR w t q n y) := hy
  have HM : Hid (m ≤ 10000 ∧ n ≤ 10000 ∧ k ≤ 1000 ∧ ((ux h + ux l) * y - x).natAbs * 2 ^ k ≤ x.natAbs) := ⟨hm, hn, hk, hb⟩
  clear d hx hy hm hn hk hb
  go_enter Tryz.func13, Tryz.ntmps13
  go_wp2_with fail
  obtain ⟨W0, hW0⟩ : ∃ W0, W0 = (((w.alloc (.cells #[.int .u64 (h : Int), .int .u64 (l : Int)] 28)).alloc (.cells #[.bool s, .slice p m m] 39)).alloc (.cells #[.bool t, .slice q n n] 39)) := ⟨_, rfl⟩
  have Xa : Hid (Box W0 (w.heap.size) (.int .u64 (h : Int)) (.int .u64 (l : Int))) := by rw [hW0]; exact ⟨by go_simp, by go_simp, by go_simp, by go_simp⟩
  have Xm : Hid (Box W0 (w.heap.size + 1) (.bool s) (.slice p m m)) := by rw [hW0]; exact ⟨by go_simp, by go_simp, by go_simp, by go_simp⟩
  have Xn : Hid (Box W0 (w.heap.size + 1 + 1) (.bool t) (.slice q n n)) := by rw [hW0]; exact ⟨by go_simp, by go_simp, by go_simp, by go_simp⟩
  have hb0 : Below w.heap.size w W0 := by rw [hW0]; exact below3 w _ _ _
  rw [← hW0]
  clear hW0
  have hbw : Below w.heap.size w w := Below.refl _ _
  obtain ⟨gn, hgn⟩ : ∃ g, g = w.heap.size + 1 + 1 := ⟨_, rfl⟩
  have HGn : Hid (w.heap.size ≤ gn) := by rw [hgn]; show _ ≤ _; omega
  rw [← hgn] at Xn
  try rw [← hgn]
  obtain ⟨gm, hgm⟩ : ∃ g, g = w.heap.size + 1 := ⟨_, rfl⟩
  have HGm : Hid (w.heap.size ≤ gm) := by rw [hgm]; show _ ≤ _; omega
  rw [← hgm] at Xm
  try rw [← hgm]
  obtain ⟨ga, hga⟩ : ∃ g, g = w.heap.size := ⟨_, rfl⟩
  have HGa : Hid (w.heap.size ≤ ga) := by rw [hga]; show _ ≤ _; omega
  rw [← hga] at Xa
  try rw [← hga]
  have HGD : Hid (ga ≠ gm ∧ ga ≠ gn ∧ gm ≠ ga ∧ gm ≠ gn ∧ gn ≠ ga ∧ gn ≠ gm) := by rw [hga, hgm, hgn]; exact ⟨by omega, by omega, by omega, by omega, by omega, by omega⟩
  clear hga hgm hgn
  replace HA : Hid _ := HA.out.below hb0
  replace HB : Hid _ := HB.out.below hb0
  replace hbw := Below.on hbw hb0
  clear hb0
  obtain ⟨ca0, ca1, fa0, fa1⟩ := Xa.out
  have hnea := Xa.out.lt
  go_wp2_with fail
  clear ca0 ca1 fa0 fa1 hnea
  refine (docform20t HDF.out _).mono ?_
  rintro e v1 ⟨rfl, hb1⟩
  replace Xa : Hid _ := Xa.out.below hb1
  replace Xm : Hid _ := Xm.out.below hb1
  replace Xn : Hid _ := Xn.out.below hb1
  replace HA : Hid _ := HA.out.below hb1
  replace HB : Hid _ := HB.out.below hb1
  replace hbw := Below.on hbw hb1
  clear hb1
  obtain ⟨ca0, ca1, fa0, fa1⟩ := Xa.out
  have hnea := Xa.out.lt
  obtain ⟨cm0, cm1, fm0, fm1⟩ := Xm.out
  have hnem := Xm.out.lt
  obtain ⟨cn0, cn1, fn0, fn1⟩ := Xn.out
  have hnen := Xn.out.lt
  go_wp2_with fail
  clear ca0 ca1 fa0 fa1 hnea
  clear cm0 cm1 fm0 fm1 hnem
  clear cn0 cn1 fn0 fn1 hnen
  have HAu : Hid (ZR v1 s p m x) := HA.out
  have HBu : Hid (ZR v1 t q n y) := HB.out
  have hbu : Below v1.heap.size v1 v1 := Below.refl _ _
  clear HA
  clear HB
  obtain ⟨Wr, hWr⟩ : ∃ W1, W1 = v1.drew := ⟨_, rfl⟩
  have hbd : Below v1.heap.size v1 Wr := by rw [hWr]; exact bDrew1 (Below.refl _ _)
  have hbu' := Below.on hbu hbd
  clear hbu
  have hbu := hbu'
  clear hbu'
  replace Xa : Hid _ := Xa.out.below hbd
  replace Xm : Hid _ := Xm.out.below hbd
  replace Xn : Hid _ := Xn.out.below hbd
  replace hbw := Below.on hbw hbd
  clear hbd
  have HJ : Hid ((fun W' : World => W'.cell? ⟨ga, 0, none⟩ = some (.int .u64 (h : Int)) ∧ W'.cell? ⟨ga, 1, none⟩ = some (.int .u64 (l : Int)) ∧ W'.cell? ⟨gm, 0, none⟩ = some (.bool s) ∧ W'.cell? ⟨gm, 1, none⟩ = some (.slice p m m) ∧ W'.cell? ⟨gn, 0, none⟩ = some (.bool t) ∧ W'.cell? ⟨gn, 1, none⟩ = some (.slice q n n)) Wr) := ⟨Xa.out.c0, Xa.out.c1, Xm.out.c0, Xm.out.c1, Xn.out.c0, Xn.out.c1⟩
  refine wp_region_J (fun W' => W'.cell? ⟨ga, 0, none⟩ = some (.int .u64 (h : Int)) ∧ W'.cell? ⟨ga, 1, none⟩ = some (.int .u64 (l : Int)) ∧ W'.cell? ⟨gm, 0, none⟩ = some (.bool s) ∧ W'.cell? ⟨gm, 1, none⟩ = some (.slice p m m) ∧ W'.cell? ⟨gn, 0, none⟩ = some (.bool t) ∧ W'.cell? ⟨gn, 1, none⟩ = some (.slice q n n)) (by kernel_rfl) ?_
  rw [← hWr]
  clear hWr
  refine wpJ_tq 0 rfl HJ.out ?_
  refine wpJ_tq 2 rfl HJ.out ?_
  refine wpJ_tq 4 rfl HJ.out ?_
  obtain ⟨RQ, HRQ, HRP⟩ : ∃ RQ : Act → Act → World → Prop, Hid (∀ a1 a2 a3, (fun a0 a' W' => ∃ goff tA kA nA tB kB nB tC kC nC tD kD nD, a' = (((((a0.put (some 14) (.agg #[.bool tA, .slice (some ⟨kA, 0, none⟩) nA nA])).put (some 16) (.agg #[.bool tB, .slice (some ⟨kB, 0, none⟩) nB nB])).put (some 18) (.agg #[.bool tC, .slice (some ⟨kC, 0, none⟩) nC nC])).put (some 19) (.agg #[.bool tD, .slice (some ⟨kD, 0, none⟩) nD nD])).put (some 9) (.pointer (some ⟨goff, 0, none⟩))) ∧ Box W' goff (.bool tD) (.slice (some ⟨kD, 0, none⟩) nD nD) ∧ Box W' ga (.int .u64 (h : Int)) (.int .u64 (l : Int)) ∧ Box W' gm (.bool s) (.slice p m m) ∧ Box W' gn (.bool t) (.slice q n n) ∧ ZR W' tD (some ⟨kD, 0, none⟩) nD ((((ux h + ux l) * y - x).natAbs : Int)) ∧ w.heap.size ≤ goff ∧ ga ≠ goff ∧ gm ≠ goff ∧ gn ≠ goff ∧ (nD ≤ 13000) ∧ Below v1.heap.size v1 W' ∧ Below w.heap.size w W') a1 a2 a3 → RQ a1 a2 a3) ∧ Hid (∀ a1 a2 a3, RQ a1 a2 a3 → (fun a0 a' W' => ∃ goff tA kA nA tB kB nB tC kC nC tD kD nD, a' = (((((a0.put (some 14) (.agg #[.bool tA, .slice (some ⟨kA, 0, none⟩) nA nA])).put (some 16) (.agg #[.bool tB, .slice (some ⟨kB, 0, none⟩) nB nB])).put (some 18) (.agg #[.bool tC, .slice (some ⟨kC, 0, none⟩) nC nC])).put (some 19) (.agg #[.bool tD, .slice (some ⟨kD, 0, none⟩) nD nD])).put (some 9) (.pointer (some ⟨goff, 0, none⟩))) ∧ Box W' goff (.bool tD) (.slice (some ⟨kD, 0, none⟩) nD nD) ∧ Box W' ga (.int .u64 (h : Int)) (.int .u64 (l : Int)) ∧ Box W' gm (.bool s) (.slice p m m) ∧ Box W' gn (.bool t) (.slice q n n) ∧ ZR W' tD (some ⟨kD, 0, none⟩) nD ((((ux h + ux l) * y - x).natAbs : Int)) ∧ w.heap.size ≤ goff ∧ ga ≠ goff ∧ gm ≠ goff ∧ gn ≠ goff ∧ (nD ≤ 13000) ∧ Below v1.heap.size v1 W' ∧ Below w.heap.size w W') a1 a2 a3) := ⟨_, fun _ _ _ h => h, fun _ _ _ h => h⟩
  refine wpJ_cutA RQ ?_ ?_
  · intro a' Wc hrq
    obtain ⟨goff, tA, kA, nA, tB, kB, nB, tC, kC, nC, tD, kD, nD, rfl, xbQ, xa, xm, xn, rr, hg, hda, hdm, hdn, hHND, hbuc, hbc⟩ := HRP.out _ _ _ hrq
    clear hrq HRP HRQ
    clear hbw hbu HJ Xa Xm Xn
    have hbw := hbc
    have hbu := hbuc
    have Xoff : Hid (Box Wc goff (.bool tD) (.slice (some ⟨kD, 0, none⟩) nD nD)) := xbQ
    have Xa : Hid (Box Wc ga (.int .u64 (h : Int)) (.int .u64 (l : Int))) := xa
    have Xm : Hid (Box Wc gm (.bool s) (.slice p m m)) := xm
    have Xn : Hid (Box Wc gn (.bool t) (.slice q n n)) := xn
    have RR : Hid (ZR Wc tD (some ⟨kD, 0, none⟩) nD ((((ux h + ux l) * y - x).natAbs : Int))) := rr
    have HGoff : Hid (w.heap.size ≤ goff) := hg
    have HDaoff : Hid (ga ≠ goff) := hda
    have HDmoff : Hid (gm ≠ goff) := hdm
    have HDnoff : Hid (gn ≠ goff) := hdn
    have HND : Hid (nD ≤ 13000) := hHND
    clear xbQ xa xm xn rr hg hda hdm hdn hHND hbuc hbc
    have HA : Hid (ZR Wc s p m x) := HAu.out.below hbu
    clear hbu HAu HBu
    obtain ⟨coff0, coff1, foff0, foff1⟩ := Xoff.out
    have hneoff := Xoff.out.lt
    obtain ⟨cm0, cm1, fm0, fm1⟩ := Xm.out
    have hnem := Xm.out.lt
    go_wp2_with fail
    clear coff0 coff1 foff0 foff1 hneoff
    clear cm0 cm1 fm0 fm1 hnem
    obtain ⟨cc, hcc⟩ : ∃ cc, cc = cmpI (((((ux h + ux l) * y - x).natAbs : Int)) * 2 ^ k) (x.natAbs : Int) := ⟨_, rfl⟩
    have hc0 : cc ≤ 0 := by
      have h1 := HM.out.2.2.2
      have e1 : (((((ux h + ux l) * y - x).natAbs : Int)) * 2 ^ k) = (((((ux h + ux l) * y - x).natAbs * 2 ^ k : Nat)) : Int) := by rw [Int.natCast_mul, Int.natCast_pow]; rfl
      rw [hcc, e1]; unfold cmpI
      split
      · decide
      · split
        · decide
        · omega
    have hd0 : decide (cc ≤ 0) = true := decide_eq_true hc0
    have HCC := Hid.mk9 hcc
    clear hcc
    obtain ⟨Wy, hWy⟩ : ∃ W1, W1 = Wc.drew := ⟨_, rfl⟩
    have hbd : Below Wc.heap.size Wc Wy := by rw [hWy]; exact bDrew1 (Below.refl _ _)
    replace Xoff : Hid _ := Xoff.out.below hbd
    replace Xa : Hid _ := Xa.out.below hbd
    replace Xm : Hid _ := Xm.out.below hbd
    replace Xn : Hid _ := Xn.out.below hbd
    replace RR : Hid _ := RR.out.below hbd
    replace HA : Hid _ := HA.out.below hbd
    replace hbw := Below.on hbw hbd
    clear hbd
    have HJ : Hid ((fun W' : World => W'.cell? ⟨goff, 0, none⟩ = some (.bool tD) ∧ W'.cell? ⟨goff, 1, none⟩ = some (.slice (some ⟨kD, 0, none⟩) nD nD) ∧ W'.cell? ⟨gm, 0, none⟩ = some (.bool s) ∧ W'.cell? ⟨gm, 1, none⟩ = some (.slice p m m)) Wy) := ⟨Xoff.out.c0, Xoff.out.c1, Xm.out.c0, Xm.out.c1⟩
    refine wp_region_J (fun W' => W'.cell? ⟨goff, 0, none⟩ = some (.bool tD) ∧ W'.cell? ⟨goff, 1, none⟩ = some (.slice (some ⟨kD, 0, none⟩) nD nD) ∧ W'.cell? ⟨gm, 0, none⟩ = some (.bool s) ∧ W'.cell? ⟨gm, 1, none⟩ = some (.slice p m m)) (by kernel_rfl) ?_
    rw [← hWy]
    clear hWy
    refine wpJ_tq 0 rfl HJ.out ?_
    refine wpJ_tq 1 rfl HJ.out ?_
    refine wpJ_tq 3 rfl HJ.out ?_
    refine wpJ_on 2 rfl fun KJ hK => ?_
    go_simp
    refine (rshl04 tD RR.out (by have := HND.out; omega) k (.inl (by have := HM.out.2.2.1; omega))).mono ?_
    rintro e v5 ⟨v, rfl, hv, hb5⟩
    obtain ⟨s5, g5, m5, rfl, hg5, hz5, hl5⟩ := hv
    try clear hv
    have HN5 : Hid (Wy.heap.size ≤ g5) := hg5
    have HB5 : Hid (Wy.heap.size ≤ v5.heap.size) := hb5.size
    replace Xoff : Hid _ := Xoff.out.below hb5
    replace Xa : Hid _ := Xa.out.below hb5
    replace Xm : Hid _ := Xm.out.below hb5
    replace Xn : Hid _ := Xn.out.below hb5
    replace RR : Hid _ := RR.out.below hb5
    replace HA : Hid _ := HA.out.below hb5
    replace hbw := Below.on hbw hb5
    clear hb5
    have Z5 : Hid (ZR v5 s5 (some ⟨g5, 0, none⟩) m5 (((((ux h + ux l) * y - x).natAbs : Int)) * 2 ^ k)) := hz5
    have HL5 : Hid (m5 ≤ 40000) := hl5
    clear hz5 hl5 hg5
    refine hK _ _ ⟨Xoff.out.c0, Xoff.out.c1, Xm.out.c0, Xm.out.c1⟩ ?_
    clear hK
    refine wpJ_on 4 rfl fun KJ hK => ?_
    go_simp
    refine (rabs_d s HA.out (by have := HM.out.1; omega)).mono ?_
    rintro e v6 ⟨v, rfl, hv, hb6⟩
    obtain ⟨s6, g6, m6, rfl, hg6, hz6, hl6⟩ := hv
    try clear hv
    have HN6 : Hid (v5.heap.size ≤ g6) := hg6
    have HB6 : Hid (v5.heap.size ≤ v6.heap.size) := hb6.size
    replace Xoff : Hid _ := Xoff.out.below hb6
    replace Xa : Hid _ := Xa.out.below hb6
    replace Xm : Hid _ := Xm.out.below hb6
    replace Xn : Hid _ := Xn.out.below hb6
    replace RR : Hid _ := RR.out.below hb6
    replace HA : Hid _ := HA.out.below hb6
    replace Z5 : Hid _ := Z5.out.below hb6
    replace hbw := Below.on hbw hb6
    clear hb6
    have Z6 : Hid (ZR v6 s6 (some ⟨g6, 0, none⟩) m6 ((x.natAbs : Int))) := hz6
    have HL6 : Hid (m6 ≤ m) := hl6
    clear hz6 hl6 hg6
    refine hK _ _ ⟨Xoff.out.c0, Xoff.out.c1, Xm.out.c0, Xm.out.c1⟩ ?_
    clear hK
    refine wpJ_on 5 rfl fun KJ hK => ?_
    go_simp
    refine (rcmp04 s5 s6 Z5.out Z6.out (by have := HL5.out; omega) (by have := HL6.out; have := HM.out.1; omega)).mono ?_
    rintro e v7 ⟨rfl, hb7⟩
    rw [← HCC.out]
    replace Xoff : Hid _ := Xoff.out.below hb7
    replace Xa : Hid _ := Xa.out.below hb7
    replace Xm : Hid _ := Xm.out.below hb7
    replace Xn : Hid _ := Xn.out.below hb7
    replace RR : Hid _ := RR.out.below hb7
    replace HA : Hid _ := HA.out.below hb7
    replace Z5 : Hid _ := Z5.out.below hb7
    replace Z6 : Hid _ := Z6.out.below hb7
    replace hbw := Below.on hbw hb7
    clear hb7
    clear HJ
    have HJ : Hid ((fun W' : World => W'.cell? ⟨goff, 0, none⟩ = some (.bool tD) ∧ W'.cell? ⟨goff, 1, none⟩ = some (.slice (some ⟨kD, 0, none⟩) nD nD) ∧ W'.cell? ⟨gm, 0, none⟩ = some (.bool s) ∧ W'.cell? ⟨gm, 1, none⟩ = some (.slice p m m)) v7) := ⟨Xoff.out.c0, Xoff.out.c1, Xm.out.c0, Xm.out.c1⟩
    refine hK _ _ HJ.out ?_
    clear hK
    refine wpJ_tq 6 rfl HJ.out ?_
    refine wpJ_tq 7 rfl HJ.out ?_
    refine wpJ_done (by kernel_rfl) ?_ _
    clear HJ
    go_wp2_with fail
    go_ret
    exact ⟨rfl, hbw⟩
  · skip
    refine wpJ_two (i := 1) (k := 7) (by kernel_rfl) rfl rfl (by kernel_rfl) (by kernel_rfl) (fun KJ hK => ?_) (fun KJ hK => ?_)
    · go_simp
      refine (sum20 _).mono ?_
      rintro e9 uA ⟨v9, rfl, hv, hbA⟩
      obtain ⟨tA, kA, nA, rfl, hgA, hzA, hlA⟩ := hv
      skip
      have hbu' := Below.on hbu hbA
      clear hbu
      have hbu := hbu'
      clear hbu'
      replace Xa : Hid _ := Xa.out.below hbA
      replace Xm : Hid _ := Xm.out.below hbA
      replace Xn : Hid _ := Xn.out.below hbA
      replace hbw := Below.on hbw hbA
      clear hbA
      have YA : Hid (ZR uA tA (some ⟨kA, 0, none⟩) nA (ux h + ux l)) := hzA
      have HLA : Hid (nA ≤ 2201) := hlA
      clear hzA hlA hgA
      clear HJ
      have HJ : Hid ((fun W' : World => W'.cell? ⟨ga, 0, none⟩ = some (.int .u64 (h : Int)) ∧ W'.cell? ⟨ga, 1, none⟩ = some (.int .u64 (l : Int)) ∧ W'.cell? ⟨gm, 0, none⟩ = some (.bool s) ∧ W'.cell? ⟨gm, 1, none⟩ = some (.slice p m m) ∧ W'.cell? ⟨gn, 0, none⟩ = some (.bool t) ∧ W'.cell? ⟨gn, 1, none⟩ = some (.slice q n n)) uA) := ⟨Xa.out.c0, Xa.out.c1, Xm.out.c0, Xm.out.c1, Xn.out.c0, Xn.out.c1⟩
      refine hK _ _ HJ.out ?_
      clear hK
      refine wpJ_two (i := 3) (k := 7) (by kernel_rfl) rfl rfl (by kernel_rfl) (by kernel_rfl) (fun KJ hK => ?_) (fun KJ hK => ?_)
      · go_simp
        refine (rmul04 tA t YA.out (HBu.out.below hbu) (by have := HLA.out; omega) (by have := HM.out.2.1; omega)).mono ?_
        rintro e9 uB ⟨v9, rfl, hv, hbB⟩
        obtain ⟨tB, kB, nB, rfl, hgB, hzB, hlB⟩ := hv
        skip
        have hbu' := Below.on hbu hbB
        clear hbu
        have hbu := hbu'
        clear hbu'
        replace Xa : Hid _ := Xa.out.below hbB
        replace Xm : Hid _ := Xm.out.below hbB
        replace Xn : Hid _ := Xn.out.below hbB
        replace YA : Hid _ := YA.out.below hbB
        replace hbw := Below.on hbw hbB
        clear hbB
        have YB : Hid (ZR uB tB (some ⟨kB, 0, none⟩) nB ((ux h + ux l) * y)) := hzB
        have HLB : Hid (nB ≤ nA + n) := hlB
        clear hzB hlB hgB
        clear HJ
        have HJ : Hid ((fun W' : World => W'.cell? ⟨ga, 0, none⟩ = some (.int .u64 (h : Int)) ∧ W'.cell? ⟨ga, 1, none⟩ = some (.int .u64 (l : Int)) ∧ W'.cell? ⟨gm, 0, none⟩ = some (.bool s) ∧ W'.cell? ⟨gm, 1, none⟩ = some (.slice p m m) ∧ W'.cell? ⟨gn, 0, none⟩ = some (.bool t) ∧ W'.cell? ⟨gn, 1, none⟩ = some (.slice q n n)) uB) := ⟨Xa.out.c0, Xa.out.c1, Xm.out.c0, Xm.out.c1, Xn.out.c0, Xn.out.c1⟩
        refine hK _ _ HJ.out ?_
        clear hK
        refine wpJ_two (i := 5) (k := 7) (by kernel_rfl) rfl rfl (by kernel_rfl) (by kernel_rfl) (fun KJ hK => ?_) (fun KJ hK => ?_)
        · go_simp
          refine (rsub04 tB s YB.out (HAu.out.below hbu) (by have := HLA.out; have := HLB.out; have := HM.out.2.1; omega) (by have := HM.out.1; omega)).mono ?_
          rintro e9 uC ⟨v9, rfl, hv, hbC⟩
          obtain ⟨tC, kC, nC, rfl, hgC, hzC, hlC⟩ := hv
          skip
          have hbu' := Below.on hbu hbC
          clear hbu
          have hbu := hbu'
          clear hbu'
          replace Xa : Hid _ := Xa.out.below hbC
          replace Xm : Hid _ := Xm.out.below hbC
          replace Xn : Hid _ := Xn.out.below hbC
          replace YA : Hid _ := YA.out.below hbC
          replace YB : Hid _ := YB.out.below hbC
          replace hbw := Below.on hbw hbC
          clear hbC
          have YC : Hid (ZR uC tC (some ⟨kC, 0, none⟩) nC ((ux h + ux l) * y - x)) := hzC
          have HLC : Hid (nC ≤ max nB m + 1) := hlC
          clear hzC hlC hgC
          clear HJ
          have HJ : Hid ((fun W' : World => W'.cell? ⟨ga, 0, none⟩ = some (.int .u64 (h : Int)) ∧ W'.cell? ⟨ga, 1, none⟩ = some (.int .u64 (l : Int)) ∧ W'.cell? ⟨gm, 0, none⟩ = some (.bool s) ∧ W'.cell? ⟨gm, 1, none⟩ = some (.slice p m m) ∧ W'.cell? ⟨gn, 0, none⟩ = some (.bool t) ∧ W'.cell? ⟨gn, 1, none⟩ = some (.slice q n n)) uC) := ⟨Xa.out.c0, Xa.out.c1, Xm.out.c0, Xm.out.c1, Xn.out.c0, Xn.out.c1⟩
          refine hK _ _ HJ.out ?_
          clear hK
          refine wpJ_two (i := 6) (k := 7) (by kernel_rfl) rfl rfl (by kernel_rfl) (by kernel_rfl) (fun KJ hK => ?_) (fun KJ hK => ?_)
          · go_simp
            refine (rabs_d tC YC.out (by have := HLA.out; have := HLB.out; have := HLC.out; have := HM.out.1; have := HM.out.2.1; omega)).mono ?_
            rintro e9 uD ⟨v9, rfl, hv, hbD⟩
            obtain ⟨tD, kD, nD, rfl, hgD, hzD, hlD⟩ := hv
            have HGB : Hid (uC.heap.size ≤ kD) := hgD
            have hbu' := Below.on hbu hbD
            clear hbu
            have hbu := hbu'
            clear hbu'
            replace Xa : Hid _ := Xa.out.below hbD
            replace Xm : Hid _ := Xm.out.below hbD
            replace Xn : Hid _ := Xn.out.below hbD
            replace YA : Hid _ := YA.out.below hbD
            replace YB : Hid _ := YB.out.below hbD
            replace YC : Hid _ := YC.out.below hbD
            replace hbw := Below.on hbw hbD
            clear hbD
            have RR : Hid (ZR uD tD (some ⟨kD, 0, none⟩) nD ((((ux h + ux l) * y - x).natAbs : Int))) := hzD
            have HLD : Hid (nD ≤ nC) := hlD
            clear hzD hlD hgD
            clear YA
            clear YB
            clear YC
            have HND : Hid (nD ≤ 13000) := by have := HLA.out; have := HLB.out; have := HLC.out; have := HLD.out; have := HM.out.1; have := HM.out.2.1; show _ ≤ _; omega
            refine hK _ _ ⟨Xa.out.c0, Xa.out.c1, Xm.out.c0, Xm.out.c1, Xn.out.c0, Xn.out.c1⟩ ?_
            clear hK
            refine wpJ_on 7 rfl fun KJ hK => ?_
            go_simp
            have HDaoff : Hid (ga ≠ uD.heap.size) := Nat.ne_of_lt Xa.out.lt
            have HDmoff : Hid (gm ≠ uD.heap.size) := Nat.ne_of_lt Xm.out.lt
            have HDnoff : Hid (gn ≠ uD.heap.size) := Nat.ne_of_lt Xn.out.lt
            have HLS : Hid (∀ v0 v1, ZR (((uD.alloc (.cells #[.bool false, .slice none 0 0] 39)).setCell ⟨uD.heap.size, 0, none⟩ v0).setCell ⟨uD.heap.size, 1, none⟩ v1) tD (some ⟨kD, 0, none⟩) nD ((((ux h + ux l) * y - x).natAbs : Int))) := fun v0 v1 => RR.out.below (bSet (bSet (below1 _ _) _ _ _ (Nat.le_refl _)) _ _ _ (Nat.le_refl _))
            have HGU : Hid (v1.heap.size ≤ uD.heap.size) := hbu.size
            have Xoff0 : Hid (Box (uD.alloc (.cells #[.bool false, .slice none 0 0] 39)) uD.heap.size (.bool false) (.slice none 0 0)) := Box.new uD _ _ _
            have hbn : Below uD.heap.size uD (uD.alloc (.cells #[.bool false, .slice none 0 0] 39)) := below1 uD _
            generalize uD.alloc (.cells #[.bool false, .slice none 0 0] 39) = Wn at *
            have HGoff : Hid (w.heap.size ≤ uD.heap.size) := hbw.size
            have hbu' := Below.on hbu hbn
            clear hbu
            have hbu := hbu'
            clear hbu'
            replace Xa : Hid _ := Xa.out.below hbn
            replace Xm : Hid _ := Xm.out.below hbn
            replace Xn : Hid _ := Xn.out.below hbn
            replace RR : Hid _ := RR.out.below hbn
            replace hbw := Below.on hbw hbn
            clear hbn
            generalize uD.heap.size = goff at *
            have Xoff := Xoff0
            clear Xoff0
            refine hK _ _ ⟨Xa.out.c0, Xa.out.c1, Xm.out.c0, Xm.out.c1, Xn.out.c0, Xn.out.c1⟩ ?_
            clear hK
            obtain ⟨coff0, coff1, foff0, foff1⟩ := Xoff.out
            have hneoff := Xoff.out.lt
            obtain ⟨ca0, ca1, fa0, fa1⟩ := Xa.out
            have hnea := Xa.out.lt
            obtain ⟨cm0, cm1, fm0, fm1⟩ := Xm.out
            have hnem := Xm.out.lt
            obtain ⟨cn0, cn1, fn0, fn1⟩ := Xn.out
            have hnen := Xn.out.lt
            have qaa : ga ≠ goff := HDaoff.out
            have qba : goff ≠ ga := fun h => qaa h.symm
            have qam : gm ≠ goff := HDmoff.out
            have qbm : goff ≠ gm := fun h => qam h.symm
            have qan : gn ≠ goff := HDnoff.out
            have qbn : goff ≠ gn := fun h => qan h.symm
            refine wpJ_on 8 rfl fun KJ hK => ?_
            go_simp
            have HJ2 : Hid ((fun W' : World => W'.cell? ⟨ga, 0, none⟩ = some (.int .u64 (h : Int)) ∧ W'.cell? ⟨ga, 1, none⟩ = some (.int .u64 (l : Int)) ∧ W'.cell? ⟨gm, 0, none⟩ = some (.bool s) ∧ W'.cell? ⟨gm, 1, none⟩ = some (.slice p m m) ∧ W'.cell? ⟨gn, 0, none⟩ = some (.bool t) ∧ W'.cell? ⟨gn, 1, none⟩ = some (.slice q n n)) ((Wn.setCell ⟨goff, 0, none⟩ (.bool tD)).setCell ⟨goff, 1, none⟩ (.slice (some ⟨kD, 0, none⟩) nD nD))) := ⟨by go_simp, by go_simp, by go_simp, by go_simp, by go_simp, by go_simp⟩
            have Xoff2 : Hid (Box ((Wn.setCell ⟨goff, 0, none⟩ (.bool tD)).setCell ⟨goff, 1, none⟩ (.slice (some ⟨kD, 0, none⟩) nD nD)) goff (.bool tD) (.slice (some ⟨kD, 0, none⟩) nD nD)) := ⟨by go_simp, by go_simp, by go_simp, by go_simp⟩
            have Xa2 : Hid (Box ((Wn.setCell ⟨goff, 0, none⟩ (.bool tD)).setCell ⟨goff, 1, none⟩ (.slice (some ⟨kD, 0, none⟩) nD nD)) ga (.int .u64 (h : Int)) (.int .u64 (l : Int))) := ⟨by go_simp, by go_simp, by go_simp, by go_simp⟩
            have Xm2 : Hid (Box ((Wn.setCell ⟨goff, 0, none⟩ (.bool tD)).setCell ⟨goff, 1, none⟩ (.slice (some ⟨kD, 0, none⟩) nD nD)) gm (.bool s) (.slice p m m)) := ⟨by go_simp, by go_simp, by go_simp, by go_simp⟩
            have Xn2 : Hid (Box ((Wn.setCell ⟨goff, 0, none⟩ (.bool tD)).setCell ⟨goff, 1, none⟩ (.slice (some ⟨kD, 0, none⟩) nD nD)) gn (.bool t) (.slice q n n)) := ⟨by go_simp, by go_simp, by go_simp, by go_simp⟩
            have RR2 : Hid (ZR ((Wn.setCell ⟨goff, 0, none⟩ (.bool tD)).setCell ⟨goff, 1, none⟩ (.slice (some ⟨kD, 0, none⟩) nD nD)) tD (some ⟨kD, 0, none⟩) nD ((((ux h + ux l) * y - x).natAbs : Int))) := HLS.out _ _
            have hbu2 : Below v1.heap.size v1 ((Wn.setCell ⟨goff, 0, none⟩ (.bool tD)).setCell ⟨goff, 1, none⟩ (.slice (some ⟨kD, 0, none⟩) nD nD)) := bSet (bSet hbu _ _ _ HGU.out) _ _ _ HGU.out
            have hbw2 : Below w.heap.size w ((Wn.setCell ⟨goff, 0, none⟩ (.bool tD)).setCell ⟨goff, 1, none⟩ (.slice (some ⟨kD, 0, none⟩) nD nD)) := bSet (bSet hbw _ _ _ HGoff.out) _ _ _ HGoff.out
            refine hK _ _ HJ2.out ?_
            clear hK HJ
            have HJ := HJ2
            clear HJ2
            refine wpJ_done (by kernel_rfl) ?_ _
            exact ⟨rfl, HRQ.out _ _ _ ⟨goff, tA, kA, nA, tB, kB, nB, tC, kC, nC, tD, kD, nD, by kernel_rfl, Xoff2.out, Xa2.out, Xm2.out, Xn2.out, RR2.out, HGoff.out, HDaoff.out, HDmoff.out, HDnoff.out, HND.out, hbu2, hbw2⟩⟩
          · go_simp
            have HDaoff : Hid (ga ≠ uC.heap.size) := Nat.ne_of_lt Xa.out.lt
            have HDmoff : Hid (gm ≠ uC.heap.size) := Nat.ne_of_lt Xm.out.lt
            have HDnoff : Hid (gn ≠ uC.heap.size) := Nat.ne_of_lt Xn.out.lt
            have HGU : Hid (v1.heap.size ≤ uC.heap.size) := hbu.size
            have Xoff0 : Hid (Box (uC.alloc (.cells #[.bool false, .slice none 0 0] 39)) uC.heap.size (.bool false) (.slice none 0 0)) := Box.new uC _ _ _
            have hbn : Below uC.heap.size uC (uC.alloc (.cells #[.bool false, .slice none 0 0] 39)) := below1 uC _
            generalize uC.alloc (.cells #[.bool false, .slice none 0 0] 39) = Wn at *
            have HGoff : Hid (w.heap.size ≤ uC.heap.size) := hbw.size
            have hbu' := Below.on hbu hbn
            clear hbu
            have hbu := hbu'
            clear hbu'
            replace Xa : Hid _ := Xa.out.below hbn
            replace Xm : Hid _ := Xm.out.below hbn
            replace Xn : Hid _ := Xn.out.below hbn
            replace YA : Hid _ := YA.out.below hbn
            replace YB : Hid _ := YB.out.below hbn
            replace YC : Hid _ := YC.out.below hbn
            replace hbw := Below.on hbw hbn
            clear hbn
            generalize uC.heap.size = goff at *
            have Xoff := Xoff0
            clear Xoff0
            refine hK _ _ ⟨Xa.out.c0, Xa.out.c1, Xm.out.c0, Xm.out.c1, Xn.out.c0, Xn.out.c1⟩ ?_
            clear hK
            refine wpJ_on 6 rfl fun KJ hK => ?_
            go_simp
            have HLT : Hid (goff < Wn.heap.size) := Xoff.out.lt
            refine (rabs_d tC YC.out (by have := HLA.out; have := HLB.out; have := HLC.out; have := HM.out.1; have := HM.out.2.1; omega)).mono ?_
            rintro e9 uD ⟨v9, rfl, hv, hbD⟩
            obtain ⟨tD, kD, nD, rfl, hgD, hzD, hlD⟩ := hv
            have HGB : Hid (Wn.heap.size ≤ kD) := hgD
            have hbu' := Below.on hbu hbD
            clear hbu
            have hbu := hbu'
            clear hbu'
            replace Xa : Hid _ := Xa.out.below hbD
            replace Xm : Hid _ := Xm.out.below hbD
            replace Xn : Hid _ := Xn.out.below hbD
            replace Xoff : Hid _ := Xoff.out.below hbD
            replace YA : Hid _ := YA.out.below hbD
            replace YB : Hid _ := YB.out.below hbD
            replace YC : Hid _ := YC.out.below hbD
            replace hbw := Below.on hbw hbD
            clear hbD
            have RR : Hid (ZR uD tD (some ⟨kD, 0, none⟩) nD ((((ux h + ux l) * y - x).natAbs : Int))) := hzD
            have HLD : Hid (nD ≤ nC) := hlD
            clear hzD hlD hgD
            clear YA
            clear YB
            clear YC
            have HND : Hid (nD ≤ 13000) := by have := HLA.out; have := HLB.out; have := HLC.out; have := HLD.out; have := HM.out.1; have := HM.out.2.1; show _ ≤ _; omega
            have HNE : Hid (kD ≠ goff) := by have h1 := HLT.out; have h2 := HGB.out; show _ ≠ _; omega
            refine hK _ _ ⟨Xa.out.c0, Xa.out.c1, Xm.out.c0, Xm.out.c1, Xn.out.c0, Xn.out.c1⟩ ?_
            clear hK
            obtain ⟨coff0, coff1, foff0, foff1⟩ := Xoff.out
            have hneoff := Xoff.out.lt
            obtain ⟨ca0, ca1, fa0, fa1⟩ := Xa.out
            have hnea := Xa.out.lt
            obtain ⟨cm0, cm1, fm0, fm1⟩ := Xm.out
            have hnem := Xm.out.lt
            obtain ⟨cn0, cn1, fn0, fn1⟩ := Xn.out
            have hnen := Xn.out.lt
            have qaa : ga ≠ goff := HDaoff.out
            have qba : goff ≠ ga := fun h => qaa h.symm
            have qam : gm ≠ goff := HDmoff.out
            have qbm : goff ≠ gm := fun h => qam h.symm
            have qan : gn ≠ goff := HDnoff.out
            have qbn : goff ≠ gn := fun h => qan h.symm
            refine wpJ_on 8 rfl fun KJ hK => ?_
            go_simp
            have HJ2 : Hid ((fun W' : World => W'.cell? ⟨ga, 0, none⟩ = some (.int .u64 (h : Int)) ∧ W'.cell? ⟨ga, 1, none⟩ = some (.int .u64 (l : Int)) ∧ W'.cell? ⟨gm, 0, none⟩ = some (.bool s) ∧ W'.cell? ⟨gm, 1, none⟩ = some (.slice p m m) ∧ W'.cell? ⟨gn, 0, none⟩ = some (.bool t) ∧ W'.cell? ⟨gn, 1, none⟩ = some (.slice q n n)) ((uD.setCell ⟨goff, 0, none⟩ (.bool tD)).setCell ⟨goff, 1, none⟩ (.slice (some ⟨kD, 0, none⟩) nD nD))) := ⟨by go_simp, by go_simp, by go_simp, by go_simp, by go_simp, by go_simp⟩
            have Xoff2 : Hid (Box ((uD.setCell ⟨goff, 0, none⟩ (.bool tD)).setCell ⟨goff, 1, none⟩ (.slice (some ⟨kD, 0, none⟩) nD nD)) goff (.bool tD) (.slice (some ⟨kD, 0, none⟩) nD nD)) := ⟨by go_simp, by go_simp, by go_simp, by go_simp⟩
            have Xa2 : Hid (Box ((uD.setCell ⟨goff, 0, none⟩ (.bool tD)).setCell ⟨goff, 1, none⟩ (.slice (some ⟨kD, 0, none⟩) nD nD)) ga (.int .u64 (h : Int)) (.int .u64 (l : Int))) := ⟨by go_simp, by go_simp, by go_simp, by go_simp⟩
            have Xm2 : Hid (Box ((uD.setCell ⟨goff, 0, none⟩ (.bool tD)).setCell ⟨goff, 1, none⟩ (.slice (some ⟨kD, 0, none⟩) nD nD)) gm (.bool s) (.slice p m m)) := ⟨by go_simp, by go_simp, by go_simp, by go_simp⟩
            have Xn2 : Hid (Box ((uD.setCell ⟨goff, 0, none⟩ (.bool tD)).setCell ⟨goff, 1, none⟩ (.slice (some ⟨kD, 0, none⟩) nD nD)) gn (.bool t) (.slice q n n)) := ⟨by go_simp, by go_simp, by go_simp, by go_simp⟩
            have RR2 : Hid (ZR ((uD.setCell ⟨goff, 0, none⟩ (.bool tD)).setCell ⟨goff, 1, none⟩ (.slice (some ⟨kD, 0, none⟩) nD nD)) tD (some ⟨kD, 0, none⟩) nD ((((ux h + ux l) * y - x).natAbs : Int))) := (RR.out.set _ _ _ HNE.out).set _ _ _ HNE.out
            have hbu2 : Below v1.heap.size v1 ((uD.setCell ⟨goff, 0, none⟩ (.bool tD)).setCell ⟨goff, 1, none⟩ (.slice (some ⟨kD, 0, none⟩) nD nD)) := bSet (bSet hbu _ _ _ HGU.out) _ _ _ HGU.out
            have hbw2 : Below w.heap.size w ((uD.setCell ⟨goff, 0, none⟩ (.bool tD)).setCell ⟨goff, 1, none⟩ (.slice (some ⟨kD, 0, none⟩) nD nD)) := bSet (bSet hbw _ _ _ HGoff.out) _ _ _ HGoff.out
            refine hK _ _ HJ2.out ?_
            clear hK HJ
            have HJ := HJ2
            clear HJ2
            refine wpJ_done (by kernel_rfl) ?_ _
            exact ⟨rfl, HRQ.out _ _ _ ⟨goff, tA, kA, nA, tB, kB, nB, tC, kC, nC, tD, kD, nD, by kernel_rfl, Xoff2.out, Xa2.out, Xm2.out, Xn2.out, RR2.out, HGoff.out, HDaoff.out, HDmoff.out, HDnoff.out, HND.out, hbu2, hbw2⟩⟩
        · go_simp
          have HDaoff : Hid (ga ≠ uB.heap.size) := Nat.ne_of_lt Xa.out.lt
          have HDmoff : Hid (gm ≠ uB.heap.size) := Nat.ne_of_lt Xm.out.lt
          have HDnoff : Hid (gn ≠ uB.heap.size) := Nat.ne_of_lt Xn.out.lt
          have HGU : Hid (v1.heap.size ≤ uB.heap.size) := hbu.size
          have Xoff0 : Hid (Box (uB.alloc (.cells #[.bool false, .slice none 0 0] 39)) uB.heap.size (.bool false) (.slice none 0 0)) := Box.new uB _ _ _
          have hbn : Below uB.heap.size uB (uB.alloc (.cells #[.bool false, .slice none 0 0] 39)) := below1 uB _
          generalize uB.alloc (.cells #[.bool false, .slice none 0 0] 39) = Wn at *
          have HGoff : Hid (w.heap.size ≤ uB.heap.size) := hbw.size
          have hbu' := Below.on hbu hbn
          clear hbu
          have hbu := hbu'
          clear hbu'
          replace Xa : Hid _ := Xa.out.below hbn
          replace Xm : Hid _ := Xm.out.below hbn
          replace Xn : Hid _ := Xn.out.below hbn
          replace YA : Hid _ := YA.out.below hbn
          replace YB : Hid _ := YB.out.below hbn
          replace hbw := Below.on hbw hbn
          clear hbn
          generalize uB.heap.size = goff at *
          have Xoff := Xoff0
          clear Xoff0
          refine hK _ _ ⟨Xa.out.c0, Xa.out.c1, Xm.out.c0, Xm.out.c1, Xn.out.c0, Xn.out.c1⟩ ?_
          clear hK
          refine wpJ_on 5 rfl fun KJ hK => ?_
          go_simp
          refine (rsub04 tB s YB.out (HAu.out.below hbu) (by have := HLA.out; have := HLB.out; have := HM.out.2.1; omega) (by have := HM.out.1; omega)).mono ?_
          rintro e9 uC ⟨v9, rfl, hv, hbC⟩
          obtain ⟨tC, kC, nC, rfl, hgC, hzC, hlC⟩ := hv
          skip
          have hbu' := Below.on hbu hbC
          clear hbu
          have hbu := hbu'
          clear hbu'
          replace Xa : Hid _ := Xa.out.below hbC
          replace Xm : Hid _ := Xm.out.below hbC
          replace Xn : Hid _ := Xn.out.below hbC
          replace Xoff : Hid _ := Xoff.out.below hbC
          replace YA : Hid _ := YA.out.below hbC
          replace YB : Hid _ := YB.out.below hbC
          replace hbw := Below.on hbw hbC
          clear hbC
          have YC : Hid (ZR uC tC (some ⟨kC, 0, none⟩) nC ((ux h + ux l) * y - x)) := hzC
          have HLC : Hid (nC ≤ max nB m + 1) := hlC
          clear hzC hlC hgC
          refine hK _ _ ⟨Xa.out.c0, Xa.out.c1, Xm.out.c0, Xm.out.c1, Xn.out.c0, Xn.out.c1⟩ ?_
          clear hK
          refine wpJ_on 6 rfl fun KJ hK => ?_
          go_simp
          have HLT : Hid (goff < uC.heap.size) := Xoff.out.lt
          refine (rabs_d tC YC.out (by have := HLA.out; have := HLB.out; have := HLC.out; have := HM.out.1; have := HM.out.2.1; omega)).mono ?_
          rintro e9 uD ⟨v9, rfl, hv, hbD⟩
          obtain ⟨tD, kD, nD, rfl, hgD, hzD, hlD⟩ := hv
          have HGB : Hid (uC.heap.size ≤ kD) := hgD
          have hbu' := Below.on hbu hbD
          clear hbu
          have hbu := hbu'
          clear hbu'
          replace Xa : Hid _ := Xa.out.below hbD
          replace Xm : Hid _ := Xm.out.below hbD
          replace Xn : Hid _ := Xn.out.below hbD
          replace Xoff : Hid _ := Xoff.out.below hbD
          replace YA : Hid _ := YA.out.below hbD
          replace YB : Hid _ := YB.out.below hbD
          replace YC : Hid _ := YC.out.below hbD
          replace hbw := Below.on hbw hbD
          clear hbD
          have RR : Hid (ZR uD tD (some ⟨kD, 0, none⟩) nD ((((ux h + ux l) * y - x).natAbs : Int))) := hzD
          have HLD : Hid (nD ≤ nC) := hlD
          clear hzD hlD hgD
          clear YA
          clear YB
          clear YC
          have HND : Hid (nD ≤ 13000) := by have := HLA.out; have := HLB.out; have := HLC.out; have := HLD.out; have := HM.out.1; have := HM.out.2.1; show _ ≤ _; omega
          have HNE : Hid (kD ≠ goff) := by have h1 := HLT.out; have h2 := HGB.out; show _ ≠ _; omega
          refine hK _ _ ⟨Xa.out.c0, Xa.out.c1, Xm.out.c0, Xm.out.c1, Xn.out.c0, Xn.out.c1⟩ ?_
          clear hK
          obtain ⟨coff0, coff1, foff0, foff1⟩ := Xoff.out
          have hneoff := Xoff.out.lt
          obtain ⟨ca0, ca1, fa0, fa1⟩ := Xa.out
          have hnea := Xa.out.lt
          obtain ⟨cm0, cm1, fm0, fm1⟩ := Xm.out
          have hnem := Xm.out.lt
          obtain ⟨cn0, cn1, fn0, fn1⟩ := Xn.out
          have hnen := Xn.out.lt
          have qaa : ga ≠ goff := HDaoff.out
          have qba : goff ≠ ga := fun h => qaa h.symm
          have qam : gm ≠ goff := HDmoff.out
          have qbm : goff ≠ gm := fun h => qam h.symm
          have qan : gn ≠ goff := HDnoff.out
          have qbn : goff ≠ gn := fun h => qan h.symm
          refine wpJ_on 8 rfl fun KJ hK => ?_
          go_simp
          have HJ2 : Hid ((fun W' : World => W'.cell? ⟨ga, 0, none⟩ = some (.int .u64 (h : Int)) ∧ W'.cell? ⟨ga, 1, none⟩ = some (.int .u64 (l : Int)) ∧ W'.cell? ⟨gm, 0, none⟩ = some (.bool s) ∧ W'.cell? ⟨gm, 1, none⟩ = some (.slice p m m) ∧ W'.cell? ⟨gn, 0, none⟩ = some (.bool t) ∧ W'.cell? ⟨gn, 1, none⟩ = some (.slice q n n)) ((uD.setCell ⟨goff, 0, none⟩ (.bool tD)).setCell ⟨goff, 1, none⟩ (.slice (some ⟨kD, 0, none⟩) nD nD))) := ⟨by go_simp, by go_simp, by go_simp, by go_simp, by go_simp, by go_simp⟩
          have Xoff2 : Hid (Box ((uD.setCell ⟨goff, 0, none⟩ (.bool tD)).setCell ⟨goff, 1, none⟩ (.slice (some ⟨kD, 0, none⟩) nD nD)) goff (.bool tD) (.slice (some ⟨kD, 0, none⟩) nD nD)) := ⟨by go_simp, by go_simp, by go_simp, by go_simp⟩
          have Xa2 : Hid (Box ((uD.setCell ⟨goff, 0, none⟩ (.bool tD)).setCell ⟨goff, 1, none⟩ (.slice (some ⟨kD, 0, none⟩) nD nD)) ga (.int .u64 (h : Int)) (.int .u64 (l : Int))) := ⟨by go_simp, by go_simp, by go_simp, by go_simp⟩
          have Xm2 : Hid (Box ((uD.setCell ⟨goff, 0, none⟩ (.bool tD)).setCell ⟨goff, 1, none⟩ (.slice (some ⟨kD, 0, none⟩) nD nD)) gm (.bool s) (.slice p m m)) := ⟨by go_simp, by go_simp, by go_simp, by go_simp⟩
          have Xn2 : Hid (Box ((uD.setCell ⟨goff, 0, none⟩ (.bool tD)).setCell ⟨goff, 1, none⟩ (.slice (some ⟨kD, 0, none⟩) nD nD)) gn (.bool t) (.slice q n n)) := ⟨by go_simp, by go_simp, by go_simp, by go_simp⟩
          have RR2 : Hid (ZR ((uD.setCell ⟨goff, 0, none⟩ (.bool tD)).setCell ⟨goff, 1, none⟩ (.slice (some ⟨kD, 0, none⟩) nD nD)) tD (some ⟨kD, 0, none⟩) nD ((((ux h + ux l) * y - x).natAbs : Int))) := (RR.out.set _ _ _ HNE.out).set _ _ _ HNE.out
          have hbu2 : Below v1.heap.size v1 ((uD.setCell ⟨goff, 0, none⟩ (.bool tD)).setCell ⟨goff, 1, none⟩ (.slice (some ⟨kD, 0, none⟩) nD nD)) := bSet (bSet hbu _ _ _ HGU.out) _ _ _ HGU.out
          have hbw2 : Below w.heap.size w ((uD.setCell ⟨goff, 0, none⟩ (.bool tD)).setCell ⟨goff, 1, none⟩ (.slice (some ⟨kD, 0, none⟩) nD nD)) := bSet (bSet hbw _ _ _ HGoff.out) _ _ _ HGoff.out
          refine hK _ _ HJ2.out ?_
          clear hK HJ
          have HJ := HJ2
          clear HJ2
          refine wpJ_done (by kernel_rfl) ?_ _
          exact ⟨rfl, HRQ.out _ _ _ ⟨goff, tA, kA, nA, tB, kB, nB, tC, kC, nC, tD, kD, nD, by kernel_rfl, Xoff2.out, Xa2.out, Xm2.out, Xn2.out, RR2.out, HGoff.out, HDaoff.out, HDmoff.out, HDnoff.out, HND.out, hbu2, hbw2⟩⟩
      · go_simp
        have HDaoff : Hid (ga ≠ uA.heap.size) := Nat.ne_of_lt Xa.out.lt
        have HDmoff : Hid (gm ≠ uA.heap.size) := Nat.ne_of_lt Xm.out.lt
        have HDnoff : Hid (gn ≠ uA.heap.size) := Nat.ne_of_lt Xn.out.lt
        have HGU : Hid (v1.heap.size ≤ uA.heap.size) := hbu.size
        have Xoff0 : Hid (Box (uA.alloc (.cells #[.bool false, .slice none 0 0] 39)) uA.heap.size (.bool false) (.slice none 0 0)) := Box.new uA _ _ _
        have hbn : Below uA.heap.size uA (uA.alloc (.cells #[.bool false, .slice none 0 0] 39)) := below1 uA _
        generalize uA.alloc (.cells #[.bool false, .slice none 0 0] 39) = Wn at *
        have HGoff : Hid (w.heap.size ≤ uA.heap.size) := hbw.size
        have hbu' := Below.on hbu hbn
        clear hbu
        have hbu := hbu'
        clear hbu'
        replace Xa : Hid _ := Xa.out.below hbn
        replace Xm : Hid _ := Xm.out.below hbn
        replace Xn : Hid _ := Xn.out.below hbn
        replace YA : Hid _ := YA.out.below hbn
        replace hbw := Below.on hbw hbn
        clear hbn
        generalize uA.heap.size = goff at *
        have Xoff := Xoff0
        clear Xoff0
        refine hK _ _ ⟨Xa.out.c0, Xa.out.c1, Xm.out.c0, Xm.out.c1, Xn.out.c0, Xn.out.c1⟩ ?_
        clear hK
        refine wpJ_on 3 rfl fun KJ hK => ?_
        go_simp
        refine (rmul04 tA t YA.out (HBu.out.below hbu) (by have := HLA.out; omega) (by have := HM.out.2.1; omega)).mono ?_
        rintro e9 uB ⟨v9, rfl, hv, hbB⟩
        obtain ⟨tB, kB, nB, rfl, hgB, hzB, hlB⟩ := hv
        skip
        have hbu' := Below.on hbu hbB
        clear hbu
        have hbu := hbu'
        clear hbu'
        replace Xa : Hid _ := Xa.out.below hbB
        replace Xm : Hid _ := Xm.out.below hbB
        replace Xn : Hid _ := Xn.out.below hbB
        replace Xoff : Hid _ := Xoff.out.below hbB
        replace YA : Hid _ := YA.out.below hbB
        replace hbw := Below.on hbw hbB
        clear hbB
        have YB : Hid (ZR uB tB (some ⟨kB, 0, none⟩) nB ((ux h + ux l) * y)) := hzB
        have HLB : Hid (nB ≤ nA + n) := hlB
        clear hzB hlB hgB
        refine hK _ _ ⟨Xa.out.c0, Xa.out.c1, Xm.out.c0, Xm.out.c1, Xn.out.c0, Xn.out.c1⟩ ?_
        clear hK
        refine wpJ_on 5 rfl fun KJ hK => ?_
        go_simp
        refine (rsub04 tB s YB.out (HAu.out.below hbu) (by have := HLA.out; have := HLB.out; have := HM.out.2.1; omega) (by have := HM.out.1; omega)).mono ?_
        rintro e9 uC ⟨v9, rfl, hv, hbC⟩
        obtain ⟨tC, kC, nC, rfl, hgC, hzC, hlC⟩ := hv
        skip
        have hbu' := Below.on hbu hbC
        clear hbu
        have hbu := hbu'
        clear hbu'
        replace Xa : Hid _ := Xa.out.below hbC
        replace Xm : Hid _ := Xm.out.below hbC
        replace Xn : Hid _ := Xn.out.below hbC
        replace Xoff : Hid _ := Xoff.out.below hbC
        replace YA : Hid _ := YA.out.below hbC
        replace YB : Hid _ := YB.out.below hbC
        replace hbw := Below.on hbw hbC
        clear hbC
        have YC : Hid (ZR uC tC (some ⟨kC, 0, none⟩) nC ((ux h + ux l) * y - x)) := hzC
        have HLC : Hid (nC ≤ max nB m + 1) := hlC
        clear hzC hlC hgC
        refine hK _ _ ⟨Xa.out.c0, Xa.out.c1, Xm.out.c0, Xm.out.c1, Xn.out.c0, Xn.out.c1⟩ ?_
        clear hK
        refine wpJ_on 6 rfl fun KJ hK => ?_
        go_simp
        have HLT : Hid (goff < uC.heap.size) := Xoff.out.lt
        refine (rabs_d tC YC.out (by have := HLA.out; have := HLB.out; have := HLC.out; have := HM.out.1; have := HM.out.2.1; omega)).mono ?_
        rintro e9 uD ⟨v9, rfl, hv, hbD⟩
        obtain ⟨tD, kD, nD, rfl, hgD, hzD, hlD⟩ := hv
        have HGB : Hid (uC.heap.size ≤ kD) := hgD
        have hbu' := Below.on hbu hbD
        clear hbu
        have hbu := hbu'
        clear hbu'
        replace Xa : Hid _ := Xa.out.below hbD
        replace Xm : Hid _ := Xm.out.below hbD
        replace Xn : Hid _ := Xn.out.below hbD
        replace Xoff : Hid _ := Xoff.out.below hbD
        replace YA : Hid _ := YA.out.below hbD
        replace YB : Hid _ := YB.out.below hbD
        replace YC : Hid _ := YC.out.below hbD
        replace hbw := Below.on hbw hbD
        clear hbD
        have RR : Hid (ZR uD tD (some ⟨kD, 0, none⟩) nD ((((ux h + ux l) * y - x).natAbs : Int))) := hzD
        have HLD : Hid (nD ≤ nC) := hlD
        clear hzD hlD hgD
        clear YA
        clear YB
        clear YC
        have HND : Hid (nD ≤ 13000) := by have := HLA.out; have := HLB.out; have := HLC.out; have := HLD.out; have := HM.out.1; have := HM.out.2.1; show _ ≤ _; omega
        have HNE : Hid (kD ≠ goff) := by have h1 := HLT.out; have h2 := HGB.out; show _ ≠ _; omega
        refine hK _ _ ⟨Xa.out.c0, Xa.out.c1, Xm.out.c0, Xm.out.c1, Xn.out.c0, Xn.out.c1⟩ ?_
        clear hK
        obtain ⟨coff0, coff1, foff0, foff1⟩ := Xoff.out
        have hneoff := Xoff.out.lt
        obtain ⟨ca0, ca1, fa0, fa1⟩ := Xa.out
        have hnea := Xa.out.lt
        obtain ⟨cm0, cm1, fm0, fm1⟩ := Xm.out
        have hnem := Xm.out.lt
        obtain ⟨cn0, cn1, fn0, fn1⟩ := Xn.out
        have hnen := Xn.out.lt
        have qaa : ga ≠ goff := HDaoff.out
        have qba : goff ≠ ga := fun h => qaa h.symm
        have qam : gm ≠ goff := HDmoff.out
        have qbm : goff ≠ gm := fun h => qam h.symm
        have qan : gn ≠ goff := HDnoff.out
        have qbn : goff ≠ gn := fun h => qan h.symm
        refine wpJ_on 8 rfl fun KJ hK => ?_
        go_simp
        have HJ2 : Hid ((fun W' : World => W'.cell? ⟨ga, 0, none⟩ = some (.int .u64 (h : Int)) ∧ W'.cell? ⟨ga, 1, none⟩ = some (.int .u64 (l : Int)) ∧ W'.cell? ⟨gm, 0, none⟩ = some (.bool s) ∧ W'.cell? ⟨gm, 1, none⟩ = some (.slice p m m) ∧ W'.cell? ⟨gn, 0, none⟩ = some (.bool t) ∧ W'.cell? ⟨gn, 1, none⟩ = some (.slice q n n)) ((uD.setCell ⟨goff, 0, none⟩ (.bool tD)).setCell ⟨goff, 1, none⟩ (.slice (some ⟨kD, 0, none⟩) nD nD))) := ⟨by go_simp, by go_simp, by go_simp, by go_simp, by go_simp, by go_simp⟩
        have Xoff2 : Hid (Box ((uD.setCell ⟨goff, 0, none⟩ (.bool tD)).setCell ⟨goff, 1, none⟩ (.slice (some ⟨kD, 0, none⟩) nD nD)) goff (.bool tD) (.slice (some ⟨kD, 0, none⟩) nD nD)) := ⟨by go_simp, by go_simp, by go_simp, by go_simp⟩
        have Xa2 : Hid (Box ((uD.setCell ⟨goff, 0, none⟩ (.bool tD)).setCell ⟨goff, 1, none⟩ (.slice (some ⟨kD, 0, none⟩) nD nD)) ga (.int .u64 (h : Int)) (.int .u64 (l : Int))) := ⟨by go_simp, by go_simp, by go_simp, by go_simp⟩
        have Xm2 : Hid (Box ((uD.setCell ⟨goff, 0, none⟩ (.bool tD)).setCell ⟨goff, 1, none⟩ (.slice (some ⟨kD, 0, none⟩) nD nD)) gm (.bool s) (.slice p m m)) := ⟨by go_simp, by go_simp, by go_simp, by go_simp⟩
        have Xn2 : Hid (Box ((uD.setCell ⟨goff, 0, none⟩ (.bool tD)).setCell ⟨goff, 1, none⟩ (.slice (some ⟨kD, 0, none⟩) nD nD)) gn (.bool t) (.slice q n n)) := ⟨by go_simp, by go_simp, by go_simp, by go_simp⟩
        have RR2 : Hid (ZR ((uD.setCell ⟨goff, 0, none⟩ (.bool tD)).setCell ⟨goff, 1, none⟩ (.slice (some ⟨kD, 0, none⟩) nD nD)) tD (some ⟨kD, 0, none⟩) nD ((((ux h + ux l) * y - x).natAbs : Int))) := (RR.out.set _ _ _ HNE.out).set _ _ _ HNE.out
        have hbu2 : Below v1.heap.size v1 ((uD.setCell ⟨goff, 0, none⟩ (.bool tD)).setCell ⟨goff, 1, none⟩ (.slice (some ⟨kD, 0, none⟩) nD nD)) := bSet (bSet hbu _ _ _ HGU.out) _ _ _ HGU.out
        have hbw2 : Below w.heap.size w ((uD.setCell ⟨goff, 0, none⟩ (.bool tD)).setCell ⟨goff, 1, none⟩ (.slice (some ⟨kD, 0, none⟩) nD nD)) := bSet (bSet hbw _ _ _ HGoff.out) _ _ _ HGoff.out
        refine hK _ _ HJ2.out ?_
        clear hK HJ
        have HJ := HJ2
        clear HJ2
        refine wpJ_done (by kernel_rfl) ?_ _
        exact ⟨rfl, HRQ.out _ _ _ ⟨goff, tA, kA, nA, tB, kB, nB, tC, kC, nC, tD, kD, nD, by kernel_rfl, Xoff2.out, Xa2.out, Xm2.out, Xn2.out, RR2.out, HGoff.out, HDaoff.out, HDmoff.out, HDnoff.out, HND.out, hbu2, hbw2⟩⟩
    · go_simp
      have HDaoff : Hid (ga ≠ Wr.heap.size) := Nat.ne_of_lt Xa.out.lt
      have HDmoff : Hid (gm ≠ Wr.heap.size) := Nat.ne_of_lt Xm.out.lt
      have HDnoff : Hid (gn ≠ Wr.heap.size) := Nat.ne_of_lt Xn.out.lt
      have HGU : Hid (v1.heap.size ≤ Wr.heap.size) := hbu.size
      have Xoff0 : Hid (Box (Wr.alloc (.cells #[.bool false, .slice none 0 0] 39)) Wr.heap.size (.bool false) (.slice none 0 0)) := Box.new Wr _ _ _
      have hbn : Below Wr.heap.size Wr (Wr.alloc (.cells #[.bool false, .slice none 0 0] 39)) := below1 Wr _
      generalize Wr.alloc (.cells #[.bool false, .slice none 0 0] 39) = Wn at *
      have HGoff : Hid (w.heap.size ≤ Wr.heap.size) := hbw.size
      have hbu' := Below.on hbu hbn
      clear hbu
      have hbu := hbu'
      clear hbu'
      replace Xa : Hid _ := Xa.out.below hbn
      replace Xm : Hid _ := Xm.out.below hbn
      replace Xn : Hid _ := Xn.out.below hbn
      replace hbw := Below.on hbw hbn
      clear hbn
      generalize Wr.heap.size = goff at *
      have Xoff := Xoff0
      clear Xoff0
      refine hK _ _ ⟨Xa.out.c0, Xa.out.c1, Xm.out.c0, Xm.out.c1, Xn.out.c0, Xn.out.c1⟩ ?_
      clear hK
      refine wpJ_on 1 rfl fun KJ hK => ?_
      go_simp
      refine (sum20 _).mono ?_
      rintro e9 uA ⟨v9, rfl, hv, hbA⟩
      obtain ⟨tA, kA, nA, rfl, hgA, hzA, hlA⟩ := hv
      skip
      have hbu' := Below.on hbu hbA
      clear hbu
      have hbu := hbu'
      clear hbu'
      replace Xa : Hid _ := Xa.out.below hbA
      replace Xm : Hid _ := Xm.out.below hbA
      replace Xn : Hid _ := Xn.out.below hbA
      replace Xoff : Hid _ := Xoff.out.below hbA
      replace hbw := Below.on hbw hbA
      clear hbA
      have YA : Hid (ZR uA tA (some ⟨kA, 0, none⟩) nA (ux h + ux l)) := hzA
      have HLA : Hid (nA ≤ 2201) := hlA
      clear hzA hlA hgA
      refine hK _ _ ⟨Xa.out.c0, Xa.out.c1, Xm.out.c0, Xm.out.c1, Xn.out.c0, Xn.out.c1⟩ ?_
      clear hK
      refine wpJ_on 3 rfl fun KJ hK => ?_
      go_simp
      refine (rmul04 tA t YA.out (HBu.out.below hbu) (by have := HLA.out; omega) (by have := HM.out.2.1; omega)).mono ?_
      rintro e9 uB ⟨v9, rfl, hv, hbB⟩
      obtain ⟨tB, kB, nB, rfl, hgB, hzB, hlB⟩ := hv
      skip
      have hbu' := Below.on hbu hbB
      clear hbu
      have hbu := hbu'
      clear hbu'
      replace Xa : Hid _ := Xa.out.below hbB
      replace Xm : Hid _ := Xm.out.below hbB
      replace Xn : Hid _ := Xn.out.below hbB
      replace Xoff : Hid _ := Xoff.out.below hbB
      replace YA : Hid _ := YA.out.below hbB
      replace hbw := Below.on hbw hbB
      clear hbB
      have YB : Hid (ZR uB tB (some ⟨kB, 0, none⟩) nB ((ux h + ux l) * y)) := hzB
      have HLB : Hid (nB ≤ nA + n) := hlB
      clear hzB hlB hgB
      refine hK _ _ ⟨Xa.out.c0, Xa.out.c1, Xm.out.c0, Xm.out.c1, Xn.out.c0, Xn.out.c1⟩ ?_
      clear hK
      refine wpJ_on 5 rfl fun KJ hK => ?_
      go_simp
      refine (rsub04 tB s YB.out (HAu.out.below hbu) (by have := HLA.out; have := HLB.out; have := HM.out.2.1; omega) (by have := HM.out.1; omega)).mono ?_
      rintro e9 uC ⟨v9, rfl, hv, hbC⟩
      obtain ⟨tC, kC, nC, rfl, hgC, hzC, hlC⟩ := hv
      skip
      have hbu' := Below.on hbu hbC
      clear hbu
      have hbu := hbu'
      clear hbu'
      replace Xa : Hid _ := Xa.out.below hbC
      replace Xm : Hid _ := Xm.out.below hbC
      replace Xn : Hid _ := Xn.out.below hbC
      replace Xoff : Hid _ := Xoff.out.below hbC
      replace YA : Hid _ := YA.out.below hbC
      replace YB : Hid _ := YB.out.below hbC
      replace hbw := Below.on hbw hbC
      clear hbC
      have YC : Hid (ZR uC tC (some ⟨kC, 0, none⟩) nC ((ux h + ux l) * y - x)) := hzC
      have HLC : Hid (nC ≤ max nB m + 1) := hlC
      clear hzC hlC hgC
      refine hK _ _ ⟨Xa.out.c0, Xa.out.c1, Xm.out.c0, Xm.out.c1, Xn.out.c0, Xn.out.c1⟩ ?_
      clear hK
      refine wpJ_on 6 rfl fun KJ hK => ?_
      go_simp
      have HLT : Hid (goff < uC.heap.size) := Xoff.out.lt
      refine (rabs_d tC YC.out (by have := HLA.out; have := HLB.out; have := HLC.out; have := HM.out.1; have := HM.out.2.1; omega)).mono ?_
      rintro e9 uD ⟨v9, rfl, hv, hbD⟩
      obtain ⟨tD, kD, nD, rfl, hgD, hzD, hlD⟩ := hv
      have HGB : Hid (uC.heap.size ≤ kD) := hgD
      have hbu' := Below.on hbu hbD
      clear hbu
      have hbu := hbu'
      clear hbu'
      replace Xa : Hid _ := Xa.out.below hbD
      replace Xm : Hid _ := Xm.out.below hbD
      replace Xn : Hid _ := Xn.out.below hbD
      replace Xoff : Hid _ := Xoff.out.below hbD
      replace YA : Hid _ := YA.out.below hbD
      replace YB : Hid _ := YB.out.below hbD
      replace YC : Hid _ := YC.out.below hbD
      replace hbw := Below.on hbw hbD
      clear hbD
      have RR : Hid (ZR uD tD (some ⟨kD, 0, none⟩) nD ((((ux h + ux l) * y - x).natAbs : Int))) := hzD
      have HLD : Hid (nD ≤ nC) := hlD
      clear hzD hlD hgD
      clear YA
      clear YB
      clear YC
      have HND : Hid (nD ≤ 13000) := by have := HLA.out; have := HLB.out; have := HLC.out; have := HLD.out; have := HM.out.1; have := HM.out.2.1; show _ ≤ _; omega
      have HNE : Hid (kD ≠ goff) := by have h1 := HLT.out; have h2 := HGB.out; show _ ≠ _; omega
      refine hK _ _ ⟨Xa.out.c0, Xa.out.c1, Xm.out.c0, Xm.out.c1, Xn.out.c0, Xn.out.c1⟩ ?_
      clear hK
      obtain ⟨coff0, coff1, foff0, foff1⟩ := Xoff.out
      have hneoff := Xoff.out.lt
      obtain ⟨ca0, ca1, fa0, fa1⟩ := Xa.out
      have hnea := Xa.out.lt
      obtain ⟨cm0, cm1, fm0, fm1⟩ := Xm.out
      have hnem := Xm.out.lt
      obtain ⟨cn0, cn1, fn0, fn1⟩ := Xn.out
      have hnen := Xn.out.lt
      have qaa : ga ≠ goff := HDaoff.out
      have qba : goff ≠ ga := fun h => qaa h.symm
      have qam : gm ≠ goff := HDmoff.out
      have qbm : goff ≠ gm := fun h => qam h.symm
      have qan : gn ≠ goff := HDnoff.out
      have qbn : goff ≠ gn := fun h => qan h.symm
      refine wpJ_on 8 rfl fun KJ hK => ?_
      go_simp
      have HJ2 : Hid ((fun W' : World => W'.cell? ⟨ga, 0, none⟩ = some (.int .u64 (h : Int)) ∧ W'.cell? ⟨ga, 1, none⟩ = some (.int .u64 (l : Int)) ∧ W'.cell? ⟨gm, 0, none⟩ = some (.bool s) ∧ W'.cell? ⟨gm, 1, none⟩ = some (.slice p m m) ∧ W'.cell? ⟨gn, 0, none⟩ = some (.bool t) ∧ W'.cell? ⟨gn, 1, none⟩ = some (.slice q n n)) ((uD.setCell ⟨goff, 0, none⟩ (.bool tD)).setCell ⟨goff, 1, none⟩ (.slice (some ⟨kD, 0, none⟩) nD nD))) := ⟨by go_simp, by go_simp, by go_simp, by go_simp, by go_simp, by go_simp⟩
      have Xoff2 : Hid (Box ((uD.setCell ⟨goff, 0, none⟩ (.bool tD)).setCell ⟨goff, 1, none⟩ (.slice (some ⟨kD, 0, none⟩) nD nD)) goff (.bool tD) (.slice (some ⟨kD, 0, none⟩) nD nD)) := ⟨by go_simp, by go_simp, by go_simp, by go_simp⟩
      have Xa2 : Hid (Box ((uD.setCell ⟨goff, 0, none⟩ (.bool tD)).setCell ⟨goff, 1, none⟩ (.slice (some ⟨kD, 0, none⟩) nD nD)) ga (.int .u64 (h : Int)) (.int .u64 (l : Int))) := ⟨by go_simp, by go_simp, by go_simp, by go_simp⟩
      have Xm2 : Hid (Box ((uD.setCell ⟨goff, 0, none⟩ (.bool tD)).setCell ⟨goff, 1, none⟩ (.slice (some ⟨kD, 0, none⟩) nD nD)) gm (.bool s) (.slice p m m)) := ⟨by go_simp, by go_simp, by go_simp, by go_simp⟩
      have Xn2 : Hid (Box ((uD.setCell ⟨goff, 0, none⟩ (.bool tD)).setCell ⟨goff, 1, none⟩ (.slice (some ⟨kD, 0, none⟩) nD nD)) gn (.bool t) (.slice q n n)) := ⟨by go_simp, by go_simp, by go_simp, by go_simp⟩
      have RR2 : Hid (ZR ((uD.setCell ⟨goff, 0, none⟩ (.bool tD)).setCell ⟨goff, 1, none⟩ (.slice (some ⟨kD, 0, none⟩) nD nD)) tD (some ⟨kD, 0, none⟩) nD ((((ux h + ux l) * y - x).natAbs : Int))) := (RR.out.set _ _ _ HNE.out).set _ _ _ HNE.out
      have hbu2 : Below v1.heap.size v1 ((uD.setCell ⟨goff, 0, none⟩ (.bool tD)).setCell ⟨goff, 1, none⟩ (.slice (some ⟨kD, 0, none⟩) nD nD)) := bSet (bSet hbu _ _ _ HGU.out) _ _ _ HGU.out
      have hbw2 : Below w.heap.size w ((uD.setCell ⟨goff, 0, none⟩ (.bool tD)).setCell ⟨goff, 1, none⟩ (.slice (some ⟨kD, 0, none⟩) nD nD)) := bSet (bSet hbw _ _ _ HGoff.out) _ _ _ HGoff.out
      refine hK _ _ HJ2.out ?_
      clear hK HJ
      have HJ := HJ2
      clear HJ2
      refine wpJ_done (by kernel_rfl) ?_ _
      exact ⟨rfl, HRQ.out _ _ _ ⟨goff, tA, kA, nA, tB, kB, nB, tC, kC, nC, tD, kD, nD, by kernel_rfl, Xoff2.out, Xa2.out, Xm2.out, Xn2.out, RR2.out, HGoff.out, HDaoff.out, HDmoff.out, HDnoff.out, HND.out, hbu2, hbw2⟩⟩
theorem rpow2d (w : World) (k : Nat) (hk : k ≤ 524288) :
    Calls Tryz.prog 39 #[.int .i64 k] w fun e w' => ∃ p' m' zs, e = .returned (.slice p' m' m') ∧ At32 w' p' m' m' zs ∧ Nf B32 zs (2 ^ k) ∧ m' ≤ 40000 ∧ Below w.heap.size w w' := by
  have HK : Hid (k ≤ 524288) := hk
  clear hk
  have hbw : Below w.heap.size w w := Below.refl _ _
  go_enter Tryz.func39, Tryz.ntmps39
  go_wp2_with fail
  refine (rword 1 (by rw [B64_eq]; decide) _).mono ?_
  rintro e v4 ⟨g4, z4, rfl, hl4, hA4, hN4, hb4⟩
  replace hbw := Below.on hbw hb4
  clear hb4
  have A4 : Hid (At32 v4 (some ⟨g4, 0, none⟩) z4.length z4.length z4) := hA4
  have N4 : Hid (Nf B32 z4 1 ∧ z4.length ≤ 2) := ⟨hN4, hl4⟩
  clear hA4 hN4 hl4
  go_wp2_with fail
  refine (rshl_all A4.out N4.out.1 (by have := N4.out; omega) k (.inl HK.out)).mono ?_
  rintro e v5 ⟨p5, m5, z5, rfl, hA5, hN5, hl5, hb5⟩
  replace A4 : Hid _ := A4.out.below hb5
  replace hbw := Below.on hbw hb5
  clear hb5
  have A5 : Hid (At32 v5 p5 m5 m5 z5) := hA5
  have N5 : Hid (Nf B32 z5 (2 ^ k) ∧ m5 ≤ 40000) := ⟨by rw [Nat.one_mul] at hN5; exact hN5, hl5⟩
  clear hA5 hN5 hl5
  go_wp2_with fail
  go_ret
  exact ⟨p5, m5, z5, rfl, A5.out, N5.out.1, N5.out.2, hbw⟩
def OneE : Nat := 1074
theorem ddSub_f {h l h' l' : Nat} (d : DdF h l) (d' : DdF h' l') (k : h % 9223372036854775808 ≤ 5958262307011166208) (k' : h' % 9223372036854775808 ≤ 5958262307011166208) (w : World) :
    Calls Tryz.prog 67 #[.agg #[Fv h, Fv l], .agg #[Fv h', Fv l']] w fun en w' => ∃ s r, en = .returned (.agg #[Fv s, Fv r]) ∧ DdF s r ∧ 81129638414606681695789005144064 * (ux s + ux r - (ux h + ux l - (ux h' + ux l'))).natAbs ≤ 8 * (ux h + ux l - (ux h' + ux l')).natAbs ∧ Below w.heap.size w w' := by
  have hSF : ∀ (w : World) (a : Addr) (b : Nat), (store a (Fv b)).run Tryz.prog w = stored Tryz.prog w a (Fv b) .plain := stF
  have HD : Hid ((DdF h l ∧ DdF h' l') ∧ h % 9223372036854775808 ≤ 5958262307011166208 ∧ h' % 9223372036854775808 ≤ 5958262307011166208) := ⟨⟨d, d'⟩, k, k'⟩
  have HE : Hid (ux h + ux l + (ux (flipS h') + ux (flipS l')) = (ux h + ux l - (ux h' + ux l')) ∧ flipS h' % 9223372036854775808 ≤ 5958262307011166208 ∧ DdF (flipS h') (flipS l')) := ⟨by rw [(flip_ux d'.hi.lt).1, (flip_ux d'.lo.lt).1]; omega, by rw [(flip_ux d'.hi.lt).2.2]; exact k', d'.neg⟩
  clear d d' k k'
  go_enter Tryz.func67, Tryz.ntmps67
  go_wp2_with fail
  obtain ⟨W0, hW0⟩ : ∃ W0, W0 = (((w.alloc (.cells #[Fv h, Fv l] 32)).alloc (.cells #[Fv h', Fv l'] 32)).alloc (.cells #[Fv 0, Fv 0] 32)) := ⟨_, rfl⟩
  have Xa : Hid (Box W0 (w.heap.size) (Fv h) (Fv l)) := by rw [hW0]; exact ⟨by go_simp, by go_simp, by go_simp, by go_simp⟩
  have Xb : Hid (Box W0 (w.heap.size + 1) (Fv h') (Fv l')) := by rw [hW0]; exact ⟨by go_simp, by go_simp, by go_simp, by go_simp⟩
  have Xr : Hid (Box W0 (w.heap.size + 1 + 1) (Fv 0) (Fv 0)) := by rw [hW0]; exact ⟨by go_simp, by go_simp, by go_simp, by go_simp⟩
  have hb0 : Below w.heap.size w W0 := by rw [hW0]; exact below3 w _ _ _
  rw [← hW0]
  clear hW0
  have hbw : Below w.heap.size w w := Below.refl _ _
  obtain ⟨gr, hgr⟩ : ∃ g, g = w.heap.size + 1 + 1 := ⟨_, rfl⟩
  have HGr : Hid (w.heap.size ≤ gr) := by rw [hgr]; show _ ≤ _; omega
  rw [← hgr] at Xr
  try rw [← hgr]
  obtain ⟨gb, hgb⟩ : ∃ g, g = w.heap.size + 1 := ⟨_, rfl⟩
  have HGb : Hid (w.heap.size ≤ gb) := by rw [hgb]; show _ ≤ _; omega
  rw [← hgb] at Xb
  try rw [← hgb]
  obtain ⟨ga, hga⟩ : ∃ g, g = w.heap.size := ⟨_, rfl⟩
  have HGa : Hid (w.heap.size ≤ ga) := by rw [hga]; show _ ≤ _; omega
  rw [← hga] at Xa
  try rw [← hga]
  have HGD : Hid (ga ≠ gb ∧ ga ≠ gr ∧ gb ≠ ga ∧ gb ≠ gr ∧ gr ≠ ga ∧ gr ≠ gb) := by rw [hga, hgb, hgr]; exact ⟨by omega, by omega, by omega, by omega, by omega, by omega⟩
  clear hga hgb hgr
  replace hbw := Below.on hbw hb0
  clear hb0
  obtain ⟨V1, hV1⟩ : ∃ W1, W1 = W0.drew := ⟨_, rfl⟩
  have hbd : Below W0.heap.size W0 V1 := by rw [hV1]; exact bDrew1 (Below.refl _ _)
  replace Xa : Hid _ := Xa.out.below hbd
  replace Xb : Hid _ := Xb.out.below hbd
  replace Xr : Hid _ := Xr.out.below hbd
  replace hbw := Below.on hbw hbd
  clear hbd
  have HJ : Hid ((fun W' : World => W'.cell? ⟨ga, 0, none⟩ = some (Fv h) ∧ W'.cell? ⟨ga, 1, none⟩ = some (Fv l) ∧ W'.cell? ⟨gb, 0, none⟩ = some (Fv h') ∧ W'.cell? ⟨gb, 1, none⟩ = some (Fv l')) V1) := ⟨Xa.out.c0, Xa.out.c1, Xb.out.c0, Xb.out.c1⟩
  refine wp_region_J (fun W' => W'.cell? ⟨ga, 0, none⟩ = some (Fv h) ∧ W'.cell? ⟨ga, 1, none⟩ = some (Fv l) ∧ W'.cell? ⟨gb, 0, none⟩ = some (Fv h') ∧ W'.cell? ⟨gb, 1, none⟩ = some (Fv l')) (by kernel_rfl) ?_
  rw [← hV1]
  clear hV1
  refine wpJ_tq 0 rfl HJ.out ?_
  refine wpJ_tq 1 rfl HJ.out ?_
  refine wpJ_on 2 rfl fun KJ hK => ?_
  go_simp
  refine (ddneg h' l' HD.out.1.2.hi.lt HD.out.1.2.lo.lt _).mono ?_
  rintro e v2 ⟨rfl, hb2⟩
  replace Xa : Hid _ := Xa.out.below hb2
  replace Xb : Hid _ := Xb.out.below hb2
  replace Xr : Hid _ := Xr.out.below hb2
  replace hbw := Below.on hbw hb2
  clear hb2
  refine hK _ _ ⟨Xa.out.c0, Xa.out.c1, Xb.out.c0, Xb.out.c1⟩ ?_
  clear hK
  refine wpJ_on 3 rfl fun KJ hK => ?_
  go_simp
  refine (ddAdd_f HD.out.1.1 HE.out.2.2 HD.out.2.1 HE.out.2.1 _).mono ?_
  rintro e v9 ⟨s9, r9, rfl, hd9, hq9, hb9⟩
  rw [HE.out.1] at hq9
  have HR9 := Hid.mk9 (And.intro hd9 hq9)
  clear hd9 hq9
  replace Xa : Hid _ := Xa.out.below hb9
  replace Xb : Hid _ := Xb.out.below hb9
  replace Xr : Hid _ := Xr.out.below hb9
  replace hbw := Below.on hbw hb9
  clear hb9
  refine hK _ _ ⟨Xa.out.c0, Xa.out.c1, Xb.out.c0, Xb.out.c1⟩ ?_
  clear hK
  obtain ⟨cr0, cr1, fr0, fr1⟩ := Xr.out
  have hner := Xr.out.lt
  obtain ⟨ca0, ca1, fa0, fa1⟩ := Xa.out
  have hnea := Xa.out.lt
  obtain ⟨cb0, cb1, fb0, fb1⟩ := Xb.out
  have hneb := Xb.out.lt
  obtain ⟨hgd0, hgd1, hgd2, hgd3, hgd4, hgd5⟩ := HGD.out
  refine wpJ_on 4 rfl fun KJ hK => ?_
  go_simp
  have HJ2 : Hid ((fun W' : World => W'.cell? ⟨ga, 0, none⟩ = some (Fv h) ∧ W'.cell? ⟨ga, 1, none⟩ = some (Fv l) ∧ W'.cell? ⟨gb, 0, none⟩ = some (Fv h') ∧ W'.cell? ⟨gb, 1, none⟩ = some (Fv l')) ((v9.setCell ⟨gr, 0, none⟩ (Fv s9)).setCell ⟨gr, 1, none⟩ (Fv r9))) := ⟨by go_simp, by go_simp, by go_simp, by go_simp⟩
  refine hK _ _ HJ2.out ?_
  clear hK HJ
  have HJ := HJ2
  clear HJ2
  refine wpJ_done (by kernel_rfl) ?_ _
  clear HJ
  go_wp2_with fail
  refine bodyPost_ret (v := .agg #[Fv s9, Fv r9]) (by rw [results_cell1 rfl]; go_simp) rfl ⟨s9, r9, rfl, HR9.out.1, HR9.out.2, ?_⟩
  exact bSet (bSet (hbw) _ _ _ HGr.out) _ _ _ HGr.out
theorem one20 (w : World) :
    Calls Tryz.prog 16 #[] w fun en w' => ∃ v, en = .returned v ∧ GotR w.heap.size w' v (iv false (2 ^ OneE)) 40000 ∧ Below w.heap.size w w' := by
  go_enter Tryz.func16, Tryz.ntmps16
  go_wp2_with fail
  obtain ⟨W0, hW0⟩ : ∃ W0, W0 = (w.alloc (.cells #[.bool false, .slice none 0 0] 39)) := ⟨_, rfl⟩
  have Xr : Hid (Box W0 (w.heap.size) (.bool false) (.slice none 0 0)) := by rw [hW0]; exact ⟨by go_simp, by go_simp, by go_simp, by go_simp⟩
  have hb0 : Below w.heap.size w W0 := by rw [hW0]; exact below1 w _
  rw [← hW0]
  clear hW0
  have hbw : Below w.heap.size w w := Below.refl _ _
  obtain ⟨gr, hgr⟩ : ∃ g, g = w.heap.size := ⟨_, rfl⟩
  have HGr : Hid (w.heap.size ≤ gr) := by rw [hgr]; show _ ≤ _; omega
  rw [← hgr] at Xr
  try rw [← hgr]
  clear hgr
  replace hbw := Below.on hbw hb0
  clear hb0
  refine (rpow2d _ OneE (by decide)).mono ?_
  rintro e v1 ⟨p1, m1, z1, rfl, hA1, hN1, hl1, hb1⟩
  replace Xr : Hid _ := Xr.out.below hb1
  replace hbw := Below.on hbw hb1
  clear hb1
  have A1 : Hid (At32 v1 p1 m1 m1 z1) := hA1
  have N1 : Hid (Nf B32 z1 (2 ^ OneE) ∧ m1 ≤ 40000) := ⟨hN1, hl1⟩
  clear hA1 hN1 hl1
  obtain ⟨cr0, cr1, fr0, fr1⟩ := Xr.out
  have hner := Xr.out.lt
  go_wp2_with fail
  clear cr0 cr1 fr0 fr1 hner
  have HRB : Hid (gr < v1.heap.size ∧ w.heap.size ≤ v1.heap.size) := ⟨Xr.out.lt, hbw.size⟩
  refine (rmk_any false A1.out N1.out.1 (by have := N1.out.2; omega)).mono ?_
  rintro e v2 ⟨v, rfl, hv, hb2⟩
  obtain ⟨s2, g2, m2, rfl, hg2, hz2, hl2⟩ := hv
  have HN2 : Hid (v1.heap.size ≤ g2) := hg2
  have HB2 : Hid (v1.heap.size ≤ v2.heap.size) := hb2.size
  replace Xr : Hid _ := Xr.out.below hb2
  replace A1 : Hid _ := A1.out.below hb2
  replace hbw := Below.on hbw hb2
  clear hb2
  have Z2 : Hid (ZR v2 s2 (some ⟨g2, 0, none⟩) m2 (iv false (2 ^ OneE))) := hz2
  have HL2 : Hid (m2 ≤ m1) := hl2
  clear hz2 hl2 hg2
  obtain ⟨cr0, cr1, fr0, fr1⟩ := Xr.out
  have hner := Xr.out.lt
  go_wp2_with fail
  refine bodyPost_ret (v := .agg #[.bool s2, .slice (some ⟨g2, 0, none⟩) m2 m2]) (by rw [results_cell1 rfl]; go_simp) rfl ⟨_, rfl, ⟨s2, g2, m2, rfl, Nat.le_trans HRB.out.2 HN2.out, ?_, by have h1 := HL2.out; have h2 := N1.out.2; omega⟩, ?_⟩
  · have := HN2.out; have := HRB.out.1
    exact (Z2.out.set _ _ _ (by omega)).set _ _ _ (by omega)
  · exact bSet (bSet hbw _ _ _ HGr.out) _ _ _ HGr.out
theorem reckons_6 {ah al bh bl : Nat} (h1 : ah < 18446744073709551616) (h2 : al < 18446744073709551616) (h3 : bh < 18446744073709551616) (h4 : bl < 18446744073709551616) (w : World) :
    Calls Tryz.prog 44 #[.agg #[.int .i64 6, U ah, U al, U bh, U bl]] w fun en w' => en = .returned (.bool true) ∧ Below w.heap.size w w' := by
  have hSF : ∀ (w : World) (a : Addr) (b : Nat), (store a (Fv b)).run Tryz.prog w = stored Tryz.prog w a (Fv b) .plain := stF
  have HL : Hid (ah < 18446744073709551616 ∧ al < 18446744073709551616 ∧ bh < 18446744073709551616 ∧ bl < 18446744073709551616) := ⟨h1, h2, h3, h4⟩
  clear h1 h2 h3 h4
  go_enter Tryz.func44, Tryz.ntmps44
  go_wp2_with fail
  obtain ⟨W0, hW0⟩ : ∃ W0, W0 = (w.alloc (.cells #[.int .i64 6, U ah, U al, U bh, U bl] 48)) := ⟨_, rfl⟩
  have Xo : Hid (B5q W0 (w.heap.size) (.int .i64 6) (U ah) (U al) (U bh) (U bl)) := by rw [hW0]; exact ⟨by go_simp, by go_simp, by go_simp, by go_simp, by go_simp, by go_simp, by go_simp, by go_simp, by go_simp, by go_simp⟩
  have hb0 : Below w.heap.size w W0 := by rw [hW0]; exact below1 w _
  rw [← hW0]
  clear hW0
  have hbw : Below w.heap.size w w := Below.refl _ _
  obtain ⟨go, hgo⟩ : ∃ g, g = w.heap.size := ⟨_, rfl⟩
  have HGo : Hid (w.heap.size ≤ go) := by rw [hgo]; show _ ≤ _; omega
  rw [← hgo] at Xo
  try rw [← hgo]
  clear hgo
  replace hbw := Below.on hbw hb0
  clear hb0
  obtain ⟨co0, co1, co2, co3, co4, fo0, fo1, fo2, fo3, fo4⟩ := Xo.out
  have hneo : go < W0.heap.size := World.block_lt_of_cell? W0 _ co0
  go_wp2_with fail
  clear co0 co1 co2 co3 co4 fo0 fo1 fo2 fo3 fo4 hneo
  refine (fitfloat20 ah _).mono ?_
  rintro en v1 ⟨⟨r, rfl, hr⟩, hb1⟩
  replace Xo : Hid _ := Xo.out.below hb1
  replace hbw := Below.on hbw hb1
  clear hb1
  cases r
  · clear hr
    obtain ⟨co0, co1, co2, co3, co4, fo0, fo1, fo2, fo3, fo4⟩ := Xo.out
    have hneo : go < v1.heap.size := World.block_lt_of_cell? v1 _ co0
    go_wp2_with fail
    clear co0 co1 co2 co3 co4 fo0 fo1 fo2 fo3 fo4 hneo
    go_ret
    exact ⟨rfl, hbw⟩
  have HC1 := Hid.mk9 (hr rfl)
  clear hr
  obtain ⟨co0, co1, co2, co3, co4, fo0, fo1, fo2, fo3, fo4⟩ := Xo.out
  have hneo : go < v1.heap.size := World.block_lt_of_cell? v1 _ co0
  go_wp2_with fail
  clear co0 co1 co2 co3 co4 fo0 fo1 fo2 fo3 fo4 hneo
  refine (fitfloat20 bh _).mono ?_
  rintro en v2 ⟨⟨r, rfl, hr⟩, hb2⟩
  replace Xo : Hid _ := Xo.out.below hb2
  replace hbw := Below.on hbw hb2
  clear hb2
  cases r
  · clear hr
    obtain ⟨co0, co1, co2, co3, co4, fo0, fo1, fo2, fo3, fo4⟩ := Xo.out
    have hneo : go < v2.heap.size := World.block_lt_of_cell? v2 _ co0
    go_wp2_with fail
    clear co0 co1 co2 co3 co4 fo0 fo1 fo2 fo3 fo4 hneo
    go_ret
    exact ⟨rfl, hbw⟩
  have HC2 := Hid.mk9 (hr rfl)
  clear hr
  obtain ⟨co0, co1, co2, co3, co4, fo0, fo1, fo2, fo3, fo4⟩ := Xo.out
  have hneo : go < v2.heap.size := World.block_lt_of_cell? v2 _ co0
  go_wp2_with fail
  clear co0 co1 co2 co3 co4 fo0 fo1 fo2 fo3 fo4 hneo
  have hbu : Below v2.heap.size v2 v2 := Below.refl _ _
  obtain ⟨Wr, hWr⟩ : ∃ W1, W1 = v2.drew := ⟨_, rfl⟩
  have hbd : Below v2.heap.size v2 Wr := by rw [hWr]; exact bDrew1 (Below.refl _ _)
  have hbu' := Below.on hbu hbd
  clear hbu
  have hbu := hbu'
  clear hbu'
  replace Xo : Hid _ := Xo.out.below hbd
  replace hbw := Below.on hbw hbd
  clear hbd
  have HJ : Hid ((fun W' : World => W'.cell? ⟨go, 1, none⟩ = some (U ah) ∧ W'.cell? ⟨go, 3, none⟩ = some (U bh)) Wr) := ⟨Xo.out.c1, Xo.out.c3⟩
  refine wp_region_J (fun W' => W'.cell? ⟨go, 1, none⟩ = some (U ah) ∧ W'.cell? ⟨go, 3, none⟩ = some (U bh)) (by kernel_rfl) ?_
  rw [← hWr]
  clear hWr
  refine wpJ_tq 0 rfl HJ.out ?_
  refine wpJ_tq 1 rfl HJ.out ?_
  refine wpJ_tq 2 rfl HJ.out ?_
  refine wpJ_tq 4 rfl HJ.out ?_
  refine wpJ_tq 5 rfl HJ.out ?_
  refine wpJ_tq 6 rfl HJ.out ?_
  obtain ⟨RQ, HRQ, HRP⟩ : ∃ RQ : Act → Act → World → Prop, Hid (∀ a1 a2 a3, (fun a0 a' W' => ∃ ga s8 r8, a' = (((((a0.put (some 27) (Fv ah)).put (some 31) (Fv bh)).put (some 32) (.agg #[Fv s8, Fv r8])).put (some 33) (.agg #[U s8, U r8])).put (some 3) (.pointer (some ⟨ga, 0, none⟩))) ∧ Box W' ga (U s8) (U r8) ∧ B5q W' go (.int .i64 6) (U ah) (U al) (U bh) (U bl) ∧ w.heap.size ≤ ga ∧ go ≠ ga ∧ (DdF s8 r8 ∧ ux s8 + ux r8 = ux ah + ux bh) ∧ Below v2.heap.size v2 W' ∧ Below w.heap.size w W') a1 a2 a3 → RQ a1 a2 a3) ∧ Hid (∀ a1 a2 a3, RQ a1 a2 a3 → (fun a0 a' W' => ∃ ga s8 r8, a' = (((((a0.put (some 27) (Fv ah)).put (some 31) (Fv bh)).put (some 32) (.agg #[Fv s8, Fv r8])).put (some 33) (.agg #[U s8, U r8])).put (some 3) (.pointer (some ⟨ga, 0, none⟩))) ∧ Box W' ga (U s8) (U r8) ∧ B5q W' go (.int .i64 6) (U ah) (U al) (U bh) (U bl) ∧ w.heap.size ≤ ga ∧ go ≠ ga ∧ (DdF s8 r8 ∧ ux s8 + ux r8 = ux ah + ux bh) ∧ Below v2.heap.size v2 W' ∧ Below w.heap.size w W') a1 a2 a3) := ⟨_, fun _ _ _ h => h, fun _ _ _ h => h⟩
  refine wpJ_cutA RQ ?_ ?_
  · intro a' Wc hrq
    obtain ⟨ga, s8, r8, rfl, xbQ, xo, hg, hdo, hHQ, hbuc, hbc⟩ := HRP.out _ _ _ hrq
    clear hrq HRP HRQ
    clear hbw hbu HJ Xo
    have hbw := hbc
    have hbu := hbuc
    have Xa : Hid (Box Wc ga (U s8) (U r8)) := xbQ
    have Xo : Hid (B5q Wc go (.int .i64 6) (U ah) (U al) (U bh) (U bl)) := xo
    have HGa : Hid (w.heap.size ≤ ga) := hg
    have HDoa : Hid (go ≠ ga) := hdo
    have HQ : Hid (DdF s8 r8 ∧ ux s8 + ux r8 = ux ah + ux bh) := hHQ
    clear xbQ xo hg hdo hHQ hbuc hbc
    clear hbu
    obtain ⟨ca0, ca1, fa0, fa1⟩ := Xa.out
    have hnea := Xa.out.lt
    obtain ⟨co0, co1, co2, co3, co4, fo0, fo1, fo2, fo3, fo4⟩ := Xo.out
    have hneo : go < Wc.heap.size := World.block_lt_of_cell? Wc _ co0
    go_wp2_with fail
    clear ca0 ca1 fa0 fa1 hnea
    clear co0 co1 co2 co3 co4 fo0 fo1 fo2 fo3 fo4 hneo
    obtain ⟨Wy, hWy⟩ : ∃ W1, W1 = Wc.drew := ⟨_, rfl⟩
    have hbd : Below Wc.heap.size Wc Wy := by rw [hWy]; exact bDrew1 (Below.refl _ _)
    replace Xa : Hid _ := Xa.out.below hbd
    replace Xo : Hid _ := Xo.out.below hbd
    replace hbw := Below.on hbw hbd
    clear hbd
    have HJ : Hid ((fun W' : World => W'.cell? ⟨ga, 0, none⟩ = some (U s8) ∧ W'.cell? ⟨ga, 1, none⟩ = some (U r8) ∧ W'.cell? ⟨go, 1, none⟩ = some (U ah) ∧ W'.cell? ⟨go, 3, none⟩ = some (U bh)) Wy) := ⟨Xa.out.c0, Xa.out.c1, Xo.out.c1, Xo.out.c3⟩
    refine wp_region_J (fun W' => W'.cell? ⟨ga, 0, none⟩ = some (U s8) ∧ W'.cell? ⟨ga, 1, none⟩ = some (U r8) ∧ W'.cell? ⟨go, 1, none⟩ = some (U ah) ∧ W'.cell? ⟨go, 3, none⟩ = some (U bh)) (by kernel_rfl) ?_
    rw [← hWy]
    clear hWy
    refine wpJ_tq 0 rfl HJ.out ?_
    refine wpJ_tq 1 rfl HJ.out ?_
    refine wpJ_tq 2 rfl HJ.out ?_
    refine wpJ_tq 3 rfl HJ.out ?_
    refine wpJ_tq 5 rfl HJ.out ?_
    go_simp
    refine wpJ_tq 6 rfl HJ.out ?_
    refine wpJ_tq 7 rfl HJ.out ?_
    refine wpJ_on 4 rfl fun KJ hK => ?_
    go_simp
    refine (number20 _).mono ?_
    rintro e v1 ⟨v, rfl, hv, hb1⟩
    obtain ⟨s1, g1, m1, rfl, hg1, hz1, hl1⟩ := hv
    try clear hv
    have HN1 : Hid (Wy.heap.size ≤ g1) := hg1
    have HB1 : Hid (Wy.heap.size ≤ v1.heap.size) := hb1.size
    replace Xa : Hid _ := Xa.out.below hb1
    replace Xo : Hid _ := Xo.out.below hb1
    replace hbw := Below.on hbw hb1
    clear hb1
    have Z1 : Hid (ZR v1 s1 (some ⟨g1, 0, none⟩) m1 (ux ah)) := hz1
    have HL1 : Hid (m1 ≤ 2200) := hl1
    clear hz1 hl1 hg1
    refine hK _ _ ⟨Xa.out.c0, Xa.out.c1, Xo.out.c1, Xo.out.c3⟩ ?_
    clear hK
    refine wpJ_on 8 rfl fun KJ hK => ?_
    go_simp
    refine (number20 _).mono ?_
    rintro e v2 ⟨v, rfl, hv, hb2⟩
    obtain ⟨s2, g2, m2, rfl, hg2, hz2, hl2⟩ := hv
    try clear hv
    have HN2 : Hid (v1.heap.size ≤ g2) := hg2
    have HB2 : Hid (v1.heap.size ≤ v2.heap.size) := hb2.size
    replace Xa : Hid _ := Xa.out.below hb2
    replace Xo : Hid _ := Xo.out.below hb2
    replace Z1 : Hid _ := Z1.out.below hb2
    replace hbw := Below.on hbw hb2
    clear hb2
    have Z2 : Hid (ZR v2 s2 (some ⟨g2, 0, none⟩) m2 (ux bh)) := hz2
    have HL2 : Hid (m2 ≤ 2200) := hl2
    clear hz2 hl2 hg2
    refine hK _ _ ⟨Xa.out.c0, Xa.out.c1, Xo.out.c1, Xo.out.c3⟩ ?_
    clear hK
    refine wpJ_on 9 rfl fun KJ hK => ?_
    go_simp
    refine (radd04 s1 s2 Z1.out Z2.out (by have := HL1.out; omega) (by have := HL2.out; omega)).mono ?_
    rintro e v3 ⟨v, rfl, hv, hb3⟩
    obtain ⟨s3, g3, m3, rfl, hg3, hz3, hl3⟩ := hv
    try clear hv
    have HN3 : Hid (v2.heap.size ≤ g3) := hg3
    have HB3 : Hid (v2.heap.size ≤ v3.heap.size) := hb3.size
    replace Xa : Hid _ := Xa.out.below hb3
    replace Xo : Hid _ := Xo.out.below hb3
    replace Z1 : Hid _ := Z1.out.below hb3
    replace Z2 : Hid _ := Z2.out.below hb3
    replace hbw := Below.on hbw hb3
    clear hb3
    have Z3 : Hid (ZR v3 s3 (some ⟨g3, 0, none⟩) m3 (ux ah + ux bh)) := hz3
    have HL3 : Hid (m3 ≤ max m1 m2 + 1) := hl3
    clear hz3 hl3 hg3
    refine hK _ _ ⟨Xa.out.c0, Xa.out.c1, Xo.out.c1, Xo.out.c3⟩ ?_
    clear hK
    refine wpJ_on 10 rfl fun KJ hK => ?_
    go_simp
    refine (just20 HQ.out.1 Z3.out (by have := HL1.out; have := HL2.out; have := HL3.out; omega) HQ.out.2).mono ?_
    rintro e v5 ⟨rfl, hb5⟩
    replace Xa : Hid _ := Xa.out.below hb5
    replace Xo : Hid _ := Xo.out.below hb5
    replace Z1 : Hid _ := Z1.out.below hb5
    replace Z2 : Hid _ := Z2.out.below hb5
    replace Z3 : Hid _ := Z3.out.below hb5
    replace hbw := Below.on hbw hb5
    clear hb5
    clear HJ
    have HJ : Hid ((fun W' : World => W'.cell? ⟨ga, 0, none⟩ = some (U s8) ∧ W'.cell? ⟨ga, 1, none⟩ = some (U r8) ∧ W'.cell? ⟨go, 1, none⟩ = some (U ah) ∧ W'.cell? ⟨go, 3, none⟩ = some (U bh)) v5) := ⟨Xa.out.c0, Xa.out.c1, Xo.out.c1, Xo.out.c3⟩
    refine hK _ _ HJ.out ?_
    clear hK
    refine wpJ_tq 11 rfl HJ.out ?_
    refine wpJ_done (by kernel_rfl) ?_ _
    clear HJ
    go_wp2_with fail
    go_ret
    exact ⟨rfl, hbw⟩
  · skip
    refine wpJ_two (i := 3) (k := 10) (by kernel_rfl) rfl rfl (by kernel_rfl) (by kernel_rfl) (fun KJ hK => ?_) (fun KJ hK => ?_)
    · go_simp
      refine (lfloat ah _).mono ?_
      rintro e v9 ⟨rfl, hw⟩
      obtain rfl := hw.symm
      clear hw
      clear HJ
      have HJ : Hid ((fun W' : World => W'.cell? ⟨go, 1, none⟩ = some (U ah) ∧ W'.cell? ⟨go, 3, none⟩ = some (U bh)) Wr) := ⟨Xo.out.c1, Xo.out.c3⟩
      refine hK _ _ HJ.out ?_
      clear hK
      refine wpJ_two (i := 7) (k := 10) (by kernel_rfl) rfl rfl (by kernel_rfl) (by kernel_rfl) (fun KJ hK => ?_) (fun KJ hK => ?_)
      · go_simp
        refine (lfloat bh _).mono ?_
        rintro e v9 ⟨rfl, hw⟩
        obtain rfl := hw.symm
        clear hw
        clear HJ
        have HJ : Hid ((fun W' : World => W'.cell? ⟨go, 1, none⟩ = some (U ah) ∧ W'.cell? ⟨go, 3, none⟩ = some (U bh)) Wr) := ⟨Xo.out.c1, Xo.out.c3⟩
        refine hK _ _ HJ.out ?_
        clear hK
        refine wpJ_two (i := 8) (k := 10) (by kernel_rfl) rfl rfl (by kernel_rfl) (by kernel_rfl) (fun KJ hK => ?_) (fun KJ hK => ?_)
        · go_simp
          refine (ddSum_g ah bh _).mono ?_
          rintro e9 u8 ⟨s8, r8, rfl, hR8, hb8⟩
          have HQ : Hid (DdF s8 r8 ∧ ux s8 + ux r8 = ux ah + ux bh) := by
            have q := hR8.ok HL.out.1 HL.out.2.2.1 (BigU.sz (by have := fit_big HC1.out; omega)) (BigU.sz (by have := fit_big HC2.out; omega))
            exact ⟨DdF.of_sm q.1 q.2.1 q.2.2, q.2.2⟩
          clear hR8
          have hbu' := Below.on hbu hb8
          clear hbu
          have hbu := hbu'
          clear hbu'
          replace Xo : Hid _ := Xo.out.below hb8
          replace hbw := Below.on hbw hb8
          clear hb8
          clear HJ
          have HJ : Hid ((fun W' : World => W'.cell? ⟨go, 1, none⟩ = some (U ah) ∧ W'.cell? ⟨go, 3, none⟩ = some (U bh)) u8) := ⟨Xo.out.c1, Xo.out.c3⟩
          refine hK _ _ HJ.out ?_
          clear hK
          refine wpJ_two (i := 9) (k := 10) (by kernel_rfl) rfl rfl (by kernel_rfl) (by kernel_rfl) (fun KJ hK => ?_) (fun KJ hK => ?_)
          · go_simp
            refine (lbits s8 r8 _).mono ?_
            rintro e v9 ⟨rfl, hb9⟩
            have hbu' := Below.on hbu hb9
            clear hbu
            have hbu := hbu'
            clear hbu'
            replace Xo : Hid _ := Xo.out.below hb9
            replace hbw := Below.on hbw hb9
            clear hb9
            refine hK _ _ ⟨Xo.out.c1, Xo.out.c3⟩ ?_
            clear hK
            refine wpJ_on 10 rfl fun KJ hK => ?_
            go_simp
            have HDoa : Hid (go ≠ v9.heap.size) := Nat.ne_of_lt Xo.out.lt
            have HGU : Hid (v2.heap.size ≤ v9.heap.size) := hbu.size
            have Xa0 : Hid (Box (v9.alloc (.cells #[U 0, U 0] 28)) v9.heap.size (U 0) (U 0)) := Box.new v9 _ _ _
            have hbn : Below v9.heap.size v9 (v9.alloc (.cells #[U 0, U 0] 28)) := below1 v9 _
            generalize v9.alloc (.cells #[U 0, U 0] 28) = Wn at *
            have HGa : Hid (w.heap.size ≤ v9.heap.size) := hbw.size
            have hbu' := Below.on hbu hbn
            clear hbu
            have hbu := hbu'
            clear hbu'
            replace Xo : Hid _ := Xo.out.below hbn
            replace hbw := Below.on hbw hbn
            clear hbn
            generalize v9.heap.size = ga at *
            have Xa := Xa0
            clear Xa0
            refine hK _ _ ⟨Xo.out.c1, Xo.out.c3⟩ ?_
            clear hK
            obtain ⟨ca0, ca1, fa0, fa1⟩ := Xa.out
            have hnea := Xa.out.lt
            obtain ⟨co0, co1, co2, co3, co4, fo0, fo1, fo2, fo3, fo4⟩ := Xo.out
            have hneo : go < Wn.heap.size := World.block_lt_of_cell? Wn _ co0
            have qao : go ≠ ga := HDoa.out
            have qbo : ga ≠ go := fun h => qao h.symm
            refine wpJ_on 11 rfl fun KJ hK => ?_
            go_simp
            have HJ2 : Hid ((fun W' : World => W'.cell? ⟨go, 1, none⟩ = some (U ah) ∧ W'.cell? ⟨go, 3, none⟩ = some (U bh)) ((Wn.setCell ⟨ga, 0, none⟩ (U s8)).setCell ⟨ga, 1, none⟩ (U r8))) := ⟨by go_simp, by go_simp⟩
            have Xa2 : Hid (Box ((Wn.setCell ⟨ga, 0, none⟩ (U s8)).setCell ⟨ga, 1, none⟩ (U r8)) ga (U s8) (U r8)) := ⟨by go_simp, by go_simp, by go_simp, by go_simp⟩
            have Xo2 : Hid (B5q ((Wn.setCell ⟨ga, 0, none⟩ (U s8)).setCell ⟨ga, 1, none⟩ (U r8)) go (.int .i64 6) (U ah) (U al) (U bh) (U bl)) := ⟨by go_simp, by go_simp, by go_simp, by go_simp, by go_simp, by go_simp, by go_simp, by go_simp, by go_simp, by go_simp⟩
            have hbu2 : Below v2.heap.size v2 ((Wn.setCell ⟨ga, 0, none⟩ (U s8)).setCell ⟨ga, 1, none⟩ (U r8)) := bSet (bSet hbu _ _ _ HGU.out) _ _ _ HGU.out
            have hbw2 : Below w.heap.size w ((Wn.setCell ⟨ga, 0, none⟩ (U s8)).setCell ⟨ga, 1, none⟩ (U r8)) := bSet (bSet hbw _ _ _ HGa.out) _ _ _ HGa.out
            refine hK _ _ HJ2.out ?_
            clear hK HJ
            have HJ := HJ2
            clear HJ2
            refine wpJ_done (by kernel_rfl) ?_ _
            exact ⟨rfl, HRQ.out _ _ _ ⟨ga, s8, r8, by kernel_rfl, Xa2.out, Xo2.out, HGa.out, HDoa.out, HQ.out, hbu2, hbw2⟩⟩
          · go_simp
            have HDoa : Hid (go ≠ u8.heap.size) := Nat.ne_of_lt Xo.out.lt
            have HGU : Hid (v2.heap.size ≤ u8.heap.size) := hbu.size
            have Xa0 : Hid (Box (u8.alloc (.cells #[U 0, U 0] 28)) u8.heap.size (U 0) (U 0)) := Box.new u8 _ _ _
            have hbn : Below u8.heap.size u8 (u8.alloc (.cells #[U 0, U 0] 28)) := below1 u8 _
            generalize u8.alloc (.cells #[U 0, U 0] 28) = Wn at *
            have HGa : Hid (w.heap.size ≤ u8.heap.size) := hbw.size
            have hbu' := Below.on hbu hbn
            clear hbu
            have hbu := hbu'
            clear hbu'
            replace Xo : Hid _ := Xo.out.below hbn
            replace hbw := Below.on hbw hbn
            clear hbn
            generalize u8.heap.size = ga at *
            have Xa := Xa0
            clear Xa0
            refine hK _ _ ⟨Xo.out.c1, Xo.out.c3⟩ ?_
            clear hK
            refine wpJ_on 9 rfl fun KJ hK => ?_
            go_simp
            refine (lbits s8 r8 _).mono ?_
            rintro e v9 ⟨rfl, hb9⟩
            have hbu' := Below.on hbu hb9
            clear hbu
            have hbu := hbu'
            clear hbu'
            replace Xo : Hid _ := Xo.out.below hb9
            replace Xa : Hid _ := Xa.out.below hb9
            replace hbw := Below.on hbw hb9
            clear hb9
            refine hK _ _ ⟨Xo.out.c1, Xo.out.c3⟩ ?_
            clear hK
            obtain ⟨ca0, ca1, fa0, fa1⟩ := Xa.out
            have hnea := Xa.out.lt
            obtain ⟨co0, co1, co2, co3, co4, fo0, fo1, fo2, fo3, fo4⟩ := Xo.out
            have hneo : go < v9.heap.size := World.block_lt_of_cell? v9 _ co0
            have qao : go ≠ ga := HDoa.out
            have qbo : ga ≠ go := fun h => qao h.symm
            refine wpJ_on 11 rfl fun KJ hK => ?_
            go_simp
            have HJ2 : Hid ((fun W' : World => W'.cell? ⟨go, 1, none⟩ = some (U ah) ∧ W'.cell? ⟨go, 3, none⟩ = some (U bh)) ((v9.setCell ⟨ga, 0, none⟩ (U s8)).setCell ⟨ga, 1, none⟩ (U r8))) := ⟨by go_simp, by go_simp⟩
            have Xa2 : Hid (Box ((v9.setCell ⟨ga, 0, none⟩ (U s8)).setCell ⟨ga, 1, none⟩ (U r8)) ga (U s8) (U r8)) := ⟨by go_simp, by go_simp, by go_simp, by go_simp⟩
            have Xo2 : Hid (B5q ((v9.setCell ⟨ga, 0, none⟩ (U s8)).setCell ⟨ga, 1, none⟩ (U r8)) go (.int .i64 6) (U ah) (U al) (U bh) (U bl)) := ⟨by go_simp, by go_simp, by go_simp, by go_simp, by go_simp, by go_simp, by go_simp, by go_simp, by go_simp, by go_simp⟩
            have hbu2 : Below v2.heap.size v2 ((v9.setCell ⟨ga, 0, none⟩ (U s8)).setCell ⟨ga, 1, none⟩ (U r8)) := bSet (bSet hbu _ _ _ HGU.out) _ _ _ HGU.out
            have hbw2 : Below w.heap.size w ((v9.setCell ⟨ga, 0, none⟩ (U s8)).setCell ⟨ga, 1, none⟩ (U r8)) := bSet (bSet hbw _ _ _ HGa.out) _ _ _ HGa.out
            refine hK _ _ HJ2.out ?_
            clear hK HJ
            have HJ := HJ2
            clear HJ2
            refine wpJ_done (by kernel_rfl) ?_ _
            exact ⟨rfl, HRQ.out _ _ _ ⟨ga, s8, r8, by kernel_rfl, Xa2.out, Xo2.out, HGa.out, HDoa.out, HQ.out, hbu2, hbw2⟩⟩
        · go_simp
          have HDoa : Hid (go ≠ Wr.heap.size) := Nat.ne_of_lt Xo.out.lt
          have HGU : Hid (v2.heap.size ≤ Wr.heap.size) := hbu.size
          have Xa0 : Hid (Box (Wr.alloc (.cells #[U 0, U 0] 28)) Wr.heap.size (U 0) (U 0)) := Box.new Wr _ _ _
          have hbn : Below Wr.heap.size Wr (Wr.alloc (.cells #[U 0, U 0] 28)) := below1 Wr _
          generalize Wr.alloc (.cells #[U 0, U 0] 28) = Wn at *
          have HGa : Hid (w.heap.size ≤ Wr.heap.size) := hbw.size
          have hbu' := Below.on hbu hbn
          clear hbu
          have hbu := hbu'
          clear hbu'
          replace Xo : Hid _ := Xo.out.below hbn
          replace hbw := Below.on hbw hbn
          clear hbn
          generalize Wr.heap.size = ga at *
          have Xa := Xa0
          clear Xa0
          refine hK _ _ ⟨Xo.out.c1, Xo.out.c3⟩ ?_
          clear hK
          refine wpJ_on 8 rfl fun KJ hK => ?_
          go_simp
          refine (ddSum_g ah bh _).mono ?_
          rintro e9 u8 ⟨s8, r8, rfl, hR8, hb8⟩
          have HQ : Hid (DdF s8 r8 ∧ ux s8 + ux r8 = ux ah + ux bh) := by
            have q := hR8.ok HL.out.1 HL.out.2.2.1 (BigU.sz (by have := fit_big HC1.out; omega)) (BigU.sz (by have := fit_big HC2.out; omega))
            exact ⟨DdF.of_sm q.1 q.2.1 q.2.2, q.2.2⟩
          clear hR8
          have hbu' := Below.on hbu hb8
          clear hbu
          have hbu := hbu'
          clear hbu'
          replace Xo : Hid _ := Xo.out.below hb8
          replace Xa : Hid _ := Xa.out.below hb8
          replace hbw := Below.on hbw hb8
          clear hb8
          refine hK _ _ ⟨Xo.out.c1, Xo.out.c3⟩ ?_
          clear hK
          refine wpJ_on 9 rfl fun KJ hK => ?_
          go_simp
          refine (lbits s8 r8 _).mono ?_
          rintro e v9 ⟨rfl, hb9⟩
          have hbu' := Below.on hbu hb9
          clear hbu
          have hbu := hbu'
          clear hbu'
          replace Xo : Hid _ := Xo.out.below hb9
          replace Xa : Hid _ := Xa.out.below hb9
          replace hbw := Below.on hbw hb9
          clear hb9
          refine hK _ _ ⟨Xo.out.c1, Xo.out.c3⟩ ?_
          clear hK
          obtain ⟨ca0, ca1, fa0, fa1⟩ := Xa.out
          have hnea := Xa.out.lt
          obtain ⟨co0, co1, co2, co3, co4, fo0, fo1, fo2, fo3, fo4⟩ := Xo.out
          have hneo : go < v9.heap.size := World.block_lt_of_cell? v9 _ co0
          have qao : go ≠ ga := HDoa.out
          have qbo : ga ≠ go := fun h => qao h.symm
          refine wpJ_on 11 rfl fun KJ hK => ?_
          go_simp
          have HJ2 : Hid ((fun W' : World => W'.cell? ⟨go, 1, none⟩ = some (U ah) ∧ W'.cell? ⟨go, 3, none⟩ = some (U bh)) ((v9.setCell ⟨ga, 0, none⟩ (U s8)).setCell ⟨ga, 1, none⟩ (U r8))) := ⟨by go_simp, by go_simp⟩
          have Xa2 : Hid (Box ((v9.setCell ⟨ga, 0, none⟩ (U s8)).setCell ⟨ga, 1, none⟩ (U r8)) ga (U s8) (U r8)) := ⟨by go_simp, by go_simp, by go_simp, by go_simp⟩
          have Xo2 : Hid (B5q ((v9.setCell ⟨ga, 0, none⟩ (U s8)).setCell ⟨ga, 1, none⟩ (U r8)) go (.int .i64 6) (U ah) (U al) (U bh) (U bl)) := ⟨by go_simp, by go_simp, by go_simp, by go_simp, by go_simp, by go_simp, by go_simp, by go_simp, by go_simp, by go_simp⟩
          have hbu2 : Below v2.heap.size v2 ((v9.setCell ⟨ga, 0, none⟩ (U s8)).setCell ⟨ga, 1, none⟩ (U r8)) := bSet (bSet hbu _ _ _ HGU.out) _ _ _ HGU.out
          have hbw2 : Below w.heap.size w ((v9.setCell ⟨ga, 0, none⟩ (U s8)).setCell ⟨ga, 1, none⟩ (U r8)) := bSet (bSet hbw _ _ _ HGa.out) _ _ _ HGa.out
          refine hK _ _ HJ2.out ?_
          clear hK HJ
          have HJ := HJ2
          clear HJ2
          refine wpJ_done (by kernel_rfl) ?_ _
          exact ⟨rfl, HRQ.out _ _ _ ⟨ga, s8, r8, by kernel_rfl, Xa2.out, Xo2.out, HGa.out, HDoa.out, HQ.out, hbu2, hbw2⟩⟩
      · go_simp
        have HDoa : Hid (go ≠ Wr.heap.size) := Nat.ne_of_lt Xo.out.lt
        have HGU : Hid (v2.heap.size ≤ Wr.heap.size) := hbu.size
        have Xa0 : Hid (Box (Wr.alloc (.cells #[U 0, U 0] 28)) Wr.heap.size (U 0) (U 0)) := Box.new Wr _ _ _
        have hbn : Below Wr.heap.size Wr (Wr.alloc (.cells #[U 0, U 0] 28)) := below1 Wr _
        generalize Wr.alloc (.cells #[U 0, U 0] 28) = Wn at *
        have HGa : Hid (w.heap.size ≤ Wr.heap.size) := hbw.size
        have hbu' := Below.on hbu hbn
        clear hbu
        have hbu := hbu'
        clear hbu'
        replace Xo : Hid _ := Xo.out.below hbn
        replace hbw := Below.on hbw hbn
        clear hbn
        generalize Wr.heap.size = ga at *
        have Xa := Xa0
        clear Xa0
        refine hK _ _ ⟨Xo.out.c1, Xo.out.c3⟩ ?_
        clear hK
        refine wpJ_on 7 rfl fun KJ hK => ?_
        go_simp
        refine (lfloat bh _).mono ?_
        rintro e v9 ⟨rfl, hw⟩
        obtain rfl := hw.symm
        clear hw
        refine hK _ _ ⟨Xo.out.c1, Xo.out.c3⟩ ?_
        clear hK
        refine wpJ_on 8 rfl fun KJ hK => ?_
        go_simp
        refine (ddSum_g ah bh _).mono ?_
        rintro e9 u8 ⟨s8, r8, rfl, hR8, hb8⟩
        have HQ : Hid (DdF s8 r8 ∧ ux s8 + ux r8 = ux ah + ux bh) := by
          have q := hR8.ok HL.out.1 HL.out.2.2.1 (BigU.sz (by have := fit_big HC1.out; omega)) (BigU.sz (by have := fit_big HC2.out; omega))
          exact ⟨DdF.of_sm q.1 q.2.1 q.2.2, q.2.2⟩
        clear hR8
        have hbu' := Below.on hbu hb8
        clear hbu
        have hbu := hbu'
        clear hbu'
        replace Xo : Hid _ := Xo.out.below hb8
        replace Xa : Hid _ := Xa.out.below hb8
        replace hbw := Below.on hbw hb8
        clear hb8
        refine hK _ _ ⟨Xo.out.c1, Xo.out.c3⟩ ?_
        clear hK
        refine wpJ_on 9 rfl fun KJ hK => ?_
        go_simp
        refine (lbits s8 r8 _).mono ?_
        rintro e v9 ⟨rfl, hb9⟩
        have hbu' := Below.on hbu hb9
        clear hbu
        have hbu := hbu'
        clear hbu'
        replace Xo : Hid _ := Xo.out.below hb9
        replace Xa : Hid _ := Xa.out.below hb9
        replace hbw := Below.on hbw hb9
        clear hb9
        refine hK _ _ ⟨Xo.out.c1, Xo.out.c3⟩ ?_
        clear hK
        obtain ⟨ca0, ca1, fa0, fa1⟩ := Xa.out
        have hnea := Xa.out.lt
        obtain ⟨co0, co1, co2, co3, co4, fo0, fo1, fo2, fo3, fo4⟩ := Xo.out
        have hneo : go < v9.heap.size := World.block_lt_of_cell? v9 _ co0
        have qao : go ≠ ga := HDoa.out
        have qbo : ga ≠ go := fun h => qao h.symm
        refine wpJ_on 11 rfl fun KJ hK => ?_
        go_simp
        have HJ2 : Hid ((fun W' : World => W'.cell? ⟨go, 1, none⟩ = some (U ah) ∧ W'.cell? ⟨go, 3, none⟩ = some (U bh)) ((v9.setCell ⟨ga, 0, none⟩ (U s8)).setCell ⟨ga, 1, none⟩ (U r8))) := ⟨by go_simp, by go_simp⟩
        have Xa2 : Hid (Box ((v9.setCell ⟨ga, 0, none⟩ (U s8)).setCell ⟨ga, 1, none⟩ (U r8)) ga (U s8) (U r8)) := ⟨by go_simp, by go_simp, by go_simp, by go_simp⟩
        have Xo2 : Hid (B5q ((v9.setCell ⟨ga, 0, none⟩ (U s8)).setCell ⟨ga, 1, none⟩ (U r8)) go (.int .i64 6) (U ah) (U al) (U bh) (U bl)) := ⟨by go_simp, by go_simp, by go_simp, by go_simp, by go_simp, by go_simp, by go_simp, by go_simp, by go_simp, by go_simp⟩
        have hbu2 : Below v2.heap.size v2 ((v9.setCell ⟨ga, 0, none⟩ (U s8)).setCell ⟨ga, 1, none⟩ (U r8)) := bSet (bSet hbu _ _ _ HGU.out) _ _ _ HGU.out
        have hbw2 : Below w.heap.size w ((v9.setCell ⟨ga, 0, none⟩ (U s8)).setCell ⟨ga, 1, none⟩ (U r8)) := bSet (bSet hbw _ _ _ HGa.out) _ _ _ HGa.out
        refine hK _ _ HJ2.out ?_
        clear hK HJ
        have HJ := HJ2
        clear HJ2
        refine wpJ_done (by kernel_rfl) ?_ _
        exact ⟨rfl, HRQ.out _ _ _ ⟨ga, s8, r8, by kernel_rfl, Xa2.out, Xo2.out, HGa.out, HDoa.out, HQ.out, hbu2, hbw2⟩⟩
    · go_simp
      have HDoa : Hid (go ≠ Wr.heap.size) := Nat.ne_of_lt Xo.out.lt
      have HGU : Hid (v2.heap.size ≤ Wr.heap.size) := hbu.size
      have Xa0 : Hid (Box (Wr.alloc (.cells #[U 0, U 0] 28)) Wr.heap.size (U 0) (U 0)) := Box.new Wr _ _ _
      have hbn : Below Wr.heap.size Wr (Wr.alloc (.cells #[U 0, U 0] 28)) := below1 Wr _
      generalize Wr.alloc (.cells #[U 0, U 0] 28) = Wn at *
      have HGa : Hid (w.heap.size ≤ Wr.heap.size) := hbw.size
      have hbu' := Below.on hbu hbn
      clear hbu
      have hbu := hbu'
      clear hbu'
      replace Xo : Hid _ := Xo.out.below hbn
      replace hbw := Below.on hbw hbn
      clear hbn
      generalize Wr.heap.size = ga at *
      have Xa := Xa0
      clear Xa0
      refine hK _ _ ⟨Xo.out.c1, Xo.out.c3⟩ ?_
      clear hK
      refine wpJ_on 3 rfl fun KJ hK => ?_
      go_simp
      refine (lfloat ah _).mono ?_
      rintro e v9 ⟨rfl, hw⟩
      obtain rfl := hw.symm
      clear hw
      refine hK _ _ ⟨Xo.out.c1, Xo.out.c3⟩ ?_
      clear hK
      refine wpJ_on 7 rfl fun KJ hK => ?_
      go_simp
      refine (lfloat bh _).mono ?_
      rintro e v9 ⟨rfl, hw⟩
      obtain rfl := hw.symm
      clear hw
      refine hK _ _ ⟨Xo.out.c1, Xo.out.c3⟩ ?_
      clear hK
      refine wpJ_on 8 rfl fun KJ hK => ?_
      go_simp
      refine (ddSum_g ah bh _).mono ?_
      rintro e9 u8 ⟨s8, r8, rfl, hR8, hb8⟩
      have HQ : Hid (DdF s8 r8 ∧ ux s8 + ux r8 = ux ah + ux bh) := by
        have q := hR8.ok HL.out.1 HL.out.2.2.1 (BigU.sz (by have := fit_big HC1.out; omega)) (BigU.sz (by have := fit_big HC2.out; omega))
        exact ⟨DdF.of_sm q.1 q.2.1 q.2.2, q.2.2⟩
      clear hR8
      have hbu' := Below.on hbu hb8
      clear hbu
      have hbu := hbu'
      clear hbu'
      replace Xo : Hid _ := Xo.out.below hb8
      replace Xa : Hid _ := Xa.out.below hb8
      replace hbw := Below.on hbw hb8
      clear hb8
      refine hK _ _ ⟨Xo.out.c1, Xo.out.c3⟩ ?_
      clear hK
      refine wpJ_on 9 rfl fun KJ hK => ?_
      go_simp
      refine (lbits s8 r8 _).mono ?_
      rintro e v9 ⟨rfl, hb9⟩
      have hbu' := Below.on hbu hb9
      clear hbu
      have hbu := hbu'
      clear hbu'
      replace Xo : Hid _ := Xo.out.below hb9
      replace Xa : Hid _ := Xa.out.below hb9
      replace hbw := Below.on hbw hb9
      clear hb9
      refine hK _ _ ⟨Xo.out.c1, Xo.out.c3⟩ ?_
      clear hK
      obtain ⟨ca0, ca1, fa0, fa1⟩ := Xa.out
      have hnea := Xa.out.lt
      obtain ⟨co0, co1, co2, co3, co4, fo0, fo1, fo2, fo3, fo4⟩ := Xo.out
      have hneo : go < v9.heap.size := World.block_lt_of_cell? v9 _ co0
      have qao : go ≠ ga := HDoa.out
      have qbo : ga ≠ go := fun h => qao h.symm
      refine wpJ_on 11 rfl fun KJ hK => ?_
      go_simp
      have HJ2 : Hid ((fun W' : World => W'.cell? ⟨go, 1, none⟩ = some (U ah) ∧ W'.cell? ⟨go, 3, none⟩ = some (U bh)) ((v9.setCell ⟨ga, 0, none⟩ (U s8)).setCell ⟨ga, 1, none⟩ (U r8))) := ⟨by go_simp, by go_simp⟩
      have Xa2 : Hid (Box ((v9.setCell ⟨ga, 0, none⟩ (U s8)).setCell ⟨ga, 1, none⟩ (U r8)) ga (U s8) (U r8)) := ⟨by go_simp, by go_simp, by go_simp, by go_simp⟩
      have Xo2 : Hid (B5q ((v9.setCell ⟨ga, 0, none⟩ (U s8)).setCell ⟨ga, 1, none⟩ (U r8)) go (.int .i64 6) (U ah) (U al) (U bh) (U bl)) := ⟨by go_simp, by go_simp, by go_simp, by go_simp, by go_simp, by go_simp, by go_simp, by go_simp, by go_simp, by go_simp⟩
      have hbu2 : Below v2.heap.size v2 ((v9.setCell ⟨ga, 0, none⟩ (U s8)).setCell ⟨ga, 1, none⟩ (U r8)) := bSet (bSet hbu _ _ _ HGU.out) _ _ _ HGU.out
      have hbw2 : Below w.heap.size w ((v9.setCell ⟨ga, 0, none⟩ (U s8)).setCell ⟨ga, 1, none⟩ (U r8)) := bSet (bSet hbw _ _ _ HGa.out) _ _ _ HGa.out
      refine hK _ _ HJ2.out ?_
      clear hK HJ
      have HJ := HJ2
      clear HJ2
      refine wpJ_done (by kernel_rfl) ?_ _
      exact ⟨rfl, HRQ.out _ _ _ ⟨ga, s8, r8, by kernel_rfl, Xa2.out, Xo2.out, HGa.out, HDoa.out, HQ.out, hbu2, hbw2⟩⟩
end Go.Proofs.YtcibiadpdcncmaaGreatDoor
