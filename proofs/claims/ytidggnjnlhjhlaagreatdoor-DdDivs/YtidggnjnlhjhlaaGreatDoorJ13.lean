import Derived.Test.YtidggnjnlhjhlaaGreatDoorJ12
import Derived.Test.YtidggnjnlhjhlaaGreatDoorJ11
import Derived.Deep.LoopGhost
import Derived.Test.YtidggnjnlhjhlaaGreatDoorOpenS
import Derived.Deep.Slices
import Derived.Test.YtidggnjnlhjhlaaGreatDoorJ8
namespace Go.Proofs.YtidggnjnlhjhlaaGreatDoor
open Go.RowKit Go.Shelf
set_option maxRecDepth 20000
set_option maxHeartbeats 0
theorem told_ddf {h l : Nat} (d : DdF h l) (h0 : ux h + ux l ≠ 0) : toldN (ux h + ux l) ((ux h + ux l).natAbs * 2 ^ 0) = h := by
  rw [Nat.pow_zero, Nat.mul_one]
  have hlt := d.hi.lt
  have hrn := rn_rel d.rn
  have hne : ux h ≠ 0 := fun k => by rw [k] at hrn; omega
  have he := d.eq
  have hf := d.fit
  unfold rv at he
  unfold toldN
  generalize rg 0 (ux h + ux l).natAbs = r at he hf ⊢
  have hux := ux_eq h
  have hinj : ∀ {a b : Nat}, vs 4503599627370496 a = vs 4503599627370496 b → a = b := fun {a b} e => by
    rcases Nat.lt_trichotomy a b with k | k | k
    · have := vs_mono (H := 4503599627370496) (by decide) k; omega
    · exact k
    · have := vs_mono (H := 4503599627370496) (by decide) k; omega
  by_cases hneg : ux h + ux l < 0
  · rw [if_pos hneg] at he ⊢
    by_cases hs : 9223372036854775808 ≤ h
    · rw [if_pos hs] at hux
      have := hinj (a := r) (b := h % 9223372036854775808) (by omega)
      omega
    · rw [if_neg hs] at hux
      exact absurd (show ux h = 0 by omega) hne
  · rw [if_neg hneg] at he ⊢
    by_cases hs : 9223372036854775808 ≤ h
    · rw [if_pos hs] at hux
      exact absurd (show ux h = 0 by omega) hne
    · rw [if_neg hs] at hux
      have := hinj (a := r) (b := h % 9223372036854775808) (by omega)
      omega
theorem ddf_z {h l : Nat} (d : DdF h l) (h0 : ux h + ux l = 0) : h % 9223372036854775808 = 0 := by
  refine sz_0 ?_
  have he := d.eq
  rw [h0] at he
  rw [← he]; decide
theorem rabs_d {p : Option Addr} {m : Nat} {w : World} {z : Int} (s : Bool) (h : ZR w s p m z) (hm : m ≤ 100000) :
    Calls Tryz.prog 128 #[.agg #[.bool s, .slice p m m]] w fun en w' => ∃ v, en = .returned v ∧ GotR w.heap.size w' v (z.natAbs : Int) m ∧ Below w.heap.size w w' := by
  have HA : Hid (ZR w s p m z) := h
  have HM : Hid (m ≤ 100000) := hm
  clear h hm
  go_enter Tryz.func128, Tryz.ntmps128
  go_wp2_with fail
  obtain ⟨W0, hW0⟩ : ∃ W0, W0 = ((w.alloc (.cells #[.bool s, .slice p m m] 87)).alloc (.cells #[.bool false, .slice none 0 0] 87)) := ⟨_, rfl⟩
  have Xa : Hid (Box W0 (w.heap.size) (.bool s) (.slice p m m)) := by rw [hW0]; exact ⟨by go_simp, by go_simp, by go_simp, by go_simp⟩
  have Xr : Hid (Box W0 (w.heap.size + 1) (.bool false) (.slice none 0 0)) := by rw [hW0]; exact ⟨by go_simp, by go_simp, by go_simp, by go_simp⟩
  have hb0 : Below w.heap.size w W0 := by rw [hW0]; exact below2 w _ _
  rw [← hW0]
  clear hW0
  have hbw : Below w.heap.size w w := Below.refl _ _
  obtain ⟨gr, hgr⟩ : ∃ g, g = w.heap.size + 1 := ⟨_, rfl⟩
  have HGr : Hid (w.heap.size ≤ gr) := by rw [hgr]; show _ ≤ _; omega
  rw [← hgr] at Xr
  try rw [← hgr]
  obtain ⟨ga, hga⟩ : ∃ g, g = w.heap.size := ⟨_, rfl⟩
  have HGa : Hid (w.heap.size ≤ ga) := by rw [hga]; show _ ≤ _; omega
  rw [← hga] at Xa
  try rw [← hga]
  have HGD : Hid (ga ≠ gr ∧ gr ≠ ga) := by rw [hga, hgr]; exact ⟨by omega, by omega⟩
  clear hga hgr
  replace HA : Hid _ := HA.out.below hb0
  replace hbw := Below.on hbw hb0
  clear hb0
  obtain ⟨zs, hA, hN⟩ := HA.out.ex
  have HRL : Hid (gr < W0.heap.size) := Xr.out.lt
  have hiv : iv false z.natAbs = (z.natAbs : Int) := rfl
  refine (rmk_any false hA hN (by have := HM.out; omega)).mono ?_
  rintro e w1 ⟨v, rfl, hv, hb1⟩
  rw [hiv] at hv
  obtain ⟨s1, g1, m1, rfl, hg1, hz1, hl1⟩ := hv
  clear hA hN hiv
  have HGE : Hid (W0.heap.size ≤ g1 ∧ w.heap.size ≤ W0.heap.size) := ⟨hg1, hbw.size⟩
  replace Xa : Hid _ := Xa.out.below hb1
  replace Xr : Hid _ := Xr.out.below hb1
  replace HA : Hid _ := HA.out.below hb1
  replace hbw := Below.on hbw hb1
  clear hb1
  have ZA : Hid (ZR w1 s1 (some ⟨g1, 0, none⟩) m1 (z.natAbs : Int)) := hz1
  have HL : Hid (m1 ≤ m) := hl1
  clear hg1 hz1 hl1
  obtain ⟨cr0, cr1, fr0, fr1⟩ := Xr.out
  have hner := Xr.out.lt
  go_wp2_with fail
  refine bodyPost_ret (v := .agg #[.bool s1, .slice (some ⟨g1, 0, none⟩) m1 m1]) (by rw [results_cell1 rfl]; go_simp) rfl ⟨_, rfl, ⟨s1, g1, m1, rfl, ?_, ?_, HL.out⟩, ?_⟩
  · exact Nat.le_trans HGE.out.2 HGE.out.1
  · have := HGE.out.1; have := HRL.out
    exact (ZA.out.set _ _ _ (by omega)).set _ _ _ (by omega)
  · exact bSet (bSet hbw _ _ _ HGr.out) _ _ _ HGr.out
theorem docform20t {h l : Nat} (d : DdF h l) (w : World) :
    Calls Tryz.prog 39 #[.agg #[.int .u64 (h : Int), .int .u64 (l : Int)]] w fun en w' => en = .returned (.bool true) ∧ Below w.heap.size w w' := by
  have HDF := Hid.mk9 d
  have f1 := d.hi.fin
  have f2 := d.lo.fin
  clear d
  go_enter Tryz.func39, Tryz.ntmps39
  go_wp2_with fail
  obtain ⟨W0, hW0⟩ : ∃ W0, W0 = (w.alloc (.cells #[.int .u64 (h : Int), .int .u64 (l : Int)] 28)) := ⟨_, rfl⟩
  have Xa : Hid (Box W0 (w.heap.size) (.int .u64 (h : Int)) (.int .u64 (l : Int))) := by rw [hW0]; exact ⟨by go_simp, by go_simp, by go_simp, by go_simp⟩
  have hb0 : Below w.heap.size w W0 := by rw [hW0]; exact below1 w _
  rw [← hW0]
  clear hW0
  have hbw : Below w.heap.size w w := Below.refl _ _
  obtain ⟨ga, hga⟩ : ∃ g, g = w.heap.size := ⟨_, rfl⟩
  have HGa : Hid (w.heap.size ≤ ga) := by rw [hga]; show _ ≤ _; omega
  rw [← hga] at Xa
  try rw [← hga]
  clear hga
  replace hbw := Below.on hbw hb0
  clear hb0
  obtain ⟨ca0, ca1, fa0, fa1⟩ := Xa.out
  have hnea := Xa.out.lt
  go_wp2_with fail
  clear ca0 ca1 fa0 fa1 hnea
  refine (finite20 h _).mono ?_
  rintro e9 v9 ⟨rfl, hw⟩
  obtain rfl := hw.symm
  clear hw
  rw [decide_eq_true f1]
  obtain ⟨ca0, ca1, fa0, fa1⟩ := Xa.out
  have hnea := Xa.out.lt
  go_wp2_with fail
  clear ca0 ca1 fa0 fa1 hnea
  refine (finite20 l _).mono ?_
  rintro e9 v9 ⟨rfl, hw⟩
  obtain rfl := hw.symm
  clear hw
  rw [decide_eq_true f2]
  obtain ⟨ca0, ca1, fa0, fa1⟩ := Xa.out
  have hnea := Xa.out.lt
  go_wp2_with fail
  clear ca0 ca1 fa0 fa1 hnea
  refine (sum20 _).mono ?_
  rintro e v1 ⟨v, rfl, hv, hb1⟩
  obtain ⟨s1, g1, m1, rfl, hg1, hz1, hl1⟩ := hv
  try clear hv
  have HN1 : Hid (W0.heap.size ≤ g1) := hg1
  have HB1 : Hid (W0.heap.size ≤ v1.heap.size) := hb1.size
  replace Xa : Hid _ := Xa.out.below hb1
  replace hbw := Below.on hbw hb1
  clear hb1
  have Z1 : Hid (ZR v1 s1 (some ⟨g1, 0, none⟩) m1 (ux h + ux l)) := hz1
  have HL1 : Hid (m1 ≤ 2201) := hl1
  clear hz1 hl1 hg1
  go_wp2_with fail
  have Xs0 : Hid (Box (v1.alloc (.cells #[.bool s1, .slice (some ⟨g1, 0, none⟩) m1 m1] 87)) v1.heap.size (.bool s1) (.slice (some ⟨g1, 0, none⟩) m1 m1)) := Box.new v1 _ _ _
  have hbn : Below v1.heap.size v1 (v1.alloc (.cells #[.bool s1, .slice (some ⟨g1, 0, none⟩) m1 m1] 87)) := below1 v1 _
  generalize v1.alloc (.cells #[.bool s1, .slice (some ⟨g1, 0, none⟩) m1 m1] 87) = Ws at *
  have HGs : Hid (w.heap.size ≤ v1.heap.size) := hbw.size
  replace Xa : Hid _ := Xa.out.below hbn
  replace Z1 : Hid _ := Z1.out.below hbn
  replace hbw := Below.on hbw hbn
  clear hbn
  generalize v1.heap.size = gs at *
  have Xs := Xs0
  clear Xs0
  obtain ⟨cs0, cs1, fs0, fs1⟩ := Xs.out
  have hnes := Xs.out.lt
  go_wp2_with fail
  clear cs0 cs1 fs0 fs1 hnes
  refine (rsign04 s1 Z1.out).mono ?_
  rintro e v2 ⟨rfl, hb2⟩
  replace Xa : Hid _ := Xa.out.below hb2
  replace Xs : Hid _ := Xs.out.below hb2
  replace Z1 : Hid _ := Z1.out.below hb2
  replace hbw := Below.on hbw hb2
  clear hb2
  by_cases h0 : ux h + ux l = 0
  · rw [show sgnI (ux h + ux l) = 0 by rw [h0]; rfl]
    have H0 := Hid.mk9 h0
    clear h0
    obtain ⟨ca0, ca1, fa0, fa1⟩ := Xa.out
    have hnea := Xa.out.lt
    go_wp2_with fail
    clear ca0 ca1 fa0 fa1 hnea
    refine (nought20 h _).mono ?_
    rintro e9 v9 ⟨rfl, hw⟩
    obtain rfl := hw.symm
    clear hw
    rw [decide_eq_true (ddf_z HDF.out H0.out)]
    go_wp2_with fail
    go_ret
    exact ⟨rfl, hbw⟩
  have hs9 : (sgnI (ux h + ux l) == 0) = false := by
    rcases Int.lt_trichotomy (ux h + ux l) 0 with q | q | q
    · rw [show sgnI (ux h + ux l) = -1 from if_pos q]; rfl
    · exact absurd q h0
    · rw [show sgnI (ux h + ux l) = 1 by unfold sgnI; rw [if_neg (by omega), if_neg (by omega)]]; rfl
  obtain ⟨sg, hsg⟩ : ∃ sg, sg = sgnI (ux h + ux l) := ⟨_, rfl⟩
  rw [← hsg] at hs9 ⊢
  clear hsg
  have H0 := Hid.mk9 h0
  clear h0
  go_wp2_with fail
  obtain ⟨V7, hV7⟩ : ∃ W1, W1 = v2.drew := ⟨_, rfl⟩
  have hbd : Below v2.heap.size v2 V7 := by rw [hV7]; exact bDrew1 (Below.refl _ _)
  replace Xa : Hid _ := Xa.out.below hbd
  replace Xs : Hid _ := Xs.out.below hbd
  replace Z1 : Hid _ := Z1.out.below hbd
  replace hbw := Below.on hbw hbd
  clear hbd
  have HJ : Hid ((fun W' : World => W'.cell? ⟨gs, 0, none⟩ = some (.bool s1) ∧ W'.cell? ⟨gs, 1, none⟩ = some (.slice (some ⟨g1, 0, none⟩) m1 m1) ∧ W'.cell? ⟨ga, 0, none⟩ = some (.int .u64 (h : Int))) V7) := ⟨Xs.out.c0, Xs.out.c1, Xa.out.c0⟩
  refine wp_region_J (fun W' => W'.cell? ⟨gs, 0, none⟩ = some (.bool s1) ∧ W'.cell? ⟨gs, 1, none⟩ = some (.slice (some ⟨g1, 0, none⟩) m1 m1) ∧ W'.cell? ⟨ga, 0, none⟩ = some (.int .u64 (h : Int))) (by kernel_rfl) ?_
  rw [← hV7]
  clear hV7
  refine wpJ_tq 0 rfl HJ.out ?_
  refine wpJ_tq 2 rfl HJ.out ?_
  refine wpJ_tq 3 rfl HJ.out ?_
  refine wpJ_on 1 rfl fun KJ hK => ?_
  go_simp
  refine (told_a s1 Z1.out (by have := HL1.out; omega) H0.out (-1074) (by decide) (ux_bits h l) rfl).mono ?_
  rintro e v3 ⟨rfl, hb3⟩
  rw [show ((-1074 : Int) + 1074).toNat = 0 from rfl, told_ddf HDF.out H0.out]
  replace Xa : Hid _ := Xa.out.below hb3
  replace Xs : Hid _ := Xs.out.below hb3
  replace Z1 : Hid _ := Z1.out.below hb3
  replace hbw := Below.on hbw hb3
  clear hb3
  clear HJ
  have HJ : Hid ((fun W' : World => W'.cell? ⟨gs, 0, none⟩ = some (.bool s1) ∧ W'.cell? ⟨gs, 1, none⟩ = some (.slice (some ⟨g1, 0, none⟩) m1 m1) ∧ W'.cell? ⟨ga, 0, none⟩ = some (.int .u64 (h : Int))) v3) := ⟨Xs.out.c0, Xs.out.c1, Xa.out.c0⟩
  refine hK _ _ HJ.out ?_
  clear hK
  refine wpJ_tq 4 rfl HJ.out ?_
  refine wpJ_tq 5 rfl HJ.out ?_
  go_simp
  refine wpJ_done (by kernel_rfl) ?_ _
  clear HJ
  go_wp2_with fail
  have hself : ((h : Int) == (h : Int)) = true := beq_self_eq_true _
  go_ret
  exact ⟨by first | rfl | rw [hself] | simp, hbw⟩
theorem near20 {h l : Nat} (d : DdF h l) {p q : Option Addr} {m n k : Nat} {s t : Bool} {x y : Int} {w : World} (hx : ZR w s p m x) (hy : ZR w t q n y) (hm : m ≤ 10000) (hn : n ≤ 10000) (hk : k ≤ 1000) (hb : ((ux h + ux l) * y - x).natAbs * 2 ^ k ≤ x.natAbs) :
    Calls Tryz.prog 95 #[.agg #[.int .u64 (h : Int), .int .u64 (l : Int)], .agg #[.bool s, .slice p m m], .agg #[.bool t, .slice q n n], .int .i64 k] w fun en w' => en = .returned (.bool true) ∧ Below w.heap.size w w' := by
  have HDF := Hid.mk9 d
  have HA : Hid (ZR w s p m x) := hx
  have HB : Hid (ZR w t q n y) := hy
  have HM : Hid (m ≤ 10000 ∧ n ≤ 10000 ∧ k ≤ 1000 ∧ ((ux h + ux l) * y - x).natAbs * 2 ^ k ≤ x.natAbs) := ⟨hm, hn, hk, hb⟩
  clear d hx hy hm hn hk hb
  go_enter Tryz.func95, Tryz.ntmps95
  go_wp2_with fail
  obtain ⟨W0, hW0⟩ : ∃ W0, W0 = (((w.alloc (.cells #[.int .u64 (h : Int), .int .u64 (l : Int)] 28)).alloc (.cells #[.bool s, .slice p m m] 87)).alloc (.cells #[.bool t, .slice q n n] 87)) := ⟨_, rfl⟩
  have Xa : Hid (Box W0 (w.heap.size) (.int .u64 (h : Int)) (.int .u64 (l : Int))) := by rw [hW0]; exact ⟨by go_simp, by go_simp, by go_simp, by go_simp⟩
  have Xm : Hid (Box W0 (w.heap.size + 1) (.bool s) (.slice p m m)) := by rw [hW0]; exact ⟨by go_simp, by go_simp, by go_simp, by go_simp⟩
  have Xn : Hid (Box W0 (w.heap.size + 1 + 1) (.bool t) (.slice q n n)) := by rw [hW0]; exact ⟨by go_simp, by go_simp, by go_simp, by go_simp⟩
  have hb0 : Below w.heap.size w W0 := by rw [hW0]; exact below3 w _ _ _
  rw [← hW0]
  clear hW0
  have hbw : Below w.heap.size w w := Below.refl _ _
  obtain ⟨gn, hgn⟩ : ∃ g, g = w.heap.size + 1 + 1 := ⟨_, rfl⟩
  have HGn : Hid (w.heap.size ≤ gn) := by rw [hgn]; show _ ≤ _; omega
  rw [← hgn] at Xn
  try rw [← hgn]
  obtain ⟨gm, hgm⟩ : ∃ g, g = w.heap.size + 1 := ⟨_, rfl⟩
  have HGm : Hid (w.heap.size ≤ gm) := by rw [hgm]; show _ ≤ _; omega
  rw [← hgm] at Xm
  try rw [← hgm]
  obtain ⟨ga, hga⟩ : ∃ g, g = w.heap.size := ⟨_, rfl⟩
  have HGa : Hid (w.heap.size ≤ ga) := by rw [hga]; show _ ≤ _; omega
  rw [← hga] at Xa
  try rw [← hga]
  have HGD : Hid (ga ≠ gm ∧ ga ≠ gn ∧ gm ≠ ga ∧ gm ≠ gn ∧ gn ≠ ga ∧ gn ≠ gm) := by rw [hga, hgm, hgn]; exact ⟨by omega, by omega, by omega, by omega, by omega, by omega⟩
  clear hga hgm hgn
  replace HA : Hid _ := HA.out.below hb0
  replace HB : Hid _ := HB.out.below hb0
  replace hbw := Below.on hbw hb0
  clear hb0
  obtain ⟨ca0, ca1, fa0, fa1⟩ := Xa.out
  have hnea := Xa.out.lt
  go_wp2_with fail
  clear ca0 ca1 fa0 fa1 hnea
  refine (docform20t HDF.out _).mono ?_
  rintro e v1 ⟨rfl, hb1⟩
  replace Xa : Hid _ := Xa.out.below hb1
  replace Xm : Hid _ := Xm.out.below hb1
  replace Xn : Hid _ := Xn.out.below hb1
  replace HA : Hid _ := HA.out.below hb1
  replace HB : Hid _ := HB.out.below hb1
  replace hbw := Below.on hbw hb1
  clear hb1
  obtain ⟨ca0, ca1, fa0, fa1⟩ := Xa.out
  have hnea := Xa.out.lt
  obtain ⟨cm0, cm1, fm0, fm1⟩ := Xm.out
  have hnem := Xm.out.lt
  obtain ⟨cn0, cn1, fn0, fn1⟩ := Xn.out
  have hnen := Xn.out.lt
  go_wp2_with fail
  clear ca0 ca1 fa0 fa1 hnea
  clear cm0 cm1 fm0 fm1 hnem
  clear cn0 cn1 fn0 fn1 hnen
  have HAu : Hid (ZR v1 s p m x) := HA.out
  have HBu : Hid (ZR v1 t q n y) := HB.out
  have hbu : Below v1.heap.size v1 v1 := Below.refl _ _
  clear HA
  clear HB
  obtain ⟨Wr, hWr⟩ : ∃ W1, W1 = v1.drew := ⟨_, rfl⟩
  have hbd : Below v1.heap.size v1 Wr := by rw [hWr]; exact bDrew1 (Below.refl _ _)
  have hbu' := Below.on hbu hbd
  clear hbu
  have hbu := hbu'
  clear hbu'
  replace Xa : Hid _ := Xa.out.below hbd
  replace Xm : Hid _ := Xm.out.below hbd
  replace Xn : Hid _ := Xn.out.below hbd
  replace hbw := Below.on hbw hbd
  clear hbd
  have HJ : Hid ((fun W' : World => W'.cell? ⟨ga, 0, none⟩ = some (.int .u64 (h : Int)) ∧ W'.cell? ⟨ga, 1, none⟩ = some (.int .u64 (l : Int)) ∧ W'.cell? ⟨gm, 0, none⟩ = some (.bool s) ∧ W'.cell? ⟨gm, 1, none⟩ = some (.slice p m m) ∧ W'.cell? ⟨gn, 0, none⟩ = some (.bool t) ∧ W'.cell? ⟨gn, 1, none⟩ = some (.slice q n n)) Wr) := ⟨Xa.out.c0, Xa.out.c1, Xm.out.c0, Xm.out.c1, Xn.out.c0, Xn.out.c1⟩
  refine wp_region_J (fun W' => W'.cell? ⟨ga, 0, none⟩ = some (.int .u64 (h : Int)) ∧ W'.cell? ⟨ga, 1, none⟩ = some (.int .u64 (l : Int)) ∧ W'.cell? ⟨gm, 0, none⟩ = some (.bool s) ∧ W'.cell? ⟨gm, 1, none⟩ = some (.slice p m m) ∧ W'.cell? ⟨gn, 0, none⟩ = some (.bool t) ∧ W'.cell? ⟨gn, 1, none⟩ = some (.slice q n n)) (by kernel_rfl) ?_
  rw [← hWr]
  clear hWr
  refine wpJ_tq 0 rfl HJ.out ?_
  refine wpJ_tq 2 rfl HJ.out ?_
  refine wpJ_tq 4 rfl HJ.out ?_
  obtain ⟨RQ, HRQ, HRP⟩ : ∃ RQ : Act → Act → World → Prop, Hid (∀ a1 a2 a3, (fun a0 a' W' => ∃ goff tA kA nA tB kB nB tC kC nC tD kD nD, a' = (((((a0.put (some 14) (.agg #[.bool tA, .slice (some ⟨kA, 0, none⟩) nA nA])).put (some 16) (.agg #[.bool tB, .slice (some ⟨kB, 0, none⟩) nB nB])).put (some 18) (.agg #[.bool tC, .slice (some ⟨kC, 0, none⟩) nC nC])).put (some 19) (.agg #[.bool tD, .slice (some ⟨kD, 0, none⟩) nD nD])).put (some 9) (.pointer (some ⟨goff, 0, none⟩))) ∧ Box W' goff (.bool tD) (.slice (some ⟨kD, 0, none⟩) nD nD) ∧ Box W' ga (.int .u64 (h : Int)) (.int .u64 (l : Int)) ∧ Box W' gm (.bool s) (.slice p m m) ∧ Box W' gn (.bool t) (.slice q n n) ∧ ZR W' tD (some ⟨kD, 0, none⟩) nD ((((ux h + ux l) * y - x).natAbs : Int)) ∧ w.heap.size ≤ goff ∧ ga ≠ goff ∧ gm ≠ goff ∧ gn ≠ goff ∧ (nD ≤ 13000) ∧ Below v1.heap.size v1 W' ∧ Below w.heap.size w W') a1 a2 a3 → RQ a1 a2 a3) ∧ Hid (∀ a1 a2 a3, RQ a1 a2 a3 → (fun a0 a' W' => ∃ goff tA kA nA tB kB nB tC kC nC tD kD nD, a' = (((((a0.put (some 14) (.agg #[.bool tA, .slice (some ⟨kA, 0, none⟩) nA nA])).put (some 16) (.agg #[.bool tB, .slice (some ⟨kB, 0, none⟩) nB nB])).put (some 18) (.agg #[.bool tC, .slice (some ⟨kC, 0, none⟩) nC nC])).put (some 19) (.agg #[.bool tD, .slice (some ⟨kD, 0, none⟩) nD nD])).put (some 9) (.pointer (some ⟨goff, 0, none⟩))) ∧ Box W' goff (.bool tD) (.slice (some ⟨kD, 0, none⟩) nD nD) ∧ Box W' ga (.int .u64 (h : Int)) (.int .u64 (l : Int)) ∧ Box W' gm (.bool s) (.slice p m m) ∧ Box W' gn (.bool t) (.slice q n n) ∧ ZR W' tD (some ⟨kD, 0, none⟩) nD ((((ux h + ux l) * y - x).natAbs : Int)) ∧ w.heap.size ≤ goff ∧ ga ≠ goff ∧ gm ≠ goff ∧ gn ≠ goff ∧ (nD ≤ 13000) ∧ Below v1.heap.size v1 W' ∧ Below w.heap.size w W') a1 a2 a3) := ⟨_, fun _ _ _ h => h, fun _ _ _ h => h⟩
  refine wpJ_cutA RQ ?_ ?_
  · intro a' Wc hrq
    obtain ⟨goff, tA, kA, nA, tB, kB, nB, tC, kC, nC, tD, kD, nD, rfl, xbQ, xa, xm, xn, rr, hg, hda, hdm, hdn, hHND, hbuc, hbc⟩ := HRP.out _ _ _ hrq
    clear hrq HRP HRQ
    clear hbw hbu HJ Xa Xm Xn
    have hbw := hbc
    have hbu := hbuc
    have Xoff : Hid (Box Wc goff (.bool tD) (.slice (some ⟨kD, 0, none⟩) nD nD)) := xbQ
    have Xa : Hid (Box Wc ga (.int .u64 (h : Int)) (.int .u64 (l : Int))) := xa
    have Xm : Hid (Box Wc gm (.bool s) (.slice p m m)) := xm
    have Xn : Hid (Box Wc gn (.bool t) (.slice q n n)) := xn
    have RR : Hid (ZR Wc tD (some ⟨kD, 0, none⟩) nD ((((ux h + ux l) * y - x).natAbs : Int))) := rr
    have HGoff : Hid (w.heap.size ≤ goff) := hg
    have HDaoff : Hid (ga ≠ goff) := hda
    have HDmoff : Hid (gm ≠ goff) := hdm
    have HDnoff : Hid (gn ≠ goff) := hdn
    have HND : Hid (nD ≤ 13000) := hHND
    clear xbQ xa xm xn rr hg hda hdm hdn hHND hbuc hbc
    have HA : Hid (ZR Wc s p m x) := HAu.out.below hbu
    clear hbu HAu HBu
    obtain ⟨coff0, coff1, foff0, foff1⟩ := Xoff.out
    have hneoff := Xoff.out.lt
    obtain ⟨cm0, cm1, fm0, fm1⟩ := Xm.out
    have hnem := Xm.out.lt
    go_wp2_with fail
    clear coff0 coff1 foff0 foff1 hneoff
    clear cm0 cm1 fm0 fm1 hnem
    obtain ⟨cc, hcc⟩ : ∃ cc, cc = cmpI (((((ux h + ux l) * y - x).natAbs : Int)) * 2 ^ k) (x.natAbs : Int) := ⟨_, rfl⟩
    have hc0 : cc ≤ 0 := by
      have h1 := HM.out.2.2.2
      have e1 : (((((ux h + ux l) * y - x).natAbs : Int)) * 2 ^ k) = (((((ux h + ux l) * y - x).natAbs * 2 ^ k : Nat)) : Int) := by rw [Int.natCast_mul, Int.natCast_pow]; rfl
      rw [hcc, e1]; unfold cmpI
      split
      · decide
      · split
        · decide
        · omega
    have hd0 : decide (cc ≤ 0) = true := decide_eq_true hc0
    have HCC := Hid.mk9 hcc
    clear hcc
    obtain ⟨Wy, hWy⟩ : ∃ W1, W1 = Wc.drew := ⟨_, rfl⟩
    have hbd : Below Wc.heap.size Wc Wy := by rw [hWy]; exact bDrew1 (Below.refl _ _)
    replace Xoff : Hid _ := Xoff.out.below hbd
    replace Xa : Hid _ := Xa.out.below hbd
    replace Xm : Hid _ := Xm.out.below hbd
    replace Xn : Hid _ := Xn.out.below hbd
    replace RR : Hid _ := RR.out.below hbd
    replace HA : Hid _ := HA.out.below hbd
    replace hbw := Below.on hbw hbd
    clear hbd
    have HJ : Hid ((fun W' : World => W'.cell? ⟨goff, 0, none⟩ = some (.bool tD) ∧ W'.cell? ⟨goff, 1, none⟩ = some (.slice (some ⟨kD, 0, none⟩) nD nD) ∧ W'.cell? ⟨gm, 0, none⟩ = some (.bool s) ∧ W'.cell? ⟨gm, 1, none⟩ = some (.slice p m m)) Wy) := ⟨Xoff.out.c0, Xoff.out.c1, Xm.out.c0, Xm.out.c1⟩
    refine wp_region_J (fun W' => W'.cell? ⟨goff, 0, none⟩ = some (.bool tD) ∧ W'.cell? ⟨goff, 1, none⟩ = some (.slice (some ⟨kD, 0, none⟩) nD nD) ∧ W'.cell? ⟨gm, 0, none⟩ = some (.bool s) ∧ W'.cell? ⟨gm, 1, none⟩ = some (.slice p m m)) (by kernel_rfl) ?_
    rw [← hWy]
    clear hWy
    refine wpJ_tq 0 rfl HJ.out ?_
    refine wpJ_tq 1 rfl HJ.out ?_
    refine wpJ_tq 3 rfl HJ.out ?_
    refine wpJ_on 2 rfl fun KJ hK => ?_
    go_simp
    refine (rshl04 tD RR.out (by have := HND.out; omega) k (.inl (by have := HM.out.2.2.1; omega))).mono ?_
    rintro e v5 ⟨v, rfl, hv, hb5⟩
    obtain ⟨s5, g5, m5, rfl, hg5, hz5, hl5⟩ := hv
    try clear hv
    have HN5 : Hid (Wy.heap.size ≤ g5) := hg5
    have HB5 : Hid (Wy.heap.size ≤ v5.heap.size) := hb5.size
    replace Xoff : Hid _ := Xoff.out.below hb5
    replace Xa : Hid _ := Xa.out.below hb5
    replace Xm : Hid _ := Xm.out.below hb5
    replace Xn : Hid _ := Xn.out.below hb5
    replace RR : Hid _ := RR.out.below hb5
    replace HA : Hid _ := HA.out.below hb5
    replace hbw := Below.on hbw hb5
    clear hb5
    have Z5 : Hid (ZR v5 s5 (some ⟨g5, 0, none⟩) m5 (((((ux h + ux l) * y - x).natAbs : Int)) * 2 ^ k)) := hz5
    have HL5 : Hid (m5 ≤ 40000) := hl5
    clear hz5 hl5 hg5
    refine hK _ _ ⟨Xoff.out.c0, Xoff.out.c1, Xm.out.c0, Xm.out.c1⟩ ?_
    clear hK
    refine wpJ_on 4 rfl fun KJ hK => ?_
    go_simp
    refine (rabs_d s HA.out (by have := HM.out.1; omega)).mono ?_
    rintro e v6 ⟨v, rfl, hv, hb6⟩
    obtain ⟨s6, g6, m6, rfl, hg6, hz6, hl6⟩ := hv
    try clear hv
    have HN6 : Hid (v5.heap.size ≤ g6) := hg6
    have HB6 : Hid (v5.heap.size ≤ v6.heap.size) := hb6.size
    replace Xoff : Hid _ := Xoff.out.below hb6
    replace Xa : Hid _ := Xa.out.below hb6
    replace Xm : Hid _ := Xm.out.below hb6
    replace Xn : Hid _ := Xn.out.below hb6
    replace RR : Hid _ := RR.out.below hb6
    replace HA : Hid _ := HA.out.below hb6
    replace Z5 : Hid _ := Z5.out.below hb6
    replace hbw := Below.on hbw hb6
    clear hb6
    have Z6 : Hid (ZR v6 s6 (some ⟨g6, 0, none⟩) m6 ((x.natAbs : Int))) := hz6
    have HL6 : Hid (m6 ≤ m) := hl6
    clear hz6 hl6 hg6
    refine hK _ _ ⟨Xoff.out.c0, Xoff.out.c1, Xm.out.c0, Xm.out.c1⟩ ?_
    clear hK
    refine wpJ_on 5 rfl fun KJ hK => ?_
    go_simp
    refine (rcmp04 s5 s6 Z5.out Z6.out (by have := HL5.out; omega) (by have := HL6.out; have := HM.out.1; omega)).mono ?_
    rintro e v7 ⟨rfl, hb7⟩
    rw [← HCC.out]
    replace Xoff : Hid _ := Xoff.out.below hb7
    replace Xa : Hid _ := Xa.out.below hb7
    replace Xm : Hid _ := Xm.out.below hb7
    replace Xn : Hid _ := Xn.out.below hb7
    replace RR : Hid _ := RR.out.below hb7
    replace HA : Hid _ := HA.out.below hb7
    replace Z5 : Hid _ := Z5.out.below hb7
    replace Z6 : Hid _ := Z6.out.below hb7
    replace hbw := Below.on hbw hb7
    clear hb7
    clear HJ
    have HJ : Hid ((fun W' : World => W'.cell? ⟨goff, 0, none⟩ = some (.bool tD) ∧ W'.cell? ⟨goff, 1, none⟩ = some (.slice (some ⟨kD, 0, none⟩) nD nD) ∧ W'.cell? ⟨gm, 0, none⟩ = some (.bool s) ∧ W'.cell? ⟨gm, 1, none⟩ = some (.slice p m m)) v7) := ⟨Xoff.out.c0, Xoff.out.c1, Xm.out.c0, Xm.out.c1⟩
    refine hK _ _ HJ.out ?_
    clear hK
    refine wpJ_tq 6 rfl HJ.out ?_
    refine wpJ_tq 7 rfl HJ.out ?_
    refine wpJ_done (by kernel_rfl) ?_ _
    clear HJ
    go_wp2_with fail
    go_ret
    exact ⟨rfl, hbw⟩
  · skip
    refine wpJ_two (i := 1) (k := 7) (by kernel_rfl) rfl rfl (by kernel_rfl) (by kernel_rfl) (fun KJ hK => ?_) (fun KJ hK => ?_)
    · go_simp
      refine (sum20 _).mono ?_
      rintro e9 uA ⟨v9, rfl, hv, hbA⟩
      obtain ⟨tA, kA, nA, rfl, hgA, hzA, hlA⟩ := hv
      skip
      have hbu' := Below.on hbu hbA
      clear hbu
      have hbu := hbu'
      clear hbu'
      replace Xa : Hid _ := Xa.out.below hbA
      replace Xm : Hid _ := Xm.out.below hbA
      replace Xn : Hid _ := Xn.out.below hbA
      replace hbw := Below.on hbw hbA
      clear hbA
      have YA : Hid (ZR uA tA (some ⟨kA, 0, none⟩) nA (ux h + ux l)) := hzA
      have HLA : Hid (nA ≤ 2201) := hlA
      clear hzA hlA hgA
      clear HJ
      have HJ : Hid ((fun W' : World => W'.cell? ⟨ga, 0, none⟩ = some (.int .u64 (h : Int)) ∧ W'.cell? ⟨ga, 1, none⟩ = some (.int .u64 (l : Int)) ∧ W'.cell? ⟨gm, 0, none⟩ = some (.bool s) ∧ W'.cell? ⟨gm, 1, none⟩ = some (.slice p m m) ∧ W'.cell? ⟨gn, 0, none⟩ = some (.bool t) ∧ W'.cell? ⟨gn, 1, none⟩ = some (.slice q n n)) uA) := ⟨Xa.out.c0, Xa.out.c1, Xm.out.c0, Xm.out.c1, Xn.out.c0, Xn.out.c1⟩
      refine hK _ _ HJ.out ?_
      clear hK
      refine wpJ_two (i := 3) (k := 7) (by kernel_rfl) rfl rfl (by kernel_rfl) (by kernel_rfl) (fun KJ hK => ?_) (fun KJ hK => ?_)
      · go_simp
        refine (rmul04 tA t YA.out (HBu.out.below hbu) (by have := HLA.out; omega) (by have := HM.out.2.1; omega)).mono ?_
        rintro e9 uB ⟨v9, rfl, hv, hbB⟩
        obtain ⟨tB, kB, nB, rfl, hgB, hzB, hlB⟩ := hv
        skip
        have hbu' := Below.on hbu hbB
        clear hbu
        have hbu := hbu'
        clear hbu'
        replace Xa : Hid _ := Xa.out.below hbB
        replace Xm : Hid _ := Xm.out.below hbB
        replace Xn : Hid _ := Xn.out.below hbB
        replace YA : Hid _ := YA.out.below hbB
        replace hbw := Below.on hbw hbB
        clear hbB
        have YB : Hid (ZR uB tB (some ⟨kB, 0, none⟩) nB ((ux h + ux l) * y)) := hzB
        have HLB : Hid (nB ≤ nA + n) := hlB
        clear hzB hlB hgB
        clear HJ
        have HJ : Hid ((fun W' : World => W'.cell? ⟨ga, 0, none⟩ = some (.int .u64 (h : Int)) ∧ W'.cell? ⟨ga, 1, none⟩ = some (.int .u64 (l : Int)) ∧ W'.cell? ⟨gm, 0, none⟩ = some (.bool s) ∧ W'.cell? ⟨gm, 1, none⟩ = some (.slice p m m) ∧ W'.cell? ⟨gn, 0, none⟩ = some (.bool t) ∧ W'.cell? ⟨gn, 1, none⟩ = some (.slice q n n)) uB) := ⟨Xa.out.c0, Xa.out.c1, Xm.out.c0, Xm.out.c1, Xn.out.c0, Xn.out.c1⟩
        refine hK _ _ HJ.out ?_
        clear hK
        refine wpJ_two (i := 5) (k := 7) (by kernel_rfl) rfl rfl (by kernel_rfl) (by kernel_rfl) (fun KJ hK => ?_) (fun KJ hK => ?_)
        · go_simp
          refine (rsub04 tB s YB.out (HAu.out.below hbu) (by have := HLA.out; have := HLB.out; have := HM.out.2.1; omega) (by have := HM.out.1; omega)).mono ?_
          rintro e9 uC ⟨v9, rfl, hv, hbC⟩
          obtain ⟨tC, kC, nC, rfl, hgC, hzC, hlC⟩ := hv
          skip
          have hbu' := Below.on hbu hbC
          clear hbu
          have hbu := hbu'
          clear hbu'
          replace Xa : Hid _ := Xa.out.below hbC
          replace Xm : Hid _ := Xm.out.below hbC
          replace Xn : Hid _ := Xn.out.below hbC
          replace YA : Hid _ := YA.out.below hbC
          replace YB : Hid _ := YB.out.below hbC
          replace hbw := Below.on hbw hbC
          clear hbC
          have YC : Hid (ZR uC tC (some ⟨kC, 0, none⟩) nC ((ux h + ux l) * y - x)) := hzC
          have HLC : Hid (nC ≤ max nB m + 1) := hlC
          clear hzC hlC hgC
          clear HJ
          have HJ : Hid ((fun W' : World => W'.cell? ⟨ga, 0, none⟩ = some (.int .u64 (h : Int)) ∧ W'.cell? ⟨ga, 1, none⟩ = some (.int .u64 (l : Int)) ∧ W'.cell? ⟨gm, 0, none⟩ = some (.bool s) ∧ W'.cell? ⟨gm, 1, none⟩ = some (.slice p m m) ∧ W'.cell? ⟨gn, 0, none⟩ = some (.bool t) ∧ W'.cell? ⟨gn, 1, none⟩ = some (.slice q n n)) uC) := ⟨Xa.out.c0, Xa.out.c1, Xm.out.c0, Xm.out.c1, Xn.out.c0, Xn.out.c1⟩
          refine hK _ _ HJ.out ?_
          clear hK
          refine wpJ_two (i := 6) (k := 7) (by kernel_rfl) rfl rfl (by kernel_rfl) (by kernel_rfl) (fun KJ hK => ?_) (fun KJ hK => ?_)
          · go_simp
            refine (rabs_d tC YC.out (by have := HLA.out; have := HLB.out; have := HLC.out; have := HM.out.1; have := HM.out.2.1; omega)).mono ?_
            rintro e9 uD ⟨v9, rfl, hv, hbD⟩
            obtain ⟨tD, kD, nD, rfl, hgD, hzD, hlD⟩ := hv
            have HGB : Hid (uC.heap.size ≤ kD) := hgD
            have hbu' := Below.on hbu hbD
            clear hbu
            have hbu := hbu'
            clear hbu'
            replace Xa : Hid _ := Xa.out.below hbD
            replace Xm : Hid _ := Xm.out.below hbD
            replace Xn : Hid _ := Xn.out.below hbD
            replace YA : Hid _ := YA.out.below hbD
            replace YB : Hid _ := YB.out.below hbD
            replace YC : Hid _ := YC.out.below hbD
            replace hbw := Below.on hbw hbD
            clear hbD
            have RR : Hid (ZR uD tD (some ⟨kD, 0, none⟩) nD ((((ux h + ux l) * y - x).natAbs : Int))) := hzD
            have HLD : Hid (nD ≤ nC) := hlD
            clear hzD hlD hgD
            clear YA
            clear YB
            clear YC
            have HND : Hid (nD ≤ 13000) := by have := HLA.out; have := HLB.out; have := HLC.out; have := HLD.out; have := HM.out.1; have := HM.out.2.1; show _ ≤ _; omega
            refine hK _ _ ⟨Xa.out.c0, Xa.out.c1, Xm.out.c0, Xm.out.c1, Xn.out.c0, Xn.out.c1⟩ ?_
            clear hK
            refine wpJ_on 7 rfl fun KJ hK => ?_
            go_simp
            have HDaoff : Hid (ga ≠ uD.heap.size) := Nat.ne_of_lt Xa.out.lt
            have HDmoff : Hid (gm ≠ uD.heap.size) := Nat.ne_of_lt Xm.out.lt
            have HDnoff : Hid (gn ≠ uD.heap.size) := Nat.ne_of_lt Xn.out.lt
            have HLS : Hid (∀ v0 v1, ZR (((uD.alloc (.cells #[.bool false, .slice none 0 0] 87)).setCell ⟨uD.heap.size, 0, none⟩ v0).setCell ⟨uD.heap.size, 1, none⟩ v1) tD (some ⟨kD, 0, none⟩) nD ((((ux h + ux l) * y - x).natAbs : Int))) := fun v0 v1 => RR.out.below (bSet (bSet (below1 _ _) _ _ _ (Nat.le_refl _)) _ _ _ (Nat.le_refl _))
            have HGU : Hid (v1.heap.size ≤ uD.heap.size) := hbu.size
            have Xoff0 : Hid (Box (uD.alloc (.cells #[.bool false, .slice none 0 0] 87)) uD.heap.size (.bool false) (.slice none 0 0)) := Box.new uD _ _ _
            have hbn : Below uD.heap.size uD (uD.alloc (.cells #[.bool false, .slice none 0 0] 87)) := below1 uD _
            generalize uD.alloc (.cells #[.bool false, .slice none 0 0] 87) = Wn at *
            have HGoff : Hid (w.heap.size ≤ uD.heap.size) := hbw.size
            have hbu' := Below.on hbu hbn
            clear hbu
            have hbu := hbu'
            clear hbu'
            replace Xa : Hid _ := Xa.out.below hbn
            replace Xm : Hid _ := Xm.out.below hbn
            replace Xn : Hid _ := Xn.out.below hbn
            replace RR : Hid _ := RR.out.below hbn
            replace hbw := Below.on hbw hbn
            clear hbn
            generalize uD.heap.size = goff at *
            have Xoff := Xoff0
            clear Xoff0
            refine hK _ _ ⟨Xa.out.c0, Xa.out.c1, Xm.out.c0, Xm.out.c1, Xn.out.c0, Xn.out.c1⟩ ?_
            clear hK
            obtain ⟨coff0, coff1, foff0, foff1⟩ := Xoff.out
            have hneoff := Xoff.out.lt
            obtain ⟨ca0, ca1, fa0, fa1⟩ := Xa.out
            have hnea := Xa.out.lt
            obtain ⟨cm0, cm1, fm0, fm1⟩ := Xm.out
            have hnem := Xm.out.lt
            obtain ⟨cn0, cn1, fn0, fn1⟩ := Xn.out
            have hnen := Xn.out.lt
            have qaa : ga ≠ goff := HDaoff.out
            have qba : goff ≠ ga := fun h => qaa h.symm
            have qam : gm ≠ goff := HDmoff.out
            have qbm : goff ≠ gm := fun h => qam h.symm
            have qan : gn ≠ goff := HDnoff.out
            have qbn : goff ≠ gn := fun h => qan h.symm
            refine wpJ_on 8 rfl fun KJ hK => ?_
            go_simp
            have HJ2 : Hid ((fun W' : World => W'.cell? ⟨ga, 0, none⟩ = some (.int .u64 (h : Int)) ∧ W'.cell? ⟨ga, 1, none⟩ = some (.int .u64 (l : Int)) ∧ W'.cell? ⟨gm, 0, none⟩ = some (.bool s) ∧ W'.cell? ⟨gm, 1, none⟩ = some (.slice p m m) ∧ W'.cell? ⟨gn, 0, none⟩ = some (.bool t) ∧ W'.cell? ⟨gn, 1, none⟩ = some (.slice q n n)) ((Wn.setCell ⟨goff, 0, none⟩ (.bool tD)).setCell ⟨goff, 1, none⟩ (.slice (some ⟨kD, 0, none⟩) nD nD))) := ⟨by go_simp, by go_simp, by go_simp, by go_simp, by go_simp, by go_simp⟩
            have Xoff2 : Hid (Box ((Wn.setCell ⟨goff, 0, none⟩ (.bool tD)).setCell ⟨goff, 1, none⟩ (.slice (some ⟨kD, 0, none⟩) nD nD)) goff (.bool tD) (.slice (some ⟨kD, 0, none⟩) nD nD)) := ⟨by go_simp, by go_simp, by go_simp, by go_simp⟩
            have Xa2 : Hid (Box ((Wn.setCell ⟨goff, 0, none⟩ (.bool tD)).setCell ⟨goff, 1, none⟩ (.slice (some ⟨kD, 0, none⟩) nD nD)) ga (.int .u64 (h : Int)) (.int .u64 (l : Int))) := ⟨by go_simp, by go_simp, by go_simp, by go_simp⟩
            have Xm2 : Hid (Box ((Wn.setCell ⟨goff, 0, none⟩ (.bool tD)).setCell ⟨goff, 1, none⟩ (.slice (some ⟨kD, 0, none⟩) nD nD)) gm (.bool s) (.slice p m m)) := ⟨by go_simp, by go_simp, by go_simp, by go_simp⟩
            have Xn2 : Hid (Box ((Wn.setCell ⟨goff, 0, none⟩ (.bool tD)).setCell ⟨goff, 1, none⟩ (.slice (some ⟨kD, 0, none⟩) nD nD)) gn (.bool t) (.slice q n n)) := ⟨by go_simp, by go_simp, by go_simp, by go_simp⟩
            have RR2 : Hid (ZR ((Wn.setCell ⟨goff, 0, none⟩ (.bool tD)).setCell ⟨goff, 1, none⟩ (.slice (some ⟨kD, 0, none⟩) nD nD)) tD (some ⟨kD, 0, none⟩) nD ((((ux h + ux l) * y - x).natAbs : Int))) := HLS.out _ _
            have hbu2 : Below v1.heap.size v1 ((Wn.setCell ⟨goff, 0, none⟩ (.bool tD)).setCell ⟨goff, 1, none⟩ (.slice (some ⟨kD, 0, none⟩) nD nD)) := bSet (bSet hbu _ _ _ HGU.out) _ _ _ HGU.out
            have hbw2 : Below w.heap.size w ((Wn.setCell ⟨goff, 0, none⟩ (.bool tD)).setCell ⟨goff, 1, none⟩ (.slice (some ⟨kD, 0, none⟩) nD nD)) := bSet (bSet hbw _ _ _ HGoff.out) _ _ _ HGoff.out
            refine hK _ _ HJ2.out ?_
            clear hK HJ
            have HJ := HJ2
            clear HJ2
            refine wpJ_done (by kernel_rfl) ?_ _
            exact ⟨rfl, HRQ.out _ _ _ ⟨goff, tA, kA, nA, tB, kB, nB, tC, kC, nC, tD, kD, nD, by kernel_rfl, Xoff2.out, Xa2.out, Xm2.out, Xn2.out, RR2.out, HGoff.out, HDaoff.out, HDmoff.out, HDnoff.out, HND.out, hbu2, hbw2⟩⟩
          · go_simp
            have HDaoff : Hid (ga ≠ uC.heap.size) := Nat.ne_of_lt Xa.out.lt
            have HDmoff : Hid (gm ≠ uC.heap.size) := Nat.ne_of_lt Xm.out.lt
            have HDnoff : Hid (gn ≠ uC.heap.size) := Nat.ne_of_lt Xn.out.lt
            have HGU : Hid (v1.heap.size ≤ uC.heap.size) := hbu.size
            have Xoff0 : Hid (Box (uC.alloc (.cells #[.bool false, .slice none 0 0] 87)) uC.heap.size (.bool false) (.slice none 0 0)) := Box.new uC _ _ _
            have hbn : Below uC.heap.size uC (uC.alloc (.cells #[.bool false, .slice none 0 0] 87)) := below1 uC _
            generalize uC.alloc (.cells #[.bool false, .slice none 0 0] 87) = Wn at *
            have HGoff : Hid (w.heap.size ≤ uC.heap.size) := hbw.size
            have hbu' := Below.on hbu hbn
            clear hbu
            have hbu := hbu'
            clear hbu'
            replace Xa : Hid _ := Xa.out.below hbn
            replace Xm : Hid _ := Xm.out.below hbn
            replace Xn : Hid _ := Xn.out.below hbn
            replace YA : Hid _ := YA.out.below hbn
            replace YB : Hid _ := YB.out.below hbn
            replace YC : Hid _ := YC.out.below hbn
            replace hbw := Below.on hbw hbn
            clear hbn
            generalize uC.heap.size = goff at *
            have Xoff := Xoff0
            clear Xoff0
            refine hK _ _ ⟨Xa.out.c0, Xa.out.c1, Xm.out.c0, Xm.out.c1, Xn.out.c0, Xn.out.c1⟩ ?_
            clear hK
            refine wpJ_on 6 rfl fun KJ hK => ?_
            go_simp
            have HLT : Hid (goff < Wn.heap.size) := Xoff.out.lt
            refine (rabs_d tC YC.out (by have := HLA.out; have := HLB.out; have := HLC.out; have := HM.out.1; have := HM.out.2.1; omega)).mono ?_
            rintro e9 uD ⟨v9, rfl, hv, hbD⟩
            obtain ⟨tD, kD, nD, rfl, hgD, hzD, hlD⟩ := hv
            have HGB : Hid (Wn.heap.size ≤ kD) := hgD
            have hbu' := Below.on hbu hbD
            clear hbu
            have hbu := hbu'
            clear hbu'
            replace Xa : Hid _ := Xa.out.below hbD
            replace Xm : Hid _ := Xm.out.below hbD
            replace Xn : Hid _ := Xn.out.below hbD
            replace Xoff : Hid _ := Xoff.out.below hbD
            replace YA : Hid _ := YA.out.below hbD
            replace YB : Hid _ := YB.out.below hbD
            replace YC : Hid _ := YC.out.below hbD
            replace hbw := Below.on hbw hbD
            clear hbD
            have RR : Hid (ZR uD tD (some ⟨kD, 0, none⟩) nD ((((ux h + ux l) * y - x).natAbs : Int))) := hzD
            have HLD : Hid (nD ≤ nC) := hlD
            clear hzD hlD hgD
            clear YA
            clear YB
            clear YC
            have HND : Hid (nD ≤ 13000) := by have := HLA.out; have := HLB.out; have := HLC.out; have := HLD.out; have := HM.out.1; have := HM.out.2.1; show _ ≤ _; omega
            have HNE : Hid (kD ≠ goff) := by have h1 := HLT.out; have h2 := HGB.out; show _ ≠ _; omega
            refine hK _ _ ⟨Xa.out.c0, Xa.out.c1, Xm.out.c0, Xm.out.c1, Xn.out.c0, Xn.out.c1⟩ ?_
            clear hK
            obtain ⟨coff0, coff1, foff0, foff1⟩ := Xoff.out
            have hneoff := Xoff.out.lt
            obtain ⟨ca0, ca1, fa0, fa1⟩ := Xa.out
            have hnea := Xa.out.lt
            obtain ⟨cm0, cm1, fm0, fm1⟩ := Xm.out
            have hnem := Xm.out.lt
            obtain ⟨cn0, cn1, fn0, fn1⟩ := Xn.out
            have hnen := Xn.out.lt
            have qaa : ga ≠ goff := HDaoff.out
            have qba : goff ≠ ga := fun h => qaa h.symm
            have qam : gm ≠ goff := HDmoff.out
            have qbm : goff ≠ gm := fun h => qam h.symm
            have qan : gn ≠ goff := HDnoff.out
            have qbn : goff ≠ gn := fun h => qan h.symm
            refine wpJ_on 8 rfl fun KJ hK => ?_
            go_simp
            have HJ2 : Hid ((fun W' : World => W'.cell? ⟨ga, 0, none⟩ = some (.int .u64 (h : Int)) ∧ W'.cell? ⟨ga, 1, none⟩ = some (.int .u64 (l : Int)) ∧ W'.cell? ⟨gm, 0, none⟩ = some (.bool s) ∧ W'.cell? ⟨gm, 1, none⟩ = some (.slice p m m) ∧ W'.cell? ⟨gn, 0, none⟩ = some (.bool t) ∧ W'.cell? ⟨gn, 1, none⟩ = some (.slice q n n)) ((uD.setCell ⟨goff, 0, none⟩ (.bool tD)).setCell ⟨goff, 1, none⟩ (.slice (some ⟨kD, 0, none⟩) nD nD))) := ⟨by go_simp, by go_simp, by go_simp, by go_simp, by go_simp, by go_simp⟩
            have Xoff2 : Hid (Box ((uD.setCell ⟨goff, 0, none⟩ (.bool tD)).setCell ⟨goff, 1, none⟩ (.slice (some ⟨kD, 0, none⟩) nD nD)) goff (.bool tD) (.slice (some ⟨kD, 0, none⟩) nD nD)) := ⟨by go_simp, by go_simp, by go_simp, by go_simp⟩
            have Xa2 : Hid (Box ((uD.setCell ⟨goff, 0, none⟩ (.bool tD)).setCell ⟨goff, 1, none⟩ (.slice (some ⟨kD, 0, none⟩) nD nD)) ga (.int .u64 (h : Int)) (.int .u64 (l : Int))) := ⟨by go_simp, by go_simp, by go_simp, by go_simp⟩
            have Xm2 : Hid (Box ((uD.setCell ⟨goff, 0, none⟩ (.bool tD)).setCell ⟨goff, 1, none⟩ (.slice (some ⟨kD, 0, none⟩) nD nD)) gm (.bool s) (.slice p m m)) := ⟨by go_simp, by go_simp, by go_simp, by go_simp⟩
            have Xn2 : Hid (Box ((uD.setCell ⟨goff, 0, none⟩ (.bool tD)).setCell ⟨goff, 1, none⟩ (.slice (some ⟨kD, 0, none⟩) nD nD)) gn (.bool t) (.slice q n n)) := ⟨by go_simp, by go_simp, by go_simp, by go_simp⟩
            have RR2 : Hid (ZR ((uD.setCell ⟨goff, 0, none⟩ (.bool tD)).setCell ⟨goff, 1, none⟩ (.slice (some ⟨kD, 0, none⟩) nD nD)) tD (some ⟨kD, 0, none⟩) nD ((((ux h + ux l) * y - x).natAbs : Int))) := (RR.out.set _ _ _ HNE.out).set _ _ _ HNE.out
            have hbu2 : Below v1.heap.size v1 ((uD.setCell ⟨goff, 0, none⟩ (.bool tD)).setCell ⟨goff, 1, none⟩ (.slice (some ⟨kD, 0, none⟩) nD nD)) := bSet (bSet hbu _ _ _ HGU.out) _ _ _ HGU.out
            have hbw2 : Below w.heap.size w ((uD.setCell ⟨goff, 0, none⟩ (.bool tD)).setCell ⟨goff, 1, none⟩ (.slice (some ⟨kD, 0, none⟩) nD nD)) := bSet (bSet hbw _ _ _ HGoff.out) _ _ _ HGoff.out
            refine hK _ _ HJ2.out ?_
            clear hK HJ
            have HJ := HJ2
            clear HJ2
            refine wpJ_done (by kernel_rfl) ?_ _
            exact ⟨rfl, HRQ.out _ _ _ ⟨goff, tA, kA, nA, tB, kB, nB, tC, kC, nC, tD, kD, nD, by kernel_rfl, Xoff2.out, Xa2.out, Xm2.out, Xn2.out, RR2.out, HGoff.out, HDaoff.out, HDmoff.out, HDnoff.out, HND.out, hbu2, hbw2⟩⟩
        · go_simp
          have HDaoff : Hid (ga ≠ uB.heap.size) := Nat.ne_of_lt Xa.out.lt
          have HDmoff : Hid (gm ≠ uB.heap.size) := Nat.ne_of_lt Xm.out.lt
          have HDnoff : Hid (gn ≠ uB.heap.size) := Nat.ne_of_lt Xn.out.lt
          have HGU : Hid (v1.heap.size ≤ uB.heap.size) := hbu.size
          have Xoff0 : Hid (Box (uB.alloc (.cells #[.bool false, .slice none 0 0] 87)) uB.heap.size (.bool false) (.slice none 0 0)) := Box.new uB _ _ _
          have hbn : Below uB.heap.size uB (uB.alloc (.cells #[.bool false, .slice none 0 0] 87)) := below1 uB _
          generalize uB.alloc (.cells #[.bool false, .slice none 0 0] 87) = Wn at *
          have HGoff : Hid (w.heap.size ≤ uB.heap.size) := hbw.size
          have hbu' := Below.on hbu hbn
          clear hbu
          have hbu := hbu'
          clear hbu'
          replace Xa : Hid _ := Xa.out.below hbn
          replace Xm : Hid _ := Xm.out.below hbn
          replace Xn : Hid _ := Xn.out.below hbn
          replace YA : Hid _ := YA.out.below hbn
          replace YB : Hid _ := YB.out.below hbn
          replace hbw := Below.on hbw hbn
          clear hbn
          generalize uB.heap.size = goff at *
          have Xoff := Xoff0
          clear Xoff0
          refine hK _ _ ⟨Xa.out.c0, Xa.out.c1, Xm.out.c0, Xm.out.c1, Xn.out.c0, Xn.out.c1⟩ ?_
          clear hK
          refine wpJ_on 5 rfl fun KJ hK => ?_
          go_simp
          refine (rsub04 tB s YB.out (HAu.out.below hbu) (by have := HLA.out; have := HLB.out; have := HM.out.2.1; omega) (by have := HM.out.1; omega)).mono ?_
          rintro e9 uC ⟨v9, rfl, hv, hbC⟩
          obtain ⟨tC, kC, nC, rfl, hgC, hzC, hlC⟩ := hv
          skip
          have hbu' := Below.on hbu hbC
          clear hbu
          have hbu := hbu'
          clear hbu'
          replace Xa : Hid _ := Xa.out.below hbC
          replace Xm : Hid _ := Xm.out.below hbC
          replace Xn : Hid _ := Xn.out.below hbC
          replace Xoff : Hid _ := Xoff.out.below hbC
          replace YA : Hid _ := YA.out.below hbC
          replace YB : Hid _ := YB.out.below hbC
          replace hbw := Below.on hbw hbC
          clear hbC
          have YC : Hid (ZR uC tC (some ⟨kC, 0, none⟩) nC ((ux h + ux l) * y - x)) := hzC
          have HLC : Hid (nC ≤ max nB m + 1) := hlC
          clear hzC hlC hgC
          refine hK _ _ ⟨Xa.out.c0, Xa.out.c1, Xm.out.c0, Xm.out.c1, Xn.out.c0, Xn.out.c1⟩ ?_
          clear hK
          refine wpJ_on 6 rfl fun KJ hK => ?_
          go_simp
          have HLT : Hid (goff < uC.heap.size) := Xoff.out.lt
          refine (rabs_d tC YC.out (by have := HLA.out; have := HLB.out; have := HLC.out; have := HM.out.1; have := HM.out.2.1; omega)).mono ?_
          rintro e9 uD ⟨v9, rfl, hv, hbD⟩
          obtain ⟨tD, kD, nD, rfl, hgD, hzD, hlD⟩ := hv
          have HGB : Hid (uC.heap.size ≤ kD) := hgD
          have hbu' := Below.on hbu hbD
          clear hbu
          have hbu := hbu'
          clear hbu'
          replace Xa : Hid _ := Xa.out.below hbD
          replace Xm : Hid _ := Xm.out.below hbD
          replace Xn : Hid _ := Xn.out.below hbD
          replace Xoff : Hid _ := Xoff.out.below hbD
          replace YA : Hid _ := YA.out.below hbD
          replace YB : Hid _ := YB.out.below hbD
          replace YC : Hid _ := YC.out.below hbD
          replace hbw := Below.on hbw hbD
          clear hbD
          have RR : Hid (ZR uD tD (some ⟨kD, 0, none⟩) nD ((((ux h + ux l) * y - x).natAbs : Int))) := hzD
          have HLD : Hid (nD ≤ nC) := hlD
          clear hzD hlD hgD
          clear YA
          clear YB
          clear YC
          have HND : Hid (nD ≤ 13000) := by have := HLA.out; have := HLB.out; have := HLC.out; have := HLD.out; have := HM.out.1; have := HM.out.2.1; show _ ≤ _; omega
          have HNE : Hid (kD ≠ goff) := by have h1 := HLT.out; have h2 := HGB.out; show _ ≠ _; omega
          refine hK _ _ ⟨Xa.out.c0, Xa.out.c1, Xm.out.c0, Xm.out.c1, Xn.out.c0, Xn.out.c1⟩ ?_
          clear hK
          obtain ⟨coff0, coff1, foff0, foff1⟩ := Xoff.out
          have hneoff := Xoff.out.lt
          obtain ⟨ca0, ca1, fa0, fa1⟩ := Xa.out
          have hnea := Xa.out.lt
          obtain ⟨cm0, cm1, fm0, fm1⟩ := Xm.out
          have hnem := Xm.out.lt
          obtain ⟨cn0, cn1, fn0, fn1⟩ := Xn.out
          have hnen := Xn.out.lt
          have qaa : ga ≠ goff := HDaoff.out
          have qba : goff ≠ ga := fun h => qaa h.symm
          have qam : gm ≠ goff := HDmoff.out
          have qbm : goff ≠ gm := fun h => qam h.symm
          have qan : gn ≠ goff := HDnoff.out
          have qbn : goff ≠ gn := fun h => qan h.symm
          refine wpJ_on 8 rfl fun KJ hK => ?_
          go_simp
          have HJ2 : Hid ((fun W' : World => W'.cell? ⟨ga, 0, none⟩ = some (.int .u64 (h : Int)) ∧ W'.cell? ⟨ga, 1, none⟩ = some (.int .u64 (l : Int)) ∧ W'.cell? ⟨gm, 0, none⟩ = some (.bool s) ∧ W'.cell? ⟨gm, 1, none⟩ = some (.slice p m m) ∧ W'.cell? ⟨gn, 0, none⟩ = some (.bool t) ∧ W'.cell? ⟨gn, 1, none⟩ = some (.slice q n n)) ((uD.setCell ⟨goff, 0, none⟩ (.bool tD)).setCell ⟨goff, 1, none⟩ (.slice (some ⟨kD, 0, none⟩) nD nD))) := ⟨by go_simp, by go_simp, by go_simp, by go_simp, by go_simp, by go_simp⟩
          have Xoff2 : Hid (Box ((uD.setCell ⟨goff, 0, none⟩ (.bool tD)).setCell ⟨goff, 1, none⟩ (.slice (some ⟨kD, 0, none⟩) nD nD)) goff (.bool tD) (.slice (some ⟨kD, 0, none⟩) nD nD)) := ⟨by go_simp, by go_simp, by go_simp, by go_simp⟩
          have Xa2 : Hid (Box ((uD.setCell ⟨goff, 0, none⟩ (.bool tD)).setCell ⟨goff, 1, none⟩ (.slice (some ⟨kD, 0, none⟩) nD nD)) ga (.int .u64 (h : Int)) (.int .u64 (l : Int))) := ⟨by go_simp, by go_simp, by go_simp, by go_simp⟩
          have Xm2 : Hid (Box ((uD.setCell ⟨goff, 0, none⟩ (.bool tD)).setCell ⟨goff, 1, none⟩ (.slice (some ⟨kD, 0, none⟩) nD nD)) gm (.bool s) (.slice p m m)) := ⟨by go_simp, by go_simp, by go_simp, by go_simp⟩
          have Xn2 : Hid (Box ((uD.setCell ⟨goff, 0, none⟩ (.bool tD)).setCell ⟨goff, 1, none⟩ (.slice (some ⟨kD, 0, none⟩) nD nD)) gn (.bool t) (.slice q n n)) := ⟨by go_simp, by go_simp, by go_simp, by go_simp⟩
          have RR2 : Hid (ZR ((uD.setCell ⟨goff, 0, none⟩ (.bool tD)).setCell ⟨goff, 1, none⟩ (.slice (some ⟨kD, 0, none⟩) nD nD)) tD (some ⟨kD, 0, none⟩) nD ((((ux h + ux l) * y - x).natAbs : Int))) := (RR.out.set _ _ _ HNE.out).set _ _ _ HNE.out
          have hbu2 : Below v1.heap.size v1 ((uD.setCell ⟨goff, 0, none⟩ (.bool tD)).setCell ⟨goff, 1, none⟩ (.slice (some ⟨kD, 0, none⟩) nD nD)) := bSet (bSet hbu _ _ _ HGU.out) _ _ _ HGU.out
          have hbw2 : Below w.heap.size w ((uD.setCell ⟨goff, 0, none⟩ (.bool tD)).setCell ⟨goff, 1, none⟩ (.slice (some ⟨kD, 0, none⟩) nD nD)) := bSet (bSet hbw _ _ _ HGoff.out) _ _ _ HGoff.out
          refine hK _ _ HJ2.out ?_
          clear hK HJ
          have HJ := HJ2
          clear HJ2
          refine wpJ_done (by kernel_rfl) ?_ _
          exact ⟨rfl, HRQ.out _ _ _ ⟨goff, tA, kA, nA, tB, kB, nB, tC, kC, nC, tD, kD, nD, by kernel_rfl, Xoff2.out, Xa2.out, Xm2.out, Xn2.out, RR2.out, HGoff.out, HDaoff.out, HDmoff.out, HDnoff.out, HND.out, hbu2, hbw2⟩⟩
      · go_simp
        have HDaoff : Hid (ga ≠ uA.heap.size) := Nat.ne_of_lt Xa.out.lt
        have HDmoff : Hid (gm ≠ uA.heap.size) := Nat.ne_of_lt Xm.out.lt
        have HDnoff : Hid (gn ≠ uA.heap.size) := Nat.ne_of_lt Xn.out.lt
        have HGU : Hid (v1.heap.size ≤ uA.heap.size) := hbu.size
        have Xoff0 : Hid (Box (uA.alloc (.cells #[.bool false, .slice none 0 0] 87)) uA.heap.size (.bool false) (.slice none 0 0)) := Box.new uA _ _ _
        have hbn : Below uA.heap.size uA (uA.alloc (.cells #[.bool false, .slice none 0 0] 87)) := below1 uA _
        generalize uA.alloc (.cells #[.bool false, .slice none 0 0] 87) = Wn at *
        have HGoff : Hid (w.heap.size ≤ uA.heap.size) := hbw.size
        have hbu' := Below.on hbu hbn
        clear hbu
        have hbu := hbu'
        clear hbu'
        replace Xa : Hid _ := Xa.out.below hbn
        replace Xm : Hid _ := Xm.out.below hbn
        replace Xn : Hid _ := Xn.out.below hbn
        replace YA : Hid _ := YA.out.below hbn
        replace hbw := Below.on hbw hbn
        clear hbn
        generalize uA.heap.size = goff at *
        have Xoff := Xoff0
        clear Xoff0
        refine hK _ _ ⟨Xa.out.c0, Xa.out.c1, Xm.out.c0, Xm.out.c1, Xn.out.c0, Xn.out.c1⟩ ?_
        clear hK
        refine wpJ_on 3 rfl fun KJ hK => ?_
        go_simp
        refine (rmul04 tA t YA.out (HBu.out.below hbu) (by have := HLA.out; omega) (by have := HM.out.2.1; omega)).mono ?_
        rintro e9 uB ⟨v9, rfl, hv, hbB⟩
        obtain ⟨tB, kB, nB, rfl, hgB, hzB, hlB⟩ := hv
        skip
        have hbu' := Below.on hbu hbB
        clear hbu
        have hbu := hbu'
        clear hbu'
        replace Xa : Hid _ := Xa.out.below hbB
        replace Xm : Hid _ := Xm.out.below hbB
        replace Xn : Hid _ := Xn.out.below hbB
        replace Xoff : Hid _ := Xoff.out.below hbB
        replace YA : Hid _ := YA.out.below hbB
        replace hbw := Below.on hbw hbB
        clear hbB
        have YB : Hid (ZR uB tB (some ⟨kB, 0, none⟩) nB ((ux h + ux l) * y)) := hzB
        have HLB : Hid (nB ≤ nA + n) := hlB
        clear hzB hlB hgB
        refine hK _ _ ⟨Xa.out.c0, Xa.out.c1, Xm.out.c0, Xm.out.c1, Xn.out.c0, Xn.out.c1⟩ ?_
        clear hK
        refine wpJ_on 5 rfl fun KJ hK => ?_
        go_simp
        refine (rsub04 tB s YB.out (HAu.out.below hbu) (by have := HLA.out; have := HLB.out; have := HM.out.2.1; omega) (by have := HM.out.1; omega)).mono ?_
        rintro e9 uC ⟨v9, rfl, hv, hbC⟩
        obtain ⟨tC, kC, nC, rfl, hgC, hzC, hlC⟩ := hv
        skip
        have hbu' := Below.on hbu hbC
        clear hbu
        have hbu := hbu'
        clear hbu'
        replace Xa : Hid _ := Xa.out.below hbC
        replace Xm : Hid _ := Xm.out.below hbC
        replace Xn : Hid _ := Xn.out.below hbC
        replace Xoff : Hid _ := Xoff.out.below hbC
        replace YA : Hid _ := YA.out.below hbC
        replace YB : Hid _ := YB.out.below hbC
        replace hbw := Below.on hbw hbC
        clear hbC
        have YC : Hid (ZR uC tC (some ⟨kC, 0, none⟩) nC ((ux h + ux l) * y - x)) := hzC
        have HLC : Hid (nC ≤ max nB m + 1) := hlC
        clear hzC hlC hgC
        refine hK _ _ ⟨Xa.out.c0, Xa.out.c1, Xm.out.c0, Xm.out.c1, Xn.out.c0, Xn.out.c1⟩ ?_
        clear hK
        refine wpJ_on 6 rfl fun KJ hK => ?_
        go_simp
        have HLT : Hid (goff < uC.heap.size) := Xoff.out.lt
        refine (rabs_d tC YC.out (by have := HLA.out; have := HLB.out; have := HLC.out; have := HM.out.1; have := HM.out.2.1; omega)).mono ?_
        rintro e9 uD ⟨v9, rfl, hv, hbD⟩
        obtain ⟨tD, kD, nD, rfl, hgD, hzD, hlD⟩ := hv
        have HGB : Hid (uC.heap.size ≤ kD) := hgD
        have hbu' := Below.on hbu hbD
        clear hbu
        have hbu := hbu'
        clear hbu'
        replace Xa : Hid _ := Xa.out.below hbD
        replace Xm : Hid _ := Xm.out.below hbD
        replace Xn : Hid _ := Xn.out.below hbD
        replace Xoff : Hid _ := Xoff.out.below hbD
        replace YA : Hid _ := YA.out.below hbD
        replace YB : Hid _ := YB.out.below hbD
        replace YC : Hid _ := YC.out.below hbD
        replace hbw := Below.on hbw hbD
        clear hbD
        have RR : Hid (ZR uD tD (some ⟨kD, 0, none⟩) nD ((((ux h + ux l) * y - x).natAbs : Int))) := hzD
        have HLD : Hid (nD ≤ nC) := hlD
        clear hzD hlD hgD
        clear YA
        clear YB
        clear YC
        have HND : Hid (nD ≤ 13000) := by have := HLA.out; have := HLB.out; have := HLC.out; have := HLD.out; have := HM.out.1; have := HM.out.2.1; show _ ≤ _; omega
        have HNE : Hid (kD ≠ goff) := by have h1 := HLT.out; have h2 := HGB.out; show _ ≠ _; omega
        refine hK _ _ ⟨Xa.out.c0, Xa.out.c1, Xm.out.c0, Xm.out.c1, Xn.out.c0, Xn.out.c1⟩ ?_
        clear hK
        obtain ⟨coff0, coff1, foff0, foff1⟩ := Xoff.out
        have hneoff := Xoff.out.lt
        obtain ⟨ca0, ca1, fa0, fa1⟩ := Xa.out
        have hnea := Xa.out.lt
        obtain ⟨cm0, cm1, fm0, fm1⟩ := Xm.out
        have hnem := Xm.out.lt
        obtain ⟨cn0, cn1, fn0, fn1⟩ := Xn.out
        have hnen := Xn.out.lt
        have qaa : ga ≠ goff := HDaoff.out
        have qba : goff ≠ ga := fun h => qaa h.symm
        have qam : gm ≠ goff := HDmoff.out
        have qbm : goff ≠ gm := fun h => qam h.symm
        have qan : gn ≠ goff := HDnoff.out
        have qbn : goff ≠ gn := fun h => qan h.symm
        refine wpJ_on 8 rfl fun KJ hK => ?_
        go_simp
        have HJ2 : Hid ((fun W' : World => W'.cell? ⟨ga, 0, none⟩ = some (.int .u64 (h : Int)) ∧ W'.cell? ⟨ga, 1, none⟩ = some (.int .u64 (l : Int)) ∧ W'.cell? ⟨gm, 0, none⟩ = some (.bool s) ∧ W'.cell? ⟨gm, 1, none⟩ = some (.slice p m m) ∧ W'.cell? ⟨gn, 0, none⟩ = some (.bool t) ∧ W'.cell? ⟨gn, 1, none⟩ = some (.slice q n n)) ((uD.setCell ⟨goff, 0, none⟩ (.bool tD)).setCell ⟨goff, 1, none⟩ (.slice (some ⟨kD, 0, none⟩) nD nD))) := ⟨by go_simp, by go_simp, by go_simp, by go_simp, by go_simp, by go_simp⟩
        have Xoff2 : Hid (Box ((uD.setCell ⟨goff, 0, none⟩ (.bool tD)).setCell ⟨goff, 1, none⟩ (.slice (some ⟨kD, 0, none⟩) nD nD)) goff (.bool tD) (.slice (some ⟨kD, 0, none⟩) nD nD)) := ⟨by go_simp, by go_simp, by go_simp, by go_simp⟩
        have Xa2 : Hid (Box ((uD.setCell ⟨goff, 0, none⟩ (.bool tD)).setCell ⟨goff, 1, none⟩ (.slice (some ⟨kD, 0, none⟩) nD nD)) ga (.int .u64 (h : Int)) (.int .u64 (l : Int))) := ⟨by go_simp, by go_simp, by go_simp, by go_simp⟩
        have Xm2 : Hid (Box ((uD.setCell ⟨goff, 0, none⟩ (.bool tD)).setCell ⟨goff, 1, none⟩ (.slice (some ⟨kD, 0, none⟩) nD nD)) gm (.bool s) (.slice p m m)) := ⟨by go_simp, by go_simp, by go_simp, by go_simp⟩
        have Xn2 : Hid (Box ((uD.setCell ⟨goff, 0, none⟩ (.bool tD)).setCell ⟨goff, 1, none⟩ (.slice (some ⟨kD, 0, none⟩) nD nD)) gn (.bool t) (.slice q n n)) := ⟨by go_simp, by go_simp, by go_simp, by go_simp⟩
        have RR2 : Hid (ZR ((uD.setCell ⟨goff, 0, none⟩ (.bool tD)).setCell ⟨goff, 1, none⟩ (.slice (some ⟨kD, 0, none⟩) nD nD)) tD (some ⟨kD, 0, none⟩) nD ((((ux h + ux l) * y - x).natAbs : Int))) := (RR.out.set _ _ _ HNE.out).set _ _ _ HNE.out
        have hbu2 : Below v1.heap.size v1 ((uD.setCell ⟨goff, 0, none⟩ (.bool tD)).setCell ⟨goff, 1, none⟩ (.slice (some ⟨kD, 0, none⟩) nD nD)) := bSet (bSet hbu _ _ _ HGU.out) _ _ _ HGU.out
        have hbw2 : Below w.heap.size w ((uD.setCell ⟨goff, 0, none⟩ (.bool tD)).setCell ⟨goff, 1, none⟩ (.slice (some ⟨kD, 0, none⟩) nD nD)) := bSet (bSet hbw _ _ _ HGoff.out) _ _ _ HGoff.out
        refine hK _ _ HJ2.out ?_
        clear hK HJ
        have HJ := HJ2
        clear HJ2
        refine wpJ_done (by kernel_rfl) ?_ _
        exact ⟨rfl, HRQ.out _ _ _ ⟨goff, tA, kA, nA, tB, kB, nB, tC, kC, nC, tD, kD, nD, by kernel_rfl, Xoff2.out, Xa2.out, Xm2.out, Xn2.out, RR2.out, HGoff.out, HDaoff.out, HDmoff.out, HDnoff.out, HND.out, hbu2, hbw2⟩⟩
    · go_simp
      have HDaoff : Hid (ga ≠ Wr.heap.size) := Nat.ne_of_lt Xa.out.lt
      have HDmoff : Hid (gm ≠ Wr.heap.size) := Nat.ne_of_lt Xm.out.lt
      have HDnoff : Hid (gn ≠ Wr.heap.size) := Nat.ne_of_lt Xn.out.lt
      have HGU : Hid (v1.heap.size ≤ Wr.heap.size) := hbu.size
      have Xoff0 : Hid (Box (Wr.alloc (.cells #[.bool false, .slice none 0 0] 87)) Wr.heap.size (.bool false) (.slice none 0 0)) := Box.new Wr _ _ _
      have hbn : Below Wr.heap.size Wr (Wr.alloc (.cells #[.bool false, .slice none 0 0] 87)) := below1 Wr _
      generalize Wr.alloc (.cells #[.bool false, .slice none 0 0] 87) = Wn at *
      have HGoff : Hid (w.heap.size ≤ Wr.heap.size) := hbw.size
      have hbu' := Below.on hbu hbn
      clear hbu
      have hbu := hbu'
      clear hbu'
      replace Xa : Hid _ := Xa.out.below hbn
      replace Xm : Hid _ := Xm.out.below hbn
      replace Xn : Hid _ := Xn.out.below hbn
      replace hbw := Below.on hbw hbn
      clear hbn
      generalize Wr.heap.size = goff at *
      have Xoff := Xoff0
      clear Xoff0
      refine hK _ _ ⟨Xa.out.c0, Xa.out.c1, Xm.out.c0, Xm.out.c1, Xn.out.c0, Xn.out.c1⟩ ?_
      clear hK
      refine wpJ_on 1 rfl fun KJ hK => ?_
      go_simp
      refine (sum20 _).mono ?_
      rintro e9 uA ⟨v9, rfl, hv, hbA⟩
      obtain ⟨tA, kA, nA, rfl, hgA, hzA, hlA⟩ := hv
      skip
      have hbu' := Below.on hbu hbA
      clear hbu
      have hbu := hbu'
      clear hbu'
      replace Xa : Hid _ := Xa.out.below hbA
      replace Xm : Hid _ := Xm.out.below hbA
      replace Xn : Hid _ := Xn.out.below hbA
      replace Xoff : Hid _ := Xoff.out.below hbA
      replace hbw := Below.on hbw hbA
      clear hbA
      have YA : Hid (ZR uA tA (some ⟨kA, 0, none⟩) nA (ux h + ux l)) := hzA
      have HLA : Hid (nA ≤ 2201) := hlA
      clear hzA hlA hgA
      refine hK _ _ ⟨Xa.out.c0, Xa.out.c1, Xm.out.c0, Xm.out.c1, Xn.out.c0, Xn.out.c1⟩ ?_
      clear hK
      refine wpJ_on 3 rfl fun KJ hK => ?_
      go_simp
      refine (rmul04 tA t YA.out (HBu.out.below hbu) (by have := HLA.out; omega) (by have := HM.out.2.1; omega)).mono ?_
      rintro e9 uB ⟨v9, rfl, hv, hbB⟩
      obtain ⟨tB, kB, nB, rfl, hgB, hzB, hlB⟩ := hv
      skip
      have hbu' := Below.on hbu hbB
      clear hbu
      have hbu := hbu'
      clear hbu'
      replace Xa : Hid _ := Xa.out.below hbB
      replace Xm : Hid _ := Xm.out.below hbB
      replace Xn : Hid _ := Xn.out.below hbB
      replace Xoff : Hid _ := Xoff.out.below hbB
      replace YA : Hid _ := YA.out.below hbB
      replace hbw := Below.on hbw hbB
      clear hbB
      have YB : Hid (ZR uB tB (some ⟨kB, 0, none⟩) nB ((ux h + ux l) * y)) := hzB
      have HLB : Hid (nB ≤ nA + n) := hlB
      clear hzB hlB hgB
      refine hK _ _ ⟨Xa.out.c0, Xa.out.c1, Xm.out.c0, Xm.out.c1, Xn.out.c0, Xn.out.c1⟩ ?_
      clear hK
      refine wpJ_on 5 rfl fun KJ hK => ?_
      go_simp
      refine (rsub04 tB s YB.out (HAu.out.below hbu) (by have := HLA.out; have := HLB.out; have := HM.out.2.1; omega) (by have := HM.out.1; omega)).mono ?_
      rintro e9 uC ⟨v9, rfl, hv, hbC⟩
      obtain ⟨tC, kC, nC, rfl, hgC, hzC, hlC⟩ := hv
      skip
      have hbu' := Below.on hbu hbC
      clear hbu
      have hbu := hbu'
      clear hbu'
      replace Xa : Hid _ := Xa.out.below hbC
      replace Xm : Hid _ := Xm.out.below hbC
      replace Xn : Hid _ := Xn.out.below hbC
      replace Xoff : Hid _ := Xoff.out.below hbC
      replace YA : Hid _ := YA.out.below hbC
      replace YB : Hid _ := YB.out.below hbC
      replace hbw := Below.on hbw hbC
      clear hbC
      have YC : Hid (ZR uC tC (some ⟨kC, 0, none⟩) nC ((ux h + ux l) * y - x)) := hzC
      have HLC : Hid (nC ≤ max nB m + 1) := hlC
      clear hzC hlC hgC
      refine hK _ _ ⟨Xa.out.c0, Xa.out.c1, Xm.out.c0, Xm.out.c1, Xn.out.c0, Xn.out.c1⟩ ?_
      clear hK
      refine wpJ_on 6 rfl fun KJ hK => ?_
      go_simp
      have HLT : Hid (goff < uC.heap.size) := Xoff.out.lt
      refine (rabs_d tC YC.out (by have := HLA.out; have := HLB.out; have := HLC.out; have := HM.out.1; have := HM.out.2.1; omega)).mono ?_
      rintro e9 uD ⟨v9, rfl, hv, hbD⟩
      obtain ⟨tD, kD, nD, rfl, hgD, hzD, hlD⟩ := hv
      have HGB : Hid (uC.heap.size ≤ kD) := hgD
      have hbu' := Below.on hbu hbD
      clear hbu
      have hbu := hbu'
      clear hbu'
      replace Xa : Hid _ := Xa.out.below hbD
      replace Xm : Hid _ := Xm.out.below hbD
      replace Xn : Hid _ := Xn.out.below hbD
      replace Xoff : Hid _ := Xoff.out.below hbD
      replace YA : Hid _ := YA.out.below hbD
      replace YB : Hid _ := YB.out.below hbD
      replace YC : Hid _ := YC.out.below hbD
      replace hbw := Below.on hbw hbD
      clear hbD
      have RR : Hid (ZR uD tD (some ⟨kD, 0, none⟩) nD ((((ux h + ux l) * y - x).natAbs : Int))) := hzD
      have HLD : Hid (nD ≤ nC) := hlD
      clear hzD hlD hgD
      clear YA
      clear YB
      clear YC
      have HND : Hid (nD ≤ 13000) := by have := HLA.out; have := HLB.out; have := HLC.out; have := HLD.out; have := HM.out.1; have := HM.out.2.1; show _ ≤ _; omega
      have HNE : Hid (kD ≠ goff) := by have h1 := HLT.out; have h2 := HGB.out; show _ ≠ _; omega
      refine hK _ _ ⟨Xa.out.c0, Xa.out.c1, Xm.out.c0, Xm.out.c1, Xn.out.c0, Xn.out.c1⟩ ?_
      clear hK
      obtain ⟨coff0, coff1, foff0, foff1⟩ := Xoff.out
      have hneoff := Xoff.out.lt
      obtain ⟨ca0, ca1, fa0, fa1⟩ := Xa.out
      have hnea := Xa.out.lt
      obtain ⟨cm0, cm1, fm0, fm1⟩ := Xm.out
      have hnem := Xm.out.lt
      obtain ⟨cn0, cn1, fn0, fn1⟩ := Xn.out
      have hnen := Xn.out.lt
      have qaa : ga ≠ goff := HDaoff.out
      have qba : goff ≠ ga := fun h => qaa h.symm
      have qam : gm ≠ goff := HDmoff.out
      have qbm : goff ≠ gm := fun h => qam h.symm
      have qan : gn ≠ goff := HDnoff.out
      have qbn : goff ≠ gn := fun h => qan h.symm
      refine wpJ_on 8 rfl fun KJ hK => ?_
      go_simp
      have HJ2 : Hid ((fun W' : World => W'.cell? ⟨ga, 0, none⟩ = some (.int .u64 (h : Int)) ∧ W'.cell? ⟨ga, 1, none⟩ = some (.int .u64 (l : Int)) ∧ W'.cell? ⟨gm, 0, none⟩ = some (.bool s) ∧ W'.cell? ⟨gm, 1, none⟩ = some (.slice p m m) ∧ W'.cell? ⟨gn, 0, none⟩ = some (.bool t) ∧ W'.cell? ⟨gn, 1, none⟩ = some (.slice q n n)) ((uD.setCell ⟨goff, 0, none⟩ (.bool tD)).setCell ⟨goff, 1, none⟩ (.slice (some ⟨kD, 0, none⟩) nD nD))) := ⟨by go_simp, by go_simp, by go_simp, by go_simp, by go_simp, by go_simp⟩
      have Xoff2 : Hid (Box ((uD.setCell ⟨goff, 0, none⟩ (.bool tD)).setCell ⟨goff, 1, none⟩ (.slice (some ⟨kD, 0, none⟩) nD nD)) goff (.bool tD) (.slice (some ⟨kD, 0, none⟩) nD nD)) := ⟨by go_simp, by go_simp, by go_simp, by go_simp⟩
      have Xa2 : Hid (Box ((uD.setCell ⟨goff, 0, none⟩ (.bool tD)).setCell ⟨goff, 1, none⟩ (.slice (some ⟨kD, 0, none⟩) nD nD)) ga (.int .u64 (h : Int)) (.int .u64 (l : Int))) := ⟨by go_simp, by go_simp, by go_simp, by go_simp⟩
      have Xm2 : Hid (Box ((uD.setCell ⟨goff, 0, none⟩ (.bool tD)).setCell ⟨goff, 1, none⟩ (.slice (some ⟨kD, 0, none⟩) nD nD)) gm (.bool s) (.slice p m m)) := ⟨by go_simp, by go_simp, by go_simp, by go_simp⟩
      have Xn2 : Hid (Box ((uD.setCell ⟨goff, 0, none⟩ (.bool tD)).setCell ⟨goff, 1, none⟩ (.slice (some ⟨kD, 0, none⟩) nD nD)) gn (.bool t) (.slice q n n)) := ⟨by go_simp, by go_simp, by go_simp, by go_simp⟩
      have RR2 : Hid (ZR ((uD.setCell ⟨goff, 0, none⟩ (.bool tD)).setCell ⟨goff, 1, none⟩ (.slice (some ⟨kD, 0, none⟩) nD nD)) tD (some ⟨kD, 0, none⟩) nD ((((ux h + ux l) * y - x).natAbs : Int))) := (RR.out.set _ _ _ HNE.out).set _ _ _ HNE.out
      have hbu2 : Below v1.heap.size v1 ((uD.setCell ⟨goff, 0, none⟩ (.bool tD)).setCell ⟨goff, 1, none⟩ (.slice (some ⟨kD, 0, none⟩) nD nD)) := bSet (bSet hbu _ _ _ HGU.out) _ _ _ HGU.out
      have hbw2 : Below w.heap.size w ((uD.setCell ⟨goff, 0, none⟩ (.bool tD)).setCell ⟨goff, 1, none⟩ (.slice (some ⟨kD, 0, none⟩) nD nD)) := bSet (bSet hbw _ _ _ HGoff.out) _ _ _ HGoff.out
      refine hK _ _ HJ2.out ?_
      clear hK HJ
      have HJ := HJ2
      clear HJ2
      refine wpJ_done (by kernel_rfl) ?_ _
      exact ⟨rfl, HRQ.out _ _ _ ⟨goff, tA, kA, nA, tB, kB, nB, tC, kC, nC, tD, kD, nD, by kernel_rfl, Xoff2.out, Xa2.out, Xm2.out, Xn2.out, RR2.out, HGoff.out, HDaoff.out, HDmoff.out, HDnoff.out, HND.out, hbu2, hbw2⟩⟩
theorem rpow2d (w : World) (k : Nat) (hk : k ≤ 524288) :
    Calls Tryz.prog 127 #[.int .i64 k] w fun e w' => ∃ p' m' zs, e = .returned (.slice p' m' m') ∧ At32 w' p' m' m' zs ∧ Nf B32 zs (2 ^ k) ∧ m' ≤ 40000 ∧ Below w.heap.size w w' := by
  have HK : Hid (k ≤ 524288) := hk
  clear hk
  have hbw : Below w.heap.size w w := Below.refl _ _
  go_enter Tryz.func127, Tryz.ntmps127
  go_wp2_with fail
  refine (rword 1 (by rw [B64_eq]; decide) _).mono ?_
  rintro e v4 ⟨g4, z4, rfl, hl4, hA4, hN4, hb4⟩
  replace hbw := Below.on hbw hb4
  clear hb4
  have A4 : Hid (At32 v4 (some ⟨g4, 0, none⟩) z4.length z4.length z4) := hA4
  have N4 : Hid (Nf B32 z4 1 ∧ z4.length ≤ 2) := ⟨hN4, hl4⟩
  clear hA4 hN4 hl4
  go_wp2_with fail
  refine (rshl_all A4.out N4.out.1 (by have := N4.out; omega) k (.inl HK.out)).mono ?_
  rintro e v5 ⟨p5, m5, z5, rfl, hA5, hN5, hl5, hb5⟩
  replace A4 : Hid _ := A4.out.below hb5
  replace hbw := Below.on hbw hb5
  clear hb5
  have A5 : Hid (At32 v5 p5 m5 m5 z5) := hA5
  have N5 : Hid (Nf B32 z5 (2 ^ k) ∧ m5 ≤ 40000) := ⟨by rw [Nat.one_mul] at hN5; exact hN5, hl5⟩
  clear hA5 hN5 hl5
  go_wp2_with fail
  go_ret
  exact ⟨p5, m5, z5, rfl, A5.out, N5.out.1, N5.out.2, hbw⟩
def OneE : Nat := 1074
theorem wpJ_nodes {P : Program} {md : Region.Mode} {ops : Array Oper} {Q : Exit → Act → World → Prop} {J : World → Prop} {fuel : Nat} {listed : Array Bool} {a : Act} {w : World} (h : ∀ WP : Nat → Array Bool → Act → World → Prop, WP = wpJ P md ops Q J → ∀ L a0, L = listed → a0 = a → WP fuel L a0 w) : wpJ P md ops Q J fuel listed a w := h _ rfl _ _ rfl rfl
theorem wpJ_same {P : Program} {md : Region.Mode} {ops : Array Oper} {Q : Exit → Act → World → Prop} {J : World → Prop} {fuel : Nat} {L L' : Array Bool} {a a' : Act} {w : World} (h1 : L = L') (h2 : a = a') (h : wpJ P md ops Q J fuel L a w) : wpJ P md ops Q J fuel L' a' w := by
  subst h1 h2; exact h
structure Op20 where
  k : Int
  ah : Nat
  al : Nat
  bh : Nat
  bl : Nat
structure Scr20 (w : World) (P : Option Addr) (N C : Nat) (its : List Op20) : Prop where
  len : its.length = N
  cap : N ≤ C
  big : C ≤ maxLen
  bd : ∀ t ∈ its, t.ah < 18446744073709551616 ∧ t.al < 18446744073709551616 ∧ t.bh < 18446744073709551616 ∧ t.bl < 18446744073709551616
  cells : N = 0 ∨ ∃ g off, P = some ⟨g, off, none⟩ ∧ ∀ i (h : i < its.length), w.cell? ⟨g, off + i * 5, none⟩ = some (.int .i64 its[i].k) ∧ w.cell? ⟨g, off + i * 5 + 1, none⟩ = some (U its[i].ah) ∧ w.cell? ⟨g, off + i * 5 + 2, none⟩ = some (U its[i].al) ∧ w.cell? ⟨g, off + i * 5 + 3, none⟩ = some (U its[i].bh) ∧ w.cell? ⟨g, off + i * 5 + 4, none⟩ = some (U its[i].bl)
theorem Scr20.below {w w' : World} {P : Option Addr} {N C : Nat} {its : List Op20} (h : Scr20 w P N C its) (hb : Below w.heap.size w w') : Scr20 w' P N C its := by
  refine ⟨h.len, h.cap, h.big, h.bd, ?_⟩
  rcases h.cells with h0 | ⟨g, off, hP, hc⟩
  · exact .inl h0
  · refine .inr ⟨g, off, hP, fun i hi => ?_⟩
    obtain ⟨h0, h1, h2, h3, h4⟩ := hc i hi
    have hl : g < w.heap.size := World.block_lt_of_cell? w _ h0
    exact ⟨(hb.cell (p := ⟨g, off + i * 5, none⟩) hl).trans h0, (hb.cell (p := ⟨g, off + i * 5 + 1, none⟩) hl).trans h1, (hb.cell (p := ⟨g, off + i * 5 + 2, none⟩) hl).trans h2, (hb.cell (p := ⟨g, off + i * 5 + 3, none⟩) hl).trans h3, (hb.cell (p := ⟨g, off + i * 5 + 4, none⟩) hl).trans h4⟩
def Play20 (k : Int) : Prop := ∀ (ah al bh bl : Nat) (w : World), (ah < 18446744073709551616 ∧ al < 18446744073709551616 ∧ bh < 18446744073709551616 ∧ bl < 18446744073709551616) → Calls Tryz.prog 38 #[.agg #[.int .i64 k, U ah, U al, U bh, U bl]] w fun en w' => en = .returned (.bool true) ∧ Below w.heap.size w w'
theorem all20 {P : Option Addr} {N C : Nat} {its : List Op20} {w : World} {lo hi : Int} (h : Scr20 w P N C its)
    (hp : ∀ k, lo ≤ k → k ≤ hi → Play20 k) :
    Calls Tryz.prog 10 #[.slice P N C, .int .i64 lo, .int .i64 hi] w fun en w' => en = .returned (.bool true) ∧ Below w.heap.size w w' := by
  have H : Hid (Scr20 w P N C its) := h
  have HP : Hid (∀ k, lo ≤ k → k ≤ hi → Play20 k) := hp
  have HLN : Hid (its.length = N) := h.len
  have cap := h.cap; have big := h.big
  unfold maxLen at big
  clear h hp
  go_enter Tryz.func10, Tryz.ntmps10
  go_wp2_with fail
  go_loopg [11] N (fun gg iv wr => ∃ k : Nat, k + gg = N ∧ iv = .int .i64 k ∧ Below w.heap.size w wr)
  case atStart => exact ⟨0, by omega, rfl, Below.refl _ _⟩
  case round =>
    obtain ⟨k, hkg, rfl, hbw⟩ := hrel
    cases gk with
    | zero =>
      obtain rfl : k = N := by omega
      have hnk : ¬ (k : Int) < (k : Int) := by omega
      go_wp2_with fail
      go_ret
      exact ⟨rfl, hbw⟩
    | succ gg =>
      have hki : k < its.length := by rw [HLN.out]; omega
      have HR := H.out.below hbw
      obtain ⟨g, off, rfl, hc⟩ := HR.cells.resolve_left (by omega)
      obtain ⟨e0, e1, e2, e3, e4⟩ := hc k hki
      have HAT := Hid.mk9 (HR.bd its[k] (List.getElem_mem hki))
      have HBW : Hid (Below w.heap.size w wr) := hbw
      have hkk : (k : Int) < (N : Int) := by omega
      have hlt : g < wr.heap.size := World.block_lt_of_cell? wr _ e0
      clear hc HR hbw
      generalize its[k].k = kd at *
      generalize its[k].ah = ah at *
      generalize its[k].al = al at *
      generalize its[k].bh = bh at *
      generalize its[k].bl = bl at *
      have HBO : Hid (Below w.heap.size w (wr.alloc (.cells #[.int .i64 kd, U ah, U al, U bh, U bl] 58))) := Below.on HBW.out (below1 wr _)
      clear HBW
      by_cases hlo : lo ≤ kd
      · have hlo2 : ¬ kd < lo := by omega
        by_cases hhi : kd ≤ hi
        · have hhi2 : ¬ hi < kd := by omega
          have HPK : Hid (Play20 kd) := HP.out kd hlo hhi
          go_wp2_with fail
          refine (HPK.out ah al bh bl _ HAT.out).mono ?_
          rintro e wz ⟨rfl, hbq⟩
          have hbz := Below.on HBO.out hbq
          clear hbq e0 e1 e2 e3 e4
          go_wp2_with fail
          go_roundg gg
          case measure => omega
          case rel => exact ⟨k + 1, by omega, by go_num, hbz⟩
        · have hhi2 : hi < kd := by omega
          go_wp2_with fail
          go_roundg gg
          case measure => omega
          case rel => exact ⟨k + 1, by omega, by go_num, HBO.out⟩
      · have hlo2 : kd < lo := by omega
        go_wp2_with fail
        go_roundg gg
        case measure => omega
        case rel => exact ⟨k + 1, by omega, by go_num, HBO.out⟩
end Go.Proofs.YtidggnjnlhjhlaaGreatDoor
namespace Go.Proofs.YtidggnjnlhjhlaaGreatDoor
open Go.ChangeShapes Go.WideShapes Go.ChangeAt Go.RowKit Go.Deep
set_option maxRecDepth 20000
set_option maxHeartbeats 0
theorem cellsOfOp20 : Tryz.prog.cellsOf 58 = 5 := by kernel_rfl
theorem cellsOfDD20 : Tryz.prog.cellsOf 28 = 2 := by kernel_rfl
theorem cellsOfi20 : Tryz.prog.cellsOf 3 = 1 := by kernel_rfl
theorem oneCellDD20 {fs : Array Field} (h : Tryz.prog.underlying 28 = some (.struct fs)) : oneCellFields Tryz.prog fs = true := by
  have : (match Tryz.prog.underlying 28 with | some (.struct fs) => oneCellFields Tryz.prog fs | _ => false) = true := by kernel_rfl
  rw [h] at this
  exact this
theorem open_dd20 {H : Type} {enc : TypeId × Value → H} {W : World} {k : Nat} {v0 v1 : Value} {y : DataW H × List MemPlace}
    (h : DataW.trod enc Tryz.prog W 0 (fun _ => true) true k 28 [v0, v1] = some y) :
    ∃ a b : Nat, v0 = U a ∧ v1 = U b ∧ a < 18446744073709551616 ∧ b < 18446744073709551616 := by
  have hone := oneCellDD20 Tryz.underlying28
  obtain ⟨us, kx, _, hux, _, hul, hgx⟩ := DataW.trod_struct Tryz.underlying28 h
  match us, hul with
  | [a0, a1], _ =>
    have x0 := hgx 0 _ rfl
    have x1 := hgx 1 _ rfl
    rw [(hone_of hone 0 _ rfl).1, (hone_of hone 0 _ rfl).2] at x0
    rw [(hone_of hone 1 _ rfl).1, (hone_of hone 1 _ rfl).2] at x1
    have q0 : DataW.trod enc Tryz.prog W 0 (fun _ => true) true kx 26 [v0] = some a0 := x0
    have q1 : DataW.trod enc Tryz.prog W 0 (fun _ => true) true kx 26 [v1] = some a1 := x1
    clear x0 x1
    obtain ⟨a, rfl, wa⟩ := open_fld_int Tryz.underlying26 q0
    obtain ⟨b, rfl, wb⟩ := open_fld_int Tryz.underlying26 q1
    have ba := wf_u64 wa
    have bb := wf_u64 wb
    obtain ⟨n, rfl⟩ := Int.eq_ofNat_of_zero_le ba.1
    obtain ⟨m, rfl⟩ := Int.eq_ofNat_of_zero_le bb.1
    exact ⟨n, m, rfl, rfl, by omega, by omega⟩
theorem open_script20 {H : Type} {enc : TypeId × Value → H} {W : World} {a : Option Addr} {len cap : Nat} {d : DataW H} {ps : List MemPlace}
    (h : DataW.Trod enc Tryz.prog W 0 (fun _ => true) true 22 (.slice a len cap) d ps) :
    ∃ its, Scr20 W a len cap its := by
  obtain ⟨fuel, hf⟩ := h
  rcases DataW.trod_slice Tryz.underlying22 hf with ⟨hcs, _⟩ | ⟨x, l, c, elems, rest, n, _, hcs, hx, hb, hl, hm, hlen, hel, _, _⟩
  · simp [Value.cells] at hcs
    obtain ⟨rfl, rfl, rfl⟩ := hcs
    exact ⟨[], rfl, Nat.le_refl _, by decide, fun t h => by simp at h, .inl rfl⟩
  · simp [Value.cells] at hcs
    obtain ⟨rfl, rfl, rfl⟩ := hcs
    simp only [Prod.mk.injEq] at hx
    obtain ⟨rfl, _⟩ := hx
    obtain ⟨b, off, spot⟩ := x
    have each : ∀ i, i < len → ∃ t : Op20, (W.cell? ((⟨b, off, spot⟩ : Addr).add (i * 5 + 0)) = some (.int .i64 t.k) ∧ W.cell? ((⟨b, off, spot⟩ : Addr).add (i * 5 + 1)) = some (U t.ah) ∧ W.cell? ((⟨b, off, spot⟩ : Addr).add (i * 5 + 2)) = some (U t.al) ∧ W.cell? ((⟨b, off, spot⟩ : Addr).add (i * 5 + 3)) = some (U t.bh) ∧ W.cell? ((⟨b, off, spot⟩ : Addr).add (i * 5 + 4)) = some (U t.bl)) ∧
        (t.ah < 18446744073709551616 ∧ t.al < 18446744073709551616 ∧ t.bh < 18446744073709551616 ∧ t.bl < 18446744073709551616) := by
      intro i hi
      have h1 := hel i hi
      have hie : i < elems.length := by omega
      rw [List.getElem?_eq_getElem hie, Option.bind_eq_some_iff] at h1
      obtain ⟨cs', h2, h3⟩ := h1
      rw [cellsOfOp20] at h2
      obtain ⟨_, hlenN, hcell⟩ := World.cells?_some h2
      obtain ⟨ys, k, _, hxy, _, hxl, hg⟩ := DataW.trod_struct Tryz.underlying58 h3
      match ys, hxl, cs', hlenN with
      | [y0, y1, y2], _, [v0, v1, v2, v3, v4], _ =>
        have k0 : DataW.trod enc Tryz.prog W 0 (fun _ => true) true k 3 [v0] = some y0 := by
          have g' : DataW.trod enc Tryz.prog W 0 (fun _ => true) true k 3 (([v0, v1, v2, v3, v4].drop 0).take (Tryz.prog.cellsOf 3)) = some y0 := hg 0 _ rfl
          rw [cellsOfi20] at g'
          exact g'
        have k1 : DataW.trod enc Tryz.prog W 0 (fun _ => true) true k 28 [v1, v2] = some y1 := by
          have g' : DataW.trod enc Tryz.prog W 0 (fun _ => true) true k 28 (([v0, v1, v2, v3, v4].drop 1).take (Tryz.prog.cellsOf 28)) = some y1 := hg 1 _ rfl
          rw [cellsOfDD20] at g'
          exact g'
        have k2 : DataW.trod enc Tryz.prog W 0 (fun _ => true) true k 28 [v3, v4] = some y2 := by
          have g' : DataW.trod enc Tryz.prog W 0 (fun _ => true) true k 28 (([v0, v1, v2, v3, v4].drop 3).take (Tryz.prog.cellsOf 28)) = some y2 := hg 2 _ rfl
          rw [cellsOfDD20] at g'
          exact g'
        obtain ⟨c0, rfl, _⟩ := open_fld_int Tryz.underlying3 k0
        obtain ⟨a1, a2, rfl, rfl, l1, l2⟩ := open_dd20 k1
        obtain ⟨a3, a4, rfl, rfl, l3, l4⟩ := open_dd20 k2
        have e0 := hcell 0 (by omega)
        have e1 := hcell 1 (by omega)
        have e2 := hcell 2 (by omega)
        have e3 := hcell 3 (by omega)
        have e4 := hcell 4 (by omega)
        rw [add_add] at e0 e1 e2 e3 e4
        exact ⟨⟨c0, a1, a2, a3, a4⟩, ⟨e0, e1, e2, e3, e4⟩, l1, l2, l3, l4⟩
    have inh : Inhabited Op20 := ⟨⟨0, 0, 0, 0, 0⟩⟩
    obtain ⟨q, hq⟩ := choose_lt each
    refine ⟨(List.range len).map q, by simp, hl, hm, ?_, ?_⟩
    · intro t ht
      obtain ⟨i, hi, rfl⟩ := List.mem_map.1 ht
      exact (hq i (List.mem_range.1 hi)).2
    · by_cases h0 : len = 0
      · exact .inl h0
      · have hs := (hq 0 (by omega)).1.1
        have hspot : spot = none := by simpa [Addr.add] using World.cell?_spot hs
        subst hspot
        have hadd : ∀ q : Nat, (⟨b, off, none⟩ : Addr).add q = ⟨b, off + q, none⟩ := by intro q; unfold Addr.add; split <;> simp_all
        refine .inr ⟨b, off, rfl, fun i hi => ?_⟩
        have hi' : i < len := by simpa using hi
        have h5 := (hq i hi').1
        simp only [hadd] at h5
        simpa [Nat.add_assoc] using h5
end Go.Proofs.YtidggnjnlhjhlaaGreatDoor
namespace Go.Proofs.YtidggnjnlhjhlaaGreatDoor
open Go.RowKit Go.Shelf
set_option maxRecDepth 20000
set_option maxHeartbeats 0
theorem mul_near {n c : Nat} (hf : rgc c n < 9218868437227405312) : 2 * 9007199254740992 * ((vs 4503599627370496 (rgc c n) * 2 ^ c : Nat) - (n : Int)).natAbs ≤ 2 * n + 9007199254740992 * 2 ^ c := by
  by_cases h0 : n = 0
  · subst h0
    rw [show rgc c 0 = 0 from rfl, vs_zero]
    simp
  obtain ⟨L, hL⟩ : ∃ L, L = max (n.log2 - 52) c := ⟨_, rfl⟩
  have hlog := Nat.log2_self_le h0
  have hlt : n < 2 ^ (n.log2 + 1) := Nat.lt_log2_self
  have hr : rgc c n = (L - c) * 4503599627370496 + rne n L := by
    unfold rgc at hf ⊢
    rw [if_neg h0, ← hL] at hf ⊢
    omega
  have h1 := rne_err n L
  have h53 : rne n L ≤ 9007199254740992 := by
    refine rne_le n L 9007199254740992 ?_
    have h2 : 2 ^ (n.log2 + 1) ≤ 9007199254740992 * 2 ^ L := by
      rw [show (9007199254740992 : Nat) = 2 ^ 53 by decide, ← Nat.pow_add]
      exact Nat.pow_le_pow_right (by decide) (by omega)
    omega
  have hv : vs 4503599627370496 (rgc c n) * 2 ^ c = rne n L * 2 ^ L := by
    have h4 : L - c = 0 ∨ 4503599627370496 ≤ rne n L := by
      by_cases h5 : L - c = 0
      · exact .inl h5
      · refine .inr (le_rne n L 4503599627370496 ?_)
        have h6 : 4503599627370496 * 2 ^ L = 2 ^ n.log2 := by
          rw [show (4503599627370496 : Nat) = 2 ^ 52 by decide, ← Nat.pow_add]
          congr 1; omega
        omega
    rw [hr, vs_at (L - c) (rne n L) h4 h53, Nat.mul_assoc, ← Nat.pow_add, show L - c + c = L by omega]
  rw [hv]
  by_cases h5 : L = c
  · rw [h5] at h1 ⊢
    omega
  · have h6 : 9007199254740992 * 2 ^ L ≤ 2 * n := by
      have h7 : 9007199254740992 * 2 ^ L = 2 * 2 ^ n.log2 := by
        rw [show (9007199254740992 : Nat) = 2 * 2 ^ 52 by decide, Nat.mul_assoc, ← Nat.pow_add]
        congr 2; omega
      omega
    omega
theorem mul_bnd {Q A B D E F G K W U e k : Nat} (hA : 9007199254740992 * A ≤ Q) (hB : 9007199254740992 * B ≤ Q) (hD : 9007199254740992 * D ≤ A) (hE : 9007199254740992 * E ≤ A + 9007199254740992 * U) (hF : 9007199254740992 * F ≤ B + 9007199254740992 * U)
    (hG : G ≤ A + E + (B + F)) (hK : 9007199254740992 * K ≤ G) (hk : k ≤ G + K) (he : 9007199254740992 * e ≤ Q) (hW : 9007199254740992 * W ≤ e + k) (hU : 1152921504606846976 * (81129638414606681695789005144064 * U) ≤ Q) :
    81129638414606681695789005144064 * (W + K + E + F + D) ≤ 10 * Q ∧ e + k + W ≤ Q - e ∧ 16 * (A + B + D) ≤ Q ∧ e ≤ Q := by
  omega
theorem ab8 {a b : Int} : a.natAbs ≤ b.natAbs + (a - b).natAbs := by omega
theorem na_mul (x : Int) (U : Nat) : (x * (U : Int)).natAbs = x.natAbs * U := by rw [Int.natAbs_mul, Int.natAbs_natCast]
theorem up_mul {a b U : Nat} (h : 9007199254740992 * a ≤ b) : 9007199254740992 * (a * U) ≤ b * U := by rw [← Nat.mul_assoc]; exact Nat.mul_le_mul_right _ h
theorem mul_err {x xl y yl p e m1 m2 k w V : Int} (hp : (p + e) * V = x * y) : (p + w) * V - (x + xl) * (y + yl) = (w - (e + k)) * V + (k - (m1 + m2)) * V + (m1 * V - x * yl) + (m2 * V - xl * y) - xl * yl := by
  rw [Int.add_mul] at hp
  rw [Int.add_mul p w, Int.add_mul x xl, Int.mul_add, Int.mul_add, Int.sub_mul w, Int.add_mul e k, Int.sub_mul k, Int.add_mul m1 m2]
  omega
theorem na5 {a b c d f : Int} : (a + b + c + d - f).natAbs ≤ a.natAbs + b.natAbs + c.natAbs + d.natAbs + f.natAbs := by omega
theorem na_tot {x xl y yl : Int} : (x * y).natAbs ≤ ((x + xl) * (y + yl)).natAbs + ((x * yl).natAbs + (xl * y).natAbs + (xl * yl).natAbs) := by
  rw [Int.add_mul x xl, Int.mul_add, Int.mul_add]; omega
theorem fin_tot {Q A B D P N : Nat} (h1 : 81129638414606681695789005144064 * N ≤ 10 * Q) (h2 : Q ≤ P + (A + B + D)) (h3 : 16 * (A + B + D) ≤ Q) : 81129638414606681695789005144064 * N ≤ 16 * P := by omega
theorem dd_mul {x xl y yl p e m1 m2 k w : Int} {U : Nat} (hU0 : 0 < U) (hx : 9007199254740992 * xl.natAbs ≤ x.natAbs) (hy : 9007199254740992 * yl.natAbs ≤ y.natAbs) (hp : (p + e) * (U : Int) = x * y) (he : 9007199254740992 * (e * (U : Int)).natAbs ≤ (x * y).natAbs)
    (h1 : 9007199254740992 * (m1 * (U : Int) - x * yl).natAbs ≤ (x * yl).natAbs + 9007199254740992 * U) (h2 : 9007199254740992 * (m2 * (U : Int) - xl * y).natAbs ≤ (xl * y).natAbs + 9007199254740992 * U)
    (hk : Rn 53 (m1 + m2) k) (hw : Rn 53 (e + k) w) (hU : 1152921504606846976 * (81129638414606681695789005144064 * U) ≤ (x * y).natAbs) :
    81129638414606681695789005144064 * ((p + w) * (U : Int) - (x + xl) * (y + yl)).natAbs ≤ 16 * ((x + xl) * (y + yl)).natAbs ∧ w.natAbs ≤ p.natAbs := by
  have hA : 9007199254740992 * (x * yl).natAbs ≤ (x * y).natAbs := by
    rw [Int.natAbs_mul, Int.natAbs_mul, Nat.mul_left_comm]; exact Nat.mul_le_mul_left _ hy
  have hB : 9007199254740992 * (xl * y).natAbs ≤ (x * y).natAbs := by
    rw [Int.natAbs_mul, Int.natAbs_mul, ← Nat.mul_assoc]; exact Nat.mul_le_mul_right _ hx
  have hD : 9007199254740992 * (xl * yl).natAbs ≤ (x * yl).natAbs := by
    rw [Int.natAbs_mul, Int.natAbs_mul, ← Nat.mul_assoc]; exact Nat.mul_le_mul_right _ hx
  have hm1 : (m1 * (U : Int)).natAbs ≤ (x * yl).natAbs + (m1 * (U : Int) - x * yl).natAbs := ab8
  have hm2 : (m2 * (U : Int)).natAbs ≤ (xl * y).natAbs + (m2 * (U : Int) - xl * y).natAbs := ab8
  have hG : (m1 + m2).natAbs * U ≤ (x * yl).natAbs + (m1 * (U : Int) - x * yl).natAbs + ((xl * y).natAbs + (m2 * (U : Int) - xl * y).natAbs) := by
    rw [← na_mul, Int.add_mul]
    exact Nat.le_trans ab5 (Nat.add_le_add hm1 hm2)
  have hK := up_mul (U := U) (rn_rel hk)
  have hkk : k.natAbs * U ≤ (m1 + m2).natAbs * U + (m1 + m2 - k).natAbs * U := by
    rw [← Nat.add_mul]; exact Nat.mul_le_mul_right _ ab3
  have hW : 9007199254740992 * ((e + k - w).natAbs * U) ≤ (e * (U : Int)).natAbs + k.natAbs * U := by
    refine Nat.le_trans (up_mul (U := U) (rn_rel hw)) ?_
    rw [na_mul, ← Nat.add_mul]; exact Nat.mul_le_mul_right _ ab5
  have b := mul_bnd hA hB hD h1 h2 hG hK hkk he hW hU
  have e1 : (w - (e + k)) * (U : Int) = -((e + k - w) * (U : Int)) := by rw [← Int.neg_mul]; congr 1; omega
  have e2 : (k - (m1 + m2)) * (U : Int) = -((m1 + m2 - k) * (U : Int)) := by rw [← Int.neg_mul]; congr 1; omega
  have n1 : ((w - (e + k)) * (U : Int)).natAbs = (e + k - w).natAbs * U := by rw [e1, Int.natAbs_neg, na_mul]
  have n2 : ((k - (m1 + m2)) * (U : Int)).natAbs = (m1 + m2 - k).natAbs * U := by rw [e2, Int.natAbs_neg, na_mul]
  refine ⟨?_, ?_⟩
  · rw [mul_err hp]
    refine fin_tot (Nat.le_trans (Nat.mul_le_mul_left _ na5) ?_) na_tot b.2.2.1
    rw [n1, n2]
    exact b.1
  · have h5 : w.natAbs * U ≤ (e * (U : Int)).natAbs + k.natAbs * U + (e + k - w).natAbs * U := by
      rw [na_mul, ← Nat.add_mul, ← Nat.add_mul]
      exact Nat.mul_le_mul_right _ (Nat.le_trans ab3 (Nat.add_le_add_right ab5 _))
    have h6 : (x * y).natAbs ≤ p.natAbs * U + (e * (U : Int)).natAbs := by
      rw [← hp, ← na_mul, Int.add_mul]; exact ab5
    have h7 : w.natAbs * U ≤ p.natAbs * U := by have := b.2.1; omega
    exact Nat.le_of_mul_le_mul_right h7 hU0
def FitQ (b : Nat) : Prop := b % 9223372036854775808 = 0 ∨ (3256102530588868608 ≤ b % 9223372036854775808 ∧ b % 9223372036854775808 ≤ 5958262307011166208)
theorem FitQ.hi {b : Nat} (h : FitQ b) : b % 9223372036854775808 ≤ 5958262307011166208 := by unfold FitQ at h; omega
theorem FitQ.low {b K : Nat} (h : FitQ b) (hK : K = 774) (h0 : ux b ≠ 0) : 2 ^ K ≤ (ux b).natAbs := by
  rcases h with h | ⟨h, _⟩
  · exfalso; apply h0
    rw [ux_eq, h, vs_zero]; split <;> rfl
  · rw [ux_abs]
    obtain ⟨j, hj⟩ : ∃ j, j = 722 := ⟨_, rfl⟩
    have h1 := vs_le4 h
    have h2 := vs_at j 4503599627370496 (.inr (Nat.le_refl _)) (by decide)
    rw [show j * 4503599627370496 + 4503599627370496 = 3256102530588868608 by rw [hj]] at h2
    rw [h2] at h1
    rw [show K = 52 + j by omega, Nat.pow_add]
    exact h1
theorem rgc_lt {n c M : Nat} (hM : M = 2096) (h : n < 2 ^ (M + c)) : rgc c n < 9218868437227405312 := by
  unfold rgc
  by_cases h0 : n = 0
  · rw [if_pos h0]; decide
  · rw [if_neg h0]
    have h1 : n.log2 < M + c := (Nat.log2_lt h0).2 h
    obtain ⟨L, hL⟩ : ∃ L, L = max (n.log2 - 52) c := ⟨_, rfl⟩
    rw [← hL]
    have hlt : n < 2 ^ (n.log2 + 1) := Nat.lt_log2_self
    have h53 : rne n L ≤ 9007199254740992 := by
      refine rne_le n L 9007199254740992 ?_
      have h2 : 2 ^ (n.log2 + 1) ≤ 9007199254740992 * 2 ^ L := by
        rw [show (9007199254740992 : Nat) = 2 ^ 53 by decide, ← Nat.pow_add]
        exact Nat.pow_le_pow_right (by decide) (by omega)
      exact Nat.le_trans (Nat.le_of_lt hlt) h2
    have h4 : L - c ≤ 2044 := by
      clear h53 hlt h
      omega
    refine Nat.lt_of_le_of_lt (Nat.min_le_left _ _) (Nat.lt_of_le_of_lt (Nat.add_le_add (Nat.mul_le_mul_right 4503599627370496 h4) h53) (by decide))
theorem fmul_near {a b c M : Nat} (hc : c = 1074) (hM : M = 2096) (ha : Fin64 a) (hb : Fin64 b) (hs : (ux a * ux b).natAbs < 2 ^ (M + c)) : ∃ r, floatBits .mul .f64 a b = some r ∧ Fin64 r ∧ 9007199254740992 * (ux r * ((2 ^ c : Nat) : Int) - ux a * ux b).natAbs ≤ (ux a * ux b).natAbs + 9007199254740992 * 2 ^ c ∧ (ux a * ux b = 0 → ux r = 0) := by
  have h1 := fmul_any ha hb
  rw [← hc] at h1
  have h2 := rgc_lt hM hs
  rw [Int.natAbs_mul] at h2
  have h3 := mul_near h2
  refine ⟨_, h1, ?_⟩
  obtain ⟨w1, w2, w3⟩ := word_facts (decide (9223372036854775808 ≤ a) ^^ decide (9223372036854775808 ≤ b)) h2
  refine ⟨⟨w1, by rw [w2]; exact h2⟩, ?_⟩
  rw [w3]
  obtain ⟨n, hn⟩ : ∃ n, n = (ux a).natAbs * (ux b).natAbs := ⟨_, rfl⟩
  have hn2 : (ux a * ux b).natAbs = n := by rw [hn, Int.natAbs_mul]
  rw [← hn] at h3 ⊢
  obtain ⟨Y, hY⟩ : ∃ Y, Y = vs 4503599627370496 (rgc c n) * 2 ^ c := ⟨_, rfl⟩
  rw [← hY] at h3
  rw [hn2]
  by_cases h0 : ux a * ux b = 0
  · have hn0 : n = 0 := by rw [← hn2, h0]; rfl
    have hY0 : vs 4503599627370496 (rgc c n) = 0 := by rw [hn0, show rgc c 0 = 0 from rfl, vs_zero]
    rw [hY0, h0]
    split <;> simp
  · rw [mul_sign h0]
    by_cases hneg : ux a * ux b < 0
    · rw [if_pos (decide_eq_true hneg), Int.neg_mul, ← Int.natCast_mul, ← hY]
      exact ⟨by omega, fun k => absurd k h0⟩
    · rw [if_neg (by rw [decide_eq_false hneg]; decide), ← Int.natCast_mul, ← hY]
      exact ⟨by omega, fun k => absurd k h0⟩
theorem fitq20 (b : Nat) (w : World) :
    Calls Tryz.prog 27 #[U b] w fun en w' => OkB en (FitQ b) ∧ Below w.heap.size w w' := by
  unfold FitQ
  obtain ⟨s, hs⟩ : ∃ s, s = b % 9223372036854775808 := ⟨_, rfl⟩
  have hm : (b : Int) % 9223372036854775808 = (s : Int) := by omega
  rw [← hs]
  clear hs
  have hbw : Below w.heap.size w w := Below.refl _ _
  go_enter Tryz.func27, Tryz.ntmps27
  go_wp2_with fail
  all_goals
    go_ret
    refine ⟨⟨_, rfl, fun h9 => ?_⟩, hbw⟩
    simp at h9
    omega
theorem fit20q (h l : Nat) (hh : h < 18446744073709551616) (hl : l < 18446744073709551616) (w : World) :
    Calls Tryz.prog 11 #[.agg #[.int .u64 (h : Int), .int .u64 (l : Int)]] w fun en w' => OkB en (DdF h l ∧ FitQ h) ∧ Below w.heap.size w w' := by
  have HB : Hid (h < 18446744073709551616 ∧ l < 18446744073709551616) := ⟨hh, hl⟩
  clear hh hl
  go_enter Tryz.func11, Tryz.ntmps11
  go_wp2_with fail
  obtain ⟨W0, hW0⟩ : ∃ W0, W0 = (w.alloc (.cells #[.int .u64 (h : Int), .int .u64 (l : Int)] 28)) := ⟨_, rfl⟩
  have Xa : Hid (Box W0 (w.heap.size) (.int .u64 (h : Int)) (.int .u64 (l : Int))) := by rw [hW0]; exact ⟨by go_simp, by go_simp, by go_simp, by go_simp⟩
  have hb0 : Below w.heap.size w W0 := by rw [hW0]; exact below1 w _
  rw [← hW0]
  clear hW0
  have hbw : Below w.heap.size w w := Below.refl _ _
  obtain ⟨ga, hga⟩ : ∃ g, g = w.heap.size := ⟨_, rfl⟩
  have HGa : Hid (w.heap.size ≤ ga) := by rw [hga]; show _ ≤ _; omega
  rw [← hga] at Xa
  try rw [← hga]
  clear hga
  replace hbw := Below.on hbw hb0
  clear hb0
  obtain ⟨ca0, ca1, fa0, fa1⟩ := Xa.out
  have hnea := Xa.out.lt
  go_wp2_with fail
  clear ca0 ca1 fa0 fa1 hnea
  refine (docform20 h l HB.out.1 HB.out.2 _).mono ?_
  rintro en v2 ⟨⟨r, rfl, hr⟩, hb2⟩
  replace Xa : Hid _ := Xa.out.below hb2
  replace hbw := Below.on hbw hb2
  clear hb2
  have HRR := Hid.mk9 hr
  clear hr
  cases r
  · obtain ⟨ca0, ca1, fa0, fa1⟩ := Xa.out
    have hnea : ga < v2.heap.size := World.block_lt_of_cell? v2 _ ca0
    go_wp2_with fail
    clear ca0 ca1 fa0 fa1 hnea
    go_ret
    exact ⟨⟨false, rfl, fun h9 => by cases h9⟩, hbw⟩
  obtain ⟨ca0, ca1, fa0, fa1⟩ := Xa.out
  have hnea := Xa.out.lt
  go_wp2_with fail
  clear ca0 ca1 fa0 fa1 hnea
  refine (fitq20 h _).mono ?_
  rintro en v3 ⟨⟨r, rfl, hr⟩, hb3⟩
  replace Xa : Hid _ := Xa.out.below hb3
  replace hbw := Below.on hbw hb3
  clear hb3
  have HR2 := Hid.mk9 hr
  clear hr
  go_wp2_with fail
  go_ret
  exact ⟨⟨r, rfl, fun h9 => ⟨HRR.out (by first | rfl | trivial), HR2.out h9⟩⟩, hbw⟩
def UE : Nat := 2 ^ OneE
def PE : Nat := 1726
def BigP : Nat := 2 ^ PE
theorem near_bd {m V : Int} {U B : Nat} (hU : 0 < U) (h : 9007199254740992 * (m * (U : Int) - V).natAbs ≤ V.natAbs + 9007199254740992 * U) (hV : V.natAbs ≤ B * U) : m.natAbs ≤ 2 * B + 1 := by
  have h1 : (m * (U : Int)).natAbs ≤ V.natAbs + (m * (U : Int) - V).natAbs := ab8
  rw [na_mul] at h1
  have h2 : m.natAbs * U ≤ (2 * B + 1) * U := by
    rw [Nat.add_mul, Nat.one_mul, Nat.mul_assoc]; omega
  exact Nat.le_of_mul_le_mul_right h2 hU
structure Mul1 (h h' p e : Nat) : Prop where
  fp : Fin64 p
  fe : Fin64 e
  eq : (ux p + ux e) * (UE : Int) = ux h * ux h'
  er : 9007199254740992 * (ux e * (UE : Int)).natAbs ≤ (ux h * ux h').natAbs
  z : ux h * ux h' = 0 → ux p = 0 ∧ ux e = 0
  m1 : (ux p).natAbs ≤ 2 * BigP + 1
  m2 : (ux e).natAbs ≤ 2 * BigP + 1
theorem ue_pos : 0 < UE := Nat.two_pow_pos OneE
theorem bigP_max {K N J : Nat} (hK : K = 2044) (hN : N = 1726) (hJ : J = 2043) : 64 * (2 * 2 ^ N + 1) < 2 ^ (52 + J) ∧ 2 ^ (52 + J) ≤ MaxU := by
  have h1 := (max_big hK rfl).1
  have h2 : 2 ^ (52 + J) ≤ 2 ^ (52 + K) := Nat.pow_le_pow_right (by decide) (by omega)
  have h3 : 64 * (2 * 2 ^ N + 1) < 2 ^ (52 + J) := by
    have h4 : 64 * (2 * 2 ^ N + 1) ≤ 256 * 2 ^ N := by have := Nat.two_pow_pos N; omega
    have h5 : 256 * 2 ^ N = 2 ^ (8 + N) := by rw [Nat.pow_add]
    rw [h5] at h4
    exact Nat.lt_of_le_of_lt h4 (Nat.pow_lt_pow_right (by decide) (by omega))
  exact ⟨h3, by omega⟩
theorem BigP.sz {b : Nat} (h : (ux b).natAbs ≤ 32 * (2 * BigP + 1)) : b % 9223372036854775808 ≤ 9209861237972664320 := by
  obtain ⟨J, hJ⟩ : ∃ J, J = 2043 := ⟨_, rfl⟩
  unfold BigP at h
  have h1 := (bigP_max (K := 2044) (N := PE) rfl rfl hJ).1
  have h3 : (ux b).natAbs < 2 ^ (52 + J) := Nat.lt_of_le_of_lt (Nat.le_trans h (Nat.mul_le_mul_right _ (by decide))) h1
  have h2 := sz_of (b := b) (K := J) h3
  rw [hJ] at h2
  omega
theorem BigP.max {x : Int} (h : x.natAbs ≤ 64 * (2 * BigP + 1)) : x.natAbs ≤ MaxU := by
  unfold BigP at h
  have h1 := bigP_max (K := 2044) (N := PE) rfl rfl rfl
  exact Nat.le_trans h (Nat.le_trans (Nat.le_of_lt h1.1) h1.2)
structure FMul (a b r : Nat) : Prop where
  fin : Fin64 r
  near : 9007199254740992 * (ux r * (UE : Int) - ux a * ux b).natAbs ≤ (ux a * ux b).natAbs + 9007199254740992 * UE
  z : ux a * ux b = 0 → ux r = 0
  bd : (ux r).natAbs ≤ 2 * BigP + 1
theorem ddm_4 {h h' p e k : Nat} (A : Mul1 h h' p e) (fk : Fin64 k) (hk : (ux k).natAbs ≤ 4 * (2 * BigP + 1)) : ∃ w, floatBits .add .f64 e k = some w ∧ Sm64 (ux e + ux k) w :=
  fl_add_fin A.fe fk (BigP.max (by have := sum_bd A.m2 hk; omega))
theorem ux_0 : ux 0 = 0 := by rw [ux_eq]; decide
theorem quo_mag {D n : Nat} (hn : n ≠ 0) : ((2 * (D / n) + (D % n != 0).toNat) * n : Nat) ≤ 2 * D + n ∧ 2 * D ≤ (2 * (D / n) + (D % n != 0).toNat) * n + n := by
  have h1 := Nat.div_add_mod D n
  have h2 := Nat.mod_lt D (Nat.pos_of_ne_zero hn)
  rw [Nat.add_mul, Nat.mul_assoc, Nat.mul_comm (D / n)]
  by_cases h : D % n = 0
  · rw [h, show ((0 : Nat) != 0).toNat = 0 from rfl, Nat.zero_mul]
    rw [h] at h1
    omega
  · have h3 : (D % n != 0).toNat = 1 := by rw [show (D % n != 0) = true from bne_iff_ne.2 h]; rfl
    rw [h3, Nat.one_mul]
    omega
theorem quo_core {R N A C d : Nat} (h1 : 2 * 9007199254740992 * ((R : Int) - (N : Int)).natAbs ≤ 2 * N + 9007199254740992 * C) (h2 : N ≤ A + d) (h3 : A ≤ N + d) (h4 : 9007199254740992 * (2 * d) ≤ A) :
    2 * 9007199254740992 * ((R : Int) - (A : Int)).natAbs ≤ 4 * A + 9007199254740992 * C := by
  omega
theorem quo_wide {m n more : Nat} (hm : m ≠ 0) (hmore : 54 + n.log2 ≤ m.log2 + more) : 9007199254740992 * n ≤ m * 2 ^ more := by
  have h1 := Nat.log2_self_le hm
  have h2 : n < 2 ^ (n.log2 + 1) := Nat.lt_log2_self
  have h3 : 2 ^ (54 + n.log2) ≤ m * 2 ^ more := by
    refine Nat.le_trans (Nat.pow_le_pow_right (by decide) hmore) ?_
    rw [Nat.pow_add]; exact Nat.mul_le_mul_right _ h1
  have h4 : 9007199254740992 * 2 ^ (n.log2 + 1) = 2 ^ (54 + n.log2) := by
    rw [show (9007199254740992 : Nat) = 2 ^ 53 by decide, ← Nat.pow_add]; congr 1; omega
  have h5 := Nat.mul_le_mul_left 9007199254740992 (Nat.le_of_lt h2)
  omega
theorem int_scale {a b E : Nat} : (((a * E : Nat) : Int) - ((b * E : Nat) : Int)).natAbs = ((a : Int) - (b : Int)).natAbs * E := by
  rw [Int.natCast_mul, Int.natCast_mul, ← Int.sub_mul, na_mul]
theorem quo_cut {a Y Z E : Nat} (hE : 0 < E) (k : 2 * 9007199254740992 * (a * E) ≤ 4 * (Y * E) + 9007199254740992 * (Z * E)) : 2 * 9007199254740992 * a ≤ 4 * Y + 9007199254740992 * Z := by
  refine Nat.le_of_mul_le_mul_right (c := E) ?_ hE
  rw [Nat.add_mul, Nat.mul_assoc, Nat.mul_assoc 4, Nat.mul_assoc 9007199254740992 Z]
  exact k
theorem quo_n {m n q t more K : Nat} (hm : m ≠ 0) (hn : n ≠ 0) (hmore : 54 + n.log2 ≤ m.log2 + more) {N c R : Nat} (hc : c = t + more + 1) (hN : N = (2 * (m * 2 ^ more / n) + (m * 2 ^ more % n != 0).toNat) * 2 ^ (q + K)) (hR : R = vs 4503599627370496 (rgc c N)) (hf : rgc c N < 9218868437227405312) :
    2 * 9007199254740992 * (((R * (n * 2 ^ t) : Nat) : Int) - ((m * 2 ^ q * 2 ^ K : Nat) : Int)).natAbs ≤ 4 * (m * 2 ^ q * 2 ^ K) + 9007199254740992 * (n * 2 ^ t) := by
  have h1 := mul_near hf
  rw [← hR] at h1
  obtain ⟨g1, g2⟩ := quo_mag (D := m * 2 ^ more) hn
  have g3 := quo_wide hm hmore
  obtain ⟨M, hM⟩ : ∃ M, M = 2 * (m * 2 ^ more / n) + (m * 2 ^ more % n != 0).toNat := ⟨_, rfl⟩
  rw [← hM] at g1 g2 hN
  obtain ⟨P, hP⟩ : ∃ P, P = 2 ^ (q + K) := ⟨_, rfl⟩
  rw [← hP] at hN
  have a1 : R * 2 ^ c * n = R * (n * 2 ^ t) * 2 ^ (more + 1) := by
    rw [hc, show t + more + 1 = t + (more + 1) by omega, Nat.pow_add, Nat.mul_assoc R, Nat.mul_assoc (2 ^ t), Nat.mul_comm (2 ^ (more + 1)) n, ← Nat.mul_assoc (2 ^ t), Nat.mul_comm (2 ^ t) n, ← Nat.mul_assoc]
  have a2 : 2 * (m * 2 ^ more) * P = m * 2 ^ q * 2 ^ K * 2 ^ (more + 1) := by
    rw [hP, Nat.pow_add, Nat.pow_succ]
    ac_rfl
  have a3 : 2 ^ c * n = n * 2 ^ t * 2 ^ (more + 1) := by
    rw [hc, show t + more + 1 = t + (more + 1) by omega, Nat.pow_add]
    ac_rfl
  have b1 : 2 * 9007199254740992 * (((R * 2 ^ c * n : Nat) : Int) - ((N * n : Nat) : Int)).natAbs ≤ 2 * (N * n) + 9007199254740992 * (2 ^ c * n) := by
    rw [int_scale, ← Nat.mul_assoc, ← Nat.mul_assoc, ← Nat.mul_assoc 9007199254740992, ← Nat.add_mul]
    exact Nat.mul_le_mul_right _ h1
  have b2 : N * n ≤ 2 * (m * 2 ^ more) * P + n * P := by
    rw [hN, ← Nat.add_mul, Nat.mul_right_comm]; exact Nat.mul_le_mul_right _ g1
  have b3 : 2 * (m * 2 ^ more) * P ≤ N * n + n * P := by
    rw [hN, Nat.mul_right_comm M P n, ← Nat.add_mul]; exact Nat.mul_le_mul_right _ g2
  have b4 : 9007199254740992 * (2 * (n * P)) ≤ 2 * (m * 2 ^ more) * P := by
    rw [← Nat.mul_assoc 2 n, ← Nat.mul_assoc 9007199254740992]
    exact Nat.mul_le_mul_right _ (by omega)
  have k := quo_core b1 b2 b3 b4
  rw [a1, a2, a3, int_scale] at k
  exact quo_cut (Nat.two_pow_pos _) k
theorem fquo_ex {a b : Nat} (ha : Fin64 a) (hb : Fin64 b) (hb0 : ux b ≠ 0) : ∃ m q n t more, m * 2 ^ q = vs 4503599627370496 (a % 9223372036854775808) ∧ n * 2 ^ t = vs 4503599627370496 (b % 9223372036854775808) ∧ n ≠ 0 ∧ 54 + n.log2 ≤ m.log2 + more ∧
    floatBits .quo .f64 a b = some (Ieee.double.word (decide (9223372036854775808 ≤ a) ^^ decide (9223372036854775808 ≤ b)) (rgc (t + more + 1) ((2 * (m * 2 ^ more / n) + (m * 2 ^ more % n != 0).toNat) * 2 ^ (q + 1074)))) := by
  obtain ⟨m, q, h1, h2⟩ := read_fin ha.lt ha.fin
  obtain ⟨n, t, h3, h4⟩ := read_fin hb.lt hb.fin
  have hn : n ≠ 0 := fun h => by
    apply hb0
    have h5 := ux_abs b
    rw [← h4, h, Nat.zero_mul] at h5
    omega
  refine ⟨m, q, n, t, 54 + n.log2 - m.log2, h2, h4, hn, by omega, ?_⟩
  show ((Ieee.double.read a).quotient 54 (Ieee.double.read b)).map Ieee.double.write = _
  rw [h1, h3]
  unfold Ieee.Datum.quotient
  simp only [if_neg hn, Nat.shiftLeft_eq]
  generalize 54 + n.log2 - m.log2 = more
  show some (Ieee.double.nearest _ (2 * (m * 2 ^ more / n) + (m * 2 ^ more % n != 0).toNat) (-1074 + (q : Int) - (-1074 + (t : Int)) - (more : Int) - 1)) = _
  have := nearest_rgc (decide (9223372036854775808 ≤ a) ^^ decide (9223372036854775808 ≤ b)) (2 * (m * 2 ^ more / n) + (m * 2 ^ more % n != 0).toNat) (t + more + 1) (q + 1074)
  rw [show (-1074 : Int) - ((t + more + 1 : Nat) : Int) + ((q + 1074 : Nat) : Int) = -1074 + (q : Int) - (-1074 + (t : Int)) - (more : Int) - 1 by omega] at this
  rw [this]
theorem sg_prod {R X Y U : Nat} (s t : Bool) : ((if (s ^^ t) then -(R : Int) else (R : Int)) * (if t then -(Y : Int) else (Y : Int)) - (if s then -(X : Int) else (X : Int)) * (U : Int)).natAbs = (((R * Y : Nat) : Int) - ((X * U : Nat) : Int)).natAbs := by
  rw [Int.natCast_mul, Int.natCast_mul]
  cases s <;> cases t <;> simp [Int.neg_mul, Int.mul_neg] <;> omega
theorem ux_sg (b : Nat) : ux b = if decide (9223372036854775808 ≤ b) then -(vs 4503599627370496 (b % 9223372036854775808) : Int) else (vs 4503599627370496 (b % 9223372036854775808) : Int) := by
  rw [ux_eq]; by_cases h : 9223372036854775808 ≤ b <;> simp [h]
theorem fquo_near {a b M K : Nat} (hM : M = 2094) (hK : K = 1074) (ha : Fin64 a) (hb : Fin64 b) (hb0 : ux b ≠ 0) (hs : (ux a).natAbs * 2 ^ K ≤ 2 ^ M * (ux b).natAbs) : ∃ r, floatBits .quo .f64 a b = some r ∧ Fin64 r ∧ 2 * 9007199254740992 * (ux r * ux b - ux a * ((2 ^ K : Nat) : Int)).natAbs ≤ 4 * ((ux a).natAbs * 2 ^ K) + 9007199254740992 * (ux b).natAbs := by
  obtain ⟨m, q, n, t, more, h1, h2, hn, hm, hq⟩ := fquo_ex ha hb hb0
  rw [← hK] at hq
  obtain ⟨N, hN⟩ : ∃ N, N = (2 * (m * 2 ^ more / n) + (m * 2 ^ more % n != 0).toNat) * 2 ^ (q + K) := ⟨_, rfl⟩
  rw [← hN] at hq
  rw [ux_abs, ux_abs, ← h1, ← h2] at hs
  obtain ⟨c, hc⟩ : ∃ c, c = t + more + 1 := ⟨_, rfl⟩
  rw [← hc] at hq
  by_cases hm0 : m = 0
  · have hN0 : N = 0 := by rw [hN, hm0, Nat.zero_mul, Nat.zero_div, Nat.zero_mod]; simp
    have hr0 : rgc c N = 0 := by rw [hN0]; rfl
    rw [hr0] at hq
    obtain ⟨w1, w2, w3⟩ := word_facts (decide (9223372036854775808 ≤ a) ^^ decide (9223372036854775808 ≤ b)) (r := 0) (by decide)
    refine ⟨_, hq, ⟨w1, by rw [w2]; decide⟩, ?_⟩
    have ha0 : ux a = 0 := by
      have h5 := ux_abs a
      rw [← h1, hm0, Nat.zero_mul] at h5
      omega
    have hz : ux (Ieee.double.word (decide (9223372036854775808 ≤ a) ^^ decide (9223372036854775808 ≤ b)) 0) = 0 := by
      rw [w3, vs_zero]; split <;> rfl
    rw [hz, ha0, Int.zero_mul, Int.zero_mul]
    exact Nat.zero_le _
  · obtain ⟨g1, _⟩ := quo_mag (D := m * 2 ^ more) hn
    have g3 := quo_wide hm0 hm
    have hb1 : N * n ≤ 2 ^ (M + 1) * 2 ^ c * n := by
      have e1 : N * n ≤ (2 * (m * 2 ^ more) + n) * 2 ^ (q + K) := by
        rw [hN, Nat.mul_right_comm]; exact Nat.mul_le_mul_right _ g1
      have e2 : (2 * (m * 2 ^ more) + n) * 2 ^ (q + K) ≤ 4 * (m * 2 ^ more) * 2 ^ (q + K) := Nat.mul_le_mul_right _ (by omega)
      have e3 : 4 * (m * 2 ^ more) * 2 ^ (q + K) = m * 2 ^ q * 2 ^ K * (2 * 2 ^ (more + 1)) := by
        rw [Nat.pow_add, Nat.pow_succ, show (4 : Nat) = 2 * 2 from rfl]; ac_rfl
      have e4 : m * 2 ^ q * 2 ^ K * (2 * 2 ^ (more + 1)) ≤ 2 ^ M * (n * 2 ^ t) * (2 * 2 ^ (more + 1)) := Nat.mul_le_mul_right _ hs
      have e5 : 2 ^ M * (n * 2 ^ t) * (2 * 2 ^ (more + 1)) = 2 ^ (M + 1) * 2 ^ c * n := by
        rw [hc, show t + more + 1 = t + (more + 1) by omega, Nat.pow_add 2 t, Nat.pow_succ 2 M]; ac_rfl
      rw [e3] at e2
      rw [e5] at e4
      exact Nat.le_trans e1 (Nat.le_trans e2 e4)
    have hb2 := Nat.le_of_mul_le_mul_right hb1 (Nat.pos_of_ne_zero hn)
    obtain ⟨J, hJ⟩ : ∃ J, J = 2096 := ⟨_, rfl⟩
    have hf : rgc c N < 9218868437227405312 := rgc_lt hJ (Nat.lt_of_le_of_lt hb2 (by rw [← Nat.pow_add]; exact Nat.pow_lt_pow_right (by decide) (by omega)))
    obtain ⟨w1, w2, w3⟩ := word_facts (decide (9223372036854775808 ≤ a) ^^ decide (9223372036854775808 ≤ b)) hf
    refine ⟨_, hq, ⟨w1, by rw [w2]; exact hf⟩, ?_⟩
    have k := quo_n (t := t) hm0 hn hm hc hN rfl hf
    rw [w3, ux_sg b, ux_sg a, sg_prod, ← h1, ← h2]
    have n1 : ∀ (s : Bool) (x : Nat), (if s then -(x : Int) else (x : Int)).natAbs = x := fun s x => by cases s <;> simp
    rw [n1, n1]
    exact k
theorem dv_b {P B Y : Nat} (h : 2 * 9007199254740992 * B ≤ 4 * P + 9007199254740992 * Y) (hY : 1152921504606846976 * (81129638414606681695789005144064 * Y) ≤ P) : 9007199254740992 * 1024 * B ≤ 2049 * P ∧ 2 * B ≤ P := by omega
theorem dv_q {P B Q C : Nat} (hB : 9007199254740992 * 1024 * B ≤ 2049 * P) (hQ : Q ≤ P + B) (hC : 9007199254740992 * C ≤ Q) : 9007199254740992 * 1024 * C ≤ 1025 * P ∧ 1024 * (Q + C) ≤ 1025 * P := by omega
theorem dv_d {P Q C D : Nat} (h : 1024 * (Q + C) ≤ 1025 * P) (hD : 81129638414606681695789005144064 * D ≤ 16 * (Q + C)) : 81129638414606681695789005144064 * 64 * D ≤ 1025 * P := by omega
theorem dv_g {P B C D R S G : Nat} (hB : 9007199254740992 * 1024 * B ≤ 2049 * P) (hC : 9007199254740992 * 1024 * C ≤ 1025 * P) (hD : 81129638414606681695789005144064 * 64 * D ≤ 1025 * P) (hR : 9007199254740992 * R ≤ S) (hS : S ≤ P + G) (hG : G ≤ R + D + C + B) : 9007199254740992 * 1024 * G ≤ 4101 * P ∧ 9007199254740992 * 1024 * R ≤ 1025 * P := by omega
theorem dv_v {P A R V e G V3 : Nat} (hA : 9007199254740992 * A ≤ P) (hR : 9007199254740992 * 1024 * R ≤ 1025 * P) (hV : V ≤ A + R) (he : 9007199254740992 * e ≤ V) (hG : 9007199254740992 * 1024 * G ≤ 4101 * P) (h3 : V3 ≤ G + (V + e)) : 81129638414606681695789005144064 * 1024 * e ≤ 2050 * P ∧ 9007199254740992 * 1024 * V3 ≤ 6152 * P := by omega
theorem dv_w {P V3 e3 W B2 Y : Nat} (h3 : 9007199254740992 * 1024 * V3 ≤ 6152 * P) (he : 9007199254740992 * e3 ≤ V3) (hW : W ≤ V3 + e3) (hY : 1152921504606846976 * (81129638414606681695789005144064 * Y) ≤ P) (hB : 2 * 9007199254740992 * B2 ≤ 4 * W + 9007199254740992 * Y) : 81129638414606681695789005144064 * 1024 * e3 ≤ 6152 * P ∧ 9007199254740992 * 1024 * W ≤ 6153 * P ∧ 81129638414606681695789005144064 * 1024 * B2 ≤ 12308 * P := by omega
theorem dv_c {P W B2 C2 : Nat} (hW : 9007199254740992 * 1024 * W ≤ 6153 * P) (hB : 81129638414606681695789005144064 * 1024 * B2 ≤ 12308 * P) (hC : 9007199254740992 * C2 ≤ W + B2) : 81129638414606681695789005144064 * 1024 * C2 ≤ 6154 * P ∧ 9007199254740992 * 1024 * (W + B2) ≤ 6154 * P := by omega
theorem dv_e {P A D B2 C2 e2 e3 E X : Nat} (hA : 9007199254740992 * A ≤ P) (hD : 81129638414606681695789005144064 * 64 * D ≤ 1025 * P) (hB : 81129638414606681695789005144064 * 1024 * B2 ≤ 12308 * P) (hC : 81129638414606681695789005144064 * 1024 * C2 ≤ 6154 * P) (h2 : 81129638414606681695789005144064 * 1024 * e2 ≤ 2050 * P) (h3 : 81129638414606681695789005144064 * 1024 * e3 ≤ 6152 * P) (hE : E ≤ D + B2 + C2 + e2 + e3) (hX : P ≤ X + A) : 81129638414606681695789005144064 * E ≤ 64 * X := by omega
theorem na4 {a b c d : Int} : (a + b + c + d).natAbs ≤ a.natAbs + b.natAbs + c.natAbs + d.natAbs := by omega
theorem dd_div1 {X Y yl q s r : Int} {U : Nat} (hU0 : 0 < U) (ly : 9007199254740992 * yl.natAbs ≤ Y.natAbs) (hq : 2 * 9007199254740992 * (q * Y - X * (U : Int)).natAbs ≤ 4 * (X.natAbs * U) + 9007199254740992 * Y.natAbs)
    (hm : 81129638414606681695789005144064 * ((s + r) * (U : Int) - (Y + yl) * q).natAbs ≤ 16 * ((Y + yl) * q).natAbs) (lr : 9007199254740992 * r.natAbs ≤ s.natAbs) (hY : 1152921504606846976 * (81129638414606681695789005144064 * Y.natAbs) ≤ X.natAbs * U) :
    (9007199254740992 * 1024 * ((X - s).natAbs * U) ≤ 4101 * (X.natAbs * U) ∧ 9007199254740992 * 1024 * (r.natAbs * U) ≤ 1025 * (X.natAbs * U) ∧ 81129638414606681695789005144064 * 64 * ((s + r) * (U : Int) - (Y + yl) * q).natAbs ≤ 1025 * (X.natAbs * U)) ∧ (X - s).natAbs ≤ X.natAbs ∧ (X - s).natAbs ≤ s.natAbs := by
  obtain ⟨b1, b2⟩ := dv_b hq hY
  have hQ : (q * Y).natAbs ≤ X.natAbs * U + (q * Y - X * (U : Int)).natAbs := by
    have := ab8 (a := q * Y) (b := X * (U : Int)); rwa [na_mul] at this
  have hC : 9007199254740992 * (yl * q).natAbs ≤ (q * Y).natAbs := by
    rw [Int.natAbs_mul, Int.natAbs_mul, Nat.mul_comm q.natAbs, ← Nat.mul_assoc]; exact Nat.mul_le_mul_right _ ly
  obtain ⟨c1, c2⟩ := dv_q b1 hQ hC
  have hYq : ((Y + yl) * q).natAbs ≤ (q * Y).natAbs + (yl * q).natAbs := by
    rw [Int.add_mul, Int.mul_comm Y]; exact ab5
  have d1 := dv_d c2 (Nat.le_trans hm (Nat.mul_le_mul_left _ hYq))
  have hR : 9007199254740992 * (r.natAbs * U) ≤ s.natAbs * U := up_mul lr
  have hS : s.natAbs * U ≤ X.natAbs * U + (X - s).natAbs * U := by
    rw [← Nat.add_mul]; exact Nat.mul_le_mul_right _ ab3
  have hG : (X - s).natAbs * U ≤ r.natAbs * U + ((s + r) * (U : Int) - (Y + yl) * q).natAbs + (yl * q).natAbs + (q * Y - X * (U : Int)).natAbs := by
    have e : (X - s) * (U : Int) = r * (U : Int) + -((s + r) * (U : Int) - (Y + yl) * q) + -(yl * q) + -(q * Y - X * (U : Int)) := by
      rw [Int.sub_mul, Int.add_mul s, Int.add_mul Y, Int.mul_comm Y]; omega
    have h := na4 (a := r * (U : Int)) (b := -((s + r) * (U : Int) - (Y + yl) * q)) (c := -(yl * q)) (d := -(q * Y - X * (U : Int)))
    rw [← e, na_mul, na_mul, Int.natAbs_neg, Int.natAbs_neg, Int.natAbs_neg] at h
    exact h
  obtain ⟨g1, g2⟩ := dv_g b1 c1 d1 hR hS hG
  refine ⟨⟨g1, g2, d1⟩, ?_, ?_⟩
  · refine Nat.le_of_mul_le_mul_right (c := U) ?_ hU0
    omega
  · refine Nat.le_of_mul_le_mul_right (c := U) ?_ hU0
    have h1 : X.natAbs * U ≤ s.natAbs * U + (X - s).natAbs * U := by
      rw [← Nat.add_mul]; exact Nat.mul_le_mul_right _ ab8
    omega
theorem div_err {X xl Y yl q s r d2 rest t V : Int} : (q + t) * (Y + yl) - (X + xl) * V = -((s + r) * V - (Y + yl) * q) + (t * Y - rest * V) + t * yl + -((xl - r - d2) * V) + -((X - s + d2 - rest) * V) := by
  rw [Int.add_mul q t, Int.mul_comm q, Int.mul_add t, Int.add_mul X, Int.sub_mul (xl - r), Int.sub_mul xl, Int.sub_mul (X - s + d2), Int.add_mul (X - s), Int.sub_mul X, Int.add_mul s]
  omega
theorem na5p {a b c d f : Int} : (a + b + c + d + f).natAbs ≤ a.natAbs + b.natAbs + c.natAbs + d.natAbs + f.natAbs := by omega
theorem dd_div2 {X xl Y yl q s r d2 rest t : Int} {U : Nat} (lx : 9007199254740992 * xl.natAbs ≤ X.natAbs) (ly : 9007199254740992 * yl.natAbs ≤ Y.natAbs) (hq : 2 * 9007199254740992 * (q * Y - X * (U : Int)).natAbs ≤ 4 * (X.natAbs * U) + 9007199254740992 * Y.natAbs)
    (g : 9007199254740992 * 1024 * ((X - s).natAbs * U) ≤ 4101 * (X.natAbs * U) ∧ 9007199254740992 * 1024 * (r.natAbs * U) ≤ 1025 * (X.natAbs * U) ∧ 81129638414606681695789005144064 * 64 * ((s + r) * (U : Int) - (Y + yl) * q).natAbs ≤ 1025 * (X.natAbs * U)) (h2 : Rn 53 (xl - r) d2) (h3 : Rn 53 (X - s + d2) rest)
    (ht : 2 * 9007199254740992 * (t * Y - rest * (U : Int)).natAbs ≤ 4 * (rest.natAbs * U) + 9007199254740992 * Y.natAbs) (hY0 : Y ≠ 0) (hY : 1152921504606846976 * (81129638414606681695789005144064 * Y.natAbs) ≤ X.natAbs * U) :
    81129638414606681695789005144064 * ((q + t) * (Y + yl) - (X + xl) * (U : Int)).natAbs ≤ 64 * ((X + xl) * (U : Int)).natAbs ∧ t.natAbs ≤ q.natAbs := by
  obtain ⟨g1, g2, d1⟩ := g
  obtain ⟨b1, b2⟩ := dv_b hq hY
  have hA : 9007199254740992 * (xl.natAbs * U) ≤ X.natAbs * U := up_mul lx
  have hV : (xl - r).natAbs * U ≤ xl.natAbs * U + r.natAbs * U := by
    rw [← Nat.add_mul]; exact Nat.mul_le_mul_right _ (by omega)
  have he2 := up_mul (U := U) (rn_rel h2)
  have h33 : (X - s + d2).natAbs * U ≤ (X - s).natAbs * U + ((xl - r).natAbs * U + (xl - r - d2).natAbs * U) := by
    rw [← Nat.add_mul, ← Nat.add_mul]; exact Nat.mul_le_mul_right _ (by omega)
  obtain ⟨v1, v2⟩ := dv_v hA g2 hV he2 g1 h33
  have he3 := up_mul (U := U) (rn_rel h3)
  have hW : rest.natAbs * U ≤ (X - s + d2).natAbs * U + (X - s + d2 - rest).natAbs * U := by
    rw [← Nat.add_mul]; exact Nat.mul_le_mul_right _ ab3
  obtain ⟨w1, w2, w3⟩ := dv_w v2 he3 hW hY ht
  have hty : (t * Y).natAbs ≤ rest.natAbs * U + (t * Y - rest * (U : Int)).natAbs := by
    have := ab8 (a := t * Y) (b := rest * (U : Int)); rwa [na_mul] at this
  have hC2 : 9007199254740992 * (t * yl).natAbs ≤ (t * Y).natAbs := by
    rw [Int.natAbs_mul, Int.natAbs_mul, Nat.mul_left_comm]; exact Nat.mul_le_mul_left _ ly
  obtain ⟨c1, c2⟩ := dv_c w2 w3 (Nat.le_trans hC2 hty)
  refine ⟨?_, ?_⟩
  · have hX : X.natAbs * U ≤ ((X + xl) * (U : Int)).natAbs + xl.natAbs * U := by
      rw [na_mul, ← Nat.add_mul]; exact Nat.mul_le_mul_right _ ab6
    have hE := na5p (a := -((s + r) * (U : Int) - (Y + yl) * q)) (b := t * Y - rest * (U : Int)) (c := t * yl) (d := -((xl - r - d2) * (U : Int))) (f := -((X - s + d2 - rest) * (U : Int)))
    rw [← div_err, Int.natAbs_neg, Int.natAbs_neg, Int.natAbs_neg, na_mul, na_mul] at hE
    exact dv_e hA d1 w3 c1 v1 w1 hE hX
  · have h5 : (t * Y).natAbs ≤ (q * Y).natAbs := by
      have h6 : X.natAbs * U ≤ (q * Y).natAbs + (q * Y - X * (U : Int)).natAbs := by
        have := ab3 (a := X * (U : Int)) (b := q * Y); rwa [na_mul] at this
      omega
    rw [Int.natAbs_mul, Int.natAbs_mul] at h5
    exact Nat.le_of_mul_le_mul_right h5 (by omega)
structure FitP (h x : Nat) : Prop where
  z : ux h * ux x = 0 ∨ 1152921504606846976 * (81129638414606681695789005144064 * UE) ≤ (ux h * ux x).natAbs
  bd : (ux h * ux x).natAbs ≤ BigP * UE
theorem ddw_1 {h h' p e : Nat} (hl : h < 18446744073709551616) (hl' : h' < 18446744073709551616) (s : h % 9223372036854775808 ≤ 9088264048033660928) (s' : h' % 9223372036854775808 ≤ 9088264048033660928) (hp : FitP h h') (T : TPR h h' p e) : Mul1 h h' p e := by
  have hb := hp.bd
  have hV : ux h * ux h' = 0 ∨ ((∀ K, K = 1188 → 2 ^ K ≤ (ux h * ux h').natAbs) ∧ ∀ K, K = 3169 → (ux h * ux h').natAbs ≤ 2 ^ K) := by
    rcases hp.z with h0 | h0
    · exact .inl h0
    · refine .inr ⟨fun K hK => Nat.le_trans ?_ h0, fun K hK => Nat.le_trans hb ?_⟩
      · unfold UE
        rw [show (1152921504606846976 : Nat) = 2 ^ 60 by decide, show (81129638414606681695789005144064 : Nat) = 2 ^ 106 by decide, ← Nat.pow_add, ← Nat.pow_add]
        exact Nat.pow_le_pow_right (by decide) (by rw [hK]; decide)
      · have e1 : BigP * UE = 2 ^ (PE + OneE) := by unfold BigP UE; exact (Nat.pow_add 2 PE OneE).symm
        rw [e1]
        exact Nat.pow_le_pow_right (by decide) (by rw [hK]; decide)
  obtain ⟨a1, a2, a3, a4, a5⟩ := T.ok hl hl' s s' hV
  have eq : (ux p + ux e) * (UE : Int) = ux h * ux h' := a3 OneE rfl
  have er : 9007199254740992 * (ux e * (UE : Int)).natAbs ≤ (ux h * ux h').natAbs := by
    by_cases h0 : ux h * ux h' = 0
    · rw [(a4 h0).2]; simp
    · have h1 := rn_rel ((a5 h0).rn OneE rfl)
      have h2 : ux h * ux h' - ux p * ((2 ^ OneE : Nat) : Int) = ux e * (UE : Int) := by
        have h3 : (UE : Int) = ((2 ^ OneE : Nat) : Int) := rfl
        rw [← eq, Int.add_mul, h3]; omega
      rwa [h2] at h1
  have b2 : (ux e).natAbs * UE ≤ BigP * UE := by rw [← na_mul]; omega
  have b3 : (ux p).natAbs * UE ≤ (2 * BigP + 1) * UE := by
    have h1 : (ux p * (UE : Int)).natAbs ≤ (ux h * ux h').natAbs + (ux e * (UE : Int)).natAbs := by
      have h2 : (ux p * (UE : Int) + ux e * (UE : Int)) = ux h * ux h' := by rw [← Int.add_mul]; exact eq
      omega
    rw [na_mul] at h1
    rw [Nat.add_mul, Nat.mul_assoc]
    omega
  have c2 := Nat.le_of_mul_le_mul_right b2 ue_pos
  have c3 := Nat.le_of_mul_le_mul_right b3 ue_pos
  exact ⟨a1, a2, eq, er, a4, c3, by omega⟩
theorem ddw_2 {a b : Nat} (fa : Fin64 a) (fb : Fin64 b) (hp : (ux a * ux b).natAbs ≤ BigP * UE) : ∃ r, floatBits .mul .f64 a b = some r ∧ FMul a b r := by
  obtain ⟨M, hM⟩ : ∃ M, M = 2096 := ⟨_, rfl⟩
  have hs : (ux a * ux b).natAbs < 2 ^ (M + OneE) := by
    have e1 : BigP * UE = 2 ^ (PE + OneE) := by unfold BigP UE; exact (Nat.pow_add 2 PE OneE).symm
    rw [e1] at hp
    have h4 : PE + OneE < M + OneE := by rw [hM]; decide
    exact Nat.lt_of_le_of_lt hp (Nat.pow_lt_pow_right (by decide) h4)
  obtain ⟨r, h1, h2, h3, h4⟩ := fmul_near (c := OneE) rfl hM fa fb hs
  have h3' : 9007199254740992 * (ux r * (UE : Int) - ux a * ux b).natAbs ≤ (ux a * ux b).natAbs + 9007199254740992 * UE := by unfold UE; exact h3
  exact ⟨r, h1, h2, h3', h4, near_bd ue_pos h3' hp⟩
theorem ddw_5 {h l x p e m w s r : Nat} (d : DdF h l) (hp : FitP h x) (A : Mul1 h x p e) (N : FMul l x m) (V : Sm64 (ux e + ux m) w) (F : FSR p w s r) :
    DdF s r ∧ 81129638414606681695789005144064 * ((ux s + ux r) * (UE : Int) - (ux h + ux l) * ux x).natAbs ≤ 16 * ((ux h + ux l) * ux x).natAbs := by
  have lx := form_l d.rn
  have key : 81129638414606681695789005144064 * ((ux p + ux w) * (UE : Int) - (ux h + ux l) * ux x).natAbs ≤ 16 * ((ux h + ux l) * ux x).natAbs ∧ (ux w).natAbs ≤ (ux p).natAbs := by
    by_cases h0 : ux h * ux x = 0
    · have hz : (ux h = 0 ∧ ux l = 0) ∨ ux x = 0 := by
        rcases Int.mul_eq_zero.1 h0 with k0 | k0
        · refine .inl ⟨k0, ?_⟩
          rw [k0] at lx; omega
        · exact .inr k0
      have e2 : ux l * ux x = 0 := by rcases hz with ⟨a, b⟩ | a <;> simp [*]
      have e3 : (ux h + ux l) * ux x = 0 := by rcases hz with ⟨a, b⟩ | a <;> simp [*]
      have z2 := N.z e2
      obtain ⟨z3, z4⟩ := A.z h0
      have z6 : ux w = 0 := by have h1 := rn_two V.rn; rw [z4, z2] at h1; omega
      rw [e3, z3, z6]
      simp
    · have hk : Rn 53 (ux 0 + ux m) (ux m) := by
        rw [ux_0, Int.zero_add]
        exact ⟨N.fin.fl, fun z _ => by rw [Int.sub_self]; exact Nat.zero_le _⟩
      have k := dd_mul (yl := ux 0) ue_pos lx (by rw [ux_0]; exact Nat.zero_le _) A.eq A.er (by rw [ux_0, Int.mul_zero, Int.zero_mul]; exact Nat.zero_le _) N.near hk V.rn (hp.z.resolve_left h0)
      rw [ux_0, Int.add_zero] at k
      exact k
  have b1 : (ux w).natAbs ≤ 2 * BigP + 1 := Nat.le_trans key.2 A.m1
  have m1 := A.m1
  obtain ⟨c1, c2, c3⟩ := F.ok A.fp.lt V.fin.lt (BigP.sz (by omega)) (BigP.sz (by omega)) (.inr (sz_le key.2))
  refine ⟨DdF.of_sm c1 c2 c3, ?_⟩
  rw [c3]; exact key.1
end Go.Proofs.YtidggnjnlhjhlaaGreatDoor
