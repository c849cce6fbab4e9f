import Derived.Test.YtionkfnapodhbaaDoorJ15
import Derived.Test.YtionkfnapodhbaaDoorRt7
namespace Go.Proofs.YtionkfnapodhbaaDoor
open Go.RowKit Go.Shelf
set_option maxRecDepth 20000
set_option maxHeartbeats 0
def rX (K j : Nat) : Int := (j : Int) * 2 ^ K * 2 ^ 1
def rK (K j : Nat) : Int := rNd (rX K j) (HPI : Int)
def rY (K j : Nat) : Int := rFs (rX K j - rK K j * (HPI : Int)) 5
def rB (K E j : Nat) : Bool := decide ((rX K j).natAbs < HPI) && decide (0 ≤ rX K j) && (decide ((HPI : Int) < 2 * rMo (rX K j) (HPI : Int)) || decide (2 * rMo (rX K j) (HPI : Int) < (HPI : Int))) && decide ((rX K j - rK K j * (HPI : Int)).natAbs < 2 ^ E) && decide ((rX K j).natAbs < 2 ^ E) && decide (0 < HPI)
theorem rB_all {K E : Nat} (hK : K = 378) (hE : E = 32 * 20) : ∀ j, j < 53 → 48 < j → rB K E j = true := by subst hK hE; decide +kernel
theorem rest_b {w : World} {p : Option Addr} {m j : Nat} (h : ZR w false p m (j : Int)) (hm : m ≤ 4000) (hj1 : 1 ≤ j) (hj2 : j < 53) (q : Nat) (hqa : 380 ≤ q) (hqb : q ≤ 385) (hq0 : q = 380) (hj3 : 48 < j) {K : Nat} (hK : K = 378) :
    Calls Tryd.prog 36 #[.agg #[.bool false, .slice p m m], .int .i64 (-6), .int .i64 q] w fun en w' => ∃ s1 p1 m1 v2, en = .returned (.tuple #[.agg #[.bool s1, .slice p1 m1 m1], v2]) ∧ ZR w' s1 p1 m1 (rK K j) ∧ m1 ≤ 20001 ∧ GotR w.heap.size w' v2 (rY K j) 50000 ∧ Below w.heap.size w w' := by
  have HA : Hid (ZR w false p m (j : Int) ∧ m ≤ 4000) := ⟨h, hm⟩
  have NJ : Hid (RN w p m j) := by have h9 := h.rn hm; rw [Int.natAbs_natCast] at h9; exact h9
  obtain ⟨b, hb⟩ : ∃ b : Int, b = (bitsN j : Int) + -6 := ⟨_, rfl⟩
  obtain ⟨q4, hq4⟩ : ∃ q4, q4 = q + 4 := ⟨_, rfl⟩
  obtain ⟨q2, hq2⟩ : ∃ q2, q2 = q - 2 := ⟨_, rfl⟩
  obtain ⟨q6, hq6⟩ : ∃ q6, q6 = q - 6 := ⟨_, rfl⟩
  have HW := Hid.mk9 (rest_w hb (bits_j hj2) hqa hqb hq4 hq2 hq6)
  have HC : Hid (1 ≤ j ∧ j < 53 ∧ 380 ≤ q ∧ q ≤ 385 ∧ q4 = q + 4 ∧ q2 = q - 2 ∧ q6 = q - 6) := ⟨hj1, hj2, hqa, hqb, hq4, hq2, hq6⟩
  have HJ3 : Hid (48 < j) := hj3
  have HQ : Hid (q = 380) := hq0
  have HPF : Hid (∀ w, Calls Tryd.prog 55 #[.int .i64 (q4 : Int)] w fun en w' => RNs w w' en HPI) := by
    intro w
    rw [show (q4 : Int) = 384 by omega]
    exact pifloor_ok
  have HK : Hid (K = 378) := hK
  clear hK hj3 hq0 h hm hb hj1 hj2 hqa hqb hq4 hq2 hq6
  go_enter Tryd.func36, Tryd.ntmps36
  go_wp2_with fail
  obtain ⟨W0, hW0⟩ : ∃ W0, W0 = (((w.alloc (.cells #[.bool false, .slice p m m] 50)).alloc (.cells #[.bool false, .slice none 0 0] 50)).alloc (.cells #[.bool false, .slice none 0 0] 50)) := ⟨_, rfl⟩
  have Xm : Hid (Box W0 (w.heap.size) (.bool false) (.slice p m m)) := by rw [hW0]; exact ⟨by go_simp, by go_simp, by go_simp, by go_simp⟩
  have Xr : Hid (Box W0 (w.heap.size + 1) (.bool false) (.slice none 0 0)) := by rw [hW0]; exact ⟨by go_simp, by go_simp, by go_simp, by go_simp⟩
  have Xu : Hid (Box W0 (w.heap.size + 1 + 1) (.bool false) (.slice none 0 0)) := by rw [hW0]; exact ⟨by go_simp, by go_simp, by go_simp, by go_simp⟩
  have hb0 : Below w.heap.size w W0 := by rw [hW0]; exact below3 w _ _ _
  rw [← hW0]
  clear hW0
  have hbw : Below w.heap.size w w := Below.refl _ _
  obtain ⟨gu, hgu⟩ : ∃ g, g = w.heap.size + 1 + 1 := ⟨_, rfl⟩
  have HGu : Hid (w.heap.size ≤ gu) := by rw [hgu]; show _ ≤ _; omega
  rw [← hgu] at Xu
  try rw [← hgu]
  obtain ⟨gr, hgr⟩ : ∃ g, g = w.heap.size + 1 := ⟨_, rfl⟩
  have HGr : Hid (w.heap.size ≤ gr) := by rw [hgr]; show _ ≤ _; omega
  rw [← hgr] at Xr
  try rw [← hgr]
  obtain ⟨gm, hgm⟩ : ∃ g, g = w.heap.size := ⟨_, rfl⟩
  have HGm : Hid (w.heap.size ≤ gm) := by rw [hgm]; show _ ≤ _; omega
  rw [← hgm] at Xm
  try rw [← hgm]
  have HGD : Hid (gm ≠ gr ∧ gm ≠ gu ∧ gr ≠ gm ∧ gr ≠ gu ∧ gu ≠ gm ∧ gu ≠ gr) := by rw [hgm, hgr, hgu]; exact ⟨by omega, by omega, by omega, by omega, by omega, by omega⟩
  clear hgm hgr hgu
  replace NJ : Hid (RN W0 p m j) := NJ.out.below hb0
  replace hbw := Below.on hbw hb0
  clear hb0
  obtain ⟨w1, w1', mx, w2, w2', w3, w3', w4, w4'⟩ := HW.out
  obtain ⟨cm0, cm1, fm0, fm1⟩ := Xm.out
  have hnem := Xm.out.lt
  go_wp2_with fail
  clear cm0 cm1 fm0 fm1 hnem
  clear w1 w1' mx w2 w2' w3 w3' w4 w4'
  refine (rn_bits NJ.out).mono ?_
  rintro e9 v9 ⟨rfl, hw⟩
  obtain rfl := hw.symm
  clear hw
  obtain ⟨w1, w1', mx, w2, w2', w3, w3', w4, w4'⟩ := HW.out
  obtain ⟨cm0, cm1, fm0, fm1⟩ := Xm.out
  have hnem := Xm.out.lt
  go_wp2_with fail
  clear cm0 cm1 fm0 fm1 hnem
  clear w1 w1' mx w2 w2' w3 w3' w4 w4'
  refine (scaled7 false (HA.out.1.below hbw) (by have := HA.out; omega) q2 (by have := HC.out; omega)).mono ?_
  rintro e v1 ⟨v, rfl, hv, hb1⟩
  obtain ⟨s1, g1, m1, rfl, hg1, hz1, hl1⟩ := hv
  try clear hv
  have HN1 : Hid (W0.heap.size ≤ g1) := hg1
  have HB1 : Hid (W0.heap.size ≤ v1.heap.size) := hb1.size
  replace Xm : Hid _ := Xm.out.below hb1
  replace Xr : Hid _ := Xr.out.below hb1
  replace Xu : Hid _ := Xu.out.below hb1
  replace NJ : Hid (RN v1 p m j) := NJ.out.below hb1
  replace hbw := Below.on hbw hb1
  clear hb1
  have Z1 : Hid (ZR v1 s1 (some ⟨g1, 0, none⟩) m1 ((j : Int) * 2 ^ q2)) := hz1
  have HL1 : Hid (m1 ≤ 40000) := hl1
  clear hz1 hl1 hg1
  obtain ⟨w1, w1', mx, w2, w2', w3, w3', w4, w4'⟩ := HW.out
  go_wp2_with fail
  clear w1 w1' mx w2 w2' w3 w3' w4 w4'
  have HDrx : Hid (gr ≠ v1.heap.size) := Nat.ne_of_lt Xr.out.lt
  have HDux : Hid (gu ≠ v1.heap.size) := Nat.ne_of_lt Xu.out.lt
  have Xx0 : Hid (Box (v1.alloc (.cells #[.bool s1, .slice (some ⟨g1, 0, none⟩) m1 m1] 50)) v1.heap.size (.bool s1) (.slice (some ⟨g1, 0, none⟩) m1 m1)) := Box.new v1 _ _ _
  have hbn : Below v1.heap.size v1 (v1.alloc (.cells #[.bool s1, .slice (some ⟨g1, 0, none⟩) m1 m1] 50)) := below1 v1 _
  generalize v1.alloc (.cells #[.bool s1, .slice (some ⟨g1, 0, none⟩) m1 m1] 50) = Wx at *
  have HGx : Hid (w.heap.size ≤ v1.heap.size) := hbw.size
  replace Xm : Hid _ := Xm.out.below hbn
  replace Xr : Hid _ := Xr.out.below hbn
  replace Xu : Hid _ := Xu.out.below hbn
  replace NJ : Hid (RN Wx p m j) := NJ.out.below hbn
  replace Z1 : Hid _ := Z1.out.below hbn
  replace hbw := Below.on hbw hbn
  clear hbn
  generalize v1.heap.size = gx at *
  have Xx := Xx0
  clear Xx0
  obtain ⟨E6, hE6⟩ : ∃ E6, E6 = 32 * 20 := ⟨_, rfl⟩
  have HE6 := Hid.mk9 hE6
  clear hE6
  have HM1 : Hid (m1 ≤ 20) := zr_len32 Z1.out (E := E6) HE6.out (sz_j HC.out.2.1 (by have := HC.out; have := HE6.out; omega))
  refine (tabs s1 Z1.out (by have := HM1.out; omega)).mono ?_
  rintro e v2 ⟨v, rfl, hv, hb2⟩
  obtain ⟨s2, g2, m2, rfl, hg2, hz2, hl2⟩ := hv
  try clear hv
  have HN2 : Hid (Wx.heap.size ≤ g2) := hg2
  have HB2 : Hid (Wx.heap.size ≤ v2.heap.size) := hb2.size
  replace Xm : Hid _ := Xm.out.below hb2
  replace Xr : Hid _ := Xr.out.below hb2
  replace Xu : Hid _ := Xu.out.below hb2
  replace Xx : Hid _ := Xx.out.below hb2
  replace NJ : Hid (RN v2 p m j) := NJ.out.below hb2
  replace Z1 : Hid _ := Z1.out.below hb2
  replace hbw := Below.on hbw hb2
  clear hb2
  have Z2 : Hid (ZR v2 s2 (some ⟨g2, 0, none⟩) m2 (((((j : Int) * 2 ^ q2).natAbs : Nat) : Int))) := hz2
  have HL2 : Hid (m2 ≤ m1) := hl2
  clear hz2 hl2 hg2
  go_wp2_with fail
  refine (rshl04 s2 Z2.out (by have := HL2.out; have := HM1.out; omega) 2 (.inl (by decide))).mono ?_
  rintro e v3 ⟨v, rfl, hv, hb3⟩
  rw [(rest_c HC.out.2.2.2.2.2.1 HC.out.2.2.2.2.1 (by have := HC.out; omega)).1] at hv
  obtain ⟨s3, g3, m3, rfl, hg3, hz3, hl3⟩ := hv
  try clear hv
  have HN3 : Hid (v2.heap.size ≤ g3) := hg3
  have HB3 : Hid (v2.heap.size ≤ v3.heap.size) := hb3.size
  replace Xm : Hid _ := Xm.out.below hb3
  replace Xr : Hid _ := Xr.out.below hb3
  replace Xu : Hid _ := Xu.out.below hb3
  replace Xx : Hid _ := Xx.out.below hb3
  replace NJ : Hid (RN v3 p m j) := NJ.out.below hb3
  replace Z1 : Hid _ := Z1.out.below hb3
  replace Z2 : Hid _ := Z2.out.below hb3
  replace hbw := Below.on hbw hb3
  clear hb3
  have Z3 : Hid (ZR v3 s3 (some ⟨g3, 0, none⟩) m3 (((j * 2 ^ q : Nat) : Int))) := hz3
  have HL3 : Hid (m3 ≤ 40000) := hl3
  clear hz3 hl3 hg3
  clear Z2
  go_wp2_with fail
  refine (rn_pow2 q4 (by have := HC.out; omega)).mono ?_
  rintro en v4 ⟨p4, m4, rfl, hn4, hb4⟩
  replace Xm : Hid _ := Xm.out.below hb4
  replace Xr : Hid _ := Xr.out.below hb4
  replace Xu : Hid _ := Xu.out.below hb4
  replace Xx : Hid _ := Xx.out.below hb4
  replace NJ : Hid (RN v4 p m j) := NJ.out.below hb4
  replace Z1 : Hid _ := Z1.out.below hb4
  replace Z3 : Hid _ := Z3.out.below hb4
  replace hbw := Below.on hbw hb4
  clear hb4
  have N4 : Hid (RN v4 p4 m4 (2 ^ q4)) := hn4
  clear hn4
  go_wp2_with fail
  refine (rn_muls N4.out 3 (by decide) (K := q4 + 2) (by have := HC.out; omega) (by rw [Nat.pow_add]; have := Nat.two_pow_pos q4; omega)).mono ?_
  rintro en v5 ⟨p5, m5, rfl, hn5, hb5⟩
  replace Xm : Hid _ := Xm.out.below hb5
  replace Xr : Hid _ := Xr.out.below hb5
  replace Xu : Hid _ := Xu.out.below hb5
  replace Xx : Hid _ := Xx.out.below hb5
  replace NJ : Hid (RN v5 p m j) := NJ.out.below hb5
  replace Z1 : Hid _ := Z1.out.below hb5
  replace Z3 : Hid _ := Z3.out.below hb5
  replace N4 : Hid (RN v5 p4 m4 (2 ^ q4)) := N4.out.below hb5
  replace hbw := Below.on hbw hb5
  clear hb5
  have N5 : Hid (RN v5 p5 m5 (2 ^ q4 * 3)) := hn5
  clear hn5
  clear N4
  go_wp2_with fail
  obtain ⟨zs, hA, hN⟩ := N5.out.mem
  refine (rmk_any false hA hN (by have := N5.out.len; omega)).mono ?_
  rintro e v6 ⟨v, rfl, hv, hb6⟩
  rw [(rest_c (j := j) HC.out.2.2.2.2.2.1 HC.out.2.2.2.2.1 (by have := HC.out; omega)).2] at hv
  obtain ⟨s6, g6, m6, rfl, hg6, hz6, hl6⟩ := hv
  try clear hv
  have HN6 : Hid (v5.heap.size ≤ g6) := hg6
  have HB6 : Hid (v5.heap.size ≤ v6.heap.size) := hb6.size
  replace Xm : Hid _ := Xm.out.below hb6
  replace Xr : Hid _ := Xr.out.below hb6
  replace Xu : Hid _ := Xu.out.below hb6
  replace Xx : Hid _ := Xx.out.below hb6
  replace NJ : Hid (RN v6 p m j) := NJ.out.below hb6
  replace Z1 : Hid _ := Z1.out.below hb6
  replace Z3 : Hid _ := Z3.out.below hb6
  replace N5 : Hid (RN v6 p5 m5 (2 ^ q4 * 3)) := N5.out.below hb6
  replace hbw := Below.on hbw hb6
  clear hb6
  have Z6 : Hid (ZR v6 s6 (some ⟨g6, 0, none⟩) m6 (((48 * 2 ^ q : Nat) : Int))) := hz6
  have HL6 : Hid (m6 ≤ m5) := hl6
  clear hz6 hl6 hg6
  clear hA hN
  have HM5 : Hid (m5 ≤ 4000) := N5.out.len
  clear N5
  go_wp2_with fail
  obtain ⟨c, hc⟩ : ∃ c, c = cmpI ((j * 2 ^ q : Nat) : Int) ((48 * 2 ^ q : Nat) : Int) := ⟨_, rfl⟩
  have HCC := Hid.mk9 hc
  clear hc
  refine (rcmp04 s3 s6 Z3.out Z6.out (by have := HL3.out; omega) (by have := HL6.out; have := HM5.out; omega)).mono ?_
  rintro e v7 ⟨rfl, hb7⟩
  rw [← HCC.out]
  replace Xm : Hid _ := Xm.out.below hb7
  replace Xr : Hid _ := Xr.out.below hb7
  replace Xu : Hid _ := Xu.out.below hb7
  replace Xx : Hid _ := Xx.out.below hb7
  replace NJ : Hid (RN v7 p m j) := NJ.out.below hb7
  replace Z1 : Hid _ := Z1.out.below hb7
  replace Z3 : Hid _ := Z3.out.below hb7
  replace Z6 : Hid _ := Z6.out.below hb7
  replace hbw := Below.on hbw hb7
  clear hb7
  clear Z3
  clear Z6
  have hc0 : decide (c ≤ 0) = false := decide_eq_false (by rw [HCC.out]; unfold cmpI; have h := Nat.mul_lt_mul_of_pos_right HJ3.out (Nat.two_pow_pos q); generalize j * 2 ^ q = X at *; generalize 48 * 2 ^ q = Y at *; rw [if_neg (by omega), if_neg (by omega)]; decide)
  have hc1 : ¬ c ≤ 0 := of_decide_eq_false hc0
  obtain ⟨w1, w1', mx, w2, w2', w3, w3', w4, w4'⟩ := HW.out
  go_wp2_with fail
  clear w1 w1' mx w2 w2' w3 w3' w4 w4'
  have hRB := rB_all HK.out HE6.out j HC.out.2.1 HJ3.out
  unfold rB at hRB
  rw [Bool.and_eq_true, Bool.and_eq_true, Bool.and_eq_true, Bool.and_eq_true, Bool.and_eq_true, Bool.or_eq_true] at hRB
  obtain ⟨⟨⟨⟨⟨b1, b2⟩, b3⟩, b4⟩, b5⟩, b6⟩ := hRB
  have HRB9 : Hid ((rX K j).natAbs < HPI ∧ 0 ≤ rX K j ∧ ((HPI : Int) < 2 * rMo (rX K j) (HPI : Int) ∨ 2 * rMo (rX K j) (HPI : Int) < (HPI : Int)) ∧ (rX K j - rK K j * (HPI : Int)).natAbs < 2 ^ E6 ∧ (rX K j).natAbs < 2 ^ E6 ∧ 0 < HPI) := ⟨of_decide_eq_true b1, of_decide_eq_true b2, b3.imp of_decide_eq_true of_decide_eq_true, of_decide_eq_true b4, of_decide_eq_true b5, of_decide_eq_true b6⟩
  clear b1 b2 b3 b4 b5 b6
  have hX : (j : Int) * 2 ^ q2 * 2 ^ 1 = rX K j := by unfold rX; rw [show q2 = K by have := HC.out; have := HQ.out; have := HK.out; omega]
  have HX := Hid.mk9 hX
  clear hX
  obtain ⟨X, hX⟩ : ∃ X, X = rX K j := ⟨_, rfl⟩
  obtain ⟨kk, hkk⟩ : ∃ kk, kk = rK K j := ⟨_, rfl⟩
  obtain ⟨P, hP⟩ : ∃ P, P = HPI := ⟨_, rfl⟩
  have HD9 : Hid (rNd X (P : Int) = kk ∧ rFs (X - kk * (P : Int)) 5 = rY K j ∧ rK K j = kk) := by rw [hX, hkk, hP]; exact ⟨rfl, rfl, rfl⟩
  rw [← hP, ← hkk, ← hX] at HRB9
  rw [← hX] at HX
  rw [← hP] at HPF
  clear hP hX hkk
  refine (HPF.out _).mono ?_
  rintro en v11 ⟨p11, m11, rfl, hn11, hb11⟩
  replace Xm : Hid _ := Xm.out.below hb11
  replace Xr : Hid _ := Xr.out.below hb11
  replace Xu : Hid _ := Xu.out.below hb11
  replace Xx : Hid _ := Xx.out.below hb11
  replace NJ : Hid (RN v11 p m j) := NJ.out.below hb11
  replace Z1 : Hid _ := Z1.out.below hb11
  replace hbw := Below.on hbw hb11
  clear hb11
  have N11 : Hid (RN v11 p11 m11 (P)) := hn11
  clear hn11
  go_wp2_with fail
  obtain ⟨zs, hA, hN⟩ := N11.out.mem
  refine (rmk_any false hA hN (by have := N11.out.len; omega)).mono ?_
  rintro e v12 ⟨v, rfl, hv, hb12⟩
  rw [show iv false P = (P : Int) from rfl] at hv
  obtain ⟨s12, g12, m12, rfl, hg12, hz12, hl12⟩ := hv
  try clear hv
  have HN12 : Hid (v11.heap.size ≤ g12) := hg12
  have HB12 : Hid (v11.heap.size ≤ v12.heap.size) := hb12.size
  replace Xm : Hid _ := Xm.out.below hb12
  replace Xr : Hid _ := Xr.out.below hb12
  replace Xu : Hid _ := Xu.out.below hb12
  replace Xx : Hid _ := Xx.out.below hb12
  replace NJ : Hid (RN v12 p m j) := NJ.out.below hb12
  replace Z1 : Hid _ := Z1.out.below hb12
  replace N11 : Hid (RN v12 p11 m11 (P)) := N11.out.below hb12
  replace hbw := Below.on hbw hb12
  clear hb12
  have Z12 : Hid (ZR v12 s12 (some ⟨g12, 0, none⟩) m12 ((P : Int))) := hz12
  have HL12 : Hid (m12 ≤ m11) := hl12
  clear hz12 hl12 hg12
  clear hA hN
  have HM12 : Hid (m12 ≤ 4000) := Nat.le_trans HL12.out N11.out.len
  clear N11
  obtain ⟨cx0, cx1, fx0, fx1⟩ := Xx.out
  have hnex := Xx.out.lt
  go_wp2_with fail
  clear cx0 cx1 fx0 fx1 hnex
  have HDrp : Hid (gr ≠ v12.heap.size) := Nat.ne_of_lt Xr.out.lt
  have HDup : Hid (gu ≠ v12.heap.size) := Nat.ne_of_lt Xu.out.lt
  have Xp0 : Hid (Box (v12.alloc (.cells #[.bool s12, .slice (some ⟨g12, 0, none⟩) m12 m12] 50)) v12.heap.size (.bool s12) (.slice (some ⟨g12, 0, none⟩) m12 m12)) := Box.new v12 _ _ _
  have hbn : Below v12.heap.size v12 (v12.alloc (.cells #[.bool s12, .slice (some ⟨g12, 0, none⟩) m12 m12] 50)) := below1 v12 _
  generalize v12.alloc (.cells #[.bool s12, .slice (some ⟨g12, 0, none⟩) m12 m12] 50) = Wp at *
  have HGp : Hid (w.heap.size ≤ v12.heap.size) := hbw.size
  replace Xm : Hid _ := Xm.out.below hbn
  replace Xr : Hid _ := Xr.out.below hbn
  replace Xu : Hid _ := Xu.out.below hbn
  replace Xx : Hid _ := Xx.out.below hbn
  replace NJ : Hid (RN Wp p m j) := NJ.out.below hbn
  replace Z1 : Hid _ := Z1.out.below hbn
  replace Z12 : Hid _ := Z12.out.below hbn
  replace hbw := Below.on hbw hbn
  clear hbn
  generalize v12.heap.size = gp at *
  have Xp := Xp0
  clear Xp0
  obtain rfl : s12 = false := Z12.out.sg.trans (decide_eq_false (by omega))
  have Z1u : Hid (ZR Wp s1 (some ⟨g1, 0, none⟩) m1 ((j : Int) * 2 ^ q2)) := Z1.out
  have ZPu : Hid (ZR Wp false (some ⟨g12, 0, none⟩) m12 (P : Int)) := Z12.out
  have hbu : Below Wp.heap.size Wp Wp := Below.refl _ _
  clear NJ
  clear Z1
  clear Z12
  obtain ⟨Wr, hWr⟩ : ∃ W1, W1 = Wp.drew := ⟨_, rfl⟩
  have hbd : Below Wp.heap.size Wp Wr := by rw [hWr]; exact bDrew1 (Below.refl _ _)
  have hbu' := Below.on hbu hbd
  clear hbu
  have hbu := hbu'
  clear hbu'
  replace Xm : Hid _ := Xm.out.below hbd
  replace Xr : Hid _ := Xr.out.below hbd
  replace Xu : Hid _ := Xu.out.below hbd
  replace Xx : Hid _ := Xx.out.below hbd
  replace Xp : Hid _ := Xp.out.below hbd
  replace hbw := Below.on hbw hbd
  clear hbd
  have HJ : Hid ((fun W' : World => W'.cell? ⟨gx, 0, none⟩ = some (.bool s1) ∧ W'.cell? ⟨gx, 1, none⟩ = some (.slice (some ⟨g1, 0, none⟩) m1 m1) ∧ W'.cell? ⟨gp, 0, none⟩ = some (.bool false) ∧ W'.cell? ⟨gp, 1, none⟩ = some (.slice (some ⟨g12, 0, none⟩) m12 m12)) Wr) := ⟨Xx.out.c0, Xx.out.c1, Xp.out.c0, Xp.out.c1⟩
  refine wp_region_J (fun W' => W'.cell? ⟨gx, 0, none⟩ = some (.bool s1) ∧ W'.cell? ⟨gx, 1, none⟩ = some (.slice (some ⟨g1, 0, none⟩) m1 m1) ∧ W'.cell? ⟨gp, 0, none⟩ = some (.bool false) ∧ W'.cell? ⟨gp, 1, none⟩ = some (.slice (some ⟨g12, 0, none⟩) m12 m12)) (by kernel_rfl) ?_
  rw [← hWr]
  clear hWr
  refine wpJ_tq 0 rfl HJ.out ?_
  refine wpJ_tq 2 rfl HJ.out ?_
  obtain ⟨RQ, HRQ, HRP⟩ : ∃ RQ : Act → Act → World → Prop, Hid (∀ a1 a2 a3, (fun a0 a' W' => ∃ gk tA kA nA tF kF nF, a' = (((a0.put (some 51) (.agg #[.bool tA, .slice (some ⟨kA, 0, none⟩) nA nA])).put (some 53) (.agg #[.bool tF, .slice (some ⟨kF, 0, none⟩) nF nF])).put (some 12) (.pointer (some ⟨gk, 0, none⟩))) ∧ Box W' gk (.bool tF) (.slice (some ⟨kF, 0, none⟩) nF nF) ∧ Box W' gm (.bool false) (.slice p m m) ∧ Box W' gr (.bool false) (.slice none 0 0) ∧ Box W' gu (.bool false) (.slice none 0 0) ∧ Box W' gx (.bool s1) (.slice (some ⟨g1, 0, none⟩) m1 m1) ∧ Box W' gp (.bool false) (.slice (some ⟨g12, 0, none⟩) m12 m12) ∧ ZR W' tF (some ⟨kF, 0, none⟩) nF (kk) ∧ w.heap.size ≤ gk ∧ gm ≠ gk ∧ gr ≠ gk ∧ gu ≠ gk ∧ gx ≠ gk ∧ gp ≠ gk ∧ (gr < kF ∧ gu < kF ∧ nF ≤ 20001) ∧ Below Wp.heap.size Wp W' ∧ Below w.heap.size w W') a1 a2 a3 → RQ a1 a2 a3) ∧ Hid (∀ a1 a2 a3, RQ a1 a2 a3 → (fun a0 a' W' => ∃ gk tA kA nA tF kF nF, a' = (((a0.put (some 51) (.agg #[.bool tA, .slice (some ⟨kA, 0, none⟩) nA nA])).put (some 53) (.agg #[.bool tF, .slice (some ⟨kF, 0, none⟩) nF nF])).put (some 12) (.pointer (some ⟨gk, 0, none⟩))) ∧ Box W' gk (.bool tF) (.slice (some ⟨kF, 0, none⟩) nF nF) ∧ Box W' gm (.bool false) (.slice p m m) ∧ Box W' gr (.bool false) (.slice none 0 0) ∧ Box W' gu (.bool false) (.slice none 0 0) ∧ Box W' gx (.bool s1) (.slice (some ⟨g1, 0, none⟩) m1 m1) ∧ Box W' gp (.bool false) (.slice (some ⟨g12, 0, none⟩) m12 m12) ∧ ZR W' tF (some ⟨kF, 0, none⟩) nF (kk) ∧ w.heap.size ≤ gk ∧ gm ≠ gk ∧ gr ≠ gk ∧ gu ≠ gk ∧ gx ≠ gk ∧ gp ≠ gk ∧ (gr < kF ∧ gu < kF ∧ nF ≤ 20001) ∧ Below Wp.heap.size Wp W' ∧ Below w.heap.size w W') a1 a2 a3) := ⟨_, fun _ _ _ h => h, fun _ _ _ h => h⟩
  refine wpJ_cutA RQ ?_ ?_
  · intro a' Wc hrq
    obtain ⟨gk, tA, kA, nA, tF, kF, nF, rfl, xbQ, xm, xr, xu, xx, xp, rr, hg, hdm, hdr, hdu, hdx, hdp, hHKR, hbuc, hbc⟩ := HRP.out _ _ _ hrq
    clear hrq HRP HRQ
    clear hbw hbu HJ Xm Xr Xu Xx Xp
    have hbw := hbc
    have hbu := hbuc
    have Xk : Hid (Box Wc gk (.bool tF) (.slice (some ⟨kF, 0, none⟩) nF nF)) := xbQ
    have Xm : Hid (Box Wc gm (.bool false) (.slice p m m)) := xm
    have Xr : Hid (Box Wc gr (.bool false) (.slice none 0 0)) := xr
    have Xu : Hid (Box Wc gu (.bool false) (.slice none 0 0)) := xu
    have Xx : Hid (Box Wc gx (.bool s1) (.slice (some ⟨g1, 0, none⟩) m1 m1)) := xx
    have Xp : Hid (Box Wc gp (.bool false) (.slice (some ⟨g12, 0, none⟩) m12 m12)) := xp
    have RR : Hid (ZR Wc tF (some ⟨kF, 0, none⟩) nF (kk)) := rr
    have HGk : Hid (w.heap.size ≤ gk) := hg
    have HDmk : Hid (gm ≠ gk) := hdm
    have HDrk : Hid (gr ≠ gk) := hdr
    have HDuk : Hid (gu ≠ gk) := hdu
    have HDxk : Hid (gx ≠ gk) := hdx
    have HDpk : Hid (gp ≠ gk) := hdp
    have HKR : Hid (gr < kF ∧ gu < kF ∧ nF ≤ 20001) := hHKR
    clear xbQ xm xr xu xx xp rr hg hdm hdr hdu hdx hdp hHKR hbuc hbc
    have Z1 : Hid (ZR Wc s1 (some ⟨g1, 0, none⟩) m1 ((j : Int) * 2 ^ q2)) := Z1u.out.below hbu
    have ZP : Hid (ZR Wc false (some ⟨g12, 0, none⟩) m12 (P : Int)) := ZPu.out.below hbu
    clear hbu Z1u ZPu
    go_wp2_with fail
    obtain ⟨V20, hV20⟩ : ∃ W1, W1 = Wc.drew := ⟨_, rfl⟩
    have hbd : Below Wc.heap.size Wc V20 := by rw [hV20]; exact bDrew1 (Below.refl _ _)
    replace Xk : Hid _ := Xk.out.below hbd
    replace Xm : Hid _ := Xm.out.below hbd
    replace Xr : Hid _ := Xr.out.below hbd
    replace Xu : Hid _ := Xu.out.below hbd
    replace Xx : Hid _ := Xx.out.below hbd
    replace Xp : Hid _ := Xp.out.below hbd
    replace RR : Hid _ := RR.out.below hbd
    replace Z1 : Hid _ := Z1.out.below hbd
    replace ZP : Hid _ := ZP.out.below hbd
    replace hbw := Below.on hbw hbd
    clear hbd
    have HJ : Hid ((fun W' : World => W'.cell? ⟨gk, 0, none⟩ = some (.bool tF) ∧ W'.cell? ⟨gk, 1, none⟩ = some (.slice (some ⟨kF, 0, none⟩) nF nF) ∧ W'.cell? ⟨gx, 0, none⟩ = some (.bool s1) ∧ W'.cell? ⟨gx, 1, none⟩ = some (.slice (some ⟨g1, 0, none⟩) m1 m1) ∧ W'.cell? ⟨gp, 0, none⟩ = some (.bool false) ∧ W'.cell? ⟨gp, 1, none⟩ = some (.slice (some ⟨g12, 0, none⟩) m12 m12)) V20) := ⟨Xk.out.c0, Xk.out.c1, Xx.out.c0, Xx.out.c1, Xp.out.c0, Xp.out.c1⟩
    refine wp_region_J (fun W' => W'.cell? ⟨gk, 0, none⟩ = some (.bool tF) ∧ W'.cell? ⟨gk, 1, none⟩ = some (.slice (some ⟨kF, 0, none⟩) nF nF) ∧ W'.cell? ⟨gx, 0, none⟩ = some (.bool s1) ∧ W'.cell? ⟨gx, 1, none⟩ = some (.slice (some ⟨g1, 0, none⟩) m1 m1) ∧ W'.cell? ⟨gp, 0, none⟩ = some (.bool false) ∧ W'.cell? ⟨gp, 1, none⟩ = some (.slice (some ⟨g12, 0, none⟩) m12 m12)) (by kernel_rfl) ?_
    rw [← hV20]
    clear hV20
    refine wpJ_tq 0 rfl HJ.out ?_
    refine wpJ_tq 1 rfl HJ.out ?_
    refine wpJ_tq 3 rfl HJ.out ?_
    refine wpJ_tq 4 rfl HJ.out ?_
    refine wpJ_tq 7 rfl HJ.out ?_
    go_simp
    refine wpJ_tq 8 rfl HJ.out ?_
    refine wpJ_on 2 rfl fun KJ hK => ?_
    go_simp
    refine (rshl04 s1 Z1.out (by have := HM1.out; omega) 1 (.inl (by decide))).mono ?_
    rintro e9 uC ⟨v, rfl, hv, hbC⟩
    rw [HX.out] at hv
    obtain ⟨tC, kC, nC, rfl, hgC, hzC, hlC⟩ := hv
    replace Xk : Hid _ := Xk.out.below hbC
    replace Xm : Hid _ := Xm.out.below hbC
    replace Xr : Hid _ := Xr.out.below hbC
    replace Xu : Hid _ := Xu.out.below hbC
    replace Xx : Hid _ := Xx.out.below hbC
    replace Xp : Hid _ := Xp.out.below hbC
    replace RR : Hid _ := RR.out.below hbC
    replace Z1 : Hid _ := Z1.out.below hbC
    replace ZP : Hid _ := ZP.out.below hbC
    replace hbw := Below.on hbw hbC
    clear hbC
    have YC : Hid (ZR uC tC (some ⟨kC, 0, none⟩) nC (X)) := hzC
    have HLC : Hid (nC ≤ 40000) := hlC
    clear hzC hlC hgC
    refine hK _ _ ⟨Xk.out.c0, Xk.out.c1, Xx.out.c0, Xx.out.c1, Xp.out.c0, Xp.out.c1⟩ ?_
    clear hK
    refine wpJ_on 5 rfl fun KJ hK => ?_
    go_simp
    refine (rmul04 tF false RR.out ZP.out (by have := HKR.out; omega) (by have := HM12.out; omega)).mono ?_
    rintro e9 uD ⟨v, rfl, hv, hbD⟩
    obtain ⟨tD, kD, nD, rfl, hgD, hzD, hlD⟩ := hv
    replace Xk : Hid _ := Xk.out.below hbD
    replace Xm : Hid _ := Xm.out.below hbD
    replace Xr : Hid _ := Xr.out.below hbD
    replace Xu : Hid _ := Xu.out.below hbD
    replace Xx : Hid _ := Xx.out.below hbD
    replace Xp : Hid _ := Xp.out.below hbD
    replace RR : Hid _ := RR.out.below hbD
    replace Z1 : Hid _ := Z1.out.below hbD
    replace ZP : Hid _ := ZP.out.below hbD
    replace YC : Hid _ := YC.out.below hbD
    replace hbw := Below.on hbw hbD
    clear hbD
    have YD : Hid (ZR uD tD (some ⟨kD, 0, none⟩) nD (kk * (P : Int))) := hzD
    have HLD : Hid (nD ≤ nF + m12) := hlD
    clear hzD hlD hgD
    refine hK _ _ ⟨Xk.out.c0, Xk.out.c1, Xx.out.c0, Xx.out.c1, Xp.out.c0, Xp.out.c1⟩ ?_
    clear hK
    refine wpJ_on 6 rfl fun KJ hK => ?_
    go_simp
    refine (rsub04 tC tD YC.out YD.out (by have := HLC.out; omega) (by have := HLD.out; have := HKR.out; have := HM12.out; omega)).mono ?_
    rintro e9 uE ⟨v, rfl, hv, hbE⟩
    obtain ⟨tE, kE, nE, rfl, hgE, hzE, hlE⟩ := hv
    replace Xk : Hid _ := Xk.out.below hbE
    replace Xm : Hid _ := Xm.out.below hbE
    replace Xr : Hid _ := Xr.out.below hbE
    replace Xu : Hid _ := Xu.out.below hbE
    replace Xx : Hid _ := Xx.out.below hbE
    replace Xp : Hid _ := Xp.out.below hbE
    replace RR : Hid _ := RR.out.below hbE
    replace Z1 : Hid _ := Z1.out.below hbE
    replace ZP : Hid _ := ZP.out.below hbE
    replace YC : Hid _ := YC.out.below hbE
    replace YD : Hid _ := YD.out.below hbE
    replace hbw := Below.on hbw hbE
    clear hbE
    have YE : Hid (ZR uE tE (some ⟨kE, 0, none⟩) nE (X - kk * (P : Int))) := hzE
    have HLE : Hid (nE ≤ max nC nD + 1) := hlE
    clear hzE hlE hgE
    refine hK _ _ ⟨Xk.out.c0, Xk.out.c1, Xx.out.c0, Xx.out.c1, Xp.out.c0, Xp.out.c1⟩ ?_
    clear hK
    refine wpJ_on 9 rfl fun KJ hK => ?_
    go_simp
    have HRG : Hid (gr < uE.heap.size ∧ gu < uE.heap.size ∧ w.heap.size ≤ uE.heap.size) := ⟨Xr.out.lt, Xu.out.lt, hbw.size⟩
    refine (rfloorshr04 tE YE.out (Nat.le_trans (zr_len32 YE.out HE6.out HRB9.out.2.2.2.1) (by decide)) 5 (by decide)).mono ?_
    rintro e9 uG ⟨v, rfl, hv, hbG⟩
    rw [HD9.out.2.1] at hv
    obtain ⟨tG, kG, nG, rfl, hgG, hzG, hlG⟩ := hv
    have HGG : Hid (uE.heap.size ≤ kG ∧ nG ≤ 30) := ⟨hgG, Nat.le_trans hlG (by have := zr_len32 YE.out HE6.out HRB9.out.2.2.2.1; omega)⟩
    replace Xk : Hid _ := Xk.out.below hbG
    replace Xm : Hid _ := Xm.out.below hbG
    replace Xr : Hid _ := Xr.out.below hbG
    replace Xu : Hid _ := Xu.out.below hbG
    replace Xx : Hid _ := Xx.out.below hbG
    replace Xp : Hid _ := Xp.out.below hbG
    replace RR : Hid _ := RR.out.below hbG
    replace Z1 : Hid _ := Z1.out.below hbG
    replace ZP : Hid _ := ZP.out.below hbG
    replace YC : Hid _ := YC.out.below hbG
    replace YD : Hid _ := YD.out.below hbG
    replace YE : Hid _ := YE.out.below hbG
    replace hbw := Below.on hbw hbG
    clear hbG
    have YG : Hid (ZR uG tG (some ⟨kG, 0, none⟩) nG (rY K j)) := hzG
    clear hzG hgG hlG
    refine hK _ _ ⟨Xk.out.c0, Xk.out.c1, Xx.out.c0, Xx.out.c1, Xp.out.c0, Xp.out.c1⟩ ?_
    clear hK
    have hu1 : gr ≠ gu := HGD.out.2.2.2.1
    have hu2 : gu ≠ gr := hu1.symm
    have hmrk : gr ≠ gk := HDrk.out
    have hnrk : gk ≠ gr := fun h => hmrk h.symm
    have hmrx : gr ≠ gx := HDrx.out
    have hnrx : gx ≠ gr := fun h => hmrx h.symm
    have hmrp : gr ≠ gp := HDrp.out
    have hnrp : gp ≠ gr := fun h => hmrp h.symm
    have hmuk : gu ≠ gk := HDuk.out
    have hnuk : gk ≠ gu := fun h => hmuk h.symm
    have hmux : gu ≠ gx := HDux.out
    have hnux : gx ≠ gu := fun h => hmux h.symm
    have hmup : gu ≠ gp := HDup.out
    have hnup : gp ≠ gu := fun h => hmup h.symm
    obtain ⟨cr0, cr1, fr0, fr1⟩ := Xr.out
    have hner := Xr.out.lt
    obtain ⟨cu0, cu1, fu0, fu1⟩ := Xu.out
    have hneu := Xu.out.lt
    obtain ⟨ck0, ck1, fk0, fk1⟩ := Xk.out
    have hnek := Xk.out.lt
    obtain ⟨cx0, cx1, fx0, fx1⟩ := Xx.out
    have hnex := Xx.out.lt
    obtain ⟨cp0, cp1, fp0, fp1⟩ := Xp.out
    have hnep := Xp.out.lt
    refine wpJ_on 10 rfl fun KJ hK => ?_
    go_simp
    have HJ2 : Hid ((fun W' : World => W'.cell? ⟨gk, 0, none⟩ = some (.bool tF) ∧ W'.cell? ⟨gk, 1, none⟩ = some (.slice (some ⟨kF, 0, none⟩) nF nF) ∧ W'.cell? ⟨gx, 0, none⟩ = some (.bool s1) ∧ W'.cell? ⟨gx, 1, none⟩ = some (.slice (some ⟨g1, 0, none⟩) m1 m1) ∧ W'.cell? ⟨gp, 0, none⟩ = some (.bool false) ∧ W'.cell? ⟨gp, 1, none⟩ = some (.slice (some ⟨g12, 0, none⟩) m12 m12)) ((uG.setCell ⟨gr, 0, none⟩ (.bool tF)).setCell ⟨gr, 1, none⟩ (.slice (some ⟨kF, 0, none⟩) nF nF))) := ⟨by go_simp, by go_simp, by go_simp, by go_simp, by go_simp, by go_simp⟩
    refine hK _ _ HJ2.out ?_
    clear hK HJ
    have HJ := HJ2
    clear HJ2
    refine wpJ_on 11 rfl fun KJ hK => ?_
    go_simp
    have HJ2 : Hid ((fun W' : World => W'.cell? ⟨gk, 0, none⟩ = some (.bool tF) ∧ W'.cell? ⟨gk, 1, none⟩ = some (.slice (some ⟨kF, 0, none⟩) nF nF) ∧ W'.cell? ⟨gx, 0, none⟩ = some (.bool s1) ∧ W'.cell? ⟨gx, 1, none⟩ = some (.slice (some ⟨g1, 0, none⟩) m1 m1) ∧ W'.cell? ⟨gp, 0, none⟩ = some (.bool false) ∧ W'.cell? ⟨gp, 1, none⟩ = some (.slice (some ⟨g12, 0, none⟩) m12 m12)) ((((uG.setCell ⟨gr, 0, none⟩ (.bool tF)).setCell ⟨gr, 1, none⟩ (.slice (some ⟨kF, 0, none⟩) nF nF)).setCell ⟨gu, 0, none⟩ (.bool tG)).setCell ⟨gu, 1, none⟩ (.slice (some ⟨kG, 0, none⟩) nG nG))) := ⟨by go_simp, by go_simp, by go_simp, by go_simp, by go_simp, by go_simp⟩
    refine hK _ _ HJ2.out ?_
    clear hK HJ
    have HJ := HJ2
    clear HJ2
    go_simp
    refine wpJ_done (by kernel_rfl) ?_ _
    clear HJ
    go_wp2_with fail
    rw [HD9.out.2.2]
    refine bodyPost_ret (v := .tuple #[.agg #[.bool tF, .slice (some ⟨kF, 0, none⟩) nF nF], .agg #[.bool tG, .slice (some ⟨kG, 0, none⟩) nG nG]]) (by rw [results_cell2 rfl]; go_simp) rfl ⟨tF, (some ⟨kF, 0, none⟩), nF, _, rfl, ?_, HKR.out.2.2, ⟨tG, kG, nG, rfl, Nat.le_trans HRG.out.2.2 HGG.out.1, ?_, by have := HGG.out; omega⟩, ?_⟩
    · have h2 := HKR.out
      exact (((RR.out.set _ _ _ (by omega)).set _ _ _ (by omega)).set _ _ _ (by omega)).set _ _ _ (by omega)
    · have h1 := HGG.out; have h2 := HRG.out
      exact (((YG.out.set _ _ _ (by omega)).set _ _ _ (by omega)).set _ _ _ (by omega)).set _ _ _ (by omega)
    · exact bSet (bSet (bSet (bSet (hbw) _ _ _ HGr.out) _ _ _ HGr.out) _ _ _ HGu.out) _ _ _ HGu.out
  · skip
    refine wpJ_two (i := 1) (k := 4) (by kernel_rfl) rfl rfl (by kernel_rfl) (by kernel_rfl) (fun KJ hK => ?_) (fun KJ hK => ?_)
    · go_simp
      refine (rshl04 s1 (Z1u.out.below hbu) (by have := HM1.out; omega) 1 (.inl (by decide))).mono ?_
      rintro e9 uA ⟨v, rfl, hv, hbA⟩
      rw [HX.out] at hv
      obtain ⟨tA, kA, nA, rfl, hgA, hzA, hlA⟩ := hv
      have hbu' := Below.on hbu hbA
      clear hbu
      have hbu := hbu'
      clear hbu'
      replace Xm : Hid _ := Xm.out.below hbA
      replace Xr : Hid _ := Xr.out.below hbA
      replace Xu : Hid _ := Xu.out.below hbA
      replace Xx : Hid _ := Xx.out.below hbA
      replace Xp : Hid _ := Xp.out.below hbA
      replace hbw := Below.on hbw hbA
      clear hbA
      have YA : Hid (ZR uA tA (some ⟨kA, 0, none⟩) nA (X)) := hzA
      have HLA : Hid (nA ≤ 40000) := hlA
      clear hzA hlA hgA
      clear HJ
      have HJ : Hid ((fun W' : World => W'.cell? ⟨gx, 0, none⟩ = some (.bool s1) ∧ W'.cell? ⟨gx, 1, none⟩ = some (.slice (some ⟨g1, 0, none⟩) m1 m1) ∧ W'.cell? ⟨gp, 0, none⟩ = some (.bool false) ∧ W'.cell? ⟨gp, 1, none⟩ = some (.slice (some ⟨g12, 0, none⟩) m12 m12)) uA) := ⟨Xx.out.c0, Xx.out.c1, Xp.out.c0, Xp.out.c1⟩
      refine hK _ _ HJ.out ?_
      clear hK
      refine wpJ_two (i := 3) (k := 4) (by kernel_rfl) rfl rfl (by kernel_rfl) (by kernel_rfl) (fun KJ hK => ?_) (fun KJ hK => ?_)
      · go_simp
        have HRC : Hid (gr < uA.heap.size ∧ gu < uA.heap.size) := ⟨Xr.out.lt, Xu.out.lt⟩
        refine (rneardivL tA YA.out (ZPu.out.below hbu) (Nat.le_trans (zr_len32 YA.out HE6.out HRB9.out.2.2.2.2.1) (by decide)) (by have := HM12.out; omega) (by have := HRB9.out.2.2.2.2.2; omega) ⟨YA.out.sg.trans (decide_eq_false (by have := HRB9.out.2.1; omega)), by rw [Int.natAbs_natCast]; exact HRB9.out.1⟩ HRB9.out.2.2.1).mono ?_
        rintro e9 uF ⟨v, rfl, hv, hbF⟩
        rw [HD9.out.1] at hv
        obtain ⟨tF, kF, nF, rfl, hgF, hzF, hlF⟩ := hv
        have HGB : Hid (uA.heap.size ≤ kF) := hgF
        have HKR : Hid (gr < kF ∧ gu < kF ∧ nF ≤ 20001) := ⟨Nat.lt_of_lt_of_le HRC.out.1 hgF, Nat.lt_of_lt_of_le HRC.out.2 hgF, hlF⟩
        have hbu' := Below.on hbu hbF
        clear hbu
        have hbu := hbu'
        clear hbu'
        replace Xm : Hid _ := Xm.out.below hbF
        replace Xr : Hid _ := Xr.out.below hbF
        replace Xu : Hid _ := Xu.out.below hbF
        replace Xx : Hid _ := Xx.out.below hbF
        replace Xp : Hid _ := Xp.out.below hbF
        replace YA : Hid _ := YA.out.below hbF
        replace hbw := Below.on hbw hbF
        clear hbF
        have RR : Hid (ZR uF tF (some ⟨kF, 0, none⟩) nF (kk)) := hzF
        have HLF : Hid (nF ≤ 20001) := hlF
        clear hzF hlF hgF
        clear YA
        refine hK _ _ ⟨Xx.out.c0, Xx.out.c1, Xp.out.c0, Xp.out.c1⟩ ?_
        clear hK
        refine wpJ_on 4 rfl fun KJ hK => ?_
        go_simp
        have HDmk : Hid (gm ≠ uF.heap.size) := Nat.ne_of_lt Xm.out.lt
        have HDrk : Hid (gr ≠ uF.heap.size) := Nat.ne_of_lt Xr.out.lt
        have HDuk : Hid (gu ≠ uF.heap.size) := Nat.ne_of_lt Xu.out.lt
        have HDxk : Hid (gx ≠ uF.heap.size) := Nat.ne_of_lt Xx.out.lt
        have HDpk : Hid (gp ≠ uF.heap.size) := Nat.ne_of_lt Xp.out.lt
        have HLS : Hid (∀ v0 v1, ZR (((uF.alloc (.cells #[.bool false, .slice none 0 0] 50)).setCell ⟨uF.heap.size, 0, none⟩ v0).setCell ⟨uF.heap.size, 1, none⟩ v1) tF (some ⟨kF, 0, none⟩) nF (kk)) := fun v0 v1 => RR.out.below (bSet (bSet (below1 _ _) _ _ _ (Nat.le_refl _)) _ _ _ (Nat.le_refl _))
        have HGU : Hid (Wp.heap.size ≤ uF.heap.size) := hbu.size
        have Xk0 : Hid (Box (uF.alloc (.cells #[.bool false, .slice none 0 0] 50)) uF.heap.size (.bool false) (.slice none 0 0)) := Box.new uF _ _ _
        have hbn : Below uF.heap.size uF (uF.alloc (.cells #[.bool false, .slice none 0 0] 50)) := below1 uF _
        generalize uF.alloc (.cells #[.bool false, .slice none 0 0] 50) = Wn at *
        have HGk : Hid (w.heap.size ≤ uF.heap.size) := hbw.size
        have hbu' := Below.on hbu hbn
        clear hbu
        have hbu := hbu'
        clear hbu'
        replace Xm : Hid _ := Xm.out.below hbn
        replace Xr : Hid _ := Xr.out.below hbn
        replace Xu : Hid _ := Xu.out.below hbn
        replace Xx : Hid _ := Xx.out.below hbn
        replace Xp : Hid _ := Xp.out.below hbn
        replace RR : Hid _ := RR.out.below hbn
        replace hbw := Below.on hbw hbn
        clear hbn
        generalize uF.heap.size = gk at *
        have Xk := Xk0
        clear Xk0
        refine hK _ _ ⟨Xx.out.c0, Xx.out.c1, Xp.out.c0, Xp.out.c1⟩ ?_
        clear hK
        obtain ⟨ck0, ck1, fk0, fk1⟩ := Xk.out
        have hnek := Xk.out.lt
        obtain ⟨cm0, cm1, fm0, fm1⟩ := Xm.out
        have hnem := Xm.out.lt
        obtain ⟨cr0, cr1, fr0, fr1⟩ := Xr.out
        have hner := Xr.out.lt
        obtain ⟨cu0, cu1, fu0, fu1⟩ := Xu.out
        have hneu := Xu.out.lt
        obtain ⟨cx0, cx1, fx0, fx1⟩ := Xx.out
        have hnex := Xx.out.lt
        obtain ⟨cp0, cp1, fp0, fp1⟩ := Xp.out
        have hnep := Xp.out.lt
        have qam : gm ≠ gk := HDmk.out
        have qbm : gk ≠ gm := fun h => qam h.symm
        have qar : gr ≠ gk := HDrk.out
        have qbr : gk ≠ gr := fun h => qar h.symm
        have qau : gu ≠ gk := HDuk.out
        have qbu : gk ≠ gu := fun h => qau h.symm
        have qax : gx ≠ gk := HDxk.out
        have qbx : gk ≠ gx := fun h => qax h.symm
        have qap : gp ≠ gk := HDpk.out
        have qbp : gk ≠ gp := fun h => qap h.symm
        refine wpJ_on 5 rfl fun KJ hK => ?_
        go_simp
        have HJ2 : Hid ((fun W' : World => W'.cell? ⟨gx, 0, none⟩ = some (.bool s1) ∧ W'.cell? ⟨gx, 1, none⟩ = some (.slice (some ⟨g1, 0, none⟩) m1 m1) ∧ W'.cell? ⟨gp, 0, none⟩ = some (.bool false) ∧ W'.cell? ⟨gp, 1, none⟩ = some (.slice (some ⟨g12, 0, none⟩) m12 m12)) ((Wn.setCell ⟨gk, 0, none⟩ (.bool tF)).setCell ⟨gk, 1, none⟩ (.slice (some ⟨kF, 0, none⟩) nF nF))) := ⟨by go_simp, by go_simp, by go_simp, by go_simp⟩
        have Xk2 : Hid (Box ((Wn.setCell ⟨gk, 0, none⟩ (.bool tF)).setCell ⟨gk, 1, none⟩ (.slice (some ⟨kF, 0, none⟩) nF nF)) gk (.bool tF) (.slice (some ⟨kF, 0, none⟩) nF nF)) := ⟨by go_simp, by go_simp, by go_simp, by go_simp⟩
        have Xm2 : Hid (Box ((Wn.setCell ⟨gk, 0, none⟩ (.bool tF)).setCell ⟨gk, 1, none⟩ (.slice (some ⟨kF, 0, none⟩) nF nF)) gm (.bool false) (.slice p m m)) := ⟨by go_simp, by go_simp, by go_simp, by go_simp⟩
        have Xr2 : Hid (Box ((Wn.setCell ⟨gk, 0, none⟩ (.bool tF)).setCell ⟨gk, 1, none⟩ (.slice (some ⟨kF, 0, none⟩) nF nF)) gr (.bool false) (.slice none 0 0)) := ⟨by go_simp, by go_simp, by go_simp, by go_simp⟩
        have Xu2 : Hid (Box ((Wn.setCell ⟨gk, 0, none⟩ (.bool tF)).setCell ⟨gk, 1, none⟩ (.slice (some ⟨kF, 0, none⟩) nF nF)) gu (.bool false) (.slice none 0 0)) := ⟨by go_simp, by go_simp, by go_simp, by go_simp⟩
        have Xx2 : Hid (Box ((Wn.setCell ⟨gk, 0, none⟩ (.bool tF)).setCell ⟨gk, 1, none⟩ (.slice (some ⟨kF, 0, none⟩) nF nF)) gx (.bool s1) (.slice (some ⟨g1, 0, none⟩) m1 m1)) := ⟨by go_simp, by go_simp, by go_simp, by go_simp⟩
        have Xp2 : Hid (Box ((Wn.setCell ⟨gk, 0, none⟩ (.bool tF)).setCell ⟨gk, 1, none⟩ (.slice (some ⟨kF, 0, none⟩) nF nF)) gp (.bool false) (.slice (some ⟨g12, 0, none⟩) m12 m12)) := ⟨by go_simp, by go_simp, by go_simp, by go_simp⟩
        have RR2 : Hid (ZR ((Wn.setCell ⟨gk, 0, none⟩ (.bool tF)).setCell ⟨gk, 1, none⟩ (.slice (some ⟨kF, 0, none⟩) nF nF)) tF (some ⟨kF, 0, none⟩) nF (kk)) := HLS.out _ _
        have hbu2 : Below Wp.heap.size Wp ((Wn.setCell ⟨gk, 0, none⟩ (.bool tF)).setCell ⟨gk, 1, none⟩ (.slice (some ⟨kF, 0, none⟩) nF nF)) := bSet (bSet hbu _ _ _ HGU.out) _ _ _ HGU.out
        have hbw2 : Below w.heap.size w ((Wn.setCell ⟨gk, 0, none⟩ (.bool tF)).setCell ⟨gk, 1, none⟩ (.slice (some ⟨kF, 0, none⟩) nF nF)) := bSet (bSet hbw _ _ _ HGk.out) _ _ _ HGk.out
        refine hK _ _ HJ2.out ?_
        clear hK HJ
        have HJ := HJ2
        clear HJ2
        refine wpJ_done (by kernel_rfl) ?_ _
        exact ⟨rfl, HRQ.out _ _ _ ⟨gk, tA, kA, nA, tF, kF, nF, by kernel_rfl, Xk2.out, Xm2.out, Xr2.out, Xu2.out, Xx2.out, Xp2.out, RR2.out, HGk.out, HDmk.out, HDrk.out, HDuk.out, HDxk.out, HDpk.out, HKR.out, hbu2, hbw2⟩⟩
      · go_simp
        have HDmk : Hid (gm ≠ uA.heap.size) := Nat.ne_of_lt Xm.out.lt
        have HDrk : Hid (gr ≠ uA.heap.size) := Nat.ne_of_lt Xr.out.lt
        have HDuk : Hid (gu ≠ uA.heap.size) := Nat.ne_of_lt Xu.out.lt
        have HDxk : Hid (gx ≠ uA.heap.size) := Nat.ne_of_lt Xx.out.lt
        have HDpk : Hid (gp ≠ uA.heap.size) := Nat.ne_of_lt Xp.out.lt
        have HGU : Hid (Wp.heap.size ≤ uA.heap.size) := hbu.size
        have Xk0 : Hid (Box (uA.alloc (.cells #[.bool false, .slice none 0 0] 50)) uA.heap.size (.bool false) (.slice none 0 0)) := Box.new uA _ _ _
        have hbn : Below uA.heap.size uA (uA.alloc (.cells #[.bool false, .slice none 0 0] 50)) := below1 uA _
        generalize uA.alloc (.cells #[.bool false, .slice none 0 0] 50) = Wn at *
        have HGk : Hid (w.heap.size ≤ uA.heap.size) := hbw.size
        have hbu' := Below.on hbu hbn
        clear hbu
        have hbu := hbu'
        clear hbu'
        replace Xm : Hid _ := Xm.out.below hbn
        replace Xr : Hid _ := Xr.out.below hbn
        replace Xu : Hid _ := Xu.out.below hbn
        replace Xx : Hid _ := Xx.out.below hbn
        replace Xp : Hid _ := Xp.out.below hbn
        replace YA : Hid _ := YA.out.below hbn
        replace hbw := Below.on hbw hbn
        clear hbn
        generalize uA.heap.size = gk at *
        have Xk := Xk0
        clear Xk0
        refine hK _ _ ⟨Xx.out.c0, Xx.out.c1, Xp.out.c0, Xp.out.c1⟩ ?_
        clear hK
        refine wpJ_on 3 rfl fun KJ hK => ?_
        go_simp
        have HLT : Hid (gk < Wn.heap.size) := Xk.out.lt
        have HRC : Hid (gr < Wn.heap.size ∧ gu < Wn.heap.size) := ⟨Xr.out.lt, Xu.out.lt⟩
        refine (rneardivL tA YA.out (ZPu.out.below hbu) (Nat.le_trans (zr_len32 YA.out HE6.out HRB9.out.2.2.2.2.1) (by decide)) (by have := HM12.out; omega) (by have := HRB9.out.2.2.2.2.2; omega) ⟨YA.out.sg.trans (decide_eq_false (by have := HRB9.out.2.1; omega)), by rw [Int.natAbs_natCast]; exact HRB9.out.1⟩ HRB9.out.2.2.1).mono ?_
        rintro e9 uF ⟨v, rfl, hv, hbF⟩
        rw [HD9.out.1] at hv
        obtain ⟨tF, kF, nF, rfl, hgF, hzF, hlF⟩ := hv
        have HGB : Hid (Wn.heap.size ≤ kF) := hgF
        have HKR : Hid (gr < kF ∧ gu < kF ∧ nF ≤ 20001) := ⟨Nat.lt_of_lt_of_le HRC.out.1 hgF, Nat.lt_of_lt_of_le HRC.out.2 hgF, hlF⟩
        have hbu' := Below.on hbu hbF
        clear hbu
        have hbu := hbu'
        clear hbu'
        replace Xm : Hid _ := Xm.out.below hbF
        replace Xr : Hid _ := Xr.out.below hbF
        replace Xu : Hid _ := Xu.out.below hbF
        replace Xx : Hid _ := Xx.out.below hbF
        replace Xp : Hid _ := Xp.out.below hbF
        replace Xk : Hid _ := Xk.out.below hbF
        replace YA : Hid _ := YA.out.below hbF
        replace hbw := Below.on hbw hbF
        clear hbF
        have RR : Hid (ZR uF tF (some ⟨kF, 0, none⟩) nF (kk)) := hzF
        have HLF : Hid (nF ≤ 20001) := hlF
        clear hzF hlF hgF
        clear YA
        have HNE : Hid (kF ≠ gk) := by have h1 := HLT.out; have h2 := HGB.out; show _ ≠ _; omega
        refine hK _ _ ⟨Xx.out.c0, Xx.out.c1, Xp.out.c0, Xp.out.c1⟩ ?_
        clear hK
        obtain ⟨ck0, ck1, fk0, fk1⟩ := Xk.out
        have hnek := Xk.out.lt
        obtain ⟨cm0, cm1, fm0, fm1⟩ := Xm.out
        have hnem := Xm.out.lt
        obtain ⟨cr0, cr1, fr0, fr1⟩ := Xr.out
        have hner := Xr.out.lt
        obtain ⟨cu0, cu1, fu0, fu1⟩ := Xu.out
        have hneu := Xu.out.lt
        obtain ⟨cx0, cx1, fx0, fx1⟩ := Xx.out
        have hnex := Xx.out.lt
        obtain ⟨cp0, cp1, fp0, fp1⟩ := Xp.out
        have hnep := Xp.out.lt
        have qam : gm ≠ gk := HDmk.out
        have qbm : gk ≠ gm := fun h => qam h.symm
        have qar : gr ≠ gk := HDrk.out
        have qbr : gk ≠ gr := fun h => qar h.symm
        have qau : gu ≠ gk := HDuk.out
        have qbu : gk ≠ gu := fun h => qau h.symm
        have qax : gx ≠ gk := HDxk.out
        have qbx : gk ≠ gx := fun h => qax h.symm
        have qap : gp ≠ gk := HDpk.out
        have qbp : gk ≠ gp := fun h => qap h.symm
        refine wpJ_on 5 rfl fun KJ hK => ?_
        go_simp
        have HJ2 : Hid ((fun W' : World => W'.cell? ⟨gx, 0, none⟩ = some (.bool s1) ∧ W'.cell? ⟨gx, 1, none⟩ = some (.slice (some ⟨g1, 0, none⟩) m1 m1) ∧ W'.cell? ⟨gp, 0, none⟩ = some (.bool false) ∧ W'.cell? ⟨gp, 1, none⟩ = some (.slice (some ⟨g12, 0, none⟩) m12 m12)) ((uF.setCell ⟨gk, 0, none⟩ (.bool tF)).setCell ⟨gk, 1, none⟩ (.slice (some ⟨kF, 0, none⟩) nF nF))) := ⟨by go_simp, by go_simp, by go_simp, by go_simp⟩
        have Xk2 : Hid (Box ((uF.setCell ⟨gk, 0, none⟩ (.bool tF)).setCell ⟨gk, 1, none⟩ (.slice (some ⟨kF, 0, none⟩) nF nF)) gk (.bool tF) (.slice (some ⟨kF, 0, none⟩) nF nF)) := ⟨by go_simp, by go_simp, by go_simp, by go_simp⟩
        have Xm2 : Hid (Box ((uF.setCell ⟨gk, 0, none⟩ (.bool tF)).setCell ⟨gk, 1, none⟩ (.slice (some ⟨kF, 0, none⟩) nF nF)) gm (.bool false) (.slice p m m)) := ⟨by go_simp, by go_simp, by go_simp, by go_simp⟩
        have Xr2 : Hid (Box ((uF.setCell ⟨gk, 0, none⟩ (.bool tF)).setCell ⟨gk, 1, none⟩ (.slice (some ⟨kF, 0, none⟩) nF nF)) gr (.bool false) (.slice none 0 0)) := ⟨by go_simp, by go_simp, by go_simp, by go_simp⟩
        have Xu2 : Hid (Box ((uF.setCell ⟨gk, 0, none⟩ (.bool tF)).setCell ⟨gk, 1, none⟩ (.slice (some ⟨kF, 0, none⟩) nF nF)) gu (.bool false) (.slice none 0 0)) := ⟨by go_simp, by go_simp, by go_simp, by go_simp⟩
        have Xx2 : Hid (Box ((uF.setCell ⟨gk, 0, none⟩ (.bool tF)).setCell ⟨gk, 1, none⟩ (.slice (some ⟨kF, 0, none⟩) nF nF)) gx (.bool s1) (.slice (some ⟨g1, 0, none⟩) m1 m1)) := ⟨by go_simp, by go_simp, by go_simp, by go_simp⟩
        have Xp2 : Hid (Box ((uF.setCell ⟨gk, 0, none⟩ (.bool tF)).setCell ⟨gk, 1, none⟩ (.slice (some ⟨kF, 0, none⟩) nF nF)) gp (.bool false) (.slice (some ⟨g12, 0, none⟩) m12 m12)) := ⟨by go_simp, by go_simp, by go_simp, by go_simp⟩
        have RR2 : Hid (ZR ((uF.setCell ⟨gk, 0, none⟩ (.bool tF)).setCell ⟨gk, 1, none⟩ (.slice (some ⟨kF, 0, none⟩) nF nF)) tF (some ⟨kF, 0, none⟩) nF (kk)) := (RR.out.set _ _ _ HNE.out).set _ _ _ HNE.out
        have hbu2 : Below Wp.heap.size Wp ((uF.setCell ⟨gk, 0, none⟩ (.bool tF)).setCell ⟨gk, 1, none⟩ (.slice (some ⟨kF, 0, none⟩) nF nF)) := bSet (bSet hbu _ _ _ HGU.out) _ _ _ HGU.out
        have hbw2 : Below w.heap.size w ((uF.setCell ⟨gk, 0, none⟩ (.bool tF)).setCell ⟨gk, 1, none⟩ (.slice (some ⟨kF, 0, none⟩) nF nF)) := bSet (bSet hbw _ _ _ HGk.out) _ _ _ HGk.out
        refine hK _ _ HJ2.out ?_
        clear hK HJ
        have HJ := HJ2
        clear HJ2
        refine wpJ_done (by kernel_rfl) ?_ _
        exact ⟨rfl, HRQ.out _ _ _ ⟨gk, tA, kA, nA, tF, kF, nF, by kernel_rfl, Xk2.out, Xm2.out, Xr2.out, Xu2.out, Xx2.out, Xp2.out, RR2.out, HGk.out, HDmk.out, HDrk.out, HDuk.out, HDxk.out, HDpk.out, HKR.out, hbu2, hbw2⟩⟩
    · go_simp
      have HDmk : Hid (gm ≠ Wr.heap.size) := Nat.ne_of_lt Xm.out.lt
      have HDrk : Hid (gr ≠ Wr.heap.size) := Nat.ne_of_lt Xr.out.lt
      have HDuk : Hid (gu ≠ Wr.heap.size) := Nat.ne_of_lt Xu.out.lt
      have HDxk : Hid (gx ≠ Wr.heap.size) := Nat.ne_of_lt Xx.out.lt
      have HDpk : Hid (gp ≠ Wr.heap.size) := Nat.ne_of_lt Xp.out.lt
      have HGU : Hid (Wp.heap.size ≤ Wr.heap.size) := hbu.size
      have Xk0 : Hid (Box (Wr.alloc (.cells #[.bool false, .slice none 0 0] 50)) Wr.heap.size (.bool false) (.slice none 0 0)) := Box.new Wr _ _ _
      have hbn : Below Wr.heap.size Wr (Wr.alloc (.cells #[.bool false, .slice none 0 0] 50)) := below1 Wr _
      generalize Wr.alloc (.cells #[.bool false, .slice none 0 0] 50) = Wn at *
      have HGk : Hid (w.heap.size ≤ Wr.heap.size) := hbw.size
      have hbu' := Below.on hbu hbn
      clear hbu
      have hbu := hbu'
      clear hbu'
      replace Xm : Hid _ := Xm.out.below hbn
      replace Xr : Hid _ := Xr.out.below hbn
      replace Xu : Hid _ := Xu.out.below hbn
      replace Xx : Hid _ := Xx.out.below hbn
      replace Xp : Hid _ := Xp.out.below hbn
      replace hbw := Below.on hbw hbn
      clear hbn
      generalize Wr.heap.size = gk at *
      have Xk := Xk0
      clear Xk0
      refine hK _ _ ⟨Xx.out.c0, Xx.out.c1, Xp.out.c0, Xp.out.c1⟩ ?_
      clear hK
      refine wpJ_on 1 rfl fun KJ hK => ?_
      go_simp
      refine (rshl04 s1 (Z1u.out.below hbu) (by have := HM1.out; omega) 1 (.inl (by decide))).mono ?_
      rintro e9 uA ⟨v, rfl, hv, hbA⟩
      rw [HX.out] at hv
      obtain ⟨tA, kA, nA, rfl, hgA, hzA, hlA⟩ := hv
      have hbu' := Below.on hbu hbA
      clear hbu
      have hbu := hbu'
      clear hbu'
      replace Xm : Hid _ := Xm.out.below hbA
      replace Xr : Hid _ := Xr.out.below hbA
      replace Xu : Hid _ := Xu.out.below hbA
      replace Xx : Hid _ := Xx.out.below hbA
      replace Xp : Hid _ := Xp.out.below hbA
      replace Xk : Hid _ := Xk.out.below hbA
      replace hbw := Below.on hbw hbA
      clear hbA
      have YA : Hid (ZR uA tA (some ⟨kA, 0, none⟩) nA (X)) := hzA
      have HLA : Hid (nA ≤ 40000) := hlA
      clear hzA hlA hgA
      refine hK _ _ ⟨Xx.out.c0, Xx.out.c1, Xp.out.c0, Xp.out.c1⟩ ?_
      clear hK
      refine wpJ_on 3 rfl fun KJ hK => ?_
      go_simp
      have HLT : Hid (gk < uA.heap.size) := Xk.out.lt
      have HRC : Hid (gr < uA.heap.size ∧ gu < uA.heap.size) := ⟨Xr.out.lt, Xu.out.lt⟩
      refine (rneardivL tA YA.out (ZPu.out.below hbu) (Nat.le_trans (zr_len32 YA.out HE6.out HRB9.out.2.2.2.2.1) (by decide)) (by have := HM12.out; omega) (by have := HRB9.out.2.2.2.2.2; omega) ⟨YA.out.sg.trans (decide_eq_false (by have := HRB9.out.2.1; omega)), by rw [Int.natAbs_natCast]; exact HRB9.out.1⟩ HRB9.out.2.2.1).mono ?_
      rintro e9 uF ⟨v, rfl, hv, hbF⟩
      rw [HD9.out.1] at hv
      obtain ⟨tF, kF, nF, rfl, hgF, hzF, hlF⟩ := hv
      have HGB : Hid (uA.heap.size ≤ kF) := hgF
      have HKR : Hid (gr < kF ∧ gu < kF ∧ nF ≤ 20001) := ⟨Nat.lt_of_lt_of_le HRC.out.1 hgF, Nat.lt_of_lt_of_le HRC.out.2 hgF, hlF⟩
      have hbu' := Below.on hbu hbF
      clear hbu
      have hbu := hbu'
      clear hbu'
      replace Xm : Hid _ := Xm.out.below hbF
      replace Xr : Hid _ := Xr.out.below hbF
      replace Xu : Hid _ := Xu.out.below hbF
      replace Xx : Hid _ := Xx.out.below hbF
      replace Xp : Hid _ := Xp.out.below hbF
      replace Xk : Hid _ := Xk.out.below hbF
      replace YA : Hid _ := YA.out.below hbF
      replace hbw := Below.on hbw hbF
      clear hbF
      have RR : Hid (ZR uF tF (some ⟨kF, 0, none⟩) nF (kk)) := hzF
      have HLF : Hid (nF ≤ 20001) := hlF
      clear hzF hlF hgF
      clear YA
      have HNE : Hid (kF ≠ gk) := by have h1 := HLT.out; have h2 := HGB.out; show _ ≠ _; omega
      refine hK _ _ ⟨Xx.out.c0, Xx.out.c1, Xp.out.c0, Xp.out.c1⟩ ?_
      clear hK
      obtain ⟨ck0, ck1, fk0, fk1⟩ := Xk.out
      have hnek := Xk.out.lt
      obtain ⟨cm0, cm1, fm0, fm1⟩ := Xm.out
      have hnem := Xm.out.lt
      obtain ⟨cr0, cr1, fr0, fr1⟩ := Xr.out
      have hner := Xr.out.lt
      obtain ⟨cu0, cu1, fu0, fu1⟩ := Xu.out
      have hneu := Xu.out.lt
      obtain ⟨cx0, cx1, fx0, fx1⟩ := Xx.out
      have hnex := Xx.out.lt
      obtain ⟨cp0, cp1, fp0, fp1⟩ := Xp.out
      have hnep := Xp.out.lt
      have qam : gm ≠ gk := HDmk.out
      have qbm : gk ≠ gm := fun h => qam h.symm
      have qar : gr ≠ gk := HDrk.out
      have qbr : gk ≠ gr := fun h => qar h.symm
      have qau : gu ≠ gk := HDuk.out
      have qbu : gk ≠ gu := fun h => qau h.symm
      have qax : gx ≠ gk := HDxk.out
      have qbx : gk ≠ gx := fun h => qax h.symm
      have qap : gp ≠ gk := HDpk.out
      have qbp : gk ≠ gp := fun h => qap h.symm
      refine wpJ_on 5 rfl fun KJ hK => ?_
      go_simp
      have HJ2 : Hid ((fun W' : World => W'.cell? ⟨gx, 0, none⟩ = some (.bool s1) ∧ W'.cell? ⟨gx, 1, none⟩ = some (.slice (some ⟨g1, 0, none⟩) m1 m1) ∧ W'.cell? ⟨gp, 0, none⟩ = some (.bool false) ∧ W'.cell? ⟨gp, 1, none⟩ = some (.slice (some ⟨g12, 0, none⟩) m12 m12)) ((uF.setCell ⟨gk, 0, none⟩ (.bool tF)).setCell ⟨gk, 1, none⟩ (.slice (some ⟨kF, 0, none⟩) nF nF))) := ⟨by go_simp, by go_simp, by go_simp, by go_simp⟩
      have Xk2 : Hid (Box ((uF.setCell ⟨gk, 0, none⟩ (.bool tF)).setCell ⟨gk, 1, none⟩ (.slice (some ⟨kF, 0, none⟩) nF nF)) gk (.bool tF) (.slice (some ⟨kF, 0, none⟩) nF nF)) := ⟨by go_simp, by go_simp, by go_simp, by go_simp⟩
      have Xm2 : Hid (Box ((uF.setCell ⟨gk, 0, none⟩ (.bool tF)).setCell ⟨gk, 1, none⟩ (.slice (some ⟨kF, 0, none⟩) nF nF)) gm (.bool false) (.slice p m m)) := ⟨by go_simp, by go_simp, by go_simp, by go_simp⟩
      have Xr2 : Hid (Box ((uF.setCell ⟨gk, 0, none⟩ (.bool tF)).setCell ⟨gk, 1, none⟩ (.slice (some ⟨kF, 0, none⟩) nF nF)) gr (.bool false) (.slice none 0 0)) := ⟨by go_simp, by go_simp, by go_simp, by go_simp⟩
      have Xu2 : Hid (Box ((uF.setCell ⟨gk, 0, none⟩ (.bool tF)).setCell ⟨gk, 1, none⟩ (.slice (some ⟨kF, 0, none⟩) nF nF)) gu (.bool false) (.slice none 0 0)) := ⟨by go_simp, by go_simp, by go_simp, by go_simp⟩
      have Xx2 : Hid (Box ((uF.setCell ⟨gk, 0, none⟩ (.bool tF)).setCell ⟨gk, 1, none⟩ (.slice (some ⟨kF, 0, none⟩) nF nF)) gx (.bool s1) (.slice (some ⟨g1, 0, none⟩) m1 m1)) := ⟨by go_simp, by go_simp, by go_simp, by go_simp⟩
      have Xp2 : Hid (Box ((uF.setCell ⟨gk, 0, none⟩ (.bool tF)).setCell ⟨gk, 1, none⟩ (.slice (some ⟨kF, 0, none⟩) nF nF)) gp (.bool false) (.slice (some ⟨g12, 0, none⟩) m12 m12)) := ⟨by go_simp, by go_simp, by go_simp, by go_simp⟩
      have RR2 : Hid (ZR ((uF.setCell ⟨gk, 0, none⟩ (.bool tF)).setCell ⟨gk, 1, none⟩ (.slice (some ⟨kF, 0, none⟩) nF nF)) tF (some ⟨kF, 0, none⟩) nF (kk)) := (RR.out.set _ _ _ HNE.out).set _ _ _ HNE.out
      have hbu2 : Below Wp.heap.size Wp ((uF.setCell ⟨gk, 0, none⟩ (.bool tF)).setCell ⟨gk, 1, none⟩ (.slice (some ⟨kF, 0, none⟩) nF nF)) := bSet (bSet hbu _ _ _ HGU.out) _ _ _ HGU.out
      have hbw2 : Below w.heap.size w ((uF.setCell ⟨gk, 0, none⟩ (.bool tF)).setCell ⟨gk, 1, none⟩ (.slice (some ⟨kF, 0, none⟩) nF nF)) := bSet (bSet hbw _ _ _ HGk.out) _ _ _ HGk.out
      refine hK _ _ HJ2.out ?_
      clear hK HJ
      have HJ := HJ2
      clear HJ2
      refine wpJ_done (by kernel_rfl) ?_ _
      exact ⟨rfl, HRQ.out _ _ _ ⟨gk, tA, kA, nA, tF, kF, nF, by kernel_rfl, Xk2.out, Xm2.out, Xr2.out, Xu2.out, Xx2.out, Xp2.out, RR2.out, HGk.out, HDmk.out, HDrk.out, HDuk.out, HDxk.out, HDpk.out, HKR.out, hbu2, hbw2⟩⟩
def GotN (B : Nat) (w' : World) (v : Value) (lo hi : Int) (q : Int) (L : Nat) : Prop := ∃ s1 g1 m1 s2 g2 m2, v = .agg #[.bool s1, .slice (some ⟨g1, 0, none⟩) m1 m1, .bool s2, .slice (some ⟨g2, 0, none⟩) m2 m2, .int .i64 q] ∧ B ≤ g1 ∧ B ≤ g2 ∧ ZR w' s1 (some ⟨g1, 0, none⟩) m1 lo ∧ ZR w' s2 (some ⟨g2, 0, none⟩) m2 hi ∧ m1 ≤ L ∧ m2 ≤ L
theorem around_ok {w : World} {p : Option Addr} {m : Nat} {x : Int} (s : Bool) (h : ZR w s p m x) (hm : m ≤ 20000) (q : Nat) :
    Calls Tryd.prog 40 #[.agg #[.bool s, .slice p m m], .int .i64 8, .int .i64 q] w fun en w' => ∃ v, en = .returned v ∧ GotN w.heap.size w' v (x - 8) (x + 8) (q : Int) 20010 ∧ Below w.heap.size w w' := by
  have HA : Hid (ZR w s p m x ∧ m ≤ 20000) := ⟨h, hm⟩
  clear h hm
  go_enter Tryd.func40, Tryd.ntmps40
  go_wp2_with fail
  obtain ⟨W0, hW0⟩ : ∃ W0, W0 = ((w.alloc (.cells #[.bool s, .slice p m m] 50)).alloc (.cells #[.bool false, .slice none 0 0, .bool false, .slice none 0 0, .int .i64 0] 52)) := ⟨_, rfl⟩
  have Xv : Hid (Box W0 (w.heap.size) (.bool s) (.slice p m m)) := by rw [hW0]; exact ⟨by go_simp, by go_simp, by go_simp, by go_simp⟩
  have Xr : Hid (B5q W0 (w.heap.size + 1) (.bool false) (.slice none 0 0) (.bool false) (.slice none 0 0) (.int .i64 0)) := by rw [hW0]; exact ⟨by go_simp, by go_simp, by go_simp, by go_simp, by go_simp, by go_simp, by go_simp, by go_simp, by go_simp, by go_simp⟩
  have hb0 : Below w.heap.size w W0 := by rw [hW0]; exact below2 w _ _
  rw [← hW0]
  clear hW0
  have hbw : Below w.heap.size w w := Below.refl _ _
  obtain ⟨gr, hgr⟩ : ∃ g, g = w.heap.size + 1 := ⟨_, rfl⟩
  have HGr : Hid (w.heap.size ≤ gr) := by rw [hgr]; show _ ≤ _; omega
  rw [← hgr] at Xr
  try rw [← hgr]
  obtain ⟨gv, hgv⟩ : ∃ g, g = w.heap.size := ⟨_, rfl⟩
  have HGv : Hid (w.heap.size ≤ gv) := by rw [hgv]; show _ ≤ _; omega
  rw [← hgv] at Xv
  try rw [← hgv]
  have HGD : Hid (gv ≠ gr ∧ gr ≠ gv) := by rw [hgv, hgr]; exact ⟨by omega, by omega⟩
  clear hgv hgr
  replace hbw := Below.on hbw hb0
  clear hb0
  obtain ⟨V1, hV1⟩ : ∃ W1, W1 = W0.drew := ⟨_, rfl⟩
  have hbd : Below W0.heap.size W0 V1 := by rw [hV1]; exact bDrew1 (Below.refl _ _)
  replace Xv : Hid _ := Xv.out.below hbd
  replace Xr : Hid _ := Xr.out.below hbd
  replace hbw := Below.on hbw hbd
  clear hbd
  have HJ : Hid ((fun W' : World => W'.cell? ⟨gv, 0, none⟩ = some (.bool s) ∧ W'.cell? ⟨gv, 1, none⟩ = some (.slice p m m)) V1) := ⟨Xv.out.c0, Xv.out.c1⟩
  refine wp_region_J (fun W' => W'.cell? ⟨gv, 0, none⟩ = some (.bool s) ∧ W'.cell? ⟨gv, 1, none⟩ = some (.slice p m m)) (by kernel_rfl) ?_
  rw [← hV1]
  clear hV1
  have HR0 : Hid (gr < V1.heap.size ∧ w.heap.size ≤ V1.heap.size) := ⟨Xr.out.lt, hbw.size⟩
  refine wpJ_tq 0 rfl HJ.out ?_
  refine wpJ_tq 1 rfl HJ.out ?_
  refine wpJ_tq 4 rfl HJ.out ?_
  refine wpJ_tq 5 rfl HJ.out ?_
  refine wpJ_tq 8 rfl HJ.out ?_
  refine wpJ_on 2 rfl fun KJ hK => ?_
  go_simp
  refine (rof04 (8) _ (by decide) (by decide)).mono ?_
  rintro e9 v1 ⟨s1, g1, m1, rfl, hz1, hl1, hb1⟩
  have HB1v : Hid (V1.heap.size ≤ v1.heap.size) := hb1.size
  replace Xv : Hid _ := Xv.out.below hb1
  replace Xr : Hid _ := Xr.out.below hb1
  replace hbw := Below.on hbw hb1
  clear hb1
  have Z1 : Hid (ZR v1 s1 (some ⟨g1, 0, none⟩) m1 (8)) := hz1
  have HL1 : Hid (m1 ≤ 3) := hl1
  clear hz1 hl1
  refine hK _ _ ⟨Xv.out.c0, Xv.out.c1⟩ ?_
  clear hK
  refine wpJ_on 3 rfl fun KJ hK => ?_
  go_simp
  refine (rsub04 s s1 (HA.out.1.below hbw) Z1.out (by have := HA.out; omega) (by have := HL1.out; omega)).mono ?_
  rintro e v2 ⟨v, rfl, hv, hb2⟩
  obtain ⟨s2, g2, m2, rfl, hg2, hz2, hl2⟩ := hv
  try clear hv
  have HN2 : Hid (v1.heap.size ≤ g2) := hg2
  have HB2 : Hid (v1.heap.size ≤ v2.heap.size) := hb2.size
  replace Xv : Hid _ := Xv.out.below hb2
  replace Xr : Hid _ := Xr.out.below hb2
  replace Z1 : Hid _ := Z1.out.below hb2
  replace hbw := Below.on hbw hb2
  clear hb2
  have Z2 : Hid (ZR v2 s2 (some ⟨g2, 0, none⟩) m2 (x - 8)) := hz2
  have HL2 : Hid (m2 ≤ max m m1 + 1) := hl2
  clear hz2 hl2 hg2
  refine hK _ _ ⟨Xv.out.c0, Xv.out.c1⟩ ?_
  clear hK
  refine wpJ_on 6 rfl fun KJ hK => ?_
  go_simp
  refine (rof04 (8) _ (by decide) (by decide)).mono ?_
  rintro e9 v3 ⟨s3, g3, m3, rfl, hz3, hl3, hb3⟩
  have HB3v : Hid (v2.heap.size ≤ v3.heap.size) := hb3.size
  replace Xv : Hid _ := Xv.out.below hb3
  replace Xr : Hid _ := Xr.out.below hb3
  replace Z1 : Hid _ := Z1.out.below hb3
  replace Z2 : Hid _ := Z2.out.below hb3
  replace hbw := Below.on hbw hb3
  clear hb3
  have Z3 : Hid (ZR v3 s3 (some ⟨g3, 0, none⟩) m3 (8)) := hz3
  have HL3 : Hid (m3 ≤ 3) := hl3
  clear hz3 hl3
  refine hK _ _ ⟨Xv.out.c0, Xv.out.c1⟩ ?_
  clear hK
  refine wpJ_on 7 rfl fun KJ hK => ?_
  go_simp
  refine (radd04 s s3 (HA.out.1.below hbw) Z3.out (by have := HA.out; omega) (by have := HL3.out; omega)).mono ?_
  rintro e v4 ⟨v, rfl, hv, hb4⟩
  obtain ⟨s4, g4, m4, rfl, hg4, hz4, hl4⟩ := hv
  try clear hv
  have HN4 : Hid (v3.heap.size ≤ g4) := hg4
  have HB4 : Hid (v3.heap.size ≤ v4.heap.size) := hb4.size
  replace Xv : Hid _ := Xv.out.below hb4
  replace Xr : Hid _ := Xr.out.below hb4
  replace Z1 : Hid _ := Z1.out.below hb4
  replace Z2 : Hid _ := Z2.out.below hb4
  replace Z3 : Hid _ := Z3.out.below hb4
  replace hbw := Below.on hbw hb4
  clear hb4
  have Z4 : Hid (ZR v4 s4 (some ⟨g4, 0, none⟩) m4 (x + 8)) := hz4
  have HL4 : Hid (m4 ≤ max m m3 + 1) := hl4
  clear hz4 hl4 hg4
  clear HJ
  have HJ : Hid ((fun W' : World => W'.cell? ⟨gv, 0, none⟩ = some (.bool s) ∧ W'.cell? ⟨gv, 1, none⟩ = some (.slice p m m)) v4) := ⟨Xv.out.c0, Xv.out.c1⟩
  refine hK _ _ HJ.out ?_
  clear hK
  refine wpJ_tq 9 rfl HJ.out ?_
  have HNN : Hid (gr < g2 ∧ gr < g4 ∧ w.heap.size ≤ g2 ∧ w.heap.size ≤ g4) := by have h0 := HR0.out; have h2 := HN2.out; have h4 := HN4.out; have h1 := HB1v.out; have h3 := HB3v.out; have h5 := HB2.out; exact ⟨by omega, by omega, by omega, by omega⟩
  obtain ⟨cr0, cr1, cr2, cr3, cr4, fr0, fr1, fr2, fr3, fr4⟩ := Xr.out
  have hner : gr < v4.heap.size := World.block_lt_of_cell? v4 _ cr0
  obtain ⟨cv0, cv1, fv0, fv1⟩ := Xv.out
  have hnev := Xv.out.lt
  obtain ⟨hgd0, hgd1⟩ := HGD.out
  refine wpJ_on 10 rfl fun KJ hK => ?_
  go_simp
  have HJ2 : Hid ((fun W' : World => W'.cell? ⟨gv, 0, none⟩ = some (.bool s) ∧ W'.cell? ⟨gv, 1, none⟩ = some (.slice p m m)) (((((v4.setCell ⟨gr, 0, none⟩ (.bool s2)).setCell ⟨gr, 1, none⟩ (.slice (some ⟨g2, 0, none⟩) m2 m2)).setCell ⟨gr, 2, none⟩ (.bool s4)).setCell ⟨gr, 3, none⟩ (.slice (some ⟨g4, 0, none⟩) m4 m4)).setCell ⟨gr, 4, none⟩ (.int .i64 q))) := ⟨by go_simp, by go_simp⟩
  refine hK _ _ HJ2.out ?_
  clear hK HJ
  have HJ := HJ2
  clear HJ2
  refine wpJ_done (by kernel_rfl) ?_ _
  clear HJ
  go_wp2_with fail
  refine bodyPost_ret (v := .agg #[.bool s2, .slice (some ⟨g2, 0, none⟩) m2 m2, .bool s4, .slice (some ⟨g4, 0, none⟩) m4 m4, .int .i64 q]) (by rw [results_cell1 rfl]; go_simp) rfl ⟨_, rfl, ⟨s2, g2, m2, s4, g4, m4, rfl, HNN.out.2.2.1, HNN.out.2.2.2, ?_, ?_, by have := HL2.out; have := HL1.out; have := HA.out; omega, by have := HL4.out; have := HL3.out; have := HA.out; omega⟩, ?_⟩
  · have h := HNN.out
    exact ((((Z2.out.set _ _ _ (by omega)).set _ _ _ (by omega)).set _ _ _ (by omega)).set _ _ _ (by omega)).set _ _ _ (by omega)
  · have h := HNN.out
    exact ((((Z4.out.set _ _ _ (by omega)).set _ _ _ (by omega)).set _ _ _ (by omega)).set _ _ _ (by omega)).set _ _ _ (by omega)
  · exact bSet (bSet (bSet (bSet (bSet (hbw) _ _ _ HGr.out) _ _ _ HGr.out) _ _ _ HGr.out) _ _ _ HGr.out) _ _ _ HGr.out
theorem sgn_pos9 {x : Int} (h : 0 < x) : sgnI x = 1 := by unfold sgnI; rw [if_neg (by omega), if_neg (by omega)]
theorem thin_t {w : World} {p1 p2 : Option Addr} {m1 m2 : Nat} {lo hi q : Int} (s1 s2 : Bool) (h1 : ZR w s1 p1 m1 lo) (h2 : ZR w s2 p2 m2 hi) (k1 : m1 ≤ 60) (k2 : m2 ≤ 60) (hlo : 0 < lo) (hhi : 0 < hi) {T : Nat} (hT : T = 300) (hle : (hi - lo) * 2 ^ T ≤ lo) :
    Calls Tryd.prog 41 #[.agg #[.bool s1, .slice p1 m1 m1, .bool s2, .slice p2 m2 m2, .int .i64 q], .int .i64 300] w fun en w' => en = .returned (.bool true) ∧ Below w.heap.size w w' := by
  obtain rfl : s1 = false := h1.sg.trans (decide_eq_false (by omega))
  have HA : Hid (ZR w false p1 m1 lo ∧ ZR w s2 p2 m2 hi ∧ m1 ≤ 60 ∧ m2 ≤ 60 ∧ 0 < lo ∧ 0 < hi ∧ (hi - lo) * 2 ^ T ≤ lo ∧ T = 300) := ⟨h1, h2, k1, k2, hlo, hhi, hle, hT⟩
  have hT3 : (300 : Int) = (T : Int) := by omega
  rw [hT3]
  clear h1 h2 k1 k2 hlo hhi hle hT hT3
  go_enter Tryd.func41, Tryd.ntmps41
  go_wp2_with fail
  obtain ⟨W0, hW0⟩ : ∃ W0, W0 = (w.alloc (.cells #[.bool false, .slice p1 m1 m1, .bool s2, .slice p2 m2 m2, .int .i64 q] 52)) := ⟨_, rfl⟩
  have Xs : Hid (B5q W0 (w.heap.size) (.bool false) (.slice p1 m1 m1) (.bool s2) (.slice p2 m2 m2) (.int .i64 q)) := by rw [hW0]; exact ⟨by go_simp, by go_simp, by go_simp, by go_simp, by go_simp, by go_simp, by go_simp, by go_simp, by go_simp, by go_simp⟩
  have hb0 : Below w.heap.size w W0 := by rw [hW0]; exact below1 w _
  rw [← hW0]
  clear hW0
  have hbw : Below w.heap.size w w := Below.refl _ _
  obtain ⟨gs, hgs⟩ : ∃ g, g = w.heap.size := ⟨_, rfl⟩
  have HGs : Hid (w.heap.size ≤ gs) := by rw [hgs]; show _ ≤ _; omega
  rw [← hgs] at Xs
  try rw [← hgs]
  clear hgs
  replace hbw := Below.on hbw hb0
  clear hb0
  obtain ⟨V1, hV1⟩ : ∃ W1, W1 = W0.drew := ⟨_, rfl⟩
  have hbd : Below W0.heap.size W0 V1 := by rw [hV1]; exact bDrew1 (Below.refl _ _)
  replace Xs : Hid _ := Xs.out.below hbd
  replace hbw := Below.on hbw hbd
  clear hbd
  have HJ : Hid ((fun W' : World => W'.cell? ⟨gs, 0, none⟩ = some (.bool false) ∧ W'.cell? ⟨gs, 1, none⟩ = some (.slice p1 m1 m1) ∧ W'.cell? ⟨gs, 2, none⟩ = some (.bool s2) ∧ W'.cell? ⟨gs, 3, none⟩ = some (.slice p2 m2 m2)) V1) := ⟨Xs.out.c0, Xs.out.c1, Xs.out.c2, Xs.out.c3⟩
  refine wp_region_J (fun W' => W'.cell? ⟨gs, 0, none⟩ = some (.bool false) ∧ W'.cell? ⟨gs, 1, none⟩ = some (.slice p1 m1 m1) ∧ W'.cell? ⟨gs, 2, none⟩ = some (.bool s2) ∧ W'.cell? ⟨gs, 3, none⟩ = some (.slice p2 m2 m2)) (by kernel_rfl) ?_
  rw [← hV1]
  clear hV1
  refine wpJ_tq 0 rfl HJ.out ?_
  refine wpJ_tq 1 rfl HJ.out ?_
  refine wpJ_tq 3 rfl HJ.out ?_
  refine wpJ_tq 4 rfl HJ.out ?_
  refine wpJ_on 2 rfl fun KJ hK => ?_
  go_simp
  refine (rsign04 false (HA.out.1.below hbw)).mono ?_
  rintro e v1 ⟨rfl, hb1⟩
  rw [sgn_pos9 HA.out.2.2.2.2.1]
  replace Xs : Hid _ := Xs.out.below hb1
  replace hbw := Below.on hbw hb1
  clear hb1
  refine hK _ _ ⟨Xs.out.c0, Xs.out.c1, Xs.out.c2, Xs.out.c3⟩ ?_
  clear hK
  refine wpJ_on 5 rfl fun KJ hK => ?_
  go_simp
  refine (rsign04 s2 (HA.out.2.1.below hbw)).mono ?_
  rintro e v2 ⟨rfl, hb2⟩
  rw [sgn_pos9 HA.out.2.2.2.2.2.1]
  replace Xs : Hid _ := Xs.out.below hb2
  replace hbw := Below.on hbw hb2
  clear hb2
  clear HJ
  have HJ : Hid ((fun W' : World => W'.cell? ⟨gs, 0, none⟩ = some (.bool false) ∧ W'.cell? ⟨gs, 1, none⟩ = some (.slice p1 m1 m1) ∧ W'.cell? ⟨gs, 2, none⟩ = some (.bool s2) ∧ W'.cell? ⟨gs, 3, none⟩ = some (.slice p2 m2 m2)) v2) := ⟨Xs.out.c0, Xs.out.c1, Xs.out.c2, Xs.out.c3⟩
  refine hK _ _ HJ.out ?_
  clear hK
  refine wpJ_tq 6 rfl HJ.out ?_
  refine wpJ_tq 7 rfl HJ.out ?_
  refine wpJ_tq 8 rfl HJ.out ?_
  refine wpJ_tq 9 rfl HJ.out ?_
  refine wpJ_on 10 rfl fun KJ hK => ?_
  go_simp
  refine (rsign04 false (HA.out.1.below hbw)).mono ?_
  rintro e v3 ⟨rfl, hb3⟩
  rw [sgn_pos9 HA.out.2.2.2.2.1]
  replace Xs : Hid _ := Xs.out.below hb3
  replace hbw := Below.on hbw hb3
  clear hb3
  clear HJ
  have HJ : Hid ((fun W' : World => W'.cell? ⟨gs, 0, none⟩ = some (.bool false) ∧ W'.cell? ⟨gs, 1, none⟩ = some (.slice p1 m1 m1) ∧ W'.cell? ⟨gs, 2, none⟩ = some (.bool s2) ∧ W'.cell? ⟨gs, 3, none⟩ = some (.slice p2 m2 m2)) v3) := ⟨Xs.out.c0, Xs.out.c1, Xs.out.c2, Xs.out.c3⟩
  refine hK _ _ HJ.out ?_
  clear hK
  refine wpJ_tq 11 rfl HJ.out ?_
  refine wpJ_tq 12 rfl HJ.out ?_
  go_simp
  refine wpJ_done (by kernel_rfl) ?_ _
  clear HJ
  obtain ⟨cs0, cs1, cs2, cs3, cs4, fs0, fs1, fs2, fs3, fs4⟩ := Xs.out
  have hnes : gs < v3.heap.size := World.block_lt_of_cell? v3 _ cs0
  go_wp2_with fail
  clear cs0 cs1 cs2 cs3 cs4 fs0 fs1 fs2 fs3 fs4 hnes
  refine (tabs false (HA.out.1.below hbw) (by have := HA.out; omega)).mono ?_
  rintro e v4 ⟨v, rfl, hv, hb4⟩
  rw [show ((lo.natAbs : Nat) : Int) = lo by have := HA.out; omega] at hv
  obtain ⟨s4, g4, m4, rfl, hg4, hz4, hl4⟩ := hv
  try clear hv
  have HN4 : Hid (v3.heap.size ≤ g4) := hg4
  have HB4 : Hid (v3.heap.size ≤ v4.heap.size) := hb4.size
  replace Xs : Hid _ := Xs.out.below hb4
  replace hbw := Below.on hbw hb4
  clear hb4
  have Z4 : Hid (ZR v4 s4 (some ⟨g4, 0, none⟩) m4 (lo)) := hz4
  have HL4 : Hid (m4 ≤ m1) := hl4
  clear hz4 hl4 hg4
  obtain ⟨cs0, cs1, cs2, cs3, cs4, fs0, fs1, fs2, fs3, fs4⟩ := Xs.out
  have hnes : gs < v4.heap.size := World.block_lt_of_cell? v4 _ cs0
  go_wp2_with fail
  clear cs0 cs1 cs2 cs3 cs4 fs0 fs1 fs2 fs3 fs4 hnes
  have Xz0 : Hid (Box (v4.alloc (.cells #[.bool s4, .slice (some ⟨g4, 0, none⟩) m4 m4] 50)) v4.heap.size (.bool s4) (.slice (some ⟨g4, 0, none⟩) m4 m4)) := Box.new v4 _ _ _
  have hbn : Below v4.heap.size v4 (v4.alloc (.cells #[.bool s4, .slice (some ⟨g4, 0, none⟩) m4 m4] 50)) := below1 v4 _
  generalize v4.alloc (.cells #[.bool s4, .slice (some ⟨g4, 0, none⟩) m4 m4] 50) = Wz at *
  have HGz : Hid (w.heap.size ≤ v4.heap.size) := hbw.size
  replace Xs : Hid _ := Xs.out.below hbn
  replace Z4 : Hid _ := Z4.out.below hbn
  replace hbw := Below.on hbw hbn
  clear hbn
  generalize v4.heap.size = gz at *
  have Xz := Xz0
  clear Xz0
  obtain ⟨c, hc⟩ : ∃ c, c = cmpI ((hi - lo) * 2 ^ T) lo := ⟨_, rfl⟩
  have hc0 : decide (c ≤ 0) = true := decide_eq_true (by rw [hc]; unfold cmpI; have h := HA.out.2.2.2.2.2.2.1; generalize (hi - lo) * 2 ^ T = X at *; split; (decide); rw [if_pos (by omega)]; decide)
  have HCC := Hid.mk9 hc
  clear hc
  obtain ⟨V9, hV9⟩ : ∃ W1, W1 = Wz.drew := ⟨_, rfl⟩
  have hbd : Below Wz.heap.size Wz V9 := by rw [hV9]; exact bDrew1 (Below.refl _ _)
  replace Xs : Hid _ := Xs.out.below hbd
  replace Xz : Hid _ := Xz.out.below hbd
  replace Z4 : Hid _ := Z4.out.below hbd
  replace hbw := Below.on hbw hbd
  clear hbd
  have HJ : Hid ((fun W' : World => W'.cell? ⟨gs, 0, none⟩ = some (.bool false) ∧ W'.cell? ⟨gs, 1, none⟩ = some (.slice p1 m1 m1) ∧ W'.cell? ⟨gs, 2, none⟩ = some (.bool s2) ∧ W'.cell? ⟨gs, 3, none⟩ = some (.slice p2 m2 m2) ∧ W'.cell? ⟨gz, 0, none⟩ = some (.bool s4) ∧ W'.cell? ⟨gz, 1, none⟩ = some (.slice (some ⟨g4, 0, none⟩) m4 m4)) V9) := ⟨Xs.out.c0, Xs.out.c1, Xs.out.c2, Xs.out.c3, Xz.out.c0, Xz.out.c1⟩
  refine wp_region_J (fun W' => W'.cell? ⟨gs, 0, none⟩ = some (.bool false) ∧ W'.cell? ⟨gs, 1, none⟩ = some (.slice p1 m1 m1) ∧ W'.cell? ⟨gs, 2, none⟩ = some (.bool s2) ∧ W'.cell? ⟨gs, 3, none⟩ = some (.slice p2 m2 m2) ∧ W'.cell? ⟨gz, 0, none⟩ = some (.bool s4) ∧ W'.cell? ⟨gz, 1, none⟩ = some (.slice (some ⟨g4, 0, none⟩) m4 m4)) (by kernel_rfl) ?_
  rw [← hV9]
  clear hV9
  refine wpJ_tq 0 rfl HJ.out ?_
  refine wpJ_tq 1 rfl HJ.out ?_
  refine wpJ_tq 2 rfl HJ.out ?_
  refine wpJ_tq 3 rfl HJ.out ?_
  refine wpJ_tq 5 rfl HJ.out ?_
  go_simp
  refine wpJ_tq 7 rfl HJ.out ?_
  refine wpJ_on 4 rfl fun KJ hK => ?_
  go_simp
  refine (rsub04 s2 false (HA.out.2.1.below hbw) (HA.out.1.below hbw) (by have := HA.out; omega) (by have := HA.out; omega)).mono ?_
  rintro e v5 ⟨v, rfl, hv, hb5⟩
  obtain ⟨s5, g5, m5, rfl, hg5, hz5, hl5⟩ := hv
  try clear hv
  have HN5 : Hid (V9.heap.size ≤ g5) := hg5
  have HB5 : Hid (V9.heap.size ≤ v5.heap.size) := hb5.size
  replace Xs : Hid _ := Xs.out.below hb5
  replace Xz : Hid _ := Xz.out.below hb5
  replace Z4 : Hid _ := Z4.out.below hb5
  replace hbw := Below.on hbw hb5
  clear hb5
  have Z5 : Hid (ZR v5 s5 (some ⟨g5, 0, none⟩) m5 (hi - lo)) := hz5
  have HL5 : Hid (m5 ≤ max m2 m1 + 1) := hl5
  clear hz5 hl5 hg5
  refine hK _ _ ⟨Xs.out.c0, Xs.out.c1, Xs.out.c2, Xs.out.c3, Xz.out.c0, Xz.out.c1⟩ ?_
  clear hK
  refine wpJ_on 6 rfl fun KJ hK => ?_
  go_simp
  refine (rshl04 s5 Z5.out (by have := HL5.out; have := HA.out; omega) T (.inl (by have := HA.out; omega))).mono ?_
  rintro e v6 ⟨v, rfl, hv, hb6⟩
  obtain ⟨s6, g6, m6, rfl, hg6, hz6, hl6⟩ := hv
  try clear hv
  have HN6 : Hid (v5.heap.size ≤ g6) := hg6
  have HB6 : Hid (v5.heap.size ≤ v6.heap.size) := hb6.size
  replace Xs : Hid _ := Xs.out.below hb6
  replace Xz : Hid _ := Xz.out.below hb6
  replace Z4 : Hid _ := Z4.out.below hb6
  replace Z5 : Hid _ := Z5.out.below hb6
  replace hbw := Below.on hbw hb6
  clear hb6
  have Z6 : Hid (ZR v6 s6 (some ⟨g6, 0, none⟩) m6 ((hi - lo) * 2 ^ T)) := hz6
  have HL6 : Hid (m6 ≤ 40000) := hl6
  clear hz6 hl6 hg6
  refine hK _ _ ⟨Xs.out.c0, Xs.out.c1, Xs.out.c2, Xs.out.c3, Xz.out.c0, Xz.out.c1⟩ ?_
  clear hK
  refine wpJ_on 8 rfl fun KJ hK => ?_
  go_simp
  refine (rcmp04 s6 s4 Z6.out Z4.out (by have := HL6.out; omega) (by have := HL4.out; have := HA.out; omega)).mono ?_
  rintro e v7 ⟨rfl, hb7⟩
  rw [← HCC.out]
  replace Xs : Hid _ := Xs.out.below hb7
  replace Xz : Hid _ := Xz.out.below hb7
  replace Z4 : Hid _ := Z4.out.below hb7
  replace Z5 : Hid _ := Z5.out.below hb7
  replace Z6 : Hid _ := Z6.out.below hb7
  replace hbw := Below.on hbw hb7
  clear hb7
  clear HJ
  have HJ : Hid ((fun W' : World => W'.cell? ⟨gs, 0, none⟩ = some (.bool false) ∧ W'.cell? ⟨gs, 1, none⟩ = some (.slice p1 m1 m1) ∧ W'.cell? ⟨gs, 2, none⟩ = some (.bool s2) ∧ W'.cell? ⟨gs, 3, none⟩ = some (.slice p2 m2 m2) ∧ W'.cell? ⟨gz, 0, none⟩ = some (.bool s4) ∧ W'.cell? ⟨gz, 1, none⟩ = some (.slice (some ⟨g4, 0, none⟩) m4 m4)) v7) := ⟨Xs.out.c0, Xs.out.c1, Xs.out.c2, Xs.out.c3, Xz.out.c0, Xz.out.c1⟩
  refine hK _ _ HJ.out ?_
  clear hK
  refine wpJ_tq 9 rfl HJ.out ?_
  refine wpJ_tq 10 rfl HJ.out ?_
  go_simp
  refine wpJ_done (by kernel_rfl) ?_ _
  clear HJ
  go_wp2_with fail
  go_ret
  exact ⟨rfl, hbw⟩
end Go.Proofs.YtionkfnapodhbaaDoor
