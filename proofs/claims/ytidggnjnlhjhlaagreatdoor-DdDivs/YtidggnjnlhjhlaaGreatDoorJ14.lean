import Derived.Test.YtidggnjnlhjhlaaGreatDoorJ13
import Derived.Test.YtidggnjnlhjhlaaGreatDoorJ12
import Derived.Deep.LoopGhost
namespace Go.Proofs.YtidggnjnlhjhlaaGreatDoor
open Go.RowKit Go.Shelf
set_option maxRecDepth 20000
set_option maxHeartbeats 0
theorem dvp_1 {x y : Int} {J M N c : Nat} (hJ : J = 774) (hM : M = 1400) (hN : N = 2094) (hc : c = 1074) (hx : x.natAbs ≤ 16 * 2 ^ M) (hy : 2 ^ J ≤ y.natAbs) : x.natAbs * 2 ^ c ≤ 2 ^ N * y.natAbs := by
  have h1 : x.natAbs * 2 ^ c ≤ 16 * 2 ^ M * 2 ^ c := Nat.mul_le_mul_right _ hx
  have h2 : 2 ^ N * 2 ^ J ≤ 2 ^ N * y.natAbs := Nat.mul_le_mul_left _ hy
  refine Nat.le_trans h1 (Nat.le_trans ?_ h2)
  rw [show (16 : Nat) = 2 ^ 4 by decide, ← Nat.pow_add, ← Nat.pow_add, ← Nat.pow_add]
  exact Nat.pow_le_pow_right (by decide) (by omega)
theorem dvp_2 {x y : Int} {J M c : Nat} (hJ : J = 774) (hM : M = 1400) (hc : c = 1074) (hy : y.natAbs ≤ 2 ^ M) (hx : 2 ^ J ≤ x.natAbs) : 1152921504606846976 * (81129638414606681695789005144064 * y.natAbs) ≤ x.natAbs * 2 ^ c := by
  have h1 : 1152921504606846976 * (81129638414606681695789005144064 * y.natAbs) ≤ 1152921504606846976 * (81129638414606681695789005144064 * 2 ^ M) := Nat.mul_le_mul_left _ (Nat.mul_le_mul_left _ hy)
  refine Nat.le_trans h1 (Nat.le_trans ?_ (Nat.mul_le_mul_right _ hx))
  rw [show (1152921504606846976 : Nat) = 2 ^ 60 by decide, show (81129638414606681695789005144064 : Nat) = 2 ^ 106 by decide, ← Nat.pow_add, ← Nat.pow_add, ← Nat.pow_add]
  exact Nat.pow_le_pow_right (by decide) (by omega)
theorem dvp_3 {x y q : Int} {J M c K : Nat} (hJ : J = 774) (hM : M = 1400) (hc : c = 1074) (hK : K = 1650) (hx : x.natAbs ≤ 2 ^ M) (hy : 2 ^ J ≤ y.natAbs) (h : (q * y).natAbs ≤ 2 * (x.natAbs * 2 ^ c)) : q.natAbs < 2 ^ (52 + K) := by
  refine Nat.lt_of_not_le fun k => ?_
  have h1 := Nat.mul_le_mul k hy
  rw [← Int.natAbs_mul, ← Nat.pow_add] at h1
  have h2 : 2 * (x.natAbs * 2 ^ c) ≤ 2 ^ (1 + M + c) := by
    rw [Nat.pow_add, Nat.pow_add, Nat.mul_assoc]; exact Nat.mul_le_mul_left _ (Nat.mul_le_mul_right _ hx)
  have h3 : 2 ^ (1 + M + c) < 2 ^ (52 + K + J) := Nat.pow_lt_pow_right (by decide) (by omega)
  omega
theorem dvp_4 {J : Nat} {x : Nat} (hJ : J = 774) (h : 2 ^ J ≤ x) : 2 * (1152921504606846976 * 81129638414606681695789005144064) ≤ x := by
  refine Nat.le_trans ?_ h
  rw [show (2 * (1152921504606846976 * 81129638414606681695789005144064) : Nat) = 2 ^ 167 by decide]
  exact Nat.pow_le_pow_right (by decide) (by omega)
theorem dvp_5 {M N x U : Nat} (hM : M = 1400) (hN : N = 1726) (h : x ≤ 2 ^ M) : 2 * (x * U) ≤ 2 ^ N * U := by
  rw [← Nat.mul_assoc]
  refine Nat.mul_le_mul_right _ (Nat.le_trans (Nat.mul_le_mul_left _ h) ?_)
  rw [show 2 * 2 ^ M = 2 ^ (M + 1) by rw [Nat.pow_succ, Nat.mul_comm]]
  exact Nat.pow_le_pow_right (by decide) (by omega)
theorem quo_0 {q y : Int} {Y : Nat} (hY : Y = y.natAbs) (hy : y ≠ 0) (h : 2 * 9007199254740992 * (q * y - 0).natAbs ≤ 0 + 9007199254740992 * Y) : q = 0 := by
  rw [Int.sub_zero, Int.natAbs_mul, ← hY] at h
  have hp : 0 < Y := by omega
  refine Int.natAbs_eq_zero.1 (Nat.eq_zero_of_not_pos fun k => ?_)
  have h1 : Y ≤ q.natAbs * Y := Nat.le_mul_of_pos_left _ k
  omega
structure Dv0 (h h' q : Nat) : Prop where
  fin : Fin64 q
  near : 2 * 9007199254740992 * (ux q * ux h' - ux h * (UE : Int)).natAbs ≤ 4 * ((ux h).natAbs * UE) + 9007199254740992 * (ux h').natAbs
  sz : q % 9223372036854775808 ≤ 9088264048033660928
  fit : FitP h' q
theorem quo_n2 {h h' N : Nat} (hN : N = 2094) (f : Fin64 h) (f' : Fin64 h') (b0 : ux h' ≠ 0) (q' : FitQ h') (hb : (ux h).natAbs ≤ 16 * BigU) : ∃ r, floatBits .quo .f64 h h' = some r ∧ Fin64 r ∧ 2 * 9007199254740992 * (ux r * ux h' - ux h * (UE : Int)).natAbs ≤ 4 * ((ux h).natAbs * UE) + 9007199254740992 * (ux h').natAbs := by
  obtain ⟨J, hJ⟩ : ∃ J, J = 774 := ⟨_, rfl⟩
  unfold BigU at hb
  have h1 := dvp_1 (M := BigE) (c := OneE) hJ rfl hN rfl hb (q'.low hJ b0)
  exact fquo_near hN (K := OneE) rfl f f' b0 h1
theorem dv_0 {h h' : Nat} (f : Fin64 h) (f' : Fin64 h') (q : FitQ h) (q' : FitQ h') (b0 : ux h' ≠ 0) : ∃ r, floatBits .quo .f64 h h' = some r ∧ Dv0 h h' r := by
  obtain ⟨N, hN⟩ : ∃ N, N = 2094 := ⟨_, rfl⟩
  have hb := fit_big q.hi
  have hb' := fit_big q'.hi
  obtain ⟨r, h1, h2, h3⟩ := quo_n2 hN f f' b0 q' (by omega)
  refine ⟨r, h1, h2, h3, ?_, ?_⟩
  · by_cases h0 : ux h = 0
    · rw [h0, Int.zero_mul, show ((0 : Int).natAbs) = 0 from rfl, Nat.zero_mul, Nat.mul_zero] at h3
      have := sz_0 (quo_0 rfl b0 h3)
      omega
    · obtain ⟨J, hJ⟩ : ∃ J, J = 774 := ⟨_, rfl⟩
      obtain ⟨K, hK⟩ : ∃ K, K = 1650 := ⟨_, rfl⟩
      unfold BigU at hb hb'
      have hY := dvp_2 (M := BigE) (c := OneE) hJ rfl rfl hb' (q.low hJ h0)
      have k := (dv_b h3 hY).2
      have hQ : (ux r * ux h').natAbs ≤ 2 * ((ux h).natAbs * UE) := by
        have := ab8 (a := ux r * ux h') (b := ux h * (UE : Int)); rw [na_mul] at this; omega
      have h5 := sz_of (dvp_3 (M := BigE) (c := OneE) hJ rfl rfl hK hb (q'.low hJ b0) hQ)
      rw [hK] at h5
      omega
  · by_cases h0 : ux h = 0
    · rw [h0, Int.zero_mul, show ((0 : Int).natAbs) = 0 from rfl, Nat.zero_mul, Nat.mul_zero] at h3
      have h4 := quo_0 rfl b0 h3
      refine ⟨.inl (by rw [h4, Int.mul_zero]), by rw [h4, Int.mul_zero]; exact Nat.zero_le _⟩
    · obtain ⟨J, hJ⟩ : ∃ J, J = 774 := ⟨_, rfl⟩
      unfold BigU at hb hb'
      have hY := dvp_2 (M := BigE) (c := OneE) hJ rfl rfl hb' (q.low hJ h0)
      have k := (dv_b h3 hY).2
      have a1 : (ux r * ux h').natAbs ≤ (ux h).natAbs * UE + (ux r * ux h' - ux h * (UE : Int)).natAbs := by
        have := ab8 (a := ux r * ux h') (b := ux h * (UE : Int)); rwa [na_mul] at this
      have a2 : (ux h).natAbs * UE ≤ (ux r * ux h').natAbs + (ux r * ux h' - ux h * (UE : Int)).natAbs := by
        have := ab3 (a := ux h * (UE : Int)) (b := ux r * ux h'); rwa [na_mul] at this
      have a3 := dvp_4 hJ (q.low hJ h0)
      have a4 : 2 * (1152921504606846976 * 81129638414606681695789005144064) * UE ≤ (ux h).natAbs * UE := Nat.mul_le_mul_right _ a3
      have a5 := dvp_5 (U := UE) (M := BigE) (N := PE) rfl rfl hb
      refine ⟨.inr ?_, ?_⟩
      · rw [Int.mul_comm (ux h')]; omega
      · rw [Int.mul_comm (ux h')]; unfold BigP; omega
structure Dv1 (h h' l' q s r : Nat) : Prop where
  ds : DdF s r
  le : (ux h - ux s).natAbs ≤ (ux h).natAbs ∧ (ux h - ux s).natAbs ≤ (ux s).natAbs
  z : ux h = 0 → ux q = 0 ∧ ux s = 0 ∧ ux r = 0
  g : ux h ≠ 0 → (9007199254740992 * 1024 * ((ux h - ux s).natAbs * UE) ≤ 4101 * ((ux h).natAbs * UE) ∧ 9007199254740992 * 1024 * ((ux r).natAbs * UE) ≤ 1025 * ((ux h).natAbs * UE) ∧ 81129638414606681695789005144064 * 64 * ((ux s + ux r) * (UE : Int) - (ux h' + ux l') * ux q).natAbs ≤ 1025 * ((ux h).natAbs * UE))
theorem low_y {h h' : Nat} (q : FitQ h) (q' : FitQ h') (h0 : ux h ≠ 0) : 1152921504606846976 * (81129638414606681695789005144064 * (ux h').natAbs) ≤ (ux h).natAbs * UE := by
  obtain ⟨J, hJ⟩ : ∃ J, J = 774 := ⟨_, rfl⟩
  have hb' := fit_big q'.hi
  unfold BigU at hb'
  exact dvp_2 (M := BigE) (c := OneE) hJ rfl rfl hb' (q.low hJ h0)
theorem dv_1 {h h' l' q s r : Nat} (d' : DdF h' l') (k : FitQ h) (k' : FitQ h') (b0 : ux h' ≠ 0) (A : Dv0 h h' q) (ds : DdF s r) (hm : 81129638414606681695789005144064 * ((ux s + ux r) * (UE : Int) - (ux h' + ux l') * ux q).natAbs ≤ 16 * ((ux h' + ux l') * ux q).natAbs) : Dv1 h h' l' q s r := by
  have lr := form_l ds.rn
  by_cases h0 : ux h = 0
  · have h3 := A.near
    rw [h0, Int.zero_mul, show ((0 : Int).natAbs) = 0 from rfl, Nat.zero_mul, Nat.mul_zero] at h3
    have h4 := quo_0 rfl b0 h3
    rw [h4, Int.mul_zero, Int.sub_zero, na_mul] at hm
    have h5 : (ux s + ux r).natAbs * UE = 0 := by simp at hm; omega
    have h6 : (ux s + ux r).natAbs = 0 := (Nat.mul_eq_zero.1 h5).resolve_right (Nat.ne_of_gt ue_pos)
    have h7 : ux s = 0 ∧ ux r = 0 := by omega
    refine ⟨ds, ?_, fun _ => ⟨h4, h7⟩, fun k0 => absurd h0 k0⟩
    rw [h0, h7.1]; exact ⟨Nat.le_refl _, Nat.le_refl _⟩
  · obtain ⟨g, a, b⟩ := dd_div1 ue_pos (form_l d'.rn) A.near hm lr (low_y k k' h0)
    exact ⟨ds, ⟨a, b⟩, fun k0 => absurd k0 h0, fun _ => g⟩
theorem dv_2 {h l h' l' q s r : Nat} (d : DdF h l) (k : FitQ h) (B : Dv1 h h' l' q s r) : ∃ e1 e2 e3, floatBits .sub .f64 h s = some e1 ∧ floatBits .sub .f64 l r = some e2 ∧ floatBits .add .f64 e1 e2 = some e3 ∧ Fin64 e3 ∧ (ux e3).natAbs ≤ 16 * BigU ∧ Rn 53 (ux l - ux r) (ux e2) ∧ Rn 53 (ux h - ux s + ux e2) (ux e3) := by
  have hb := fit_big k.hi
  have lb := form_lo d hb
  have sb : (ux s).natAbs ≤ 2 * BigU := by have h1 := B.le.1; omega
  have rb := form_l B.ds.rn
  obtain ⟨e1, f1, g1⟩ := fl_sub_fin d.hi B.ds.hi (BigU.max (by have h1 := B.le.1; omega))
  obtain ⟨e2, f2, g2⟩ := fl_sub_fin d.lo B.ds.lo (BigU.max (by omega))
  have x1 : ux e1 = ux h - ux s := by
    refine g1.rn.ex ?_
    have h1 := B.le.1
    have h2 := B.le.2
    rw [Int.sub_eq_add_neg] at h1 h2 ⊢
    exact sterb d.hi.fl B.ds.hi.fl.neg h1 (by rw [Int.natAbs_neg]; exact h2)
  have b2 := rn_two g2.rn
  have h1 := B.le.1
  obtain ⟨e3, f3, g3⟩ := fl_add_fin g1.fin g2.fin (BigU.max (by rw [x1]; omega))
  have b3 := rn_two g3.rn
  rw [x1] at g3 b3
  exact ⟨e1, e2, e3, f1, f2, f3, g3.fin, by omega, g2.rn, g3.rn⟩
theorem dv_3 {h l h' l' q s r e2 e3 t z1 z2 : Nat} (d : DdF h l) (d' : DdF h' l') (k : FitQ h) (k' : FitQ h') (b0 : ux h' ≠ 0) (A : Dv0 h h' q) (B : Dv1 h h' l' q s r) (r2 : Rn 53 (ux l - ux r) (ux e2)) (r3 : Rn 53 (ux h - ux s + ux e2) (ux e3)) (ft : Fin64 t)
    (ht : 2 * 9007199254740992 * (ux t * ux h' - ux e3 * (UE : Int)).natAbs ≤ 4 * ((ux e3).natAbs * UE) + 9007199254740992 * (ux h').natAbs) (F : FSR q t z1 z2) :
    DdF z1 z2 ∧ 81129638414606681695789005144064 * ((ux z1 + ux z2) * (ux h' + ux l') - (ux h + ux l) * (UE : Int)).natAbs ≤ 64 * ((ux h + ux l) * (UE : Int)).natAbs := by
  have key : 81129638414606681695789005144064 * ((ux q + ux t) * (ux h' + ux l') - (ux h + ux l) * (UE : Int)).natAbs ≤ 64 * ((ux h + ux l) * (UE : Int)).natAbs ∧ (ux t).natAbs ≤ (ux q).natAbs := by
    by_cases h0 : ux h = 0
    · have lx := form_l d.rn
      obtain ⟨a, b, c⟩ := B.z h0
      have l0 : ux l = 0 := by rw [h0] at lx; omega
      have e20 : ux e2 = 0 := by have := rn_two r2; rw [l0, c] at this; omega
      have e30 : ux e3 = 0 := by have := rn_two r3; rw [h0, b, e20] at this; omega
      rw [e30, Int.zero_mul, show ((0 : Int).natAbs) = 0 from rfl, Nat.zero_mul, Nat.mul_zero] at ht
      have t0 := quo_0 rfl b0 ht
      rw [a, t0, h0, l0]
      simp
    · exact dd_div2 (form_l d.rn) (form_l d'.rn) A.near (B.g h0) r2 r3 ht b0 (low_y k k' h0)
  have sq := A.sz
  have st := sz_le key.2
  obtain ⟨c1, c2, c3⟩ := F.ok A.fin.lt ft.lt (by omega) (by omega) (.inr st)
  refine ⟨DdF.of_sm c1 c2 c3, ?_⟩
  rw [c3]; exact key.1
theorem ddMulF_w {h l x : Nat} (d : DdF h l) (q : FitQ h) (fx : Fin64 x) (sx : x % 9223372036854775808 ≤ 9088264048033660928) (hp : FitP h x) (w : World) :
    Calls Tryz.prog 30 #[.agg #[Fv h, Fv l], Fv x] w fun en w' => ∃ s r, en = .returned (.agg #[Fv s, Fv r]) ∧ DdF s r ∧ 81129638414606681695789005144064 * ((ux s + ux r) * (UE : Int) - (ux h + ux l) * ux x).natAbs ≤ 16 * ((ux h + ux l) * ux x).natAbs ∧ Below w.heap.size w w' := by
  have hSF : ∀ (w : World) (a : Addr) (b : Nat), (store a (Fv b)).run Tryz.prog w = stored Tryz.prog w a (Fv b) .plain := stF
  have HD : Hid ((DdF h l ∧ Fin64 x) ∧ (FitQ h ∧ x % 9223372036854775808 ≤ 9088264048033660928) ∧ FitP h x) := ⟨⟨d, fx⟩, ⟨q, sx⟩, hp⟩
  have b2 : (ux l * ux x).natAbs ≤ BigP * UE := by
    refine Nat.le_trans ?_ hp.bd
    rw [Int.natAbs_mul, Int.natAbs_mul]
    exact Nat.mul_le_mul_right _ (by have := form_l d.rn; omega)
  obtain ⟨m2, hm2, hN⟩ := ddw_2 d.lo fx b2
  have HMN : Hid (FMul l x m2) := hN
  have r2 : ∀ W : World, (binOp .mul 30 (Fv l) (Fv x)).run Tryz.prog W = .ok (Fv m2) W := fun W => run_float_arith W .mul 30 .f64 l x m2 hm2
  clear d q sx hp b2 hm2 hN fx
  go_enter Tryz.func30, Tryz.ntmps30
  go_wp2_with fail
  obtain ⟨W0, hW0⟩ : ∃ W0, W0 = ((w.alloc (.cells #[Fv h, Fv l] 32)).alloc (.cells #[Fv 0, Fv 0] 32)) := ⟨_, rfl⟩
  have Xa : Hid (Box W0 (w.heap.size) (Fv h) (Fv l)) := by rw [hW0]; exact ⟨by go_simp, by go_simp, by go_simp, by go_simp⟩
  have Xr : Hid (Box W0 (w.heap.size + 1) (Fv 0) (Fv 0)) := by rw [hW0]; exact ⟨by go_simp, by go_simp, by go_simp, by go_simp⟩
  have hb0 : Below w.heap.size w W0 := by rw [hW0]; exact below2 w _ _
  rw [← hW0]
  clear hW0
  have hbw : Below w.heap.size w w := Below.refl _ _
  obtain ⟨gr, hgr⟩ : ∃ g, g = w.heap.size + 1 := ⟨_, rfl⟩
  have HGr : Hid (w.heap.size ≤ gr) := by rw [hgr]; show _ ≤ _; omega
  rw [← hgr] at Xr
  try rw [← hgr]
  obtain ⟨ga, hga⟩ : ∃ g, g = w.heap.size := ⟨_, rfl⟩
  have HGa : Hid (w.heap.size ≤ ga) := by rw [hga]; show _ ≤ _; omega
  rw [← hga] at Xa
  try rw [← hga]
  have HGD : Hid (ga ≠ gr ∧ gr ≠ ga) := by rw [hga, hgr]; exact ⟨by omega, by omega⟩
  clear hga hgr
  replace hbw := Below.on hbw hb0
  clear hb0
  obtain ⟨ca0, ca1, fa0, fa1⟩ := Xa.out
  have hnea := Xa.out.lt
  go_wp2_with fail
  clear ca0 ca1 fa0 fa1 hnea
  refine (twoProd h x _).mono ?_
  rintro e9 v9 ⟨p, e, n9, rfl, rfl, hR⟩
  have A1 := Hid.mk9 (ddw_1 HD.out.1.1.hi.lt HD.out.1.2.lt (by have := HD.out.2.1.1.hi; omega) HD.out.2.1.2 HD.out.2.2 hR)
  clear hR
  obtain ⟨v, hv1, hv2⟩ := ddm_4 A1.out HMN.out.fin (by have := HMN.out.bd; omega)
  have C4 := Hid.mk9 hv2
  have r4 : ∀ W : World, (binOp .add 30 (Fv e) (Fv m2)).run Tryz.prog W = .ok (Fv v) W := fun W => run_float_arith W .add 30 .f64 e m2 v hv1
  clear hv1 hv2
  have hbr := bDrewN (Below.refl W0.heap.size W0) n9
  generalize W0.drewN n9 = V1 at *
  replace Xa : Hid _ := Xa.out.below hbr
  replace Xr : Hid _ := Xr.out.below hbr
  replace hbw := Below.on hbw hbr
  clear hbr
  obtain ⟨ca0, ca1, fa0, fa1⟩ := Xa.out
  have hnea := Xa.out.lt
  go_wp2_with fail
  clear ca0 ca1 fa0 fa1 hnea
  refine (fastTwoSum p v _).mono ?_
  rintro e9 v9 ⟨s4, r5, n9, rfl, rfl, hR⟩
  have HR4 := Hid.mk9 (ddw_5 HD.out.1.1 HD.out.2.2 A1.out HMN.out C4.out hR)
  clear hR r2 r4
  have hbr := bDrewN (Below.refl V1.heap.size V1) n9
  generalize V1.drewN n9 = V4 at *
  replace Xa : Hid _ := Xa.out.below hbr
  replace Xr : Hid _ := Xr.out.below hbr
  replace hbw := Below.on hbw hbr
  clear hbr
  go_wp2_with fail
  refine (ddpair s4 r5 _).mono ?_
  rintro e v5 ⟨rfl, hb5⟩
  replace Xa : Hid _ := Xa.out.below hb5
  replace Xr : Hid _ := Xr.out.below hb5
  replace hbw := Below.on hbw hb5
  clear hb5
  obtain ⟨cr0, cr1, fr0, fr1⟩ := Xr.out
  have hner := Xr.out.lt
  go_wp2_with fail
  refine bodyPost_ret (v := .agg #[Fv s4, Fv r5]) (by rw [results_cell1 rfl]; go_simp) rfl ⟨s4, r5, rfl, HR4.out.1, HR4.out.2, ?_⟩
  exact bSet (bSet (hbw) _ _ _ HGr.out) _ _ _ HGr.out
theorem ddDiv_f {h l h' l' : Nat} (d : DdF h l) (d' : DdF h' l') (q : FitQ h) (q' : FitQ h') (b0 : ux h' ≠ 0) (w : World) :
    Calls Tryz.prog 24 #[.agg #[Fv h, Fv l], .agg #[Fv h', Fv l']] w fun en w' => ∃ z1 z2, en = .returned (.agg #[Fv z1, Fv z2]) ∧ DdF z1 z2 ∧ 81129638414606681695789005144064 * ((ux z1 + ux z2) * (ux h' + ux l') - (ux h + ux l) * (UE : Int)).natAbs ≤ 64 * ((ux h + ux l) * (UE : Int)).natAbs ∧ Below w.heap.size w w' := by
  have hSF : ∀ (w : World) (a : Addr) (b : Nat), (store a (Fv b)).run Tryz.prog w = stored Tryz.prog w a (Fv b) .plain := stF
  have HD : Hid ((DdF h l ∧ DdF h' l') ∧ FitQ h ∧ FitQ h' ∧ ux h' ≠ 0) := ⟨⟨d, d'⟩, q, q', b0⟩
  obtain ⟨q1, hq1, hA⟩ := dv_0 d.hi d'.hi q q' b0
  have HA := Hid.mk9 hA
  have f1 : ∀ W : World, (binOp .quo 30 (Fv h) (Fv h')).run Tryz.prog W = .ok (Fv q1) W := fun W => run_float_arith W .quo 30 .f64 h h' q1 hq1
  clear d d' q q' b0 hq1 hA
  go_enter Tryz.func24, Tryz.ntmps24
  go_wp2_with fail
  obtain ⟨W0, hW0⟩ : ∃ W0, W0 = (((w.alloc (.cells #[Fv h, Fv l] 32)).alloc (.cells #[Fv h', Fv l'] 32)).alloc (.cells #[Fv 0, Fv 0] 32)) := ⟨_, rfl⟩
  have Xa : Hid (Box W0 (w.heap.size) (Fv h) (Fv l)) := by rw [hW0]; exact ⟨by go_simp, by go_simp, by go_simp, by go_simp⟩
  have Xb : Hid (Box W0 (w.heap.size + 1) (Fv h') (Fv l')) := by rw [hW0]; exact ⟨by go_simp, by go_simp, by go_simp, by go_simp⟩
  have Xr : Hid (Box W0 (w.heap.size + 1 + 1) (Fv 0) (Fv 0)) := by rw [hW0]; exact ⟨by go_simp, by go_simp, by go_simp, by go_simp⟩
  have hb0 : Below w.heap.size w W0 := by rw [hW0]; exact below3 w _ _ _
  rw [← hW0]
  clear hW0
  have hbw : Below w.heap.size w w := Below.refl _ _
  obtain ⟨gr, hgr⟩ : ∃ g, g = w.heap.size + 1 + 1 := ⟨_, rfl⟩
  have HGr : Hid (w.heap.size ≤ gr) := by rw [hgr]; show _ ≤ _; omega
  rw [← hgr] at Xr
  try rw [← hgr]
  obtain ⟨gb, hgb⟩ : ∃ g, g = w.heap.size + 1 := ⟨_, rfl⟩
  have HGb : Hid (w.heap.size ≤ gb) := by rw [hgb]; show _ ≤ _; omega
  rw [← hgb] at Xb
  try rw [← hgb]
  obtain ⟨ga, hga⟩ : ∃ g, g = w.heap.size := ⟨_, rfl⟩
  have HGa : Hid (w.heap.size ≤ ga) := by rw [hga]; show _ ≤ _; omega
  rw [← hga] at Xa
  try rw [← hga]
  have HGD : Hid (ga ≠ gb ∧ ga ≠ gr ∧ gb ≠ ga ∧ gb ≠ gr ∧ gr ≠ ga ∧ gr ≠ gb) := by rw [hga, hgb, hgr]; exact ⟨by omega, by omega, by omega, by omega, by omega, by omega⟩
  clear hga hgb hgr
  replace hbw := Below.on hbw hb0
  clear hb0
  obtain ⟨hgd0, hgd1, hgd2, hgd3, hgd4, hgd5⟩ := HGD.out
  obtain ⟨ca0, ca1, fa0, fa1⟩ := Xa.out
  have hnea := Xa.out.lt
  obtain ⟨cb0, cb1, fb0, fb1⟩ := Xb.out
  have hneb := Xb.out.lt
  go_wp2_with fail
  clear ca0 ca1 fa0 fa1 hnea
  clear cb0 cb1 fb0 fb1 hneb
  refine (ddMulF_w HD.out.1.2 HD.out.2.2.1 HA.out.fin HA.out.sz HA.out.fit _).mono ?_
  rintro e1 v1 ⟨s, r, rfl, hds, hms, hb1⟩
  have HB := Hid.mk9 (dv_1 HD.out.1.2 HD.out.2.1 HD.out.2.2.1 HD.out.2.2.2 HA.out hds hms)
  clear hds hms
  obtain ⟨e1, e2, e3, he1, he2, he3, fe3, hbe, r2, r3⟩ := dv_2 HD.out.1.1 HD.out.2.1 HB.out
  obtain ⟨N9, hN9⟩ : ∃ N, N = 2094 := ⟨_, rfl⟩
  obtain ⟨t, ht, ft, htn⟩ := quo_n2 hN9 fe3 HD.out.1.2.hi HD.out.2.2.2 HD.out.2.2.1 hbe
  have HE := Hid.mk9 (And.intro (And.intro r2 r3) (And.intro ft htn))
  clear r2 r3 ft htn fe3 hbe hN9
  have f2 : ∀ W : World, (binOp .sub 30 (Fv h) (Fv s)).run Tryz.prog W = .ok (Fv e1) W := fun W => run_float_arith W .sub 30 .f64 h s e1 he1
  clear he1
  have f3 : ∀ W : World, (binOp .sub 30 (Fv l) (Fv r)).run Tryz.prog W = .ok (Fv e2) W := fun W => run_float_arith W .sub 30 .f64 l r e2 he2
  clear he2
  have f4 : ∀ W : World, (binOp .add 30 (Fv e1) (Fv e2)).run Tryz.prog W = .ok (Fv e3) W := fun W => run_float_arith W .add 30 .f64 e1 e2 e3 he3
  clear he3
  have f5 : ∀ W : World, (binOp .quo 30 (Fv e3) (Fv h')).run Tryz.prog W = .ok (Fv t) W := fun W => run_float_arith W .quo 30 .f64 e3 h' t ht
  clear ht
  replace Xa : Hid _ := Xa.out.below hb1
  replace Xb : Hid _ := Xb.out.below hb1
  replace Xr : Hid _ := Xr.out.below hb1
  replace hbw := Below.on hbw hb1
  clear hb1
  obtain ⟨ca0, ca1, fa0, fa1⟩ := Xa.out
  have hnea := Xa.out.lt
  obtain ⟨cb0, cb1, fb0, fb1⟩ := Xb.out
  have hneb := Xb.out.lt
  go_wp2_with fail
  clear ca0 ca1 fa0 fa1 hnea
  clear cb0 cb1 fb0 fb1 hneb
  have Xk0 : Hid (Box (v1.alloc (.cells #[Fv s, Fv r] 32)) v1.heap.size (Fv s) (Fv r)) := Box.new v1 _ _ _
  have hbn : Below v1.heap.size v1 (v1.alloc (.cells #[Fv s, Fv r] 32)) := below1 v1 _
  generalize v1.alloc (.cells #[Fv s, Fv r] 32) = Wk at *
  have HGk : Hid (w.heap.size ≤ v1.heap.size) := hbw.size
  replace Xa : Hid _ := Xa.out.below hbn
  replace Xb : Hid _ := Xb.out.below hbn
  replace Xr : Hid _ := Xr.out.below hbn
  replace hbw := Below.on hbw hbn
  clear hbn
  generalize v1.heap.size = gk at *
  have Xk := Xk0
  clear Xk0
  obtain ⟨ca0, ca1, fa0, fa1⟩ := Xa.out
  have hnea := Xa.out.lt
  obtain ⟨cb0, cb1, fb0, fb1⟩ := Xb.out
  have hneb := Xb.out.lt
  obtain ⟨ck0, ck1, fk0, fk1⟩ := Xk.out
  have hnek := Xk.out.lt
  go_wp2_with fail
  clear ca0 ca1 fa0 fa1 hnea
  clear cb0 cb1 fb0 fb1 hneb
  clear ck0 ck1 fk0 fk1 hnek
  refine (fastTwoSum q1 t _).mono ?_
  rintro e9 v9 ⟨z1, z2, n9, rfl, rfl, hR⟩
  have HZ := Hid.mk9 (dv_3 HD.out.1.1 HD.out.1.2 HD.out.2.1 HD.out.2.2.1 HD.out.2.2.2 HA.out HB.out HE.out.1.1 HE.out.1.2 HE.out.2.1 HE.out.2.2 hR)
  clear hR f1 f2 f3 f4 f5
  have hbr := bDrewN (Below.refl Wk.heap.size Wk) n9
  generalize Wk.drewN n9 = V2 at *
  replace Xa : Hid _ := Xa.out.below hbr
  replace Xb : Hid _ := Xb.out.below hbr
  replace Xr : Hid _ := Xr.out.below hbr
  replace Xk : Hid _ := Xk.out.below hbr
  replace hbw := Below.on hbw hbr
  clear hbr
  go_wp2_with fail
  refine (ddpair z1 z2 _).mono ?_
  rintro e v3 ⟨rfl, hb3⟩
  replace Xa : Hid _ := Xa.out.below hb3
  replace Xb : Hid _ := Xb.out.below hb3
  replace Xr : Hid _ := Xr.out.below hb3
  replace Xk : Hid _ := Xk.out.below hb3
  replace hbw := Below.on hbw hb3
  clear hb3
  obtain ⟨cr0, cr1, fr0, fr1⟩ := Xr.out
  have hner := Xr.out.lt
  go_wp2_with fail
  refine bodyPost_ret (v := .agg #[Fv z1, Fv z2]) (by rw [results_cell1 rfl]; go_simp) rfl ⟨z1, z2, rfl, HZ.out.1, HZ.out.2, ?_⟩
  exact bSet (bSet (hbw) _ _ _ HGr.out) _ _ _ HGr.out
theorem nf_len7 {w : World} {p : Option Addr} {m c : Nat} {zs : List Nat} {v : Nat} (h : At32 w p m c zs) (hN : Nf B32 zs v) {K : Nat} (hb : v < 2 ^ K) : m ≤ K := by
  have h1 := (hN.len_le B32_one (k := K)).2 (Nat.lt_of_lt_of_le hb (Nat.pow_le_pow_left (by decide) K))
  rw [h.len] at h1
  exact h1
theorem one20s (w : World) :
    Calls Tryz.prog 94 #[] w fun en w' => ∃ v, en = .returned v ∧ GotR w.heap.size w' v (iv false (2 ^ OneE)) 2000 ∧ Below w.heap.size w w' := by
  go_enter Tryz.func94, Tryz.ntmps94
  go_wp2_with fail
  obtain ⟨W0, hW0⟩ : ∃ W0, W0 = (w.alloc (.cells #[.bool false, .slice none 0 0] 87)) := ⟨_, rfl⟩
  have Xr : Hid (Box W0 (w.heap.size) (.bool false) (.slice none 0 0)) := by rw [hW0]; exact ⟨by go_simp, by go_simp, by go_simp, by go_simp⟩
  have hb0 : Below w.heap.size w W0 := by rw [hW0]; exact below1 w _
  rw [← hW0]
  clear hW0
  have hbw : Below w.heap.size w w := Below.refl _ _
  obtain ⟨gr, hgr⟩ : ∃ g, g = w.heap.size := ⟨_, rfl⟩
  have HGr : Hid (w.heap.size ≤ gr) := by rw [hgr]; show _ ≤ _; omega
  rw [← hgr] at Xr
  try rw [← hgr]
  clear hgr
  replace hbw := Below.on hbw hb0
  clear hb0
  refine (rpow2d _ OneE (by decide)).mono ?_
  rintro e v1 ⟨p1, m1, z1, rfl, hA1, hN1, hl1, hb1⟩
  have hl2 : m1 ≤ 2000 := Nat.le_trans (nf_len7 hA1 hN1 (K := OneE + 1) (Nat.pow_lt_pow_right (by decide) (Nat.lt_succ_self _))) (by decide)
  replace Xr : Hid _ := Xr.out.below hb1
  replace hbw := Below.on hbw hb1
  clear hb1
  have A1 : Hid (At32 v1 p1 m1 m1 z1) := hA1
  have N1 : Hid (Nf B32 z1 (2 ^ OneE) ∧ m1 ≤ 2000) := ⟨hN1, hl2⟩
  clear hA1 hN1 hl1 hl2
  obtain ⟨cr0, cr1, fr0, fr1⟩ := Xr.out
  have hner := Xr.out.lt
  go_wp2_with fail
  clear cr0 cr1 fr0 fr1 hner
  have HRB : Hid (gr < v1.heap.size ∧ w.heap.size ≤ v1.heap.size) := ⟨Xr.out.lt, hbw.size⟩
  refine (rmk_any false A1.out N1.out.1 (by have := N1.out.2; omega)).mono ?_
  rintro e v2 ⟨v, rfl, hv, hb2⟩
  obtain ⟨s2, g2, m2, rfl, hg2, hz2, hl2⟩ := hv
  have HN2 : Hid (v1.heap.size ≤ g2) := hg2
  have HB2 : Hid (v1.heap.size ≤ v2.heap.size) := hb2.size
  replace Xr : Hid _ := Xr.out.below hb2
  replace A1 : Hid _ := A1.out.below hb2
  replace hbw := Below.on hbw hb2
  clear hb2
  have Z2 : Hid (ZR v2 s2 (some ⟨g2, 0, none⟩) m2 (iv false (2 ^ OneE))) := hz2
  have HL2 : Hid (m2 ≤ m1) := hl2
  clear hz2 hl2 hg2
  obtain ⟨cr0, cr1, fr0, fr1⟩ := Xr.out
  have hner := Xr.out.lt
  go_wp2_with fail
  refine bodyPost_ret (v := .agg #[.bool s2, .slice (some ⟨g2, 0, none⟩) m2 m2]) (by rw [results_cell1 rfl]; go_simp) rfl ⟨_, rfl, ⟨s2, g2, m2, rfl, Nat.le_trans HRB.out.2 HN2.out, ?_, by have h1 := HL2.out; have h2 := N1.out.2; omega⟩, ?_⟩
  · have := HN2.out; have := HRB.out.1
    exact (Z2.out.set _ _ _ (by omega)).set _ _ _ (by omega)
  · exact bSet (bSet hbw _ _ _ HGr.out) _ _ _ HGr.out
theorem near_div {a b x : Int} (h : 81129638414606681695789005144064 * (a * b - x * (UE : Int)).natAbs ≤ 64 * (x * (UE : Int)).natAbs) : (a * b - x * iv false (2 ^ OneE)).natAbs * 2 ^ 100 ≤ (x * iv false (2 ^ OneE)).natAbs := by
  have e : iv false (2 ^ OneE) = (UE : Int) := rfl
  rw [e, show (2 : Nat) ^ 100 = 1267650600228229401496703205376 by decide]
  omega
theorem hi_ne {h l : Nat} (d : DdF h l) (k : ux h + ux l ≠ 0) : ux h ≠ 0 := fun h0 => by
  have h1 := form_l d.rn
  rw [h0] at h1
  apply k
  omega
theorem reckons_12 {ah al bh bl : Nat} (h1 : ah < 18446744073709551616) (h2 : al < 18446744073709551616) (h3 : bh < 18446744073709551616) (h4 : bl < 18446744073709551616) (w : World) :
    Calls Tryz.prog 65 #[.agg #[.int .i64 12, U ah, U al, U bh, U bl]] w fun en w' => en = .returned (.bool true) ∧ Below w.heap.size w w' := by
  have hSF : ∀ (w : World) (a : Addr) (b : Nat), (store a (Fv b)).run Tryz.prog w = stored Tryz.prog w a (Fv b) .plain := stF
  have HL : Hid (ah < 18446744073709551616 ∧ al < 18446744073709551616 ∧ bh < 18446744073709551616 ∧ bl < 18446744073709551616) := ⟨h1, h2, h3, h4⟩
  clear h1 h2 h3 h4
  go_enter Tryz.func65, Tryz.ntmps65
  go_wp2_with fail
  obtain ⟨W0, hW0⟩ : ∃ W0, W0 = (w.alloc (.cells #[.int .i64 12, U ah, U al, U bh, U bl] 58)) := ⟨_, rfl⟩
  have Xo : Hid (B5q W0 (w.heap.size) (.int .i64 12) (U ah) (U al) (U bh) (U bl)) := by rw [hW0]; exact ⟨by go_simp, by go_simp, by go_simp, by go_simp, by go_simp, by go_simp, by go_simp, by go_simp, by go_simp, by go_simp⟩
  have hb0 : Below w.heap.size w W0 := by rw [hW0]; exact below1 w _
  rw [← hW0]
  clear hW0
  have hbw : Below w.heap.size w w := Below.refl _ _
  obtain ⟨go, hgo⟩ : ∃ g, g = w.heap.size := ⟨_, rfl⟩
  have HGo : Hid (w.heap.size ≤ go) := by rw [hgo]; show _ ≤ _; omega
  rw [← hgo] at Xo
  try rw [← hgo]
  clear hgo
  replace hbw := Below.on hbw hb0
  clear hb0
  obtain ⟨co0, co1, co2, co3, co4, fo0, fo1, fo2, fo3, fo4⟩ := Xo.out
  have hneo : go < W0.heap.size := World.block_lt_of_cell? W0 _ co0
  go_wp2_with fail
  clear co0 co1 co2 co3 co4 fo0 fo1 fo2 fo3 fo4 hneo
  refine (fit20q ah al HL.out.1 HL.out.2.1 _).mono ?_
  rintro en v1 ⟨⟨r, rfl, hr⟩, hb1⟩
  replace Xo : Hid _ := Xo.out.below hb1
  replace hbw := Below.on hbw hb1
  clear hb1
  cases r
  · clear hr
    obtain ⟨co0, co1, co2, co3, co4, fo0, fo1, fo2, fo3, fo4⟩ := Xo.out
    have hneo : go < v1.heap.size := World.block_lt_of_cell? v1 _ co0
    go_wp2_with fail
    clear co0 co1 co2 co3 co4 fo0 fo1 fo2 fo3 fo4 hneo
    go_ret
    exact ⟨rfl, hbw⟩
  have HC1 := Hid.mk9 (hr rfl)
  clear hr
  obtain ⟨co0, co1, co2, co3, co4, fo0, fo1, fo2, fo3, fo4⟩ := Xo.out
  have hneo : go < v1.heap.size := World.block_lt_of_cell? v1 _ co0
  go_wp2_with fail
  clear co0 co1 co2 co3 co4 fo0 fo1 fo2 fo3 fo4 hneo
  refine (fitq20 bh _).mono ?_
  rintro en v2 ⟨⟨r, rfl, hr⟩, hb2⟩
  replace Xo : Hid _ := Xo.out.below hb2
  replace hbw := Below.on hbw hb2
  clear hb2
  cases r
  · clear hr
    obtain ⟨co0, co1, co2, co3, co4, fo0, fo1, fo2, fo3, fo4⟩ := Xo.out
    have hneo : go < v2.heap.size := World.block_lt_of_cell? v2 _ co0
    go_wp2_with fail
    clear co0 co1 co2 co3 co4 fo0 fo1 fo2 fo3 fo4 hneo
    go_ret
    exact ⟨rfl, hbw⟩
  have HC2 := Hid.mk9 (hr rfl)
  clear hr
  obtain ⟨co0, co1, co2, co3, co4, fo0, fo1, fo2, fo3, fo4⟩ := Xo.out
  have hneo : go < v2.heap.size := World.block_lt_of_cell? v2 _ co0
  go_wp2_with fail
  clear co0 co1 co2 co3 co4 fo0 fo1 fo2 fo3 fo4 hneo
  refine (fit20q bh bl HL.out.2.2.1 HL.out.2.2.2 _).mono ?_
  rintro en v3 ⟨⟨r, rfl, hr⟩, hb3⟩
  replace Xo : Hid _ := Xo.out.below hb3
  replace hbw := Below.on hbw hb3
  clear hb3
  cases r
  · clear hr
    obtain ⟨co0, co1, co2, co3, co4, fo0, fo1, fo2, fo3, fo4⟩ := Xo.out
    have hneo : go < v3.heap.size := World.block_lt_of_cell? v3 _ co0
    go_wp2_with fail
    clear co0 co1 co2 co3 co4 fo0 fo1 fo2 fo3 fo4 hneo
    go_ret
    exact ⟨rfl, hbw⟩
  have HC3 := Hid.mk9 (hr rfl)
  clear hr
  obtain ⟨co0, co1, co2, co3, co4, fo0, fo1, fo2, fo3, fo4⟩ := Xo.out
  have hneo : go < v3.heap.size := World.block_lt_of_cell? v3 _ co0
  go_wp2_with fail
  clear co0 co1 co2 co3 co4 fo0 fo1 fo2 fo3 fo4 hneo
  refine (sum20 _).mono ?_
  rintro e v4 ⟨v, rfl, hv, hb4⟩
  obtain ⟨s4, g4, m4, rfl, hg4, hz4, hl4⟩ := hv
  try clear hv
  have HN4 : Hid (v3.heap.size ≤ g4) := hg4
  have HB4 : Hid (v3.heap.size ≤ v4.heap.size) := hb4.size
  replace Xo : Hid _ := Xo.out.below hb4
  replace hbw := Below.on hbw hb4
  clear hb4
  have Z4 : Hid (ZR v4 s4 (some ⟨g4, 0, none⟩) m4 (ux ah + ux al)) := hz4
  have HL4 : Hid (m4 ≤ 2201) := hl4
  clear hz4 hl4 hg4
  obtain ⟨co0, co1, co2, co3, co4, fo0, fo1, fo2, fo3, fo4⟩ := Xo.out
  have hneo : go < v4.heap.size := World.block_lt_of_cell? v4 _ co0
  go_wp2_with fail
  clear co0 co1 co2 co3 co4 fo0 fo1 fo2 fo3 fo4 hneo
  refine (one20s _).mono ?_
  rintro e v5 ⟨v, rfl, hv, hb5⟩
  obtain ⟨s5, g5, m5, rfl, hg5, hz5, hl5⟩ := hv
  try clear hv
  have HN5 : Hid (v4.heap.size ≤ g5) := hg5
  have HB5 : Hid (v4.heap.size ≤ v5.heap.size) := hb5.size
  replace Xo : Hid _ := Xo.out.below hb5
  replace Z4 : Hid _ := Z4.out.below hb5
  replace hbw := Below.on hbw hb5
  clear hb5
  have Z5 : Hid (ZR v5 s5 (some ⟨g5, 0, none⟩) m5 (iv false (2 ^ OneE))) := hz5
  have HL5 : Hid (m5 ≤ 2000) := hl5
  clear hz5 hl5 hg5
  obtain ⟨co0, co1, co2, co3, co4, fo0, fo1, fo2, fo3, fo4⟩ := Xo.out
  have hneo : go < v5.heap.size := World.block_lt_of_cell? v5 _ co0
  have q1 : ¬ go = v5.heap.size := by omega
  have q2 : ¬ go = v5.heap.size + 1 := by omega
  have q3 : ¬ go = v5.heap.size + 1 + 1 := by omega
  have l1 : go ≤ v5.heap.size := by omega
  have l2 : go ≤ v5.heap.size + 1 := by omega
  have l3 : go < v5.heap.size + 1 := by omega
  have l4 : go < v5.heap.size + 1 + 1 := by omega
  go_wp2_with fail
  clear q1 q2 q3 l1 l2 l3 l4
  clear co0 co1 co2 co3 co4 fo0 fo1 fo2 fo3 fo4 hneo
  have hgo5 : go < v5.heap.size := Xo.out.lt
  have HZ4 : Hid (ZR v5 s4 (some ⟨g4, 0, none⟩) m4 (ux ah + ux al) ∧ ZR v5 s5 (some ⟨g5, 0, none⟩) m5 (iv false (2 ^ OneE))) := ⟨Z4.out, Z5.out⟩
  clear Z4
  clear Z5
  have hbu : Below v5.heap.size v5 v5 := Below.refl _ _
  obtain ⟨W5, hW5⟩ : ∃ W9, W9 = (((v5.alloc (.cells #[.bool s4, .slice (some ⟨g4, 0, none⟩) m4 m4] 87)).alloc (.cells #[.bool false, .slice none 0 0] 87)).alloc (.cells #[.bool s5, .slice (some ⟨g5, 0, none⟩) m5 m5] 87)) := ⟨_, rfl⟩
  have Xp0 : Hid (Box W5 (v5.heap.size) (.bool s4) (.slice (some ⟨g4, 0, none⟩) m4 m4)) := by rw [hW5]; exact ⟨by go_simp, by go_simp, by go_simp, by go_simp⟩
  have Xq0 : Hid (Box W5 (v5.heap.size + 1) (.bool false) (.slice none 0 0)) := by rw [hW5]; exact ⟨by go_simp, by go_simp, by go_simp, by go_simp⟩
  have Xu0 : Hid (Box W5 (v5.heap.size + 1 + 1) (.bool s5) (.slice (some ⟨g5, 0, none⟩) m5 m5)) := by rw [hW5]; exact ⟨by go_simp, by go_simp, by go_simp, by go_simp⟩
  have hbn : Below v5.heap.size v5 W5 := by rw [hW5]; exact below3 v5 _ _ _
  rw [← hW5]
  clear hW5
  obtain ⟨gu, hgu⟩ : ∃ g, g = v5.heap.size + 1 + 1 := ⟨_, rfl⟩
  have HGu : Hid (w.heap.size ≤ gu) := by rw [hgu]; have := hbw.size; show _ ≤ _; omega
  rw [← hgu] at Xu0
  try rw [← hgu]
  obtain ⟨gq, hgq⟩ : ∃ g, g = v5.heap.size + 1 := ⟨_, rfl⟩
  have HGq : Hid (w.heap.size ≤ gq) := by rw [hgq]; have := hbw.size; show _ ≤ _; omega
  rw [← hgq] at Xq0
  try rw [← hgq]
  obtain ⟨gp, hgp⟩ : ∃ g, g = v5.heap.size := ⟨_, rfl⟩
  have HGp : Hid (w.heap.size ≤ gp) := by rw [hgp]; have := hbw.size; show _ ≤ _; omega
  rw [← hgp] at Xp0
  try rw [← hgp]
  have HGQ : Hid ((go ≠ gq ∧ gp ≠ gq ∧ gu ≠ gq) ∧ v5.heap.size ≤ gq) := by rw [hgp, hgq, hgu]; exact ⟨⟨by omega, by omega, by omega⟩, by omega⟩
  clear hgp hgq hgu
  have hbu' := Below.on hbu hbn
  clear hbu
  have hbu := hbu'
  clear hbu'
  replace Xo : Hid _ := Xo.out.below hbn
  replace hbw := Below.on hbw hbn
  clear hbn
  have Xp := Xp0
  clear Xp0
  have Xq := Xq0
  clear Xq0
  have Xu := Xu0
  clear Xu0
  clear hgo5
  have HQ5 : Hid (gq < W5.heap.size) := Xq.out.lt
  refine (sum20 _).mono ?_
  rintro e v6 ⟨v, rfl, hv, hb6⟩
  obtain ⟨s6, g6, m6, rfl, hg6, hz6, hl6⟩ := hv
  try clear hv
  have HN6 : Hid (W5.heap.size ≤ g6) := hg6
  have HB6 : Hid (W5.heap.size ≤ v6.heap.size) := hb6.size
  have hbu' := Below.on hbu hb6
  clear hbu
  have hbu := hbu'
  clear hbu'
  replace Xo : Hid _ := Xo.out.below hb6
  replace Xp : Hid _ := Xp.out.below hb6
  replace Xq : Hid _ := Xq.out.below hb6
  replace Xu : Hid _ := Xu.out.below hb6
  replace hbw := Below.on hbw hb6
  clear hb6
  have Z6 : Hid (ZR v6 s6 (some ⟨g6, 0, none⟩) m6 (ux bh + ux bl)) := hz6
  have HL6 : Hid (m6 ≤ 2201) := hl6
  clear hz6 hl6 hg6
  obtain ⟨⟨q1, q2, q3⟩, q4⟩ := HGQ.out
  have q5 := Ne.symm q1
  have q6 := Ne.symm q2
  have q7 := Ne.symm q3
  obtain ⟨co0, co1, co2, co3, co4, fo0, fo1, fo2, fo3, fo4⟩ := Xo.out
  have hneo : go < v6.heap.size := World.block_lt_of_cell? v6 _ co0
  obtain ⟨cp0, cp1, fp0, fp1⟩ := Xp.out
  have hnep := Xp.out.lt
  obtain ⟨cq0, cq1, fq0, fq1⟩ := Xq.out
  have hneq := Xq.out.lt
  obtain ⟨cu0, cu1, fu0, fu1⟩ := Xu.out
  have hneu := Xu.out.lt
  go_wp2_with fail
  obtain ⟨W6, hW6⟩ : ∃ W9, W9 = ((v6.setCell ⟨gq, 0, none⟩ (.bool s6)).setCell ⟨gq, 1, none⟩ (.slice (some ⟨g6, 0, none⟩) m6 m6)) := ⟨_, rfl⟩
  rw [← hW6]
  have Yo : Hid (B5q W6 go (.int .i64 12) (U ah) (U al) (U bh) (U bl)) := by rw [hW6]; exact ⟨by go_simp, by go_simp, by go_simp, by go_simp, by go_simp, by go_simp, by go_simp, by go_simp, by go_simp, by go_simp⟩
  have Yp : Hid (Box W6 gp (.bool s4) (.slice (some ⟨g4, 0, none⟩) m4 m4)) := by rw [hW6]; exact ⟨by go_simp, by go_simp, by go_simp, by go_simp⟩
  have Yu : Hid (Box W6 gu (.bool s5) (.slice (some ⟨g5, 0, none⟩) m5 m5)) := by rw [hW6]; exact ⟨by go_simp, by go_simp, by go_simp, by go_simp⟩
  have Yq : Hid (Box W6 gq (.bool s6) (.slice (some ⟨g6, 0, none⟩) m6 m6)) := by rw [hW6]; exact ⟨by go_simp, by go_simp, by go_simp, by go_simp⟩
  clear co0 co1 co2 co3 co4 fo0 fo1 fo2 fo3 fo4 hneo
  clear cp0 cp1 fp0 fp1 hnep
  clear cq0 cq1 fq0 fq1 hneq
  clear cu0 cu1 fu0 fu1 hneu
  have HZ46 : Hid (ZR W6 s4 (some ⟨g4, 0, none⟩) m4 (ux ah + ux al) ∧ ZR W6 s6 (some ⟨g6, 0, none⟩) m6 (ux bh + ux bl) ∧ ZR W6 s5 (some ⟨g5, 0, none⟩) m5 (iv false (2 ^ OneE))) := by
    have hne : g6 ≠ gq := by have h1 := HN6.out; have h2 := HQ5.out; omega
    rw [hW6]
    exact ⟨HZ4.out.1.below (bSet (bSet hbu _ _ _ q4) _ _ _ q4), (Z6.out.set _ _ _ hne).set _ _ _ hne, HZ4.out.2.below (bSet (bSet hbu _ _ _ q4) _ _ _ q4)⟩
  have HB6 : Hid (Below w.heap.size w W6) := by rw [hW6]; exact bSet (bSet hbw _ _ _ HGq.out) _ _ _ HGq.out
  clear hW6 hbw hbu q1 q2 q3 q4 q5 q6 q7 Xo Xp Xq Xu Z6 HZ4
  have hbw : Below W6.heap.size W6 W6 := Below.refl _ _
  have Xo := Yo
  have Xp := Yp
  have Xq := Yq
  have Xu := Yu
  clear Yo Yp Yq Yu
  have P1 := lpair ah al
  have P2 := lpair bh bl
  obtain ⟨V1, hV1⟩ : ∃ W1, W1 = W6.drew := ⟨_, rfl⟩
  have hbd : Below W6.heap.size W6 V1 := by rw [hV1]; exact bDrew1 (Below.refl _ _)
  replace Xo : Hid _ := Xo.out.below hbd
  replace Xp : Hid _ := Xp.out.below hbd
  replace Xq : Hid _ := Xq.out.below hbd
  replace Xu : Hid _ := Xu.out.below hbd
  replace hbw := Below.on hbw hbd
  clear hbd
  have HJ : Hid ((fun W' : World => W'.cell? ⟨go, 1, none⟩ = some (U ah) ∧ W'.cell? ⟨go, 2, none⟩ = some (U al) ∧ W'.cell? ⟨go, 3, none⟩ = some (U bh) ∧ W'.cell? ⟨go, 4, none⟩ = some (U bl)) V1) := ⟨Xo.out.c1, Xo.out.c2, Xo.out.c3, Xo.out.c4⟩
  refine wp_region_J (fun W' => W'.cell? ⟨go, 1, none⟩ = some (U ah) ∧ W'.cell? ⟨go, 2, none⟩ = some (U al) ∧ W'.cell? ⟨go, 3, none⟩ = some (U bh) ∧ W'.cell? ⟨go, 4, none⟩ = some (U bl)) (by kernel_rfl) ?_
  rw [← hV1]
  clear hV1
  refine wpJ_tq 0 rfl HJ.out ?_
  refine wpJ_tq 1 rfl HJ.out ?_
  refine wpJ_tq 3 rfl HJ.out ?_
  refine wpJ_tq 4 rfl HJ.out ?_
  go_simp
  refine wpJ_nodes fun WP hWP L0 a0 hL ha => ?_
  have N2xy : ∀ (gx : Nat) (gy : Nat) (W' : World), B5q W' go (.int .i64 12) (U ah) (U al) (U bh) (U bl) ∧ Box W' gp (.bool s4) (.slice (some ⟨g4, 0, none⟩) m4 m4) ∧ Box W' gq (.bool s6) (.slice (some ⟨g6, 0, none⟩) m6 m6) ∧ Box W' gu (.bool s5) (.slice (some ⟨g5, 0, none⟩) m5 m5) ∧ Below W6.heap.size W6 W' ∧ Box W' gx (Fv 0) (Fv 0) ∧ W6.heap.size ≤ gx ∧ gx ≠ go ∧ gx ≠ gp ∧ gx ≠ gq ∧ gx ≠ gu ∧ Box W' gy (Fv 0) (Fv 0) ∧ W6.heap.size ≤ gy ∧ gy ≠ go ∧ gy ≠ gp ∧ gy ≠ gq ∧ gy ≠ gu ∧ gx ≠ gy → WP 2 ((((L0.setIfInBounds 2 true).setIfInBounds 5 true).setIfInBounds 6 true).setIfInBounds 7 true) ((((a0.put (some 95) (.agg #[Fv ah, Fv al])).put (some 98) (.agg #[Fv bh, Fv bl])).put (some 7) (.pointer (some ⟨gx, 0, none⟩))).put (some 8) (.pointer (some ⟨gy, 0, none⟩))) W' := by
    rintro gx gy W' ⟨xo, xp, xq, xu, hbw, xx, hgx, dxo, dxp, dxq, dxu, xy, hgy, dyo, dyp, dyq, dyu, dd⟩
    subst hWP hL ha
    have Hxo := Hid.mk9 xo
    have Hxp := Hid.mk9 xp
    have Hxq := Hid.mk9 xq
    have Hxu := Hid.mk9 xu
    have Hxx := Hid.mk9 xx
    have Hhgx := Hid.mk9 hgx
    have Hdxo := Hid.mk9 dxo
    have Hdxp := Hid.mk9 dxp
    have Hdxq := Hid.mk9 dxq
    have Hdxu := Hid.mk9 dxu
    have Hxy := Hid.mk9 xy
    have Hhgy := Hid.mk9 hgy
    have Hdyo := Hid.mk9 dyo
    have Hdyp := Hid.mk9 dyp
    have Hdyq := Hid.mk9 dyq
    have Hdyu := Hid.mk9 dyu
    have Hdd := Hid.mk9 dd
    clear xo xp xq xu xx hgx dxo dxp dxq dxu xy hgy dyo dyp dyq dyu dd
    go_simp
    have Xo := Hxo
    have Xp := Hxp
    have Xq := Hxq
    have Xu := Hxu
    have Xx := Hxx
    have Xy := Hxy
    clear Hxo Hxp Hxq Hxu Hxx Hxy
    have exo := Hdxo.out
    have exp := Hdxp.out
    have exq := Hdxq.out
    have exu := Hdxu.out
    have eyo := Hdyo.out
    have eyp := Hdyp.out
    have eyq := Hdyq.out
    have eyu := Hdyu.out
    have fxo := Ne.symm exo
    have fxp := Ne.symm exp
    have fxq := Ne.symm exq
    have fxu := Ne.symm exu
    have fyo := Ne.symm eyo
    have fyp := Ne.symm eyp
    have fyq := Ne.symm eyq
    have fyu := Ne.symm eyu
    have e5 := Hdd.out
    have f5 := Ne.symm e5
    have HGx : Hid (W6.heap.size ≤ gx) := Hhgx.out
    have HGy : Hid (W6.heap.size ≤ gy) := Hhgy.out
    obtain ⟨co0, co1, co2, co3, co4, fo0, fo1, fo2, fo3, fo4⟩ := Xo.out
    have hneo : go < W'.heap.size := World.block_lt_of_cell? W' _ co0
    obtain ⟨cx0, cx1, fx0, fx1⟩ := Xx.out
    have hnex := Xx.out.lt
    obtain ⟨cy0, cy1, fy0, fy1⟩ := Xy.out
    have hney := Xy.out.lt
    refine wpJ_on 8 rfl fun KJ hK => ?_
    go_simp
    refine hK _ _ ⟨by go_simp, by go_simp, by go_simp, by go_simp⟩ ?_
    clear hK
    refine wpJ_on 9 rfl fun KJ hK => ?_
    go_simp
    refine hK _ _ ⟨by go_simp, by go_simp, by go_simp, by go_simp⟩ ?_
    clear hK
    refine wpJ_done (by kernel_rfl) ?_ _
    clear co0 co1 co2 co3 co4 fo0 fo1 fo2 fo3 fo4 hneo
    clear cx0 cx1 fx0 fx1 hnex
    clear cy0 cy1 fy0 fy1 hney
    obtain ⟨co0, co1, co2, co3, co4, fo0, fo1, fo2, fo3, fo4⟩ := Xo.out
    have hneo : go < W'.heap.size := World.block_lt_of_cell? W' _ co0
    obtain ⟨cp0, cp1, fp0, fp1⟩ := Xp.out
    have hnep := Xp.out.lt
    obtain ⟨cq0, cq1, fq0, fq1⟩ := Xq.out
    have hneq := Xq.out.lt
    obtain ⟨cu0, cu1, fu0, fu1⟩ := Xu.out
    have hneu := Xu.out.lt
    obtain ⟨cx0, cx1, fx0, fx1⟩ := Xx.out
    have hnex := Xx.out.lt
    obtain ⟨cy0, cy1, fy0, fy1⟩ := Xy.out
    have hney := Xy.out.lt
    obtain ⟨Wy, hWy⟩ : ∃ W9, W9 = ((((W'.setCell ⟨gx, 0, none⟩ (Fv ah)).setCell ⟨gx, 1, none⟩ (Fv al)).setCell ⟨gy, 0, none⟩ (Fv bh)).setCell ⟨gy, 1, none⟩ (Fv bl)) := ⟨_, rfl⟩
    have Yx : Hid (Box Wy gx (Fv ah) (Fv al)) := by rw [hWy]; exact ⟨by go_simp, by go_simp, by go_simp, by go_simp⟩
    have Yy : Hid (Box Wy gy (Fv bh) (Fv bl)) := by rw [hWy]; exact ⟨by go_simp, by go_simp, by go_simp, by go_simp⟩
    have Yo : Hid (B5q Wy go (.int .i64 12) (U ah) (U al) (U bh) (U bl)) := by rw [hWy]; exact ⟨by go_simp, by go_simp, by go_simp, by go_simp, by go_simp, by go_simp, by go_simp, by go_simp, by go_simp, by go_simp⟩
    have Yp : Hid (Box Wy gp (.bool s4) (.slice (some ⟨g4, 0, none⟩) m4 m4)) := by rw [hWy]; exact ⟨by go_simp, by go_simp, by go_simp, by go_simp⟩
    have Yq : Hid (Box Wy gq (.bool s6) (.slice (some ⟨g6, 0, none⟩) m6 m6)) := by rw [hWy]; exact ⟨by go_simp, by go_simp, by go_simp, by go_simp⟩
    have Yu : Hid (Box Wy gu (.bool s5) (.slice (some ⟨g5, 0, none⟩) m5 m5)) := by rw [hWy]; exact ⟨by go_simp, by go_simp, by go_simp, by go_simp⟩
    clear co0 co1 co2 co3 co4 fo0 fo1 fo2 fo3 fo4 hneo
    clear cp0 cp1 fp0 fp1 hnep
    clear cq0 cq1 fq0 fq1 hneq
    clear cu0 cu1 fu0 fu1 hneu
    clear cx0 cx1 fx0 fx1 hnex
    clear cy0 cy1 fy0 fy1 hney
    have hbw2 : Below W6.heap.size W6 Wy := by rw [hWy]; exact bSet (bSet (bSet (bSet hbw _ _ _ HGx.out) _ _ _ HGx.out) _ _ _ HGy.out) _ _ _ HGy.out
    rw [← hWy]
    clear hWy hbw Xo Xp Xq Xu Xx Xy exo fxo exp fxp exq fxq exu fxu eyo fyo eyp fyp eyq fyq eyu fyu e5 f5
    have hbw := Below.on HB6.out hbw2
    have ZA : Hid (ZR Wy s4 (some ⟨g4, 0, none⟩) m4 (ux ah + ux al)) := HZ46.out.1.below hbw2
    have ZB : Hid (ZR Wy s6 (some ⟨g6, 0, none⟩) m6 (ux bh + ux bl)) := HZ46.out.2.1.below hbw2
    have ZU : Hid (ZR Wy s5 (some ⟨g5, 0, none⟩) m5 (iv false (2 ^ OneE))) := HZ46.out.2.2.below hbw2
    clear hbw2
    have Xo := Yo
    have Xp := Yp
    have Xq := Yq
    have Xu := Yu
    have Xx := Yx
    have Xy := Yy
    clear Yo Yp Yq Yu Yx Yy
    obtain ⟨co0, co1, co2, co3, co4, fo0, fo1, fo2, fo3, fo4⟩ := Xo.out
    have hneo : go < Wy.heap.size := World.block_lt_of_cell? Wy _ co0
    obtain ⟨cq0, cq1, fq0, fq1⟩ := Xq.out
    have hneq := Xq.out.lt
    go_wp2_with fail
    clear co0 co1 co2 co3 co4 fo0 fo1 fo2 fo3 fo4 hneo
    clear cq0 cq1 fq0 fq1 hneq
    refine (rsign04 s6 ZB.out).mono ?_
    rintro e v14 ⟨rfl, hb14⟩
    replace Xo : Hid _ := Xo.out.below hb14
    replace Xp : Hid _ := Xp.out.below hb14
    replace Xq : Hid _ := Xq.out.below hb14
    replace Xu : Hid _ := Xu.out.below hb14
    replace Xx : Hid _ := Xx.out.below hb14
    replace Xy : Hid _ := Xy.out.below hb14
    replace ZA : Hid _ := ZA.out.below hb14
    replace ZB : Hid _ := ZB.out.below hb14
    replace ZU : Hid _ := ZU.out.below hb14
    replace hbw := Below.on hbw hb14
    clear hb14
    by_cases hb0 : ux bh + ux bl = 0
    · rw [show sgnI (ux bh + ux bl) = 0 by rw [hb0]; rfl]
      clear hb0
      go_wp2_with fail
      go_ret
      exact ⟨rfl, hbw⟩
    have hs9 : (sgnI (ux bh + ux bl) == 0) = false := by
      rcases Int.lt_trichotomy (ux bh + ux bl) 0 with q | q | q
      · rw [show sgnI (ux bh + ux bl) = -1 from if_pos q]; rfl
      · exact absurd q hb0
      · rw [show sgnI (ux bh + ux bl) = 1 by unfold sgnI; rw [if_neg (by omega), if_neg (by omega)]]; rfl
    have HB0 : Hid (ux bh + ux bl ≠ 0) := hb0
    clear hb0
    obtain ⟨sg, hsg⟩ : ∃ sg, sg = sgnI (ux bh + ux bl) := ⟨_, rfl⟩
    rw [← hsg] at hs9 ⊢
    clear hsg
    go_wp2_with fail
    clear hs9
    obtain ⟨Wv, hWv⟩ : ∃ W1, W1 = v14.drew := ⟨_, rfl⟩
    have hbd : Below v14.heap.size v14 Wv := by rw [hWv]; exact bDrew1 (Below.refl _ _)
    replace Xo : Hid _ := Xo.out.below hbd
    replace Xp : Hid _ := Xp.out.below hbd
    replace Xq : Hid _ := Xq.out.below hbd
    replace Xu : Hid _ := Xu.out.below hbd
    replace Xx : Hid _ := Xx.out.below hbd
    replace Xy : Hid _ := Xy.out.below hbd
    replace ZA : Hid _ := ZA.out.below hbd
    replace ZB : Hid _ := ZB.out.below hbd
    replace ZU : Hid _ := ZU.out.below hbd
    replace hbw := Below.on hbw hbd
    clear hbd
    have HJ : Hid ((fun W' : World => W'.cell? ⟨gx, 0, none⟩ = some (Fv ah) ∧ W'.cell? ⟨gx, 1, none⟩ = some (Fv al) ∧ W'.cell? ⟨gy, 0, none⟩ = some (Fv bh) ∧ W'.cell? ⟨gy, 1, none⟩ = some (Fv bl) ∧ W'.cell? ⟨gp, 0, none⟩ = some (.bool s4) ∧ W'.cell? ⟨gp, 1, none⟩ = some (.slice (some ⟨g4, 0, none⟩) m4 m4) ∧ W'.cell? ⟨gq, 0, none⟩ = some (.bool s6) ∧ W'.cell? ⟨gq, 1, none⟩ = some (.slice (some ⟨g6, 0, none⟩) m6 m6) ∧ W'.cell? ⟨gu, 0, none⟩ = some (.bool s5) ∧ W'.cell? ⟨gu, 1, none⟩ = some (.slice (some ⟨g5, 0, none⟩) m5 m5)) Wv) := ⟨Xx.out.c0, Xx.out.c1, Xy.out.c0, Xy.out.c1, Xp.out.c0, Xp.out.c1, Xq.out.c0, Xq.out.c1, Xu.out.c0, Xu.out.c1⟩
    refine wp_region_J (fun W' => W'.cell? ⟨gx, 0, none⟩ = some (Fv ah) ∧ W'.cell? ⟨gx, 1, none⟩ = some (Fv al) ∧ W'.cell? ⟨gy, 0, none⟩ = some (Fv bh) ∧ W'.cell? ⟨gy, 1, none⟩ = some (Fv bl) ∧ W'.cell? ⟨gp, 0, none⟩ = some (.bool s4) ∧ W'.cell? ⟨gp, 1, none⟩ = some (.slice (some ⟨g4, 0, none⟩) m4 m4) ∧ W'.cell? ⟨gq, 0, none⟩ = some (.bool s6) ∧ W'.cell? ⟨gq, 1, none⟩ = some (.slice (some ⟨g6, 0, none⟩) m6 m6) ∧ W'.cell? ⟨gu, 0, none⟩ = some (.bool s5) ∧ W'.cell? ⟨gu, 1, none⟩ = some (.slice (some ⟨g5, 0, none⟩) m5 m5)) (by kernel_rfl) ?_
    rw [← hWv]
    clear hWv
    refine wpJ_tq 0 rfl HJ.out ?_
    refine wpJ_tq 1 rfl HJ.out ?_
    refine wpJ_tq 4 rfl HJ.out ?_
    refine wpJ_tq 5 rfl HJ.out ?_
    refine wpJ_tq 7 rfl HJ.out ?_
    refine wpJ_on 2 rfl fun KJ hK => ?_
    go_simp
    refine (ddDiv_f HC1.out.1 HC3.out.1 HC1.out.2 HC3.out.2 (hi_ne HC3.out.1 HB0.out) _).mono ?_
    rintro e v9 ⟨s9, r9, rfl, hd9, hq9, hb9⟩
    have HR9 := Hid.mk9 (And.intro hd9 (near_div hq9))
    clear hd9 hq9
    replace Xo : Hid _ := Xo.out.below hb9
    replace Xp : Hid _ := Xp.out.below hb9
    replace Xq : Hid _ := Xq.out.below hb9
    replace Xu : Hid _ := Xu.out.below hb9
    replace Xx : Hid _ := Xx.out.below hb9
    replace Xy : Hid _ := Xy.out.below hb9
    replace ZA : Hid _ := ZA.out.below hb9
    replace ZB : Hid _ := ZB.out.below hb9
    replace ZU : Hid _ := ZU.out.below hb9
    replace hbw := Below.on hbw hb9
    clear hb9
    refine hK _ _ ⟨Xx.out.c0, Xx.out.c1, Xy.out.c0, Xy.out.c1, Xp.out.c0, Xp.out.c1, Xq.out.c0, Xq.out.c1, Xu.out.c0, Xu.out.c1⟩ ?_
    clear hK
    refine wpJ_on 3 rfl fun KJ hK => ?_
    go_simp
    refine (lbits s9 r9 _).mono ?_
    rintro e v10 ⟨rfl, hb10⟩
    replace Xo : Hid _ := Xo.out.below hb10
    replace Xp : Hid _ := Xp.out.below hb10
    replace Xq : Hid _ := Xq.out.below hb10
    replace Xu : Hid _ := Xu.out.below hb10
    replace Xx : Hid _ := Xx.out.below hb10
    replace Xy : Hid _ := Xy.out.below hb10
    replace ZA : Hid _ := ZA.out.below hb10
    replace ZB : Hid _ := ZB.out.below hb10
    replace ZU : Hid _ := ZU.out.below hb10
    replace hbw := Below.on hbw hb10
    clear hb10
    refine hK _ _ ⟨Xx.out.c0, Xx.out.c1, Xy.out.c0, Xy.out.c1, Xp.out.c0, Xp.out.c1, Xq.out.c0, Xq.out.c1, Xu.out.c0, Xu.out.c1⟩ ?_
    clear hK
    refine wpJ_on 6 rfl fun KJ hK => ?_
    go_simp
    refine (rmul04 s4 s5 ZA.out ZU.out (by have := HL4.out; omega) (by have := HL5.out; omega)).mono ?_
    rintro e v11 ⟨v, rfl, hv, hb11⟩
    obtain ⟨s11, g11, m11, rfl, hg11, hz11, hl11⟩ := hv
    try clear hv
    have HN11 : Hid (v10.heap.size ≤ g11) := hg11
    have HB11 : Hid (v10.heap.size ≤ v11.heap.size) := hb11.size
    replace Xo : Hid _ := Xo.out.below hb11
    replace Xp : Hid _ := Xp.out.below hb11
    replace Xq : Hid _ := Xq.out.below hb11
    replace Xu : Hid _ := Xu.out.below hb11
    replace Xx : Hid _ := Xx.out.below hb11
    replace Xy : Hid _ := Xy.out.below hb11
    replace ZA : Hid _ := ZA.out.below hb11
    replace ZB : Hid _ := ZB.out.below hb11
    replace ZU : Hid _ := ZU.out.below hb11
    replace hbw := Below.on hbw hb11
    clear hb11
    have Z11 : Hid (ZR v11 s11 (some ⟨g11, 0, none⟩) m11 ((ux ah + ux al) * iv false (2 ^ OneE))) := hz11
    have HL11 : Hid (m11 ≤ m4 + m5) := hl11
    clear hz11 hl11 hg11
    refine hK _ _ ⟨Xx.out.c0, Xx.out.c1, Xy.out.c0, Xy.out.c1, Xp.out.c0, Xp.out.c1, Xq.out.c0, Xq.out.c1, Xu.out.c0, Xu.out.c1⟩ ?_
    clear hK
    refine wpJ_on 8 rfl fun KJ hK => ?_
    go_simp
    refine (near20 (k := 100) HR9.out.1 Z11.out ZB.out (by have := HL11.out; have := HL4.out; have := HL5.out; omega) (by have := HL6.out; omega) (by decide) HR9.out.2).mono ?_
    rintro e v13 ⟨rfl, hb13⟩
    replace Xo : Hid _ := Xo.out.below hb13
    replace Xp : Hid _ := Xp.out.below hb13
    replace Xq : Hid _ := Xq.out.below hb13
    replace Xu : Hid _ := Xu.out.below hb13
    replace Xx : Hid _ := Xx.out.below hb13
    replace Xy : Hid _ := Xy.out.below hb13
    replace ZA : Hid _ := ZA.out.below hb13
    replace ZB : Hid _ := ZB.out.below hb13
    replace ZU : Hid _ := ZU.out.below hb13
    replace Z11 : Hid _ := Z11.out.below hb13
    replace hbw := Below.on hbw hb13
    clear hb13
    clear HJ
    have HJ : Hid ((fun W' : World => W'.cell? ⟨gx, 0, none⟩ = some (Fv ah) ∧ W'.cell? ⟨gx, 1, none⟩ = some (Fv al) ∧ W'.cell? ⟨gy, 0, none⟩ = some (Fv bh) ∧ W'.cell? ⟨gy, 1, none⟩ = some (Fv bl) ∧ W'.cell? ⟨gp, 0, none⟩ = some (.bool s4) ∧ W'.cell? ⟨gp, 1, none⟩ = some (.slice (some ⟨g4, 0, none⟩) m4 m4) ∧ W'.cell? ⟨gq, 0, none⟩ = some (.bool s6) ∧ W'.cell? ⟨gq, 1, none⟩ = some (.slice (some ⟨g6, 0, none⟩) m6 m6) ∧ W'.cell? ⟨gu, 0, none⟩ = some (.bool s5) ∧ W'.cell? ⟨gu, 1, none⟩ = some (.slice (some ⟨g5, 0, none⟩) m5 m5)) v13) := ⟨Xx.out.c0, Xx.out.c1, Xy.out.c0, Xy.out.c1, Xp.out.c0, Xp.out.c1, Xq.out.c0, Xq.out.c1, Xu.out.c0, Xu.out.c1⟩
    refine hK _ _ HJ.out ?_
    clear hK
    refine wpJ_tq 9 rfl HJ.out ?_
    refine wpJ_done (by kernel_rfl) ?_ _
    clear HJ
    go_wp2_with fail
    go_ret
    exact ⟨rfl, hbw⟩
  have N2x : ∀ (gx : Nat) (W' : World), B5q W' go (.int .i64 12) (U ah) (U al) (U bh) (U bl) ∧ Box W' gp (.bool s4) (.slice (some ⟨g4, 0, none⟩) m4 m4) ∧ Box W' gq (.bool s6) (.slice (some ⟨g6, 0, none⟩) m6 m6) ∧ Box W' gu (.bool s5) (.slice (some ⟨g5, 0, none⟩) m5 m5) ∧ Below W6.heap.size W6 W' ∧ Box W' gx (Fv 0) (Fv 0) ∧ W6.heap.size ≤ gx ∧ gx ≠ go ∧ gx ≠ gp ∧ gx ≠ gq ∧ gx ≠ gu → WP 3 (((L0.setIfInBounds 2 true).setIfInBounds 5 true).setIfInBounds 6 true) (((a0.put (some 95) (.agg #[Fv ah, Fv al])).put (some 98) (.agg #[Fv bh, Fv bl])).put (some 7) (.pointer (some ⟨gx, 0, none⟩))) W' := by
    rintro gx W' ⟨xo, xp, xq, xu, hbw, xx, hgx, dxo, dxp, dxq, dxu⟩
    subst hWP hL ha
    have Hxo := Hid.mk9 xo
    have Hxp := Hid.mk9 xp
    have Hxq := Hid.mk9 xq
    have Hxu := Hid.mk9 xu
    have Hxx := Hid.mk9 xx
    have Hhgx := Hid.mk9 hgx
    have Hdxo := Hid.mk9 dxo
    have Hdxp := Hid.mk9 dxp
    have Hdxq := Hid.mk9 dxq
    have Hdxu := Hid.mk9 dxu
    clear xo xp xq xu xx hgx dxo dxp dxq dxu
    go_simp
    refine wpJ_on 7 rfl fun KJ hK => ?_
    go_simp
    have hb := below1 W' (.cells #[Fv 0, Fv 0] 32)
    refine hK _ _ ⟨(Hxo.out.below hb).c1, (Hxo.out.below hb).c2, (Hxo.out.below hb).c3, (Hxo.out.below hb).c4⟩ ?_
    exact wpJ_same (by kernel_rfl) (by kernel_rfl) (N2xy gx W'.heap.size _ ⟨(Hxo.out.below hb), (Hxp.out.below hb), (Hxq.out.below hb), (Hxu.out.below hb), (Below.on hbw hb), (Hxx.out.below hb), Hhgx.out, Hdxo.out, Hdxp.out, Hdxq.out, Hdxu.out, (Box.new W' _ _ _), hbw.size, (Nat.ne_of_gt Hxo.out.lt), (Nat.ne_of_gt Hxp.out.lt), (Nat.ne_of_gt Hxq.out.lt), (Nat.ne_of_gt Hxu.out.lt), (Nat.ne_of_lt Hxx.out.lt)⟩)
  have N2y : ∀ (gy : Nat) (W' : World), B5q W' go (.int .i64 12) (U ah) (U al) (U bh) (U bl) ∧ Box W' gp (.bool s4) (.slice (some ⟨g4, 0, none⟩) m4 m4) ∧ Box W' gq (.bool s6) (.slice (some ⟨g6, 0, none⟩) m6 m6) ∧ Box W' gu (.bool s5) (.slice (some ⟨g5, 0, none⟩) m5 m5) ∧ Below W6.heap.size W6 W' ∧ Box W' gy (Fv 0) (Fv 0) ∧ W6.heap.size ≤ gy ∧ gy ≠ go ∧ gy ≠ gp ∧ gy ≠ gq ∧ gy ≠ gu → WP 3 (((L0.setIfInBounds 2 true).setIfInBounds 5 true).setIfInBounds 7 true) (((a0.put (some 95) (.agg #[Fv ah, Fv al])).put (some 98) (.agg #[Fv bh, Fv bl])).put (some 8) (.pointer (some ⟨gy, 0, none⟩))) W' := by
    rintro gy W' ⟨xo, xp, xq, xu, hbw, xy, hgy, dyo, dyp, dyq, dyu⟩
    subst hWP hL ha
    have Hxo := Hid.mk9 xo
    have Hxp := Hid.mk9 xp
    have Hxq := Hid.mk9 xq
    have Hxu := Hid.mk9 xu
    have Hxy := Hid.mk9 xy
    have Hhgy := Hid.mk9 hgy
    have Hdyo := Hid.mk9 dyo
    have Hdyp := Hid.mk9 dyp
    have Hdyq := Hid.mk9 dyq
    have Hdyu := Hid.mk9 dyu
    clear xo xp xq xu xy hgy dyo dyp dyq dyu
    go_simp
    refine wpJ_on 6 rfl fun KJ hK => ?_
    go_simp
    have hb := below1 W' (.cells #[Fv 0, Fv 0] 32)
    refine hK _ _ ⟨(Hxo.out.below hb).c1, (Hxo.out.below hb).c2, (Hxo.out.below hb).c3, (Hxo.out.below hb).c4⟩ ?_
    exact wpJ_same (by kernel_rfl) (by kernel_rfl) (N2xy W'.heap.size gy _ ⟨(Hxo.out.below hb), (Hxp.out.below hb), (Hxq.out.below hb), (Hxu.out.below hb), (Below.on hbw hb), (Box.new W' _ _ _), hbw.size, (Nat.ne_of_gt Hxo.out.lt), (Nat.ne_of_gt Hxp.out.lt), (Nat.ne_of_gt Hxq.out.lt), (Nat.ne_of_gt Hxu.out.lt), (Hxy.out.below hb), Hhgy.out, Hdyo.out, Hdyp.out, Hdyq.out, Hdyu.out, (Nat.ne_of_gt Hxy.out.lt)⟩)
  have N2 : ∀ (W' : World), B5q W' go (.int .i64 12) (U ah) (U al) (U bh) (U bl) ∧ Box W' gp (.bool s4) (.slice (some ⟨g4, 0, none⟩) m4 m4) ∧ Box W' gq (.bool s6) (.slice (some ⟨g6, 0, none⟩) m6 m6) ∧ Box W' gu (.bool s5) (.slice (some ⟨g5, 0, none⟩) m5 m5) ∧ Below W6.heap.size W6 W' → WP 4 ((L0.setIfInBounds 2 true).setIfInBounds 5 true) ((a0.put (some 95) (.agg #[Fv ah, Fv al])).put (some 98) (.agg #[Fv bh, Fv bl])) W' := by
    rintro  W' ⟨xo, xp, xq, xu, hbw⟩
    subst hWP hL ha
    have Hxo := Hid.mk9 xo
    have Hxp := Hid.mk9 xp
    have Hxq := Hid.mk9 xq
    have Hxu := Hid.mk9 xu
    clear xo xp xq xu
    go_simp
    refine wpJ_two (i := 6) (k := 7) (by kernel_rfl) rfl rfl (by kernel_rfl) (by kernel_rfl) (fun KJ hK => ?_) (fun KJ hK => ?_)
    · go_simp
      have hb := below1 W' (.cells #[Fv 0, Fv 0] 32)
      refine hK _ _ ⟨(Hxo.out.below hb).c1, (Hxo.out.below hb).c2, (Hxo.out.below hb).c3, (Hxo.out.below hb).c4⟩ ?_
      exact wpJ_same (by kernel_rfl) (by kernel_rfl) (N2x W'.heap.size _ ⟨(Hxo.out.below hb), (Hxp.out.below hb), (Hxq.out.below hb), (Hxu.out.below hb), (Below.on hbw hb), (Box.new W' _ _ _), hbw.size, (Nat.ne_of_gt Hxo.out.lt), (Nat.ne_of_gt Hxp.out.lt), (Nat.ne_of_gt Hxq.out.lt), (Nat.ne_of_gt Hxu.out.lt)⟩)
    · go_simp
      have hb := below1 W' (.cells #[Fv 0, Fv 0] 32)
      refine hK _ _ ⟨(Hxo.out.below hb).c1, (Hxo.out.below hb).c2, (Hxo.out.below hb).c3, (Hxo.out.below hb).c4⟩ ?_
      exact wpJ_same (by kernel_rfl) (by kernel_rfl) (N2y W'.heap.size _ ⟨(Hxo.out.below hb), (Hxp.out.below hb), (Hxq.out.below hb), (Hxu.out.below hb), (Below.on hbw hb), (Box.new W' _ _ _), hbw.size, (Nat.ne_of_gt Hxo.out.lt), (Nat.ne_of_gt Hxp.out.lt), (Nat.ne_of_gt Hxq.out.lt), (Nat.ne_of_gt Hxu.out.lt)⟩)
  have N1xy : ∀ (gx : Nat) (gy : Nat) (W' : World), B5q W' go (.int .i64 12) (U ah) (U al) (U bh) (U bl) ∧ Box W' gp (.bool s4) (.slice (some ⟨g4, 0, none⟩) m4 m4) ∧ Box W' gq (.bool s6) (.slice (some ⟨g6, 0, none⟩) m6 m6) ∧ Box W' gu (.bool s5) (.slice (some ⟨g5, 0, none⟩) m5 m5) ∧ Below W6.heap.size W6 W' ∧ Box W' gx (Fv 0) (Fv 0) ∧ W6.heap.size ≤ gx ∧ gx ≠ go ∧ gx ≠ gp ∧ gx ≠ gq ∧ gx ≠ gu ∧ Box W' gy (Fv 0) (Fv 0) ∧ W6.heap.size ≤ gy ∧ gy ≠ go ∧ gy ≠ gp ∧ gy ≠ gq ∧ gy ≠ gu ∧ gx ≠ gy → WP 3 (((L0.setIfInBounds 2 true).setIfInBounds 6 true).setIfInBounds 7 true) (((a0.put (some 95) (.agg #[Fv ah, Fv al])).put (some 7) (.pointer (some ⟨gx, 0, none⟩))).put (some 8) (.pointer (some ⟨gy, 0, none⟩))) W' := by
    rintro gx gy W' ⟨xo, xp, xq, xu, hbw, xx, hgx, dxo, dxp, dxq, dxu, xy, hgy, dyo, dyp, dyq, dyu, dd⟩
    subst hWP hL ha
    have Hxo := Hid.mk9 xo
    have Hxp := Hid.mk9 xp
    have Hxq := Hid.mk9 xq
    have Hxu := Hid.mk9 xu
    have Hxx := Hid.mk9 xx
    have Hhgx := Hid.mk9 hgx
    have Hdxo := Hid.mk9 dxo
    have Hdxp := Hid.mk9 dxp
    have Hdxq := Hid.mk9 dxq
    have Hdxu := Hid.mk9 dxu
    have Hxy := Hid.mk9 xy
    have Hhgy := Hid.mk9 hgy
    have Hdyo := Hid.mk9 dyo
    have Hdyp := Hid.mk9 dyp
    have Hdyq := Hid.mk9 dyq
    have Hdyu := Hid.mk9 dyu
    have Hdd := Hid.mk9 dd
    clear xo xp xq xu xx hgx dxo dxp dxq dxu xy hgy dyo dyp dyq dyu dd
    go_simp
    refine wpJ_on 5 rfl fun KJ hK => ?_
    go_simp
    refine (P2 _).mono ?_
    rintro e W2 ⟨rfl, hb⟩
    refine hK _ _ ⟨(Hxo.out.below hb).c1, (Hxo.out.below hb).c2, (Hxo.out.below hb).c3, (Hxo.out.below hb).c4⟩ ?_
    exact wpJ_same (by kernel_rfl) (by kernel_rfl) (N2xy gx gy W2 ⟨(Hxo.out.below hb), (Hxp.out.below hb), (Hxq.out.below hb), (Hxu.out.below hb), (Below.on hbw hb), (Hxx.out.below hb), Hhgx.out, Hdxo.out, Hdxp.out, Hdxq.out, Hdxu.out, (Hxy.out.below hb), Hhgy.out, Hdyo.out, Hdyp.out, Hdyq.out, Hdyu.out, Hdd.out⟩)
  have N1x : ∀ (gx : Nat) (W' : World), B5q W' go (.int .i64 12) (U ah) (U al) (U bh) (U bl) ∧ Box W' gp (.bool s4) (.slice (some ⟨g4, 0, none⟩) m4 m4) ∧ Box W' gq (.bool s6) (.slice (some ⟨g6, 0, none⟩) m6 m6) ∧ Box W' gu (.bool s5) (.slice (some ⟨g5, 0, none⟩) m5 m5) ∧ Below W6.heap.size W6 W' ∧ Box W' gx (Fv 0) (Fv 0) ∧ W6.heap.size ≤ gx ∧ gx ≠ go ∧ gx ≠ gp ∧ gx ≠ gq ∧ gx ≠ gu → WP 4 ((L0.setIfInBounds 2 true).setIfInBounds 6 true) ((a0.put (some 95) (.agg #[Fv ah, Fv al])).put (some 7) (.pointer (some ⟨gx, 0, none⟩))) W' := by
    rintro gx W' ⟨xo, xp, xq, xu, hbw, xx, hgx, dxo, dxp, dxq, dxu⟩
    subst hWP hL ha
    have Hxo := Hid.mk9 xo
    have Hxp := Hid.mk9 xp
    have Hxq := Hid.mk9 xq
    have Hxu := Hid.mk9 xu
    have Hxx := Hid.mk9 xx
    have Hhgx := Hid.mk9 hgx
    have Hdxo := Hid.mk9 dxo
    have Hdxp := Hid.mk9 dxp
    have Hdxq := Hid.mk9 dxq
    have Hdxu := Hid.mk9 dxu
    clear xo xp xq xu xx hgx dxo dxp dxq dxu
    go_simp
    refine wpJ_two (i := 5) (k := 7) (by kernel_rfl) rfl rfl (by kernel_rfl) (by kernel_rfl) (fun KJ hK => ?_) (fun KJ hK => ?_)
    · go_simp
      refine (P2 _).mono ?_
      rintro e W2 ⟨rfl, hb⟩
      refine hK _ _ ⟨(Hxo.out.below hb).c1, (Hxo.out.below hb).c2, (Hxo.out.below hb).c3, (Hxo.out.below hb).c4⟩ ?_
      exact wpJ_same (by kernel_rfl) (by kernel_rfl) (N2x gx W2 ⟨(Hxo.out.below hb), (Hxp.out.below hb), (Hxq.out.below hb), (Hxu.out.below hb), (Below.on hbw hb), (Hxx.out.below hb), Hhgx.out, Hdxo.out, Hdxp.out, Hdxq.out, Hdxu.out⟩)
    · go_simp
      have hb := below1 W' (.cells #[Fv 0, Fv 0] 32)
      refine hK _ _ ⟨(Hxo.out.below hb).c1, (Hxo.out.below hb).c2, (Hxo.out.below hb).c3, (Hxo.out.below hb).c4⟩ ?_
      exact wpJ_same (by kernel_rfl) (by kernel_rfl) (N1xy gx W'.heap.size _ ⟨(Hxo.out.below hb), (Hxp.out.below hb), (Hxq.out.below hb), (Hxu.out.below hb), (Below.on hbw hb), (Hxx.out.below hb), Hhgx.out, Hdxo.out, Hdxp.out, Hdxq.out, Hdxu.out, (Box.new W' _ _ _), hbw.size, (Nat.ne_of_gt Hxo.out.lt), (Nat.ne_of_gt Hxp.out.lt), (Nat.ne_of_gt Hxq.out.lt), (Nat.ne_of_gt Hxu.out.lt), (Nat.ne_of_lt Hxx.out.lt)⟩)
  have N1y : ∀ (gy : Nat) (W' : World), B5q W' go (.int .i64 12) (U ah) (U al) (U bh) (U bl) ∧ Box W' gp (.bool s4) (.slice (some ⟨g4, 0, none⟩) m4 m4) ∧ Box W' gq (.bool s6) (.slice (some ⟨g6, 0, none⟩) m6 m6) ∧ Box W' gu (.bool s5) (.slice (some ⟨g5, 0, none⟩) m5 m5) ∧ Below W6.heap.size W6 W' ∧ Box W' gy (Fv 0) (Fv 0) ∧ W6.heap.size ≤ gy ∧ gy ≠ go ∧ gy ≠ gp ∧ gy ≠ gq ∧ gy ≠ gu → WP 4 ((L0.setIfInBounds 2 true).setIfInBounds 7 true) ((a0.put (some 95) (.agg #[Fv ah, Fv al])).put (some 8) (.pointer (some ⟨gy, 0, none⟩))) W' := by
    rintro gy W' ⟨xo, xp, xq, xu, hbw, xy, hgy, dyo, dyp, dyq, dyu⟩
    subst hWP hL ha
    have Hxo := Hid.mk9 xo
    have Hxp := Hid.mk9 xp
    have Hxq := Hid.mk9 xq
    have Hxu := Hid.mk9 xu
    have Hxy := Hid.mk9 xy
    have Hhgy := Hid.mk9 hgy
    have Hdyo := Hid.mk9 dyo
    have Hdyp := Hid.mk9 dyp
    have Hdyq := Hid.mk9 dyq
    have Hdyu := Hid.mk9 dyu
    clear xo xp xq xu xy hgy dyo dyp dyq dyu
    go_simp
    refine wpJ_two (i := 5) (k := 6) (by kernel_rfl) rfl rfl (by kernel_rfl) (by kernel_rfl) (fun KJ hK => ?_) (fun KJ hK => ?_)
    · go_simp
      refine (P2 _).mono ?_
      rintro e W2 ⟨rfl, hb⟩
      refine hK _ _ ⟨(Hxo.out.below hb).c1, (Hxo.out.below hb).c2, (Hxo.out.below hb).c3, (Hxo.out.below hb).c4⟩ ?_
      exact wpJ_same (by kernel_rfl) (by kernel_rfl) (N2y gy W2 ⟨(Hxo.out.below hb), (Hxp.out.below hb), (Hxq.out.below hb), (Hxu.out.below hb), (Below.on hbw hb), (Hxy.out.below hb), Hhgy.out, Hdyo.out, Hdyp.out, Hdyq.out, Hdyu.out⟩)
    · go_simp
      have hb := below1 W' (.cells #[Fv 0, Fv 0] 32)
      refine hK _ _ ⟨(Hxo.out.below hb).c1, (Hxo.out.below hb).c2, (Hxo.out.below hb).c3, (Hxo.out.below hb).c4⟩ ?_
      exact wpJ_same (by kernel_rfl) (by kernel_rfl) (N1xy W'.heap.size gy _ ⟨(Hxo.out.below hb), (Hxp.out.below hb), (Hxq.out.below hb), (Hxu.out.below hb), (Below.on hbw hb), (Box.new W' _ _ _), hbw.size, (Nat.ne_of_gt Hxo.out.lt), (Nat.ne_of_gt Hxp.out.lt), (Nat.ne_of_gt Hxq.out.lt), (Nat.ne_of_gt Hxu.out.lt), (Hxy.out.below hb), Hhgy.out, Hdyo.out, Hdyp.out, Hdyq.out, Hdyu.out, (Nat.ne_of_gt Hxy.out.lt)⟩)
  have N1 : ∀ (W' : World), B5q W' go (.int .i64 12) (U ah) (U al) (U bh) (U bl) ∧ Box W' gp (.bool s4) (.slice (some ⟨g4, 0, none⟩) m4 m4) ∧ Box W' gq (.bool s6) (.slice (some ⟨g6, 0, none⟩) m6 m6) ∧ Box W' gu (.bool s5) (.slice (some ⟨g5, 0, none⟩) m5 m5) ∧ Below W6.heap.size W6 W' → WP 5 (L0.setIfInBounds 2 true) (a0.put (some 95) (.agg #[Fv ah, Fv al])) W' := by
    rintro  W' ⟨xo, xp, xq, xu, hbw⟩
    subst hWP hL ha
    have Hxo := Hid.mk9 xo
    have Hxp := Hid.mk9 xp
    have Hxq := Hid.mk9 xq
    have Hxu := Hid.mk9 xu
    clear xo xp xq xu
    go_simp
    refine wpJ_three (i := 5) (k := 6) (l := 7) (by kernel_rfl) rfl rfl rfl (by kernel_rfl) (by kernel_rfl) (by kernel_rfl) (fun KJ hK => ?_) (fun KJ hK => ?_) (fun KJ hK => ?_)
    · go_simp
      refine (P2 _).mono ?_
      rintro e W2 ⟨rfl, hb⟩
      refine hK _ _ ⟨(Hxo.out.below hb).c1, (Hxo.out.below hb).c2, (Hxo.out.below hb).c3, (Hxo.out.below hb).c4⟩ ?_
      exact wpJ_same (by kernel_rfl) (by kernel_rfl) (N2  W2 ⟨(Hxo.out.below hb), (Hxp.out.below hb), (Hxq.out.below hb), (Hxu.out.below hb), (Below.on hbw hb)⟩)
    · go_simp
      have hb := below1 W' (.cells #[Fv 0, Fv 0] 32)
      refine hK _ _ ⟨(Hxo.out.below hb).c1, (Hxo.out.below hb).c2, (Hxo.out.below hb).c3, (Hxo.out.below hb).c4⟩ ?_
      exact wpJ_same (by kernel_rfl) (by kernel_rfl) (N1x W'.heap.size _ ⟨(Hxo.out.below hb), (Hxp.out.below hb), (Hxq.out.below hb), (Hxu.out.below hb), (Below.on hbw hb), (Box.new W' _ _ _), hbw.size, (Nat.ne_of_gt Hxo.out.lt), (Nat.ne_of_gt Hxp.out.lt), (Nat.ne_of_gt Hxq.out.lt), (Nat.ne_of_gt Hxu.out.lt)⟩)
    · go_simp
      have hb := below1 W' (.cells #[Fv 0, Fv 0] 32)
      refine hK _ _ ⟨(Hxo.out.below hb).c1, (Hxo.out.below hb).c2, (Hxo.out.below hb).c3, (Hxo.out.below hb).c4⟩ ?_
      exact wpJ_same (by kernel_rfl) (by kernel_rfl) (N1y W'.heap.size _ ⟨(Hxo.out.below hb), (Hxp.out.below hb), (Hxq.out.below hb), (Hxu.out.below hb), (Below.on hbw hb), (Box.new W' _ _ _), hbw.size, (Nat.ne_of_gt Hxo.out.lt), (Nat.ne_of_gt Hxp.out.lt), (Nat.ne_of_gt Hxq.out.lt), (Nat.ne_of_gt Hxu.out.lt)⟩)
  have N0xy : ∀ (gx : Nat) (gy : Nat) (W' : World), B5q W' go (.int .i64 12) (U ah) (U al) (U bh) (U bl) ∧ Box W' gp (.bool s4) (.slice (some ⟨g4, 0, none⟩) m4 m4) ∧ Box W' gq (.bool s6) (.slice (some ⟨g6, 0, none⟩) m6 m6) ∧ Box W' gu (.bool s5) (.slice (some ⟨g5, 0, none⟩) m5 m5) ∧ Below W6.heap.size W6 W' ∧ Box W' gx (Fv 0) (Fv 0) ∧ W6.heap.size ≤ gx ∧ gx ≠ go ∧ gx ≠ gp ∧ gx ≠ gq ∧ gx ≠ gu ∧ Box W' gy (Fv 0) (Fv 0) ∧ W6.heap.size ≤ gy ∧ gy ≠ go ∧ gy ≠ gp ∧ gy ≠ gq ∧ gy ≠ gu ∧ gx ≠ gy → WP 4 ((L0.setIfInBounds 6 true).setIfInBounds 7 true) ((a0.put (some 7) (.pointer (some ⟨gx, 0, none⟩))).put (some 8) (.pointer (some ⟨gy, 0, none⟩))) W' := by
    rintro gx gy W' ⟨xo, xp, xq, xu, hbw, xx, hgx, dxo, dxp, dxq, dxu, xy, hgy, dyo, dyp, dyq, dyu, dd⟩
    subst hWP hL ha
    have Hxo := Hid.mk9 xo
    have Hxp := Hid.mk9 xp
    have Hxq := Hid.mk9 xq
    have Hxu := Hid.mk9 xu
    have Hxx := Hid.mk9 xx
    have Hhgx := Hid.mk9 hgx
    have Hdxo := Hid.mk9 dxo
    have Hdxp := Hid.mk9 dxp
    have Hdxq := Hid.mk9 dxq
    have Hdxu := Hid.mk9 dxu
    have Hxy := Hid.mk9 xy
    have Hhgy := Hid.mk9 hgy
    have Hdyo := Hid.mk9 dyo
    have Hdyp := Hid.mk9 dyp
    have Hdyq := Hid.mk9 dyq
    have Hdyu := Hid.mk9 dyu
    have Hdd := Hid.mk9 dd
    clear xo xp xq xu xx hgx dxo dxp dxq dxu xy hgy dyo dyp dyq dyu dd
    go_simp
    refine wpJ_on 2 rfl fun KJ hK => ?_
    go_simp
    refine (P1 _).mono ?_
    rintro e W2 ⟨rfl, hb⟩
    refine hK _ _ ⟨(Hxo.out.below hb).c1, (Hxo.out.below hb).c2, (Hxo.out.below hb).c3, (Hxo.out.below hb).c4⟩ ?_
    exact wpJ_same (by kernel_rfl) (by kernel_rfl) (N1xy gx gy W2 ⟨(Hxo.out.below hb), (Hxp.out.below hb), (Hxq.out.below hb), (Hxu.out.below hb), (Below.on hbw hb), (Hxx.out.below hb), Hhgx.out, Hdxo.out, Hdxp.out, Hdxq.out, Hdxu.out, (Hxy.out.below hb), Hhgy.out, Hdyo.out, Hdyp.out, Hdyq.out, Hdyu.out, Hdd.out⟩)
  have N0x : ∀ (gx : Nat) (W' : World), B5q W' go (.int .i64 12) (U ah) (U al) (U bh) (U bl) ∧ Box W' gp (.bool s4) (.slice (some ⟨g4, 0, none⟩) m4 m4) ∧ Box W' gq (.bool s6) (.slice (some ⟨g6, 0, none⟩) m6 m6) ∧ Box W' gu (.bool s5) (.slice (some ⟨g5, 0, none⟩) m5 m5) ∧ Below W6.heap.size W6 W' ∧ Box W' gx (Fv 0) (Fv 0) ∧ W6.heap.size ≤ gx ∧ gx ≠ go ∧ gx ≠ gp ∧ gx ≠ gq ∧ gx ≠ gu → WP 5 (L0.setIfInBounds 6 true) (a0.put (some 7) (.pointer (some ⟨gx, 0, none⟩))) W' := by
    rintro gx W' ⟨xo, xp, xq, xu, hbw, xx, hgx, dxo, dxp, dxq, dxu⟩
    subst hWP hL ha
    have Hxo := Hid.mk9 xo
    have Hxp := Hid.mk9 xp
    have Hxq := Hid.mk9 xq
    have Hxu := Hid.mk9 xu
    have Hxx := Hid.mk9 xx
    have Hhgx := Hid.mk9 hgx
    have Hdxo := Hid.mk9 dxo
    have Hdxp := Hid.mk9 dxp
    have Hdxq := Hid.mk9 dxq
    have Hdxu := Hid.mk9 dxu
    clear xo xp xq xu xx hgx dxo dxp dxq dxu
    go_simp
    refine wpJ_two (i := 2) (k := 7) (by kernel_rfl) rfl rfl (by kernel_rfl) (by kernel_rfl) (fun KJ hK => ?_) (fun KJ hK => ?_)
    · go_simp
      refine (P1 _).mono ?_
      rintro e W2 ⟨rfl, hb⟩
      refine hK _ _ ⟨(Hxo.out.below hb).c1, (Hxo.out.below hb).c2, (Hxo.out.below hb).c3, (Hxo.out.below hb).c4⟩ ?_
      exact wpJ_same (by kernel_rfl) (by kernel_rfl) (N1x gx W2 ⟨(Hxo.out.below hb), (Hxp.out.below hb), (Hxq.out.below hb), (Hxu.out.below hb), (Below.on hbw hb), (Hxx.out.below hb), Hhgx.out, Hdxo.out, Hdxp.out, Hdxq.out, Hdxu.out⟩)
    · go_simp
      have hb := below1 W' (.cells #[Fv 0, Fv 0] 32)
      refine hK _ _ ⟨(Hxo.out.below hb).c1, (Hxo.out.below hb).c2, (Hxo.out.below hb).c3, (Hxo.out.below hb).c4⟩ ?_
      exact wpJ_same (by kernel_rfl) (by kernel_rfl) (N0xy gx W'.heap.size _ ⟨(Hxo.out.below hb), (Hxp.out.below hb), (Hxq.out.below hb), (Hxu.out.below hb), (Below.on hbw hb), (Hxx.out.below hb), Hhgx.out, Hdxo.out, Hdxp.out, Hdxq.out, Hdxu.out, (Box.new W' _ _ _), hbw.size, (Nat.ne_of_gt Hxo.out.lt), (Nat.ne_of_gt Hxp.out.lt), (Nat.ne_of_gt Hxq.out.lt), (Nat.ne_of_gt Hxu.out.lt), (Nat.ne_of_lt Hxx.out.lt)⟩)
  have N0y : ∀ (gy : Nat) (W' : World), B5q W' go (.int .i64 12) (U ah) (U al) (U bh) (U bl) ∧ Box W' gp (.bool s4) (.slice (some ⟨g4, 0, none⟩) m4 m4) ∧ Box W' gq (.bool s6) (.slice (some ⟨g6, 0, none⟩) m6 m6) ∧ Box W' gu (.bool s5) (.slice (some ⟨g5, 0, none⟩) m5 m5) ∧ Below W6.heap.size W6 W' ∧ Box W' gy (Fv 0) (Fv 0) ∧ W6.heap.size ≤ gy ∧ gy ≠ go ∧ gy ≠ gp ∧ gy ≠ gq ∧ gy ≠ gu → WP 5 (L0.setIfInBounds 7 true) (a0.put (some 8) (.pointer (some ⟨gy, 0, none⟩))) W' := by
    rintro gy W' ⟨xo, xp, xq, xu, hbw, xy, hgy, dyo, dyp, dyq, dyu⟩
    subst hWP hL ha
    have Hxo := Hid.mk9 xo
    have Hxp := Hid.mk9 xp
    have Hxq := Hid.mk9 xq
    have Hxu := Hid.mk9 xu
    have Hxy := Hid.mk9 xy
    have Hhgy := Hid.mk9 hgy
    have Hdyo := Hid.mk9 dyo
    have Hdyp := Hid.mk9 dyp
    have Hdyq := Hid.mk9 dyq
    have Hdyu := Hid.mk9 dyu
    clear xo xp xq xu xy hgy dyo dyp dyq dyu
    go_simp
    refine wpJ_two (i := 2) (k := 6) (by kernel_rfl) rfl rfl (by kernel_rfl) (by kernel_rfl) (fun KJ hK => ?_) (fun KJ hK => ?_)
    · go_simp
      refine (P1 _).mono ?_
      rintro e W2 ⟨rfl, hb⟩
      refine hK _ _ ⟨(Hxo.out.below hb).c1, (Hxo.out.below hb).c2, (Hxo.out.below hb).c3, (Hxo.out.below hb).c4⟩ ?_
      exact wpJ_same (by kernel_rfl) (by kernel_rfl) (N1y gy W2 ⟨(Hxo.out.below hb), (Hxp.out.below hb), (Hxq.out.below hb), (Hxu.out.below hb), (Below.on hbw hb), (Hxy.out.below hb), Hhgy.out, Hdyo.out, Hdyp.out, Hdyq.out, Hdyu.out⟩)
    · go_simp
      have hb := below1 W' (.cells #[Fv 0, Fv 0] 32)
      refine hK _ _ ⟨(Hxo.out.below hb).c1, (Hxo.out.below hb).c2, (Hxo.out.below hb).c3, (Hxo.out.below hb).c4⟩ ?_
      exact wpJ_same (by kernel_rfl) (by kernel_rfl) (N0xy W'.heap.size gy _ ⟨(Hxo.out.below hb), (Hxp.out.below hb), (Hxq.out.below hb), (Hxu.out.below hb), (Below.on hbw hb), (Box.new W' _ _ _), hbw.size, (Nat.ne_of_gt Hxo.out.lt), (Nat.ne_of_gt Hxp.out.lt), (Nat.ne_of_gt Hxq.out.lt), (Nat.ne_of_gt Hxu.out.lt), (Hxy.out.below hb), Hhgy.out, Hdyo.out, Hdyp.out, Hdyq.out, Hdyu.out, (Nat.ne_of_gt Hxy.out.lt)⟩)
  have N0 : ∀ (W' : World), B5q W' go (.int .i64 12) (U ah) (U al) (U bh) (U bl) ∧ Box W' gp (.bool s4) (.slice (some ⟨g4, 0, none⟩) m4 m4) ∧ Box W' gq (.bool s6) (.slice (some ⟨g6, 0, none⟩) m6 m6) ∧ Box W' gu (.bool s5) (.slice (some ⟨g5, 0, none⟩) m5 m5) ∧ Below W6.heap.size W6 W' → WP 6 L0 a0 W' := by
    rintro  W' ⟨xo, xp, xq, xu, hbw⟩
    subst hWP hL ha
    have Hxo := Hid.mk9 xo
    have Hxp := Hid.mk9 xp
    have Hxq := Hid.mk9 xq
    have Hxu := Hid.mk9 xu
    clear xo xp xq xu
    go_simp
    refine wpJ_three (i := 2) (k := 6) (l := 7) (by kernel_rfl) rfl rfl rfl (by kernel_rfl) (by kernel_rfl) (by kernel_rfl) (fun KJ hK => ?_) (fun KJ hK => ?_) (fun KJ hK => ?_)
    · go_simp
      refine (P1 _).mono ?_
      rintro e W2 ⟨rfl, hb⟩
      refine hK _ _ ⟨(Hxo.out.below hb).c1, (Hxo.out.below hb).c2, (Hxo.out.below hb).c3, (Hxo.out.below hb).c4⟩ ?_
      exact wpJ_same (by kernel_rfl) (by kernel_rfl) (N1  W2 ⟨(Hxo.out.below hb), (Hxp.out.below hb), (Hxq.out.below hb), (Hxu.out.below hb), (Below.on hbw hb)⟩)
    · go_simp
      have hb := below1 W' (.cells #[Fv 0, Fv 0] 32)
      refine hK _ _ ⟨(Hxo.out.below hb).c1, (Hxo.out.below hb).c2, (Hxo.out.below hb).c3, (Hxo.out.below hb).c4⟩ ?_
      exact wpJ_same (by kernel_rfl) (by kernel_rfl) (N0x W'.heap.size _ ⟨(Hxo.out.below hb), (Hxp.out.below hb), (Hxq.out.below hb), (Hxu.out.below hb), (Below.on hbw hb), (Box.new W' _ _ _), hbw.size, (Nat.ne_of_gt Hxo.out.lt), (Nat.ne_of_gt Hxp.out.lt), (Nat.ne_of_gt Hxq.out.lt), (Nat.ne_of_gt Hxu.out.lt)⟩)
    · go_simp
      have hb := below1 W' (.cells #[Fv 0, Fv 0] 32)
      refine hK _ _ ⟨(Hxo.out.below hb).c1, (Hxo.out.below hb).c2, (Hxo.out.below hb).c3, (Hxo.out.below hb).c4⟩ ?_
      exact wpJ_same (by kernel_rfl) (by kernel_rfl) (N0y W'.heap.size _ ⟨(Hxo.out.below hb), (Hxp.out.below hb), (Hxq.out.below hb), (Hxu.out.below hb), (Below.on hbw hb), (Box.new W' _ _ _), hbw.size, (Nat.ne_of_gt Hxo.out.lt), (Nat.ne_of_gt Hxp.out.lt), (Nat.ne_of_gt Hxq.out.lt), (Nat.ne_of_gt Hxu.out.lt)⟩)
  exact N0 V1 ⟨Xo.out, Xp.out, Xq.out, Xu.out, hbw⟩
theorem plays20_12 {ah al bh bl : Nat} (h : ah < 18446744073709551616 ∧ al < 18446744073709551616 ∧ bh < 18446744073709551616 ∧ bl < 18446744073709551616) (w : World) :
    Calls Tryz.prog 38 #[.agg #[.int .i64 12, U ah, U al, U bh, U bl]] w fun en w' => en = .returned (.bool true) ∧ Below w.heap.size w w' := by
  have HB := Hid.mk9 h
  clear h
  go_enter Tryz.func38, Tryz.ntmps38
  go_wp2_with fail
  obtain ⟨W0, hW0⟩ : ∃ W0, W0 = (w.alloc (.cells #[.int .i64 12, U ah, U al, U bh, U bl] 58)) := ⟨_, rfl⟩
  have Xo : Hid (B5q W0 (w.heap.size) (.int .i64 12) (U ah) (U al) (U bh) (U bl)) := by rw [hW0]; exact ⟨by go_simp, by go_simp, by go_simp, by go_simp, by go_simp, by go_simp, by go_simp, by go_simp, by go_simp, by go_simp⟩
  have hb0 : Below w.heap.size w W0 := by rw [hW0]; exact below1 w _
  rw [← hW0]
  clear hW0
  have hbw : Below w.heap.size w w := Below.refl _ _
  obtain ⟨go, hgo⟩ : ∃ g, g = w.heap.size := ⟨_, rfl⟩
  have HGo : Hid (w.heap.size ≤ go) := by rw [hgo]; show _ ≤ _; omega
  rw [← hgo] at Xo
  try rw [← hgo]
  clear hgo
  replace hbw := Below.on hbw hb0
  clear hb0
  obtain ⟨co0, co1, co2, co3, co4, fo0, fo1, fo2, fo3, fo4⟩ := Xo.out
  have hneo : go < W0.heap.size := World.block_lt_of_cell? W0 _ co0
  go_wp2_with fail
  clear co0 co1 co2 co3 co4 fo0 fo1 fo2 fo3 fo4 hneo
  refine (reckons_12 HB.out.1 HB.out.2.1 HB.out.2.2.1 HB.out.2.2.2 _).mono ?_
  rintro e v1 ⟨rfl, hb1⟩
  replace Xo : Hid _ := Xo.out.below hb1
  replace hbw := Below.on hbw hb1
  clear hb1
  go_wp2_with fail
  go_ret
  exact ⟨rfl, hbw⟩
theorem play20_d (k : Int) (h1 : 12 ≤ k) (h2 : k ≤ 12) : Play20 k := by
  intro ah al bh bl w h
  obtain rfl : k = 12 := by omega
  exact plays20_12 h w
theorem ddDivs_w {P : Option Addr} {N C : Nat} {its : List Op20} {w : World} (h : Scr20 w P N C its) :
    Calls Tryz.prog 4 #[.slice P N C] w fun en w' => en = .returned (.bool true) ∧ Below w.heap.size w w' := by
  have HS := Hid.mk9 h
  clear h
  go_enter Tryz.func4, Tryz.ntmps4
  go_wp2_with fail
  refine (awake20 _).mono ?_
  rintro en w1 ⟨rfl, hb1⟩
  have HB1 := Hid.mk9 hb1
  clear hb1
  go_wp2_with fail
  refine (all20 (HS.out.below HB1.out) play20_d).mono ?_
  rintro en w2 ⟨rfl, hb2⟩
  have HB2 := Hid.mk9 (Below.on HB1.out hb2)
  clear hb2
  go_wp2_with fail
  go_ret
  exact ⟨rfl, HB2.out⟩
end Go.Proofs.YtidggnjnlhjhlaaGreatDoor
