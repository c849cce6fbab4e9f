import Derived.Test.YtbafjgmfonepnaaGreatDoorJ21
import Derived.Test.YtbafjgmfonepnaaGreatDoorJ15
import Derived.Test.YtbafjgmfonepnaaGreatDoorJ17
import Derived.Test.YtbafjgmfonepnaaGreatDoorBs4
import Derived.Test.YtbafjgmfonepnaaGreatDoorJ16
import Derived.Test.YtbafjgmfonepnaaGreatDoorJ12
import Derived.Test.YtbafjgmfonepnaaGreatDoorJ8
import Derived.Test.YtbafjgmfonepnaaGreatDoorJ11
import Derived.Test.YtbafjgmfonepnaaGreatDoorJ10
import Derived.Laws.Cover1
import Derived.Deep.RegionLaw
import Derived.Deep.LoopGhost
namespace Go.Proofs.YtbafjgmfonepnaaGreatDoor
open Go.RowKit Go.Shelf
set_option maxRecDepth 20000
set_option maxHeartbeats 0
theorem vf_lit9 {b q man : Nat} {zo eo : Int} (hb : b < 9218868437227405312) (hq : b / 4503599627370496 - 1 = q) (hm : b - q * 4503599627370496 = man) (hf : DFm zo eo) (hv : dv zo eo = dv (man : Int) (-1074 + (q : Int))) : VF 9223372036854775808 4503599627370496 (-1074) b zo eo := by
  have h1 : b % 9223372036854775808 = b := Nat.mod_eq_of_lt (by omega)
  obtain ⟨z1, e1, v1, v2⟩ := vf_ex (b := b) pm_64 (by omega)
  rw [h1, if_neg (by omega), hq, hm, ← hv] at v2
  obtain ⟨rfl, rfl⟩ := dv_inj v1.fm hf v2
  exact v1
theorem vf_one : VF 9223372036854775808 4503599627370496 (-1074) 4607182418800017408 1 0 := vf_lit9 (q := 1022) (man := 4503599627370496) (by decide) (by decide) (by decide) (.inr (by decide)) (by rw [dv_shift (z := 1) (e := 0) (f := -52) (by decide) (by decide)]; rfl)
theorem vf_two : VF 9223372036854775808 4503599627370496 (-1074) 4611686018427387904 1 1 := vf_lit9 (q := 1023) (man := 4503599627370496) (by decide) (by decide) (by decide) (.inr (by decide)) (by rw [dv_shift (z := 1) (e := 1) (f := -51) (by decide) (by decide)]; rfl)
theorem vf_three9 : VF 9223372036854775808 4503599627370496 (-1074) 4613937818241073152 3 0 := vf_lit9 (q := 1023) (man := 6755399441055744) (by decide) (by decide) (by decide) (.inr (by decide)) (by rw [dv_shift (z := 3) (e := 0) (f := -51) (by decide) (by decide)]; rfl)
theorem vf_four : VF 9223372036854775808 4503599627370496 (-1074) 4616189618054758400 1 2 := vf_lit9 (q := 1024) (man := 4503599627370496) (by decide) (by decide) (by decide) (.inr (by decide)) (by rw [dv_shift (z := 1) (e := 2) (f := -50) (by decide) (by decide)]; rfl)
theorem vf_mone : VF 9223372036854775808 4503599627370496 (-1074) 13830554455654793216 (-1) 0 := by
  have h := (xs_neg (b := 4607182418800017408) (by decide) vf_one).1
  rwa [show xsS 9223372036854775808 4607182418800017408 = 13830554455654793216 from by decide] at h
theorem vf_one32 : VF 2147483648 8388608 (-149) 1065353216 1 0 := by
  obtain ⟨z1, e1, v1, v2⟩ := vf_ex (b := 1065353216) pm_32 (by decide)
  rw [if_neg (by decide), show 1065353216 % 2147483648 / 8388608 - 1 = 126 from by decide, show 1065353216 % 2147483648 - 126 * 8388608 = 8388608 from by decide] at v2
  have h5 : dv 1 0 = dv ((8388608 : Nat) : Int) (-149 + ((126 : Nat) : Int)) := by rw [dv_shift (z := 1) (e := 0) (f := -23) (by decide) (by decide)]; rfl
  obtain ⟨rfl, rfl⟩ := dv_inj v1.fm (.inr (by decide)) (v2.trans h5.symm)
  exact v1
theorem opb_is {S I H : Nat} {l : Int} {b : Nat} {o : Opd} {x e : Int} (h : OpB S I H l b o) (h0 : b % S ≠ 0) (h1 : b % S < I) (hv : VF S H l b x e) : o = ofin x e := by
  obtain ⟨y, g, h2, _, h3⟩ := h.fin h0 h1
  obtain ⟨rfl, rfl⟩ := dv_inj hv.fm h2.fm (hv.v.trans h2.v.symm)
  exact h3
theorem sum_lit {x e y f z g : Int} (hf : DFm z g) (h0 : z ≠ 0) (hv : dv z g = dv x e + dv y f) : SumO (ofin x e) (ofin y f) (ofin z g) :=
  .inr (.inr (.inr (.inr (.inr (.inr ⟨⟨rfl, rfl⟩, .inr ⟨z, g, hf, h0, hv, rfl⟩⟩)))))
theorem mul_lit {x e y f z g : Int} (hf : DFm z g) (h0 : z ≠ 0) (hv : dv z g = dv (x * y) (e + f)) : MulO (ofin x e) (ofin y f) (ofin z g) :=
  .inr (.inr (.inr ⟨⟨rfl, rfl⟩, z, g, hf, h0, hv, rfl⟩))
theorem dv11 : dv 1 1 = dv 1 0 + dv 1 0 := by rw [← dv_add, dv_shift (z := 1) (e := 1) (f := 0) (by decide) (by decide)]; rfl
theorem dv12 : dv 1 2 = dv 1 1 + dv 1 1 := by rw [← dv_add, dv_shift (z := 1) (e := 2) (f := 1) (by decide) (by decide)]; rfl
theorem dv31 : dv 1 1 = dv 3 0 + dv (-1) 0 := by rw [← dv_add, dv_shift (z := 1) (e := 1) (f := 0) (by decide) (by decide)]; rfl
theorem aw_add (w : World) (hT : Tab w) : Calls Tryz.prog 18 #[.int .i64 64, .int .u64 4607182418800017408, .int .u64 4607182418800017408] w fun en w' => en = .returned (.tuple #[.int .u64 4611686018427387904, .int .i64 0]) ∧ Below w.heap.size w w' := by
  refine Calls.mono (soft_add jo_64 (by decide : 4607182418800017408 < 2 * 9223372036854775808) (by decide : 4607182418800017408 < 2 * 9223372036854775808) w hT) ?_
  rintro en w' ⟨oa, ob, c, rfl, ha, hb, hs, _, hbw⟩
  have qa := opb_is ha (by decide) (by decide) vf_one
  have qb := opb_is hb (by decide) (by decide) vf_one
  subst qa qb
  have qc := hs.uniq (sum_lit (.inr (by decide)) (by decide) dv11)
  subst qc
  exact ⟨by rw [patO_fin, show rnp (-1074) 52 1024 9223372036854775808 9218868437227405312 1 1 = 4611686018427387904 from by decide +kernel]; rfl, hbw⟩
theorem aw_mul (w : World) (hT : Tab w) : Calls Tryz.prog 22 #[.int .i64 64, .int .u64 4611686018427387904, .int .u64 4611686018427387904] w fun en w' => en = .returned (.tuple #[.int .u64 4616189618054758400, .int .i64 0]) ∧ Below w.heap.size w w' := by
  refine Calls.mono (soft_mul jo_64 (by decide : 4611686018427387904 < 2 * 9223372036854775808) (by decide : 4611686018427387904 < 2 * 9223372036854775808) w hT) ?_
  rintro en w' ⟨oa, ob, c, rfl, ha, hb, hs, _, hbw⟩
  have qa := opb_is ha (by decide) (by decide) vf_two
  have qb := opb_is hb (by decide) (by decide) vf_two
  subst qa qb
  have qc := hs.uniq (mul_lit (z := 1) (g := 2) (.inr (by decide)) (by decide) rfl)
  subst qc
  exact ⟨by rw [patO_fin, show rnp (-1074) 52 1024 9223372036854775808 9218868437227405312 1 2 = 4616189618054758400 from by decide +kernel]; rfl, hbw⟩
theorem aw_sub (w : World) (hT : Tab w) : Calls Tryz.prog 13 #[.int .i64 64, .int .u64 4613937818241073152, .int .u64 4607182418800017408] w fun en w' => en = .returned (.tuple #[.int .u64 4611686018427387904, .int .i64 0]) ∧ Below w.heap.size w w' := by
  refine Calls.mono (soft_sub jo_64 (by decide : 4613937818241073152 < 2 * 9223372036854775808) (by decide : 4607182418800017408 < 2 * 9223372036854775808) w hT) ?_
  rintro en w' ⟨oa, ob, c, rfl, ha, hb, hs, _, hbw⟩
  have qa := opb_is ha (by decide) (by decide) vf_three9
  have qb := opb_is hb (by decide) (by decide) vf_one
  subst qa qb
  rw [negO_fin] at hs
  have qc := hs.uniq (sum_lit (.inr (by decide)) (by decide) dv31)
  subst qc
  exact ⟨by rw [patO_fin, show rnp (-1074) 52 1024 9223372036854775808 9218868437227405312 1 1 = 4611686018427387904 from by decide +kernel]; rfl, hbw⟩
theorem aw_fma (w : World) (hT : Tab w) : Calls Tryz.prog 24 #[.int .i64 64, .int .u64 4607182418800017408, .int .u64 4611686018427387904, .int .u64 4611686018427387904] w fun en w' => en = .returned (.tuple #[.int .u64 4616189618054758400, .int .i64 0]) ∧ Below w.heap.size w w' := by
  refine Calls.mono (soft_fma jo_64 ⟨(by decide : 4607182418800017408 < 2 * 9223372036854775808), (by decide : 4611686018427387904 < 2 * 9223372036854775808), (by decide : 4611686018427387904 < 2 * 9223372036854775808)⟩ w hT) ?_
  rintro en w' ⟨oa, ob, oc, q, c, rfl, ha, hb, hc, hm, hs, hbw⟩
  have qa := opb_is ha (by decide) (by decide) vf_one
  have qb := opb_is hb (by decide) (by decide) vf_two
  have qd := opb_is hc (by decide) (by decide) vf_two
  subst qa qb qd
  have qq := hm.uniq (mul_lit (z := 1) (g := 1) (.inr (by decide)) (by decide) rfl)
  subst qq
  have qc := hs.uniq (sum_lit (.inr (by decide)) (by decide) dv12)
  subst qc
  exact ⟨by rw [patO_fin, show rnp (-1074) 52 1024 9223372036854775808 9218868437227405312 1 2 = 4616189618054758400 from by decide +kernel]; rfl, hbw⟩
theorem aw_neg (w : World) (hT : Tab w) : Calls Tryz.prog 28 #[.int .i64 64, .int .u64 4607182418800017408] w fun en w' => en = .returned (.tuple #[.int .u64 13830554455654793216, .int .i64 0]) ∧ Below w.heap.size w w' := by
  refine Calls.mono (soft_neg jo_64 (by decide : 4607182418800017408 < 2 * 9223372036854775808) w hT) ?_
  rintro en w' ⟨oa, rfl, ha, hbw⟩
  have qa := opb_is ha (by decide) (by decide) vf_one
  subst qa
  rw [negO_fin]
  exact ⟨by rw [patO_fin, show rnp (-1074) 52 1024 9223372036854775808 9218868437227405312 (-1) 0 = 13830554455654793216 from by decide +kernel]; rfl, hbw⟩
theorem aw_abs (w : World) (hT : Tab w) : Calls Tryz.prog 31 #[.int .i64 64, .int .u64 13830554455654793216] w fun en w' => en = .returned (.tuple #[.int .u64 4607182418800017408, .int .i64 0]) ∧ Below w.heap.size w w' := by
  refine Calls.mono (soft_abs_f jo_64 (a := 13830554455654793216) (by decide) w hT) ?_
  rintro en w' ⟨x, e, rfl, hv, _, hbw⟩
  obtain ⟨rfl, rfl⟩ := dv_inj vf_mone.fm hv.fm (vf_mone.v.trans hv.v.symm)
  exact ⟨by rw [patO_fin, show rnp (-1074) 52 1024 9223372036854775808 9218868437227405312 (((-1 : Int).natAbs : Nat) : Int) 0 = 4607182418800017408 from by decide +kernel]; rfl, hbw⟩
theorem aw_cmp (w : World) (hT : Tab w) : Calls Tryz.prog 32 #[.int .i64 64, .int .u64 4607182418800017408, .int .u64 4611686018427387904] w fun en w' => en = .returned (.tuple #[.int .i64 (-1), .int .i64 0]) ∧ Below w.heap.size w w' := by
  refine Calls.mono (soft_cmp_ff jo_64 (a := 4607182418800017408) (b := 4611686018427387904) (by decide) (by decide) w hT) ?_
  rintro en w' ⟨rfl, hbw⟩
  exact ⟨by rw [show cmpI (rkS 9223372036854775808 4607182418800017408) (rkS 9223372036854775808 4611686018427387904) = -1 from by decide], hbw⟩
theorem aw_div (w : World) (hT : Tab w) : Calls Tryz.prog 25 #[.int .i64 64, .int .u64 4616189618054758400, .int .u64 4611686018427387904] w fun en w' => en = .returned (.tuple #[.int .u64 4611686018427387904, .int .i64 0]) ∧ Below w.heap.size w w' := by
  refine Calls.mono (soft_div_ff jo_64 (by decide) (a := 4616189618054758400) (b := 4611686018427387904) (by decide) (by decide) w hT) ?_
  rintro en w' ⟨x, e, y, g, r, Z, V, rfl, hx, hy, h1, h2, h3, hbw⟩
  obtain ⟨rfl, rfl⟩ := dv_inj vf_four.fm hx.fm (vf_four.v.trans hx.v.symm)
  obtain ⟨rfl, rfl⟩ := dv_inj vf_two.fm hy.fm (vf_two.v.trans hy.v.symm)
  have r1 := rn_of jn_64 (n := 1) (e := 1) (by decide) (by decide)
  rw [show rnz (-1074) 52 1024 9218868437227405312 1 1 = 4611686018427387904 from by decide +kernel] at r1
  have hZ := h3.same (rise_mul (by decide)) h2 r1 (dv_nn _ _) (by
    show dv (((1 : Int).natAbs : Nat) : Int) (2 - 1) = (((1 : Int).natAbs : Nat) : Int) * dv ((1 : Nat) : Int) 1
    rw [show ((1 : Int).natAbs) = 1 from rfl, mul_dv]; rfl)
  have hr : r = Z := by
    have h4 : r = if decide ((1 : Int) < 0) = decide ((1 : Int) < 0) then Z else 9223372036854775808 + Z := h1
    rw [h4, if_pos rfl]
  subst hr
  subst hZ
  exact ⟨rfl, hbw⟩
theorem aw_sqrt (w : World) (hT : Tab w) : Calls Tryz.prog 30 #[.int .i64 64, .int .u64 4616189618054758400] w fun en w' => en = .returned (.tuple #[.int .u64 4611686018427387904, .int .i64 0]) ∧ Below w.heap.size w w' := by
  refine Calls.mono (soft_sqrt_f jo_64 (by decide) (a := 4616189618054758400) (by decide) w hT) ?_
  rintro en w' ⟨x, e, Z, V, rfl, hx, h2, h3, hbw⟩
  obtain ⟨rfl, rfl⟩ := dv_inj vf_four.fm hx.fm (vf_four.v.trans hx.v.symm)
  have r1 := rn_of jn_64 (n := 1) (e := 1) (by decide) (by decide)
  rw [show rnz (-1074) 52 1024 9218868437227405312 1 1 = 4611686018427387904 from by decide +kernel] at r1
  have hZ := h3.same rise_sq h2 r1 (dv_nn _ _) (by
    show (((1 : Int).natAbs : Nat) : Int) * ((2 ^ ((2 : Int) + 2 * 4194304).toNat : Nat) : Int) = dv ((1 : Nat) : Int) 1 * dv ((1 : Nat) : Int) 1
    unfold dv
    rw [show ((1 : Int).natAbs) = 1 from rfl, show ((1 : Nat) : Int) = 1 from rfl, Int.one_mul, Int.one_mul, ← Int.natCast_mul, ← Nat.pow_add, show ((2 : Int) + 2 * 4194304).toNat = ((1 : Int) + 4194304).toNat + ((1 : Int) + 4194304).toNat from by omega])
  subst hZ
  exact ⟨rfl, hbw⟩
theorem aw_add32 (w : World) (hT : Tab w) : Calls Tryz.prog 18 #[.int .i64 32, .int .u64 1065353216, .int .u64 1065353216] w fun en w' => en = .returned (.tuple #[.int .u64 1073741824, .int .i64 0]) ∧ Below w.heap.size w w' := by
  refine Calls.mono (soft_add jo_32 (by decide : 1065353216 < 2 * 2147483648) (by decide : 1065353216 < 2 * 2147483648) w hT) ?_
  rintro en w' ⟨oa, ob, c, rfl, ha, hb, hs, _, hbw⟩
  have qa := opb_is ha (by decide) (by decide) vf_one32
  have qb := opb_is hb (by decide) (by decide) vf_one32
  subst qa qb
  have qc := hs.uniq (sum_lit (.inr (by decide)) (by decide) dv11)
  subst qc
  exact ⟨by rw [patO_fin, show rnp (-149) 23 128 2147483648 2139095040 1 1 = 1073741824 from by decide +kernel]; rfl, hbw⟩
theorem awake9 (w : World) (hT : Tab w) :
    Calls Tryz.prog 6 #[] w fun en w' => en = .returned (.bool true) ∧ Below w.heap.size w w' := by
  have hbw : Below w.heap.size w w := Below.refl _ _
  have TB : Hid (Tab w) := hT
  clear hT
  go_enter Tryz.func6, Tryz.ntmps6
  go_wp2_with fail
  refine (aw_add _ (TB.out.below hbw)).mono ?_
  rintro e v1 ⟨rfl, hb1⟩
  replace hbw := Below.on hbw hb1
  clear hb1
  go_wp2_with fail
  refine (aw_mul _ (TB.out.below hbw)).mono ?_
  rintro e v2 ⟨rfl, hb2⟩
  replace hbw := Below.on hbw hb2
  clear hb2
  go_wp2_with fail
  refine (aw_div _ (TB.out.below hbw)).mono ?_
  rintro e v3 ⟨rfl, hb3⟩
  replace hbw := Below.on hbw hb3
  clear hb3
  go_wp2_with fail
  refine (aw_sqrt _ (TB.out.below hbw)).mono ?_
  rintro e v4 ⟨rfl, hb4⟩
  replace hbw := Below.on hbw hb4
  clear hb4
  go_wp2_with fail
  refine (aw_sub _ (TB.out.below hbw)).mono ?_
  rintro e v5 ⟨rfl, hb5⟩
  replace hbw := Below.on hbw hb5
  clear hb5
  go_wp2_with fail
  refine (aw_fma _ (TB.out.below hbw)).mono ?_
  rintro e v6 ⟨rfl, hb6⟩
  replace hbw := Below.on hbw hb6
  clear hb6
  go_wp2_with fail
  refine (aw_neg _ (TB.out.below hbw)).mono ?_
  rintro e v7 ⟨rfl, hb7⟩
  replace hbw := Below.on hbw hb7
  clear hb7
  go_wp2_with fail
  refine (aw_abs _ (TB.out.below hbw)).mono ?_
  rintro e v8 ⟨rfl, hb8⟩
  replace hbw := Below.on hbw hb8
  clear hb8
  go_wp2_with fail
  refine (aw_cmp _ (TB.out.below hbw)).mono ?_
  rintro e v9 ⟨rfl, hb9⟩
  replace hbw := Below.on hbw hb9
  clear hb9
  go_wp2_with fail
  refine (aw_add32 _ (TB.out.below hbw)).mono ?_
  rintro e v10 ⟨rfl, hb10⟩
  replace hbw := Below.on hbw hb10
  clear hb10
  go_wp2_with fail
  go_ret
  exact ⟨rfl, hbw⟩
theorem DFm.lo4 {z e : Int} (h : DFm z e) : -4194304 ≤ e := by rcases h with ⟨_, h⟩ | ⟨_, h, _⟩ <;> omega
theorem OpB.uniq {S I H : Nat} {l : Int} {b : Nat} {o o' : Opd} (h : OpB S I H l b o) (h' : OpB S I H l b o') (hI : 0 < I) : o = o' := by
  rcases h with ⟨h1, h2⟩ | ⟨h1, h2⟩ | ⟨h1, h2⟩ | ⟨h1, h3, x, e, h4, h5, h6⟩ <;> rcases h' with ⟨k1, k2⟩ | ⟨k1, k2⟩ | ⟨k1, k2⟩ | ⟨k1, k3, y, f, k4, k5, k6⟩
  all_goals first
    | (rw [h2, k2]; done)
    | omega
    | (obtain ⟨rfl, rfl⟩ := dv_inj h4.fm k4.fm (h4.v.trans k4.v.symm); rw [h6, k6])
theorem opb_ex {f p m l : Int} {S I H : Nat} (F : Pm f p m l S I H) (b : Nat) : ∃ o, OpB S I H l b o := by
  rcases Nat.lt_trichotomy (b % S) I with h | h | h
  · by_cases h0 : b % S = 0
    · exact ⟨_, .inr (.inr (.inl ⟨h0, rfl⟩))⟩
    · obtain ⟨x, e, hv, _⟩ := vf_ex F h
      refine ⟨ofin x e, .inr (.inr (.inr ⟨h0, h, x, e, hv, ?_, rfl⟩))⟩
      intro hx
      have h1 := hv.v
      rw [hx, dv_zero] at h1
      have h2 := dv_eq_zero h1.symm
      rw [svS_eq] at h2
      have h3 : 0 < vs H (b % S) := by
        have := vs_mono F.hp (show 0 < b % S by omega)
        rw [vs_zero] at this
        exact this
      split at h2 <;> omega
  · exact ⟨_, .inr (.inl ⟨h, rfl⟩)⟩
  · exact ⟨_, .inl ⟨h, rfl⟩⟩
theorem OpB.pat {f p m l : Int} {S I H sd : Nat} {Be : Int} {Q : Nat} (J : Jn f p m l S I H sd Be) {b : Nat} {o : Opd} (h : OpB S I H l b o) (hb : b < 2 * S) : (I < b % S ∧ o = onan ∧ patO l sd Be S I Q o = Q) ∨ (b % S ≤ I ∧ o.k ≠ 0 ∧ patO l sd Be S I Q o = b) := by
  have hlt := J.jm.pm.fm.lt
  rcases h with ⟨h1, h2⟩ | ⟨h1, h2⟩ | ⟨h1, h2⟩ | ⟨h1, h3, x, e, h4, h5, h6⟩
  · left; exact ⟨h1, h2, by rw [h2]; rfl⟩
  · right
    refine ⟨by omega, by rw [h2]; exact Nat.one_ne_zero, ?_⟩
    rw [h2, patO_inf]
    by_cases hS : S ≤ b
    · rw [decide_eq_true hS, if_pos rfl]; have h9 := (pat_eq hb).1; rw [if_pos hS] at h9; omega
    · rw [decide_eq_false hS, if_neg (by decide)]; have := Nat.mod_eq_of_lt (show b < S by omega); omega
  · right
    refine ⟨by omega, by rw [h2]; exact Nat.succ_ne_zero 1, ?_⟩
    rw [h2, patO_no]
    by_cases hS : S ≤ b
    · rw [decide_eq_true hS, if_pos rfl]; have h9 := (pat_eq hb).1; rw [if_pos hS] at h9; omega
    · rw [decide_eq_false hS, if_neg (by decide)]; have := Nat.mod_eq_of_lt (show b < S by omega); omega
  · right
    refine ⟨by omega, by rw [h6]; exact Nat.succ_ne_zero 2, ?_⟩
    rw [h6, patO_fin]
    exact rn_own J hb h1 h3 (h4.fm.lo4) h4.v
theorem xs_lt {S b : Nat} (h : b < 2 * S) : xsS S b < 2 * S ∧ xsS S b % S = b % S ∧ decide (S ≤ xsS S b) = !decide (S ≤ b) := by
  unfold xsS
  by_cases h1 : S ≤ b
  · rw [if_pos h1, decide_eq_true h1]
    refine ⟨by omega, ?_, decide_eq_false (by omega)⟩
    rw [Nat.mod_eq_sub_mod h1]
  · rw [if_neg h1, decide_eq_false h1]
    exact ⟨by omega, by rw [Nat.add_mod_right], decide_eq_true (by omega)⟩
theorem OpB.npat {f p m l : Int} {S I H sd : Nat} {Be : Int} {Q : Nat} (J : Jq f p m l S I H sd Be Q) {b : Nat} {o : Opd} (h : OpB S I H l b o) (hb : b < 2 * S) :
    (I < b % S ∧ o = onan ∧ patO l sd Be S I Q (negO o) = Q ∧ OpB S I H l Q (negO o)) ∨ (b % S ≤ I ∧ o.k ≠ 0 ∧ patO l sd Be S I Q (negO o) = xsS S b ∧ OpB S I H l (xsS S b) (negO o)) := by
  have hlt := J.jn.jm.pm.fm.lt
  obtain ⟨x1, x2, x3⟩ := xs_lt hb
  rcases h with ⟨h1, h2⟩ | ⟨h1, h2⟩ | ⟨h1, h2⟩ | ⟨h1, h3, x, e, h4, h5, h6⟩
  · left; rw [h2, negO_nan]; exact ⟨h1, rfl, rfl, .inl ⟨J.qb.2, rfl⟩⟩
  · right
    rw [h2, negO_inf]
    have ho : OpB S I H l (xsS S b) (oinf (!decide (S ≤ b))) := .inr (.inl ⟨by omega, by rw [x3]⟩)
    refine ⟨by omega, Nat.one_ne_zero, ?_, ho⟩
    rcases ho.pat (Q := Q) J.jn x1 with ⟨k1, _⟩ | ⟨_, _, k3⟩
    · omega
    · exact k3
  · right
    rw [h2, negO_no]
    have ho : OpB S I H l (xsS S b) (ono (!decide (S ≤ b))) := .inr (.inr (.inl ⟨by omega, by rw [x3]⟩))
    refine ⟨by omega, Nat.succ_ne_zero 1, ?_, ho⟩
    rcases ho.pat (Q := Q) J.jn x1 with ⟨k1, _⟩ | ⟨_, _, k3⟩
    · omega
    · exact k3
  · right
    rw [h6, negO_fin]
    have ho : OpB S I H l (xsS S b) (ofin (-x) e) := .inr (.inr (.inr ⟨by omega, by omega, -x, e, (xs_neg hb h4).1, by omega, rfl⟩))
    refine ⟨by omega, Nat.succ_ne_zero 2, ?_, ho⟩
    rcases ho.pat (Q := Q) J.jn x1 with ⟨k1, _⟩ | ⟨_, _, k3⟩
    · omega
    · exact k3
def GoodO (c : Opd) : Prop := c = onan ∨ (∃ s, c = oinf s) ∨ (∃ s, c = ono s) ∨ ∃ x e, c = ofin x e ∧ DFm x e ∧ x ≠ 0
theorem GoodO.npat {f p m l : Int} {S I H sd : Nat} {Be : Int} {Q : Nat} (J : Jq f p m l S I H sd Be Q) {c : Opd} (h : GoodO c) : (c = onan) ∨ (c.k ≠ 0 ∧ patO l sd Be S I Q c < 2 * S ∧ patO l sd Be S I Q c % S ≤ I ∧ patO l sd Be S I Q (negO c) = xsS S (patO l sd Be S I Q c)) := by
  have hlt := J.jn.jm.pm.fm.lt
  rcases h with rfl | ⟨s, rfl⟩ | ⟨s, rfl⟩ | ⟨x, e, rfl, hf, h0⟩
  · exact .inl rfl
  · right
    rw [negO_inf, patO_inf, patO_inf]
    unfold xsS
    cases s
    · refine ⟨Nat.one_ne_zero, ?_⟩
      simp
      rw [if_neg (by omega), Nat.mod_eq_of_lt hlt]; omega
    · refine ⟨Nat.one_ne_zero, ?_⟩
      simp
      rw [Nat.mod_eq_of_lt hlt]; omega
  · right
    rw [negO_no, patO_no, patO_no]
    unfold xsS
    cases s
    · refine ⟨Nat.succ_ne_zero 1, ?_⟩
      simp
      omega
    · refine ⟨Nat.succ_ne_zero 1, ?_⟩
      simp
      omega
  · right
    rw [negO_fin, patO_fin, patO_fin]
    obtain ⟨Z, z1, _, _, z4, z5, _⟩ := rnp_is J.jn x e hf.lo4
    exact ⟨Nat.succ_ne_zero 2, z4, by omega, rnp_neg J.jn h0 hf.lo4⟩
theorem MulO.neg {a b c : Opd} (h : MulO a b c) (hg : GoodO a) : MulO (negO a) b (negO c) := by
  rcases hg with rfl | ⟨s, rfl⟩ | ⟨s, rfl⟩ | ⟨x, e, rfl, hf, h0⟩
  · rcases h with ⟨h1, h2⟩ | ⟨h1, h2⟩ | ⟨h1, h2⟩ | ⟨h1, h2⟩
    · rw [h2]; exact .inl ⟨.inl rfl, rfl⟩
    · exfalso; rcases h1 with ⟨h, _⟩ | ⟨h, _⟩ <;> exact by cases h
    · exfalso; rcases h1 with ⟨h, _⟩ | ⟨h, _⟩ <;> exact by cases h
    · exact by cases h1.1
  · rcases h with ⟨h1, h2⟩ | ⟨h1, h2⟩ | ⟨h1, h2⟩ | ⟨h1, h2⟩
    · rw [h2]; exact .inl ⟨h1, rfl⟩
    · rw [h2, negO_inf, negO_inf]; exact .inr (.inl ⟨h1, by show oinf (!(s != b.s)) = oinf ((!s) != b.s); cases s <;> cases b.s <;> rfl⟩)
    · exfalso; rcases h1 with ⟨h, _⟩ | ⟨h, _⟩ <;> exact by cases h
    · exact by cases h1.1
  · rcases h with ⟨h1, h2⟩ | ⟨h1, h2⟩ | ⟨h1, h2⟩ | ⟨h1, h2⟩
    · rw [h2]; exact .inl ⟨h1, rfl⟩
    · exfalso; rcases h1 with ⟨h, _⟩ | ⟨h, _⟩ <;> exact by cases h
    · rw [h2, negO_no, negO_no]; exact .inr (.inr (.inl ⟨h1, by show ono (!(s != b.s)) = ono ((!s) != b.s); cases s <;> cases b.s <;> rfl⟩))
    · exact by cases h1.1
  · have hs : decide (-x < 0) = !decide (x < 0) := by
      rcases Int.lt_or_le x 0 with hx | hx
      · rw [decide_eq_true hx, decide_eq_false (by omega)]; rfl
      · rw [decide_eq_false (show ¬ x < 0 by omega), decide_eq_true (show -x < 0 by omega)]; rfl
    rcases h with ⟨h1, h2⟩ | ⟨h1, h2⟩ | ⟨h1, h2⟩ | ⟨h1, z, g, h3, h4, h5, h6⟩
    · rw [h2]; exact .inl ⟨h1, rfl⟩
    · rw [h2, negO_inf, negO_fin]; exact .inr (.inl ⟨h1, by show oinf (!(decide (x < 0) != b.s)) = oinf (decide (-x < 0) != b.s); rw [hs]; cases decide (x < 0) <;> cases b.s <;> rfl⟩)
    · rw [h2, negO_no, negO_fin]; exact .inr (.inr (.inl ⟨h1, by show ono (!(decide (x < 0) != b.s)) = ono (decide (-x < 0) != b.s); rw [hs]; cases decide (x < 0) <;> cases b.s <;> rfl⟩))
    · rw [h6, negO_fin, negO_fin]
      refine .inr (.inr (.inr ⟨h1, -z, g, h3.neg, by omega, ?_, rfl⟩))
      rw [dv_neg, h5]
      show _ = dv (-x * b.x) (e + b.e)
      rw [Int.neg_mul, dv_neg]
      rfl
theorem MulO.one {o c : Opd} (hg : GoodO o) (h : MulO (ofin 1 0) o c) : c = o := by
  rcases hg with rfl | ⟨s, rfl⟩ | ⟨s, rfl⟩ | ⟨x, e, rfl, hf, h0⟩
  · exact h.uniq (.inl ⟨.inr (.inl rfl), rfl⟩)
  · refine h.uniq (.inr (.inl ⟨.inr ⟨rfl, rfl⟩, ?_⟩))
    show oinf s = oinf (decide ((1 : Int) < 0) != s)
    cases s <;> rfl
  · refine h.uniq (.inr (.inr (.inl ⟨.inr ⟨rfl, rfl⟩, ?_⟩)))
    show ono s = ono (decide ((1 : Int) < 0) != s)
    cases s <;> rfl
  · refine h.uniq (mul_lit hf h0 ?_)
    rw [Int.one_mul, Int.zero_add]
theorem SumO.nought {q c : Opd} {s : Bool} (hg : GoodO q) (hs : ∀ t, q = ono t → t = s) (h : SumO q (ono s) c) : c = q := by
  rcases hg with rfl | ⟨t, rfl⟩ | ⟨t, rfl⟩ | ⟨x, e, rfl, hf, h0⟩
  · exact h.uniq (.inl ⟨.inl rfl, rfl⟩)
  · exact h.uniq (.inr (.inl ⟨⟨rfl, .inl rfl⟩, rfl⟩))
  · obtain rfl := hs t rfl
    refine h.uniq (.inr (.inr (.inr (.inl ⟨⟨rfl, rfl⟩, ?_⟩))))
    show ono t = ono (t && t)
    cases t <;> rfl
  · exact h.uniq (.inr (.inr (.inr (.inr (.inr (.inl ⟨⟨rfl, rfl⟩, rfl⟩))))))
theorem MulO.sgn {S I H : Nat} {l : Int} {a b : Nat} {oa ob : Opd} {t : Bool} (ha : OpB S I H l a oa) (hb : OpB S I H l b ob) (ka : a < 2 * S) (kb : b < 2 * S) (h : MulO oa ob (ono t)) : t = (decide (S ≤ a) != decide (S ≤ b)) := by
  have hs : ∀ {a : Nat} {o : Opd}, OpB S I H l a o → a < 2 * S → o.k ≠ 0 → o.s = decide (S ≤ a) := by
    intro a o h ka h0
    rcases h with ⟨_, h2⟩ | ⟨_, h2⟩ | ⟨_, h2⟩ | ⟨h1, h3, x, e, h4, h5, h6⟩
    · rw [h2] at h0; exact absurd rfl h0
    · rw [h2]; rfl
    · rw [h2]; rfl
    · rw [h6]
      show decide (x < 0) = _
      have h7 := h4.v
      rw [svS_eq] at h7
      have h8 := dv_nn (vs H (a % S)) l
      by_cases hS : S ≤ a
      · rw [if_pos hS, dv_neg] at h7
        rw [decide_eq_true hS]
        refine decide_eq_true ?_
        rcases dv3 x e with ⟨q1, q2⟩ | ⟨q1, q2⟩ | ⟨q1, q2⟩ <;> omega
      · rw [if_neg hS] at h7
        rw [decide_eq_false hS]
        refine decide_eq_false ?_
        rcases dv3 x e with ⟨q1, q2⟩ | ⟨q1, q2⟩ | ⟨q1, q2⟩ <;> omega
  rcases h with ⟨_, h2⟩ | ⟨_, h2⟩ | ⟨h1, h2⟩ | ⟨_, z, g, _, _, _, h6⟩
  · exact by cases congrArg Opd.k h2
  · exact by cases congrArg Opd.k h2
  · have h3 : t = (oa.s != ob.s) := congrArg Opd.s h2
    rw [h3, hs ha ka (by omega), hs hb kb (by omega)]
  · exact by cases congrArg Opd.k h6
theorem sub_is {f p m l : Int} {S I H sd : Nat} {Be : Int} {Q : Nat} (J : Jo f p m l S I H sd Be Q) {a : Nat} {b : Nat} {oa : Opd} {ob : Opd} (ha : a < 2 * S) (hb : b < 2 * S) (ka : OpB S I H l a oa) (kb : OpB S I H l b ob) (w : World) (hT : Tab w) : Calls Tryz.prog 13 #[.int .i64 f, U a, U b] w fun en w' => ∃ c, en = .returned (.tuple #[U (patO l sd Be S I Q c), .int .i64 0]) ∧ SumO oa (negO ob) c ∧ Below w.heap.size w w' := by
  have hI : 0 < I := by have := J.jq.jn.jm.pm.fm.pos; omega
  refine (soft_sub J ha hb w hT).mono ?_
  rintro en w' ⟨oa', ob', c, rfl, h1, h2, hs, _, hbw⟩
  obtain rfl := h1.uniq ka hI
  obtain rfl := h2.uniq kb hI
  exact ⟨c, rfl, hs, hbw⟩
theorem OpB.nn {f p m l : Int} {S I H sd : Nat} {Be : Int} {Q : Nat} (J : Jq f p m l S I H sd Be Q) {b : Nat} {o : Opd} (h : OpB S I H l b o) (hb : b < 2 * S) : patO l sd Be S I Q (negO o) < 2 * S ∧ OpB S I H l (patO l sd Be S I Q (negO o)) (negO o) := by
  rcases h.npat J hb with ⟨_, _, h3, h4⟩ | ⟨_, _, h3, h4⟩
  · rw [h3]; exact ⟨J.qb.1, h4⟩
  · rw [h3]; exact ⟨(xs_lt hb).1, h4⟩
theorem GoodO.lt {f p m l : Int} {S I H sd : Nat} {Be : Int} {Q : Nat} (J : Jq f p m l S I H sd Be Q) {c : Opd} (h : GoodO c) : patO l sd Be S I Q c < 2 * S := by
  rcases h.npat J with rfl | ⟨_, h2, _⟩
  · exact J.qb.1
  · exact h2
theorem results_tc9 {fn : Func} {a p : Tmp} {ty : TypeId} (h : fn.results = #[.tmp a, .cell p ty]) (tmps : Array Value) (P : Program) (w : World) :
    (results fn tmps).run P w = ((asAddr (tmps.getD p undef)).run P w).andThen fun x w₁ => ((loadVar ty x).run P w₁).andThen fun v w₂ => .ok (.tuple #[tmps.getD a undef, v]) w₂ := by
  simp only [results, h]
  simp [Sem.run_bind, Result.andThen]
theorem form9_64 (w : World) :
    Calls Tryz.prog 7 #[.bool false] w fun en w' => en = .returned (.tuple #[.int .i64 64, FV 9223372036854775808 53 (-1074) 971 9218868437227405312 9221120237041090561]) ∧ Below w.heap.size w w' := by
  go_enter Tryz.func7, Tryz.ntmps7
  go_wp2_with fail
  obtain ⟨W0, hW0⟩ : ∃ W0, W0 = (w.alloc (.cells #[.int .u64 0, .int .i64 0, .int .i64 0, .int .i64 0, .int .u64 0, .int .u64 0] 26)) := ⟨_, rfl⟩
  have Xr : Hid (B6q W0 (w.heap.size) (.int .u64 0) (.int .i64 0) (.int .i64 0) (.int .i64 0) (.int .u64 0) (.int .u64 0)) := by rw [hW0]; exact ⟨by go_simp, by go_simp, by go_simp, by go_simp, by go_simp, by go_simp, by go_simp, by go_simp, by go_simp, by go_simp, by go_simp, by go_simp⟩
  have hb0 : Below w.heap.size w W0 := by rw [hW0]; exact below1 w _
  rw [← hW0]
  clear hW0
  have hbw : Below w.heap.size w w := Below.refl _ _
  obtain ⟨gr, hgr⟩ : ∃ g, g = w.heap.size := ⟨_, rfl⟩
  have HGr : Hid (w.heap.size ≤ gr) := by rw [hgr]; show _ ≤ _; omega
  rw [← hgr] at Xr
  try rw [← hgr]
  clear hgr
  replace hbw := Below.on hbw hb0
  clear hb0
  refine (rf_64.of _).mono ?_
  rintro e v1 ⟨rfl, hb1⟩
  replace Xr : Hid _ := Xr.out.below hb1
  replace hbw := Below.on hbw hb1
  clear hb1
  obtain ⟨cr0, cr1, cr2, cr3, cr4, cr5, fr0, fr1, fr2, fr3, fr4, fr5⟩ := Xr.out
  have hner : gr < v1.heap.size := World.block_lt_of_cell? v1 _ cr0
  go_wp2_with fail
  clear cr0 cr1 cr2 cr3 cr4 cr5 fr0 fr1 fr2 fr3 fr4 fr5 hner
  have HDrk : Hid (gr ≠ v1.heap.size) := Nat.ne_of_lt Xr.out.lt
  have Xk0 : Hid (B6q (v1.alloc (.cells #[U 9223372036854775808, .int .i64 53, .int .i64 (-1074), .int .i64 971, U 9218868437227405312, U 9221120237041090561] 26)) v1.heap.size (U 9223372036854775808) (.int .i64 53) (.int .i64 (-1074)) (.int .i64 971) (U 9218868437227405312) (U 9221120237041090561)) := B6q.new v1 _ _ _ _ _ _ _
  have hbn : Below v1.heap.size v1 (v1.alloc (.cells #[U 9223372036854775808, .int .i64 53, .int .i64 (-1074), .int .i64 971, U 9218868437227405312, U 9221120237041090561] 26)) := below1 v1 _
  generalize v1.alloc (.cells #[U 9223372036854775808, .int .i64 53, .int .i64 (-1074), .int .i64 971, U 9218868437227405312, U 9221120237041090561] 26) = Wk at *
  have HGk : Hid (w.heap.size ≤ v1.heap.size) := hbw.size
  replace Xr : Hid _ := Xr.out.below hbn
  replace hbw := Below.on hbw hbn
  clear hbn
  generalize v1.heap.size = gk at *
  have Xk := Xk0
  clear Xk0
  obtain ⟨W1, hW1⟩ : ∃ W1, W1 = Wk.drew := ⟨_, rfl⟩
  have hbd : Below Wk.heap.size Wk W1 := by rw [hW1]; exact bDrew1 (Below.refl _ _)
  replace Xr : Hid _ := Xr.out.below hbd
  replace Xk : Hid _ := Xk.out.below hbd
  replace hbw := Below.on hbw hbd
  clear hbd
  have HJ : Hid ((fun W' : World => W'.cell? ⟨gk, 0, none⟩ = some (U 9223372036854775808) ∧ W'.cell? ⟨gk, 1, none⟩ = some (.int .i64 53) ∧ W'.cell? ⟨gk, 2, none⟩ = some (.int .i64 (-1074)) ∧ W'.cell? ⟨gk, 3, none⟩ = some (.int .i64 971) ∧ W'.cell? ⟨gk, 4, none⟩ = some (U 9218868437227405312) ∧ W'.cell? ⟨gk, 5, none⟩ = some (U 9221120237041090561)) W1) := ⟨Xk.out.c0, Xk.out.c1, Xk.out.c2, Xk.out.c3, Xk.out.c4, Xk.out.c5⟩
  refine wp_region_J (fun W' => W'.cell? ⟨gk, 0, none⟩ = some (U 9223372036854775808) ∧ W'.cell? ⟨gk, 1, none⟩ = some (.int .i64 53) ∧ W'.cell? ⟨gk, 2, none⟩ = some (.int .i64 (-1074)) ∧ W'.cell? ⟨gk, 3, none⟩ = some (.int .i64 971) ∧ W'.cell? ⟨gk, 4, none⟩ = some (U 9218868437227405312) ∧ W'.cell? ⟨gk, 5, none⟩ = some (U 9221120237041090561)) (by kernel_rfl) ?_
  rw [← hW1]
  clear hW1
  refine wpJ_tq 0 rfl HJ.out ?_
  refine wpJ_tq 1 rfl HJ.out ?_
  refine wpJ_tq 2 rfl HJ.out ?_
  have HGD : Hid (gr ≠ gk ∧ gk ≠ gr) := ⟨HDrk.out, fun h => HDrk.out h.symm⟩
  obtain ⟨cr0, cr1, cr2, cr3, cr4, cr5, fr0, fr1, fr2, fr3, fr4, fr5⟩ := Xr.out
  have hner : gr < W1.heap.size := World.block_lt_of_cell? W1 _ cr0
  obtain ⟨ck0, ck1, ck2, ck3, ck4, ck5, fk0, fk1, fk2, fk3, fk4, fk5⟩ := Xk.out
  have hnek : gk < W1.heap.size := World.block_lt_of_cell? W1 _ ck0
  obtain ⟨hgd0, hgd1⟩ := HGD.out
  refine wpJ_on 3 rfl fun KJ hK => ?_
  go_simp
  have HJ2 : Hid ((fun W' : World => W'.cell? ⟨gk, 0, none⟩ = some (U 9223372036854775808) ∧ W'.cell? ⟨gk, 1, none⟩ = some (.int .i64 53) ∧ W'.cell? ⟨gk, 2, none⟩ = some (.int .i64 (-1074)) ∧ W'.cell? ⟨gk, 3, none⟩ = some (.int .i64 971) ∧ W'.cell? ⟨gk, 4, none⟩ = some (U 9218868437227405312) ∧ W'.cell? ⟨gk, 5, none⟩ = some (U 9221120237041090561)) ((((((W1.setCell ⟨gr, 0, none⟩ (U 9223372036854775808)).setCell ⟨gr, 1, none⟩ (.int .i64 53)).setCell ⟨gr, 2, none⟩ (.int .i64 (-1074))).setCell ⟨gr, 3, none⟩ (.int .i64 971)).setCell ⟨gr, 4, none⟩ (U 9218868437227405312)).setCell ⟨gr, 5, none⟩ (U 9221120237041090561))) := ⟨by go_simp, by go_simp, by go_simp, by go_simp, by go_simp, by go_simp⟩
  refine hK _ _ HJ2.out ?_
  clear hK HJ
  have HJ := HJ2
  clear HJ2
  refine wpJ_done (by kernel_rfl) ?_ _
  clear HJ
  go_wp2_with fail
  refine bodyPost_ret (v := .tuple #[.int .i64 64, FV 9223372036854775808 53 (-1074) 971 9218868437227405312 9221120237041090561]) (by rw [results_tc9 rfl]; go_simp) rfl ⟨rfl, ?_⟩
  exact bSet (bSet (bSet (bSet (bSet (bSet (hbw) _ _ _ HGr.out) _ _ _ HGr.out) _ _ _ HGr.out) _ _ _ HGr.out) _ _ _ HGr.out) _ _ _ HGr.out
theorem mask9_64 (a : Nat) (ha : a < B64) : bits BinOp.and IntKind.u64 (a : Int) 18446744073709551615 = ((a % 18446744073709551616 : Nat) : Int) := by
  rw [B64_eq] at ha
  have h := bits_and_u64_nat a 18446744073709551615 (by omega) (by decide)
  rw [show 18446744073709551615 = 2 ^ 64 - 1 from by decide, Nat.and_two_pow_sub_one_eq_mod] at h
  exact h
theorem sizes9_64t (a b : Nat) (ha : a < B64) (hb : b = a % 18446744073709551616) (h : b % 9223372036854775808 < 9218868437227405312) (w : World) :
    Calls Tryz.prog 8 #[FV 9223372036854775808 53 (-1074) 971 9218868437227405312 9221120237041090561, U a] w fun en w' => en = .returned (.tuple #[U b, .bool true]) ∧ Below w.heap.size w w' := by
  have hm := mask9_64 a ha
  rw [← hb] at hm
  obtain ⟨v, hv⟩ : ∃ v, v = b % 9223372036854775808 := ⟨_, rfl⟩
  have h1 : (b : Int) % 9223372036854775808 = (v : Int) := by omega
  have h2 : (b : Int).tmod 9223372036854775808 = (v : Int) := by rw [Int.tmod_eq_emod_of_nonneg (by omega)]; omega
  rw [← hv] at h
  have h3 : decide (v < 9218868437227405312) = true := decide_eq_true h
  have h4 : decide ((v : Int) < 9218868437227405312) = true := decide_eq_true (by omega)
  clear hv h ha hb
  have hw : IntKind.u64.wrap (IntKind.u64.wrap 18446744073709551616 - 1) = 18446744073709551615 := by decide
  go_enter Tryz.func8, Tryz.ntmps8
  go_wp2_with fail
  obtain ⟨W0, hW0⟩ : ∃ W0, W0 = (w.alloc (.cells #[U 9223372036854775808, .int .i64 53, .int .i64 (-1074), .int .i64 971, U 9218868437227405312, U 9221120237041090561] 26)) := ⟨_, rfl⟩
  have Xk : Hid (B6q W0 (w.heap.size) (U 9223372036854775808) (.int .i64 53) (.int .i64 (-1074)) (.int .i64 971) (U 9218868437227405312) (U 9221120237041090561)) := by rw [hW0]; exact ⟨by go_simp, by go_simp, by go_simp, by go_simp, by go_simp, by go_simp, by go_simp, by go_simp, by go_simp, by go_simp, by go_simp, by go_simp⟩
  have hb0 : Below w.heap.size w W0 := by rw [hW0]; exact below1 w _
  rw [← hW0]
  clear hW0
  have hbw : Below w.heap.size w w := Below.refl _ _
  obtain ⟨gk, hgk⟩ : ∃ g, g = w.heap.size := ⟨_, rfl⟩
  have HGk : Hid (w.heap.size ≤ gk) := by rw [hgk]; show _ ≤ _; omega
  rw [← hgk] at Xk
  try rw [← hgk]
  clear hgk
  replace hbw := Below.on hbw hb0
  clear hb0
  obtain ⟨ck0, ck1, ck2, ck3, ck4, ck5, fk0, fk1, fk2, fk3, fk4, fk5⟩ := Xk.out
  have hnek : gk < W0.heap.size := World.block_lt_of_cell? W0 _ ck0
  go_wp2_with fail
  clear ck0 ck1 ck2 ck3 ck4 ck5 fk0 fk1 fk2 fk3 fk4 fk5 hnek
  obtain ⟨W1, hW1⟩ : ∃ W1, W1 = W0.drew := ⟨_, rfl⟩
  have hbd : Below W0.heap.size W0 W1 := by rw [hW1]; exact bDrew1 (Below.refl _ _)
  replace Xk : Hid _ := Xk.out.below hbd
  replace hbw := Below.on hbw hbd
  clear hbd
  have HJ : Hid ((fun W' : World => W'.cell? ⟨gk, 0, none⟩ = some (U 9223372036854775808) ∧ W'.cell? ⟨gk, 1, none⟩ = some (.int .i64 53) ∧ W'.cell? ⟨gk, 2, none⟩ = some (.int .i64 (-1074)) ∧ W'.cell? ⟨gk, 3, none⟩ = some (.int .i64 971) ∧ W'.cell? ⟨gk, 4, none⟩ = some (U 9218868437227405312) ∧ W'.cell? ⟨gk, 5, none⟩ = some (U 9221120237041090561)) W1) := ⟨Xk.out.c0, Xk.out.c1, Xk.out.c2, Xk.out.c3, Xk.out.c4, Xk.out.c5⟩
  refine wp_region_J (fun W' => W'.cell? ⟨gk, 0, none⟩ = some (U 9223372036854775808) ∧ W'.cell? ⟨gk, 1, none⟩ = some (.int .i64 53) ∧ W'.cell? ⟨gk, 2, none⟩ = some (.int .i64 (-1074)) ∧ W'.cell? ⟨gk, 3, none⟩ = some (.int .i64 971) ∧ W'.cell? ⟨gk, 4, none⟩ = some (U 9218868437227405312) ∧ W'.cell? ⟨gk, 5, none⟩ = some (U 9221120237041090561)) (by kernel_rfl) ?_
  rw [← hW1]
  clear hW1
  refine wpJ_tq 0 rfl HJ.out ?_
  refine wpJ_tq 1 rfl HJ.out ?_
  refine wpJ_tq 2 rfl HJ.out ?_
  refine wpJ_tq 3 rfl HJ.out ?_
  refine wpJ_tq 4 rfl HJ.out ?_
  go_simp
  refine wpJ_tq 5 rfl HJ.out ?_
  refine wpJ_tq 6 rfl HJ.out ?_
  refine wpJ_tq 7 rfl HJ.out ?_
  refine wpJ_tq 8 rfl HJ.out ?_
  refine wpJ_tq 9 rfl HJ.out ?_
  refine wpJ_done (by kernel_rfl) ?_ _
  clear HJ
  go_wp2_with fail
  go_ret2
  exact ⟨rfl, hbw⟩
theorem sizes9_64f (a b : Nat) (ha : a < B64) (hb : b = a % 18446744073709551616) (h : ¬ b % 9223372036854775808 < 9218868437227405312) (w : World) :
    Calls Tryz.prog 8 #[FV 9223372036854775808 53 (-1074) 971 9218868437227405312 9221120237041090561, U a] w fun en w' => en = .returned (.tuple #[U b, .bool false]) ∧ Below w.heap.size w w' := by
  have hm := mask9_64 a ha
  rw [← hb] at hm
  obtain ⟨v, hv⟩ : ∃ v, v = b % 9223372036854775808 := ⟨_, rfl⟩
  have h1 : (b : Int) % 9223372036854775808 = (v : Int) := by omega
  have h2 : (b : Int).tmod 9223372036854775808 = (v : Int) := by rw [Int.tmod_eq_emod_of_nonneg (by omega)]; omega
  rw [← hv] at h
  have h3 : decide (v < 9218868437227405312) = false := decide_eq_false h
  have h4 : decide ((v : Int) < 9218868437227405312) = false := decide_eq_false (by omega)
  clear hv h ha hb
  have hw : IntKind.u64.wrap (IntKind.u64.wrap 18446744073709551616 - 1) = 18446744073709551615 := by decide
  go_enter Tryz.func8, Tryz.ntmps8
  go_wp2_with fail
  obtain ⟨W0, hW0⟩ : ∃ W0, W0 = (w.alloc (.cells #[U 9223372036854775808, .int .i64 53, .int .i64 (-1074), .int .i64 971, U 9218868437227405312, U 9221120237041090561] 26)) := ⟨_, rfl⟩
  have Xk : Hid (B6q W0 (w.heap.size) (U 9223372036854775808) (.int .i64 53) (.int .i64 (-1074)) (.int .i64 971) (U 9218868437227405312) (U 9221120237041090561)) := by rw [hW0]; exact ⟨by go_simp, by go_simp, by go_simp, by go_simp, by go_simp, by go_simp, by go_simp, by go_simp, by go_simp, by go_simp, by go_simp, by go_simp⟩
  have hb0 : Below w.heap.size w W0 := by rw [hW0]; exact below1 w _
  rw [← hW0]
  clear hW0
  have hbw : Below w.heap.size w w := Below.refl _ _
  obtain ⟨gk, hgk⟩ : ∃ g, g = w.heap.size := ⟨_, rfl⟩
  have HGk : Hid (w.heap.size ≤ gk) := by rw [hgk]; show _ ≤ _; omega
  rw [← hgk] at Xk
  try rw [← hgk]
  clear hgk
  replace hbw := Below.on hbw hb0
  clear hb0
  obtain ⟨ck0, ck1, ck2, ck3, ck4, ck5, fk0, fk1, fk2, fk3, fk4, fk5⟩ := Xk.out
  have hnek : gk < W0.heap.size := World.block_lt_of_cell? W0 _ ck0
  go_wp2_with fail
  clear ck0 ck1 ck2 ck3 ck4 ck5 fk0 fk1 fk2 fk3 fk4 fk5 hnek
  obtain ⟨W1, hW1⟩ : ∃ W1, W1 = W0.drew := ⟨_, rfl⟩
  have hbd : Below W0.heap.size W0 W1 := by rw [hW1]; exact bDrew1 (Below.refl _ _)
  replace Xk : Hid _ := Xk.out.below hbd
  replace hbw := Below.on hbw hbd
  clear hbd
  have HJ : Hid ((fun W' : World => W'.cell? ⟨gk, 0, none⟩ = some (U 9223372036854775808) ∧ W'.cell? ⟨gk, 1, none⟩ = some (.int .i64 53) ∧ W'.cell? ⟨gk, 2, none⟩ = some (.int .i64 (-1074)) ∧ W'.cell? ⟨gk, 3, none⟩ = some (.int .i64 971) ∧ W'.cell? ⟨gk, 4, none⟩ = some (U 9218868437227405312) ∧ W'.cell? ⟨gk, 5, none⟩ = some (U 9221120237041090561)) W1) := ⟨Xk.out.c0, Xk.out.c1, Xk.out.c2, Xk.out.c3, Xk.out.c4, Xk.out.c5⟩
  refine wp_region_J (fun W' => W'.cell? ⟨gk, 0, none⟩ = some (U 9223372036854775808) ∧ W'.cell? ⟨gk, 1, none⟩ = some (.int .i64 53) ∧ W'.cell? ⟨gk, 2, none⟩ = some (.int .i64 (-1074)) ∧ W'.cell? ⟨gk, 3, none⟩ = some (.int .i64 971) ∧ W'.cell? ⟨gk, 4, none⟩ = some (U 9218868437227405312) ∧ W'.cell? ⟨gk, 5, none⟩ = some (U 9221120237041090561)) (by kernel_rfl) ?_
  rw [← hW1]
  clear hW1
  refine wpJ_tq 0 rfl HJ.out ?_
  refine wpJ_tq 1 rfl HJ.out ?_
  refine wpJ_tq 2 rfl HJ.out ?_
  refine wpJ_tq 3 rfl HJ.out ?_
  refine wpJ_tq 4 rfl HJ.out ?_
  go_simp
  refine wpJ_tq 5 rfl HJ.out ?_
  refine wpJ_tq 6 rfl HJ.out ?_
  refine wpJ_tq 7 rfl HJ.out ?_
  refine wpJ_tq 8 rfl HJ.out ?_
  refine wpJ_tq 9 rfl HJ.out ?_
  refine wpJ_done (by kernel_rfl) ?_ _
  clear HJ
  go_wp2_with fail
  go_ret2
  exact ⟨rfl, hbw⟩
theorem form9_32 (w : World) :
    Calls Tryz.prog 7 #[.bool true] w fun en w' => en = .returned (.tuple #[.int .i64 32, FV 2147483648 24 (-149) 104 2139095040 2143289345]) ∧ Below w.heap.size w w' := by
  go_enter Tryz.func7, Tryz.ntmps7
  go_wp2_with fail
  obtain ⟨W0, hW0⟩ : ∃ W0, W0 = (w.alloc (.cells #[.int .u64 0, .int .i64 0, .int .i64 0, .int .i64 0, .int .u64 0, .int .u64 0] 26)) := ⟨_, rfl⟩
  have Xr : Hid (B6q W0 (w.heap.size) (.int .u64 0) (.int .i64 0) (.int .i64 0) (.int .i64 0) (.int .u64 0) (.int .u64 0)) := by rw [hW0]; exact ⟨by go_simp, by go_simp, by go_simp, by go_simp, by go_simp, by go_simp, by go_simp, by go_simp, by go_simp, by go_simp, by go_simp, by go_simp⟩
  have hb0 : Below w.heap.size w W0 := by rw [hW0]; exact below1 w _
  rw [← hW0]
  clear hW0
  have hbw : Below w.heap.size w w := Below.refl _ _
  obtain ⟨gr, hgr⟩ : ∃ g, g = w.heap.size := ⟨_, rfl⟩
  have HGr : Hid (w.heap.size ≤ gr) := by rw [hgr]; show _ ≤ _; omega
  rw [← hgr] at Xr
  try rw [← hgr]
  clear hgr
  replace hbw := Below.on hbw hb0
  clear hb0
  refine (rf_32.of _).mono ?_
  rintro e v1 ⟨rfl, hb1⟩
  replace Xr : Hid _ := Xr.out.below hb1
  replace hbw := Below.on hbw hb1
  clear hb1
  obtain ⟨cr0, cr1, cr2, cr3, cr4, cr5, fr0, fr1, fr2, fr3, fr4, fr5⟩ := Xr.out
  have hner : gr < v1.heap.size := World.block_lt_of_cell? v1 _ cr0
  go_wp2_with fail
  clear cr0 cr1 cr2 cr3 cr4 cr5 fr0 fr1 fr2 fr3 fr4 fr5 hner
  have HDrk : Hid (gr ≠ v1.heap.size) := Nat.ne_of_lt Xr.out.lt
  have Xk0 : Hid (B6q (v1.alloc (.cells #[U 2147483648, .int .i64 24, .int .i64 (-149), .int .i64 104, U 2139095040, U 2143289345] 26)) v1.heap.size (U 2147483648) (.int .i64 24) (.int .i64 (-149)) (.int .i64 104) (U 2139095040) (U 2143289345)) := B6q.new v1 _ _ _ _ _ _ _
  have hbn : Below v1.heap.size v1 (v1.alloc (.cells #[U 2147483648, .int .i64 24, .int .i64 (-149), .int .i64 104, U 2139095040, U 2143289345] 26)) := below1 v1 _
  generalize v1.alloc (.cells #[U 2147483648, .int .i64 24, .int .i64 (-149), .int .i64 104, U 2139095040, U 2143289345] 26) = Wk at *
  have HGk : Hid (w.heap.size ≤ v1.heap.size) := hbw.size
  replace Xr : Hid _ := Xr.out.below hbn
  replace hbw := Below.on hbw hbn
  clear hbn
  generalize v1.heap.size = gk at *
  have Xk := Xk0
  clear Xk0
  obtain ⟨W1, hW1⟩ : ∃ W1, W1 = Wk.drew := ⟨_, rfl⟩
  have hbd : Below Wk.heap.size Wk W1 := by rw [hW1]; exact bDrew1 (Below.refl _ _)
  replace Xr : Hid _ := Xr.out.below hbd
  replace Xk : Hid _ := Xk.out.below hbd
  replace hbw := Below.on hbw hbd
  clear hbd
  have HJ : Hid ((fun W' : World => W'.cell? ⟨gk, 0, none⟩ = some (U 2147483648) ∧ W'.cell? ⟨gk, 1, none⟩ = some (.int .i64 24) ∧ W'.cell? ⟨gk, 2, none⟩ = some (.int .i64 (-149)) ∧ W'.cell? ⟨gk, 3, none⟩ = some (.int .i64 104) ∧ W'.cell? ⟨gk, 4, none⟩ = some (U 2139095040) ∧ W'.cell? ⟨gk, 5, none⟩ = some (U 2143289345)) W1) := ⟨Xk.out.c0, Xk.out.c1, Xk.out.c2, Xk.out.c3, Xk.out.c4, Xk.out.c5⟩
  refine wp_region_J (fun W' => W'.cell? ⟨gk, 0, none⟩ = some (U 2147483648) ∧ W'.cell? ⟨gk, 1, none⟩ = some (.int .i64 24) ∧ W'.cell? ⟨gk, 2, none⟩ = some (.int .i64 (-149)) ∧ W'.cell? ⟨gk, 3, none⟩ = some (.int .i64 104) ∧ W'.cell? ⟨gk, 4, none⟩ = some (U 2139095040) ∧ W'.cell? ⟨gk, 5, none⟩ = some (U 2143289345)) (by kernel_rfl) ?_
  rw [← hW1]
  clear hW1
  refine wpJ_tq 0 rfl HJ.out ?_
  refine wpJ_tq 1 rfl HJ.out ?_
  refine wpJ_tq 2 rfl HJ.out ?_
  have HGD : Hid (gr ≠ gk ∧ gk ≠ gr) := ⟨HDrk.out, fun h => HDrk.out h.symm⟩
  obtain ⟨cr0, cr1, cr2, cr3, cr4, cr5, fr0, fr1, fr2, fr3, fr4, fr5⟩ := Xr.out
  have hner : gr < W1.heap.size := World.block_lt_of_cell? W1 _ cr0
  obtain ⟨ck0, ck1, ck2, ck3, ck4, ck5, fk0, fk1, fk2, fk3, fk4, fk5⟩ := Xk.out
  have hnek : gk < W1.heap.size := World.block_lt_of_cell? W1 _ ck0
  obtain ⟨hgd0, hgd1⟩ := HGD.out
  refine wpJ_on 3 rfl fun KJ hK => ?_
  go_simp
  have HJ2 : Hid ((fun W' : World => W'.cell? ⟨gk, 0, none⟩ = some (U 2147483648) ∧ W'.cell? ⟨gk, 1, none⟩ = some (.int .i64 24) ∧ W'.cell? ⟨gk, 2, none⟩ = some (.int .i64 (-149)) ∧ W'.cell? ⟨gk, 3, none⟩ = some (.int .i64 104) ∧ W'.cell? ⟨gk, 4, none⟩ = some (U 2139095040) ∧ W'.cell? ⟨gk, 5, none⟩ = some (U 2143289345)) ((((((W1.setCell ⟨gr, 0, none⟩ (U 2147483648)).setCell ⟨gr, 1, none⟩ (.int .i64 24)).setCell ⟨gr, 2, none⟩ (.int .i64 (-149))).setCell ⟨gr, 3, none⟩ (.int .i64 104)).setCell ⟨gr, 4, none⟩ (U 2139095040)).setCell ⟨gr, 5, none⟩ (U 2143289345))) := ⟨by go_simp, by go_simp, by go_simp, by go_simp, by go_simp, by go_simp⟩
  refine hK _ _ HJ2.out ?_
  clear hK HJ
  have HJ := HJ2
  clear HJ2
  refine wpJ_done (by kernel_rfl) ?_ _
  clear HJ
  go_wp2_with fail
  refine bodyPost_ret (v := .tuple #[.int .i64 32, FV 2147483648 24 (-149) 104 2139095040 2143289345]) (by rw [results_tc9 rfl]; go_simp) rfl ⟨rfl, ?_⟩
  exact bSet (bSet (bSet (bSet (bSet (bSet (hbw) _ _ _ HGr.out) _ _ _ HGr.out) _ _ _ HGr.out) _ _ _ HGr.out) _ _ _ HGr.out) _ _ _ HGr.out
theorem mask9_32 (a : Nat) (ha : a < B64) : bits BinOp.and IntKind.u64 (a : Int) 4294967295 = ((a % 4294967296 : Nat) : Int) := by
  rw [B64_eq] at ha
  have h := bits_and_u64_nat a 4294967295 (by omega) (by decide)
  rw [show 4294967295 = 2 ^ 32 - 1 from by decide, Nat.and_two_pow_sub_one_eq_mod] at h
  exact h
theorem sizes9_32t (a b : Nat) (ha : a < B64) (hb : b = a % 4294967296) (h : b % 2147483648 < 2139095040) (w : World) :
    Calls Tryz.prog 8 #[FV 2147483648 24 (-149) 104 2139095040 2143289345, U a] w fun en w' => en = .returned (.tuple #[U b, .bool true]) ∧ Below w.heap.size w w' := by
  have hm := mask9_32 a ha
  rw [← hb] at hm
  obtain ⟨v, hv⟩ : ∃ v, v = b % 2147483648 := ⟨_, rfl⟩
  have h1 : (b : Int) % 2147483648 = (v : Int) := by omega
  have h2 : (b : Int).tmod 2147483648 = (v : Int) := by rw [Int.tmod_eq_emod_of_nonneg (by omega)]; omega
  rw [← hv] at h
  have h3 : decide (v < 2139095040) = true := decide_eq_true h
  have h4 : decide ((v : Int) < 2139095040) = true := decide_eq_true (by omega)
  clear hv h ha hb
  go_enter Tryz.func8, Tryz.ntmps8
  go_wp2_with fail
  obtain ⟨W0, hW0⟩ : ∃ W0, W0 = (w.alloc (.cells #[U 2147483648, .int .i64 24, .int .i64 (-149), .int .i64 104, U 2139095040, U 2143289345] 26)) := ⟨_, rfl⟩
  have Xk : Hid (B6q W0 (w.heap.size) (U 2147483648) (.int .i64 24) (.int .i64 (-149)) (.int .i64 104) (U 2139095040) (U 2143289345)) := by rw [hW0]; exact ⟨by go_simp, by go_simp, by go_simp, by go_simp, by go_simp, by go_simp, by go_simp, by go_simp, by go_simp, by go_simp, by go_simp, by go_simp⟩
  have hb0 : Below w.heap.size w W0 := by rw [hW0]; exact below1 w _
  rw [← hW0]
  clear hW0
  have hbw : Below w.heap.size w w := Below.refl _ _
  obtain ⟨gk, hgk⟩ : ∃ g, g = w.heap.size := ⟨_, rfl⟩
  have HGk : Hid (w.heap.size ≤ gk) := by rw [hgk]; show _ ≤ _; omega
  rw [← hgk] at Xk
  try rw [← hgk]
  clear hgk
  replace hbw := Below.on hbw hb0
  clear hb0
  obtain ⟨ck0, ck1, ck2, ck3, ck4, ck5, fk0, fk1, fk2, fk3, fk4, fk5⟩ := Xk.out
  have hnek : gk < W0.heap.size := World.block_lt_of_cell? W0 _ ck0
  go_wp2_with fail
  clear ck0 ck1 ck2 ck3 ck4 ck5 fk0 fk1 fk2 fk3 fk4 fk5 hnek
  obtain ⟨W1, hW1⟩ : ∃ W1, W1 = W0.drew := ⟨_, rfl⟩
  have hbd : Below W0.heap.size W0 W1 := by rw [hW1]; exact bDrew1 (Below.refl _ _)
  replace Xk : Hid _ := Xk.out.below hbd
  replace hbw := Below.on hbw hbd
  clear hbd
  have HJ : Hid ((fun W' : World => W'.cell? ⟨gk, 0, none⟩ = some (U 2147483648) ∧ W'.cell? ⟨gk, 1, none⟩ = some (.int .i64 24) ∧ W'.cell? ⟨gk, 2, none⟩ = some (.int .i64 (-149)) ∧ W'.cell? ⟨gk, 3, none⟩ = some (.int .i64 104) ∧ W'.cell? ⟨gk, 4, none⟩ = some (U 2139095040) ∧ W'.cell? ⟨gk, 5, none⟩ = some (U 2143289345)) W1) := ⟨Xk.out.c0, Xk.out.c1, Xk.out.c2, Xk.out.c3, Xk.out.c4, Xk.out.c5⟩
  refine wp_region_J (fun W' => W'.cell? ⟨gk, 0, none⟩ = some (U 2147483648) ∧ W'.cell? ⟨gk, 1, none⟩ = some (.int .i64 24) ∧ W'.cell? ⟨gk, 2, none⟩ = some (.int .i64 (-149)) ∧ W'.cell? ⟨gk, 3, none⟩ = some (.int .i64 104) ∧ W'.cell? ⟨gk, 4, none⟩ = some (U 2139095040) ∧ W'.cell? ⟨gk, 5, none⟩ = some (U 2143289345)) (by kernel_rfl) ?_
  rw [← hW1]
  clear hW1
  refine wpJ_tq 0 rfl HJ.out ?_
  refine wpJ_tq 1 rfl HJ.out ?_
  refine wpJ_tq 2 rfl HJ.out ?_
  refine wpJ_tq 3 rfl HJ.out ?_
  refine wpJ_tq 4 rfl HJ.out ?_
  go_simp
  refine wpJ_tq 5 rfl HJ.out ?_
  refine wpJ_tq 6 rfl HJ.out ?_
  refine wpJ_tq 7 rfl HJ.out ?_
  refine wpJ_tq 8 rfl HJ.out ?_
  refine wpJ_tq 9 rfl HJ.out ?_
  refine wpJ_done (by kernel_rfl) ?_ _
  clear HJ
  go_wp2_with fail
  go_ret2
  exact ⟨rfl, hbw⟩
theorem sizes9_32f (a b : Nat) (ha : a < B64) (hb : b = a % 4294967296) (h : ¬ b % 2147483648 < 2139095040) (w : World) :
    Calls Tryz.prog 8 #[FV 2147483648 24 (-149) 104 2139095040 2143289345, U a] w fun en w' => en = .returned (.tuple #[U b, .bool false]) ∧ Below w.heap.size w w' := by
  have hm := mask9_32 a ha
  rw [← hb] at hm
  obtain ⟨v, hv⟩ : ∃ v, v = b % 2147483648 := ⟨_, rfl⟩
  have h1 : (b : Int) % 2147483648 = (v : Int) := by omega
  have h2 : (b : Int).tmod 2147483648 = (v : Int) := by rw [Int.tmod_eq_emod_of_nonneg (by omega)]; omega
  rw [← hv] at h
  have h3 : decide (v < 2139095040) = false := decide_eq_false h
  have h4 : decide ((v : Int) < 2139095040) = false := decide_eq_false (by omega)
  clear hv h ha hb
  go_enter Tryz.func8, Tryz.ntmps8
  go_wp2_with fail
  obtain ⟨W0, hW0⟩ : ∃ W0, W0 = (w.alloc (.cells #[U 2147483648, .int .i64 24, .int .i64 (-149), .int .i64 104, U 2139095040, U 2143289345] 26)) := ⟨_, rfl⟩
  have Xk : Hid (B6q W0 (w.heap.size) (U 2147483648) (.int .i64 24) (.int .i64 (-149)) (.int .i64 104) (U 2139095040) (U 2143289345)) := by rw [hW0]; exact ⟨by go_simp, by go_simp, by go_simp, by go_simp, by go_simp, by go_simp, by go_simp, by go_simp, by go_simp, by go_simp, by go_simp, by go_simp⟩
  have hb0 : Below w.heap.size w W0 := by rw [hW0]; exact below1 w _
  rw [← hW0]
  clear hW0
  have hbw : Below w.heap.size w w := Below.refl _ _
  obtain ⟨gk, hgk⟩ : ∃ g, g = w.heap.size := ⟨_, rfl⟩
  have HGk : Hid (w.heap.size ≤ gk) := by rw [hgk]; show _ ≤ _; omega
  rw [← hgk] at Xk
  try rw [← hgk]
  clear hgk
  replace hbw := Below.on hbw hb0
  clear hb0
  obtain ⟨ck0, ck1, ck2, ck3, ck4, ck5, fk0, fk1, fk2, fk3, fk4, fk5⟩ := Xk.out
  have hnek : gk < W0.heap.size := World.block_lt_of_cell? W0 _ ck0
  go_wp2_with fail
  clear ck0 ck1 ck2 ck3 ck4 ck5 fk0 fk1 fk2 fk3 fk4 fk5 hnek
  obtain ⟨W1, hW1⟩ : ∃ W1, W1 = W0.drew := ⟨_, rfl⟩
  have hbd : Below W0.heap.size W0 W1 := by rw [hW1]; exact bDrew1 (Below.refl _ _)
  replace Xk : Hid _ := Xk.out.below hbd
  replace hbw := Below.on hbw hbd
  clear hbd
  have HJ : Hid ((fun W' : World => W'.cell? ⟨gk, 0, none⟩ = some (U 2147483648) ∧ W'.cell? ⟨gk, 1, none⟩ = some (.int .i64 24) ∧ W'.cell? ⟨gk, 2, none⟩ = some (.int .i64 (-149)) ∧ W'.cell? ⟨gk, 3, none⟩ = some (.int .i64 104) ∧ W'.cell? ⟨gk, 4, none⟩ = some (U 2139095040) ∧ W'.cell? ⟨gk, 5, none⟩ = some (U 2143289345)) W1) := ⟨Xk.out.c0, Xk.out.c1, Xk.out.c2, Xk.out.c3, Xk.out.c4, Xk.out.c5⟩
  refine wp_region_J (fun W' => W'.cell? ⟨gk, 0, none⟩ = some (U 2147483648) ∧ W'.cell? ⟨gk, 1, none⟩ = some (.int .i64 24) ∧ W'.cell? ⟨gk, 2, none⟩ = some (.int .i64 (-149)) ∧ W'.cell? ⟨gk, 3, none⟩ = some (.int .i64 104) ∧ W'.cell? ⟨gk, 4, none⟩ = some (U 2139095040) ∧ W'.cell? ⟨gk, 5, none⟩ = some (U 2143289345)) (by kernel_rfl) ?_
  rw [← hW1]
  clear hW1
  refine wpJ_tq 0 rfl HJ.out ?_
  refine wpJ_tq 1 rfl HJ.out ?_
  refine wpJ_tq 2 rfl HJ.out ?_
  refine wpJ_tq 3 rfl HJ.out ?_
  refine wpJ_tq 4 rfl HJ.out ?_
  go_simp
  refine wpJ_tq 5 rfl HJ.out ?_
  refine wpJ_tq 6 rfl HJ.out ?_
  refine wpJ_tq 7 rfl HJ.out ?_
  refine wpJ_tq 8 rfl HJ.out ?_
  refine wpJ_tq 9 rfl HJ.out ?_
  refine wpJ_done (by kernel_rfl) ?_ _
  clear HJ
  go_wp2_with fail
  go_ret2
  exact ⟨rfl, hbw⟩
theorem man_lt {H : Nat} (hH : 0 < H) (s : Nat) : s - (s / H - 1) * H < 2 * H := by
  have e1 := Nat.div_add_mod s H
  have e2 := Nat.mod_lt s hH
  rw [Nat.mul_comm] at e1
  by_cases e3 : s / H = 0
  · rw [e3] at e1 ⊢; omega
  · rw [Nat.sub_mul]; omega
theorem vs_repr {H : Nat} (hH : 0 < H) (q : Nat) : ∀ k, k < 2 * H → ∃ r, vs H r = k * 2 ^ q := by
  induction q with
  | zero =>
    intro k hk
    refine ⟨k, ?_⟩
    have h1 : k / H < 2 := (Nat.div_lt_iff_lt_mul hH).2 hk
    unfold vs
    rw [show k / H - 1 = 0 from by omega]
    simp
  | succ q ih =>
    intro k hk
    by_cases h : k < H
    · obtain ⟨r, hr⟩ := ih (2 * k) (by omega)
      refine ⟨r, ?_⟩
      rw [hr, Nat.pow_succ, Nat.mul_comm 2 k, Nat.mul_assoc, Nat.mul_comm 2]
    · refine ⟨(q + 1) * H + k, ?_⟩
      have h1 : k / H = 1 := by
        have h3 : k / H < 2 := (Nat.div_lt_iff_lt_mul hH).2 hk
        rcases (by generalize k / H = q at h3 ⊢; omega : k / H = 0 ∨ k / H = 1) with h2 | h2
        · exact absurd ((Nat.div_eq_zero_iff_lt hH).1 h2) h
        · exact h2
      have h2 : ((q + 1) * H + k) / H = q + 2 := by
        rw [Nat.mul_comm, Nat.mul_add_div hH, h1]
      unfold vs
      rw [h2, show q + 2 - 1 = q + 1 from rfl, Nat.add_sub_cancel_left]
theorem vs_sterbenz {H s t : Nat} (hH : 0 < H) (h1 : vs H s ≤ 2 * vs H t) (h2 : vs H t ≤ vs H s) : ∃ r, r ≤ t ∧ vs H r = vs H s - vs H t := by
  have hst : t ≤ s := Nat.le_of_not_lt fun h => by have := vs_mono hH h; omega
  have hq : t / H - 1 ≤ s / H - 1 := by have := Nat.div_le_div_right (c := H) hst; omega
  obtain ⟨d, hd⟩ : ∃ d, s / H - 1 = t / H - 1 + d := ⟨_, (Nat.add_sub_cancel' hq).symm⟩
  have hs : vs H s = ((s - (s / H - 1) * H) * 2 ^ d) * 2 ^ (t / H - 1) := by
    unfold vs
    rw [hd, Nat.pow_add, Nat.mul_comm (2 ^ (t / H - 1)), ← Nat.mul_assoc]
  have ht : vs H t = (t - (t / H - 1) * H) * 2 ^ (t / H - 1) := rfl
  have hm := man_lt hH t
  generalize (s - (s / H - 1) * H) * 2 ^ d = A at hs
  generalize t - (t / H - 1) * H = B at ht hm
  generalize t / H - 1 = q at hs ht
  have hp : 0 < 2 ^ q := Nat.two_pow_pos q
  have hAB : A ≤ 2 * B := by
    rw [hs, ht, ← Nat.mul_assoc] at h1
    exact Nat.le_of_mul_le_mul_right h1 hp
  obtain ⟨r, hr⟩ := vs_repr hH q (A - B) (by omega)
  refine ⟨r, ?_, by rw [hr, hs, ht, Nat.sub_mul]⟩
  refine Nat.le_of_not_lt fun h => ?_
  have h3 := vs_mono hH h
  rw [hr, ht] at h3
  have h4 : (A - B) * 2 ^ q ≤ B * 2 ^ q := Nat.mul_le_mul_right _ (by omega)
  omega
theorem vs_diff {H s t : Nat} (hH : 0 < H) (h1 : vs H s ≤ 2 * vs H t) (h2 : vs H t ≤ 2 * vs H s) : ∃ r, (r ≤ s ∨ r ≤ t) ∧ ((vs H r : Nat) : Int) = (((vs H s : Nat) : Int) - ((vs H t : Nat) : Int)).natAbs := by
  rcases Nat.le_total (vs H t) (vs H s) with h | h
  · obtain ⟨r, a, b⟩ := vs_sterbenz hH h1 h
    exact ⟨r, .inr a, by omega⟩
  · obtain ⟨r, a, b⟩ := vs_sterbenz hH h2 h
    exact ⟨r, .inl a, by omega⟩
def FinU (l : Int) (o : Opd) (u : Int) : Prop := (∃ s, o = ono s ∧ u = 0) ∨ ∃ x e, o = ofin x e ∧ DFm x e ∧ x ≠ 0 ∧ dv x e = dv u l
theorem OpB.finU {S I H : Nat} {l : Int} {b : Nat} {o : Opd} (h : OpB S I H l b o) (hr : b % S < I) : FinU l o (svS S H b) := by
  rcases h with ⟨h1, _⟩ | ⟨h1, _⟩ | ⟨h1, h2⟩ | ⟨_, _, x, e, h2, h3, h4⟩
  · omega
  · omega
  · refine .inl ⟨_, h2, ?_⟩
    rw [svS_eq, h1, vs_zero]; split <;> rfl
  · exact .inr ⟨x, e, h4, h2.fm, h3, h2.v⟩
theorem FinU.neg {l : Int} {o : Opd} {u : Int} (h : FinU l o u) : FinU l (negO o) (-u) := by
  rcases h with ⟨s, rfl, rfl⟩ | ⟨x, e, rfl, h1, h2, h3⟩
  · exact .inl ⟨_, negO_no s, rfl⟩
  · exact .inr ⟨-x, e, negO_fin x e, h1.neg, by omega, by rw [dv_neg, dv_neg, h3]⟩
theorem SumO.finU {l : Int} {a b c : Opd} {u v : Int} (h : SumO a b c) (ha : FinU l a u) (hb : FinU l b v) : FinU l c (u + v) := by
  rcases ha with ⟨s, rfl, rfl⟩ | ⟨x, e, rfl, h1, h2, h3⟩ <;> rcases hb with ⟨t, rfl, rfl⟩ | ⟨y, f, rfl, k1, k2, k3⟩
  · have : c = ono (s && t) := h.uniq (.inr (.inr (.inr (.inl ⟨⟨rfl, rfl⟩, rfl⟩))))
    exact .inl ⟨_, this, rfl⟩
  · have : c = ofin y f := h.uniq (.inr (.inr (.inr (.inr (.inl ⟨⟨rfl, rfl⟩, rfl⟩)))))
    exact .inr ⟨y, f, this, k1, k2, by rw [k3, Int.zero_add]⟩
  · have : c = ofin x e := h.uniq (.inr (.inr (.inr (.inr (.inr (.inl ⟨⟨rfl, rfl⟩, rfl⟩))))))
    exact .inr ⟨x, e, this, h1, h2, by rw [h3, Int.add_zero]⟩
  · rcases h with ⟨q, _⟩ | ⟨q, _⟩ | ⟨q, _⟩ | ⟨q, _⟩ | ⟨q, _⟩ | ⟨q, _⟩ | ⟨_, q⟩
    · rcases q with q | q | ⟨q, _⟩ <;> exact by cases q
    · exact by cases q.1
    · exact by cases q.2
    · exact by cases q.1
    · exact by cases q.1
    · exact by cases q.2
    · rcases q with ⟨q1, q2⟩ | ⟨z, g, q1, q2, q3, q4⟩
      · refine .inl ⟨_, q2, ?_⟩
        have q1' : dv x e + dv y f = 0 := q1
        rw [h3, k3, ← dv_add] at q1'
        exact dv_eq_zero q1'
      · refine .inr ⟨z, g, q4, q1, q2, ?_⟩
        rw [q3, dv_add]
        show dv x e + dv y f = _
        rw [h3, k3]
theorem FinU.own {f p m l : Int} {S I H sd : Nat} {Be : Int} (J : Jn f p m l S I H sd Be) {c : Opd} {u : Int} (h : FinU l c u) {r : Nat} (hr : r < I) (hv : ((vs H r : Nat) : Int) = u.natAbs) (Q : Nat) : patO l sd Be S I Q c < 2 * S ∧ patO l sd Be S I Q c % S < I ∧ svS S H (patO l sd Be S I Q c) = u := by
  have hlt := J.jm.pm.fm.lt
  have hpos := J.jm.pm.fm.pos
  have hH := J.jm.pm.hp
  rcases h with ⟨s, rfl, rfl⟩ | ⟨x, e, rfl, h1, h2, h3⟩
  · rw [patO_no]
    cases s
    · refine ⟨by simp; omega, by simp; omega, ?_⟩
      rw [svS_eq]; simp [vs_zero]
    · refine ⟨by simp; omega, by simp; omega, ?_⟩
      rw [svS_eq]; simp [vs_zero]
  · have hu : u ≠ 0 := fun h0 => by
      rw [h0, dv_zero] at h3; exact h2 (dv_eq_zero h3)
    have hr0 : r ≠ 0 := fun h0 => by rw [h0, vs_zero] at hv; omega
    have hb : ((if u < 0 then S else 0) + r) < 2 * S := by split <;> omega
    have hm : ((if u < 0 then S else 0) + r) % S = r := by
      split
      · rw [Nat.add_mod_left, Nat.mod_eq_of_lt (by omega)]
      · rw [Nat.zero_add, Nat.mod_eq_of_lt (by omega)]
    have hs : svS S H ((if u < 0 then S else 0) + r) = u := by
      rw [svS_eq, hm, hv]
      by_cases hn : u < 0
      · rw [if_pos hn, if_pos (by omega)]; omega
      · rw [if_neg hn, if_neg (by omega)]; omega
    have hp : rnp l sd Be S I x e = (if u < 0 then S else 0) + r := rn_own J hb (by rw [hm]; exact hr0) (by rw [hm]; exact hr) h1.lo4 (by rw [hs]; exact h3)
    rw [patO_fin, hp]
    exact ⟨hb, by rw [hm]; exact hr, hs⟩
theorem sterbenz_ok {f p m l : Int} {S I H sd : Nat} {Be : Int} (J : Jn f p m l S I H sd Be) {a b : Nat} {oa ob c : Opd} (ha : OpB S I H l a oa) (hb : OpB S I H l b ob) (ka : a % S < I) (kb : b % S < I) (hs : decide (S ≤ a) = decide (S ≤ b)) (h1 : vs H (a % S) ≤ 2 * vs H (b % S)) (h2 : vs H (b % S) ≤ 2 * vs H (a % S)) (h : SumO oa (negO ob) c) (Q : Nat) :
    patO l sd Be S I Q c < 2 * S ∧ patO l sd Be S I Q c % S < I ∧ svS S H (patO l sd Be S I Q c) = svS S H a - svS S H b := by
  have hU := h.finU (ha.finU ka) (hb.finU kb).neg
  obtain ⟨r, hr, hv⟩ := vs_diff J.jm.pm.hp h1 h2
  rw [show svS S H a + -svS S H b = svS S H a - svS S H b from rfl] at hU
  refine hU.own J (r := r) (by omega) ?_ Q
  rw [hv, svS_eq, svS_eq]
  by_cases hS : S ≤ a
  · have hS2 : S ≤ b := by simpa [hS] using hs
    rw [if_pos hS, if_pos hS2]; omega
  · have hS2 : ¬ S ≤ b := by simpa [hS] using hs
    rw [if_neg hS, if_neg hS2]
theorem iv_sums {s t : Bool} {x y : Int} (h1 : s = decide (x < 0)) (h2 : t = decide (y < 0)) (h3 : s = t) : iv s (x.natAbs + y.natAbs) = x + y := by
  rw [h3] at h1 ⊢
  cases t
  · have a := of_decide_eq_false h1.symm; have b := of_decide_eq_false h2.symm; rw [iv_f]; omega
  · have a := of_decide_eq_true h1.symm; have b := of_decide_eq_true h2.symm; rw [iv_t]; omega
theorem iv_sumg {s t : Bool} {x y : Int} (h1 : s = decide (x < 0)) (h2 : t = decide (y < 0)) (h3 : s ≠ t) (h4 : y.natAbs ≤ x.natAbs) : iv s (x.natAbs - y.natAbs) = x + y := by
  cases s <;> cases t
  · exact absurd rfl h3
  · have a := of_decide_eq_false h1.symm; have b := of_decide_eq_true h2.symm; rw [iv_f]; omega
  · have a := of_decide_eq_true h1.symm; have b := of_decide_eq_false h2.symm; rw [iv_t]; omega
  · exact absurd rfl h3
theorem iv_suml {s t : Bool} {x y : Int} (h1 : s = decide (x < 0)) (h2 : t = decide (y < 0)) (h3 : s ≠ t) (h4 : x.natAbs < y.natAbs) : iv t (y.natAbs - x.natAbs) = x + y := by
  cases s <;> cases t
  · exact absurd rfl h3
  · have a := of_decide_eq_false h1.symm; have b := of_decide_eq_true h2.symm; rw [iv_t]; omega
  · have a := of_decide_eq_true h1.symm; have b := of_decide_eq_false h2.symm; rw [iv_f]; omega
  · exact absurd rfl h3
theorem sum_len32 {xs ys zs : List Nat} {a b m n : Nat} (hx : Nf B32 xs a) (hy : Nf B32 ys b) (lx : xs.length = m) (ly : ys.length = n) (hz : Nf B32 zs (a + b)) : zs.length ≤ max m n + 1 := by
  refine (hz.len_le B32_one).2 ?_
  have h1 := (hx.len_le B32_one (k := max m n)).1 (by omega)
  have h2 := (hy.len_le B32_one (k := max m n)).1 (by omega)
  rw [Nat.pow_succ]
  have : B32 ^ (max m n) * 2 ≤ B32 ^ (max m n) * B32 := Nat.mul_le_mul_left _ (by rw [B32_eq]; omega)
  omega
theorem radd04_s {p q : Option Addr} {m n : Nat} {w : World} {x y : Int} (s t : Bool) (h : ZR w s p m x) (k : ZR w t q n y) (hm : m ≤ 50000) (hn : n ≤ 50000) (hst : s = t) :
    Calls Tryz.prog 19 #[.agg #[.bool s, .slice p m m], .agg #[.bool t, .slice q n n]] w fun e w' => ∃ v, e = .returned v ∧ GotR w.heap.size w' v (x + y) (max m n + 1) ∧ Below w.heap.size w w' := by
  have HA : Hid (ZR w s p m x) := h
  have HB : Hid (ZR w t q n y) := k
  have HM : Hid (m ≤ 50000 ∧ n ≤ 50000) := ⟨hm, hn⟩
  clear h k hm hn
  have hse : (s == t) = true := by simpa using hst
  have HST : Hid (s = t) := hst
  clear hst
  go_enter Tryz.func19, Tryz.ntmps19
  go_wp2_with fail
  obtain ⟨W0, hW0⟩ : ∃ W0, W0 = (((w.alloc (.cells #[.bool s, .slice p m m] 33)).alloc (.cells #[.bool t, .slice q n n] 33)).alloc (.cells #[.bool false, .slice none 0 0] 33)) := ⟨_, rfl⟩
  have Xa : Hid (Box W0 (w.heap.size) (.bool s) (.slice p m m)) := by rw [hW0]; exact ⟨by go_simp, by go_simp, by go_simp, by go_simp⟩
  have Xb : Hid (Box W0 (w.heap.size + 1) (.bool t) (.slice q n n)) := by rw [hW0]; exact ⟨by go_simp, by go_simp, by go_simp, by go_simp⟩
  have Xr : Hid (Box W0 (w.heap.size + 1 + 1) (.bool false) (.slice none 0 0)) := by rw [hW0]; exact ⟨by go_simp, by go_simp, by go_simp, by go_simp⟩
  have hb0 : Below w.heap.size w W0 := by rw [hW0]; exact below3 w _ _ _
  rw [← hW0]
  clear hW0
  have hbw : Below w.heap.size w w := Below.refl _ _
  obtain ⟨gr, hgr⟩ : ∃ g, g = w.heap.size + 1 + 1 := ⟨_, rfl⟩
  have HGr : Hid (w.heap.size ≤ gr) := by rw [hgr]; show _ ≤ _; omega
  rw [← hgr] at Xr
  try rw [← hgr]
  obtain ⟨gb, hgb⟩ : ∃ g, g = w.heap.size + 1 := ⟨_, rfl⟩
  have HGb : Hid (w.heap.size ≤ gb) := by rw [hgb]; show _ ≤ _; omega
  rw [← hgb] at Xb
  try rw [← hgb]
  obtain ⟨ga, hga⟩ : ∃ g, g = w.heap.size := ⟨_, rfl⟩
  have HGa : Hid (w.heap.size ≤ ga) := by rw [hga]; show _ ≤ _; omega
  rw [← hga] at Xa
  try rw [← hga]
  have HGD : Hid (ga ≠ gb ∧ ga ≠ gr ∧ gb ≠ ga ∧ gb ≠ gr ∧ gr ≠ ga ∧ gr ≠ gb) := by rw [hga, hgb, hgr]; exact ⟨by omega, by omega, by omega, by omega, by omega, by omega⟩
  clear hga hgb hgr
  replace HA : Hid _ := HA.out.below hb0
  replace HB : Hid _ := HB.out.below hb0
  replace hbw := Below.on hbw hb0
  clear hb0
  obtain ⟨xs, hAx, hNx⟩ := HA.out.ex
  obtain ⟨ys, hAy, hNy⟩ := HB.out.ex
  have HNX : Hid (Nf B32 xs x.natAbs ∧ Nf B32 ys y.natAbs) := ⟨hNx, hNy⟩
  clear hNx hNy
  have AX : Hid (At32 W0 p m m xs) := hAx
  have AY : Hid (At32 W0 q n n ys) := hAy
  clear hAx hAy
  have HZV : Hid (iv s (x.natAbs + y.natAbs) = x + y) := by have h1 := HA.out.sg; have h2 := HB.out.sg; have h3 := HST.out; exact iv_sums h1 h2 h3
  obtain ⟨W1, hW1⟩ : ∃ W1, W1 = W0.drew := ⟨_, rfl⟩
  have hbd : Below W0.heap.size W0 W1 := by rw [hW1]; exact bDrew1 (Below.refl _ _)
  replace Xa : Hid _ := Xa.out.below hbd
  replace Xb : Hid _ := Xb.out.below hbd
  replace Xr : Hid _ := Xr.out.below hbd
  replace HA : Hid _ := HA.out.below hbd
  replace HB : Hid _ := HB.out.below hbd
  replace AX : Hid _ := AX.out.below hbd
  replace AY : Hid _ := AY.out.below hbd
  replace hbw := Below.on hbw hbd
  clear hbd
  have HJ : Hid ((fun W' : World => W'.cell? ⟨ga, 0, none⟩ = some (.bool s) ∧ W'.cell? ⟨ga, 1, none⟩ = some (.slice p m m) ∧ W'.cell? ⟨gb, 0, none⟩ = some (.bool t) ∧ W'.cell? ⟨gb, 1, none⟩ = some (.slice q n n)) W1) := ⟨Xa.out.c0, Xa.out.c1, Xb.out.c0, Xb.out.c1⟩
  refine wp_region_J (fun W' => W'.cell? ⟨ga, 0, none⟩ = some (.bool s) ∧ W'.cell? ⟨ga, 1, none⟩ = some (.slice p m m) ∧ W'.cell? ⟨gb, 0, none⟩ = some (.bool t) ∧ W'.cell? ⟨gb, 1, none⟩ = some (.slice q n n)) (by kernel_rfl) ?_
  rw [← hW1]
  clear hW1
  refine wpJ_tq 0 rfl HJ.out ?_
  refine wpJ_tq 1 rfl HJ.out ?_
  refine wpJ_tq 2 rfl HJ.out ?_
  refine wpJ_tq 3 rfl HJ.out ?_
  refine wpJ_tq 4 rfl HJ.out ?_
  refine wpJ_tq 5 rfl HJ.out ?_
  refine wpJ_on 6 rfl fun KJ hK => ?_
  go_simp
  refine (radd_any AX.out AY.out HNX.out.1 HNX.out.2 (by have := HM.out; omega) (by have := HM.out; omega)).mono ?_
  rintro e w2 ⟨p2, m2, z2, rfl, hA2, hN2, hb2⟩
  have hl2 : m2 ≤ max m n + 1 := by rw [← hA2.len]; exact sum_len32 HNX.out.1 HNX.out.2 AX.out.len AY.out.len hN2
  replace Xa : Hid _ := Xa.out.below hb2
  replace Xb : Hid _ := Xb.out.below hb2
  replace Xr : Hid _ := Xr.out.below hb2
  replace HA : Hid _ := HA.out.below hb2
  replace HB : Hid _ := HB.out.below hb2
  replace AX : Hid _ := AX.out.below hb2
  replace AY : Hid _ := AY.out.below hb2
  replace hbw := Below.on hbw hb2
  clear hb2
  have A2 : Hid (At32 w2 p2 m2 m2 z2) := hA2
  have N2 : Hid (Nf B32 z2 (x.natAbs + y.natAbs)) := hN2
  have HLL : Hid (m2 ≤ max m n + 1) := hl2
  have HRL : Hid (gr < w2.heap.size) := Xr.out.lt
  have HBS : Hid (w.heap.size ≤ w2.heap.size) := hbw.size
  clear hA2 hN2 hl2
  refine hK _ _ ⟨Xa.out.c0, Xa.out.c1, Xb.out.c0, Xb.out.c1⟩ ?_
  clear hK
  refine wpJ_on 7 rfl fun KJ hK => ?_
  go_simp
  refine (rmk_any s A2.out N2.out (by have := HLL.out; have := HM.out; omega)).mono ?_
  rintro e w3 ⟨v, rfl, hv, hb3⟩
  rw [HZV.out] at hv
  replace Xa : Hid _ := Xa.out.below hb3
  replace Xb : Hid _ := Xb.out.below hb3
  replace Xr : Hid _ := Xr.out.below hb3
  replace HA : Hid _ := HA.out.below hb3
  replace HB : Hid _ := HB.out.below hb3
  replace AX : Hid _ := AX.out.below hb3
  replace AY : Hid _ := AY.out.below hb3
  replace A2 : Hid _ := A2.out.below hb3
  replace hbw := Below.on hbw hb3
  clear hb3
  obtain ⟨s9, g9, m9, rfl, hg9, hz9, hl9⟩ := hv
  have ZA : Hid (ZR w3 s9 (some ⟨g9, 0, none⟩) m9 (x + y)) := hz9
  have HL : Hid (m9 ≤ max m n + 1) := by have := hl9; have := HLL.out; show m9 ≤ _; omega
  have HGE : Hid (gr < g9) := Nat.lt_of_lt_of_le HRL.out hg9
  have HGB : Hid (w.heap.size ≤ g9) := Nat.le_trans HBS.out hg9
  clear hg9 hz9 hl9
  refine hK _ _ ⟨Xa.out.c0, Xa.out.c1, Xb.out.c0, Xb.out.c1⟩ ?_
  clear hK
  obtain ⟨cr0, cr1, fr0, fr1⟩ := Xr.out
  have hner := Xr.out.lt
  obtain ⟨ca0, ca1, fa0, fa1⟩ := Xa.out
  have hnea := Xa.out.lt
  obtain ⟨cb0, cb1, fb0, fb1⟩ := Xb.out
  have hneb := Xb.out.lt
  obtain ⟨hgd0, hgd1, hgd2, hgd3, hgd4, hgd5⟩ := HGD.out
  refine wpJ_on 8 rfl fun KJ hK => ?_
  go_simp
  have HJ2 : Hid ((fun W' : World => W'.cell? ⟨ga, 0, none⟩ = some (.bool s) ∧ W'.cell? ⟨ga, 1, none⟩ = some (.slice p m m) ∧ W'.cell? ⟨gb, 0, none⟩ = some (.bool t) ∧ W'.cell? ⟨gb, 1, none⟩ = some (.slice q n n)) ((w3.setCell ⟨gr, 0, none⟩ (.bool s9)).setCell ⟨gr, 1, none⟩ (.slice (some ⟨g9, 0, none⟩) m9 m9))) := ⟨by go_simp, by go_simp, by go_simp, by go_simp⟩
  refine hK _ _ HJ2.out ?_
  clear hK HJ
  have HJ := HJ2
  clear HJ2
  refine wpJ_done (by kernel_rfl) ?_ _
  clear HJ
  go_wp2_with fail
  refine bodyPost_ret (v := .agg #[.bool s9, .slice (some ⟨g9, 0, none⟩) m9 m9]) (by rw [results_cell1 rfl]; go_simp) rfl ⟨_, rfl, ⟨s9, g9, m9, rfl, HGB.out, ?_, HL.out⟩, ?_⟩
  · have := HGE.out
    exact (ZA.out.set _ _ _ (by omega)).set _ _ _ (by omega)
  · exact bSet (bSet hbw _ _ _ HGr.out) _ _ _ HGr.out
theorem radd04_g {p q : Option Addr} {m n : Nat} {w : World} {x y : Int} (s t : Bool) (h : ZR w s p m x) (k : ZR w t q n y) (hm : m ≤ 50000) (hn : n ≤ 50000) (hst : s ≠ t) (hcm : y.natAbs ≤ x.natAbs) :
    Calls Tryz.prog 19 #[.agg #[.bool s, .slice p m m], .agg #[.bool t, .slice q n n]] w fun e w' => ∃ v, e = .returned v ∧ GotR w.heap.size w' v (x + y) (max m n + 1) ∧ Below w.heap.size w w' := by
  have HA : Hid (ZR w s p m x) := h
  have HB : Hid (ZR w t q n y) := k
  have HM : Hid (m ≤ 50000 ∧ n ≤ 50000) := ⟨hm, hn⟩
  clear h k hm hn
  have hse : (s == t) = false := by simpa using hst
  have HST : Hid (s ≠ t) := hst
  have HCM : Hid (y.natAbs ≤ x.natAbs) := hcm
  clear hst hcm
  go_enter Tryz.func19, Tryz.ntmps19
  go_wp2_with fail
  obtain ⟨W0, hW0⟩ : ∃ W0, W0 = (((w.alloc (.cells #[.bool s, .slice p m m] 33)).alloc (.cells #[.bool t, .slice q n n] 33)).alloc (.cells #[.bool false, .slice none 0 0] 33)) := ⟨_, rfl⟩
  have Xa : Hid (Box W0 (w.heap.size) (.bool s) (.slice p m m)) := by rw [hW0]; exact ⟨by go_simp, by go_simp, by go_simp, by go_simp⟩
  have Xb : Hid (Box W0 (w.heap.size + 1) (.bool t) (.slice q n n)) := by rw [hW0]; exact ⟨by go_simp, by go_simp, by go_simp, by go_simp⟩
  have Xr : Hid (Box W0 (w.heap.size + 1 + 1) (.bool false) (.slice none 0 0)) := by rw [hW0]; exact ⟨by go_simp, by go_simp, by go_simp, by go_simp⟩
  have hb0 : Below w.heap.size w W0 := by rw [hW0]; exact below3 w _ _ _
  rw [← hW0]
  clear hW0
  have hbw : Below w.heap.size w w := Below.refl _ _
  obtain ⟨gr, hgr⟩ : ∃ g, g = w.heap.size + 1 + 1 := ⟨_, rfl⟩
  have HGr : Hid (w.heap.size ≤ gr) := by rw [hgr]; show _ ≤ _; omega
  rw [← hgr] at Xr
  try rw [← hgr]
  obtain ⟨gb, hgb⟩ : ∃ g, g = w.heap.size + 1 := ⟨_, rfl⟩
  have HGb : Hid (w.heap.size ≤ gb) := by rw [hgb]; show _ ≤ _; omega
  rw [← hgb] at Xb
  try rw [← hgb]
  obtain ⟨ga, hga⟩ : ∃ g, g = w.heap.size := ⟨_, rfl⟩
  have HGa : Hid (w.heap.size ≤ ga) := by rw [hga]; show _ ≤ _; omega
  rw [← hga] at Xa
  try rw [← hga]
  have HGD : Hid (ga ≠ gb ∧ ga ≠ gr ∧ gb ≠ ga ∧ gb ≠ gr ∧ gr ≠ ga ∧ gr ≠ gb) := by rw [hga, hgb, hgr]; exact ⟨by omega, by omega, by omega, by omega, by omega, by omega⟩
  clear hga hgb hgr
  replace HA : Hid _ := HA.out.below hb0
  replace HB : Hid _ := HB.out.below hb0
  replace hbw := Below.on hbw hb0
  clear hb0
  obtain ⟨xs, hAx, hNx⟩ := HA.out.ex
  obtain ⟨ys, hAy, hNy⟩ := HB.out.ex
  have HNX : Hid (Nf B32 xs x.natAbs ∧ Nf B32 ys y.natAbs) := ⟨hNx, hNy⟩
  clear hNx hNy
  have AX : Hid (At32 W0 p m m xs) := hAx
  have AY : Hid (At32 W0 q n n ys) := hAy
  clear hAx hAy
  have HZV : Hid (iv s (x.natAbs - y.natAbs) = x + y) := by have h1 := HA.out.sg; have h2 := HB.out.sg; have h3 := HST.out; exact iv_sumg h1 h2 h3 HCM.out
  obtain ⟨cm, hcm⟩ : ∃ cm, cm = cmpN x.natAbs y.natAbs := ⟨_, rfl⟩
  have HCQ : Hid (cm = cmpN x.natAbs y.natAbs) := hcm
  have hcc : decide (0 ≤ cm) = true := decide_eq_true (by rw [hcm]; have := HCM.out; unfold cmpN; split <;> (try split) <;> omega)
  clear hcm
  refine (rcmp_any AX.out AY.out HNX.out.1 HNX.out.2).mono ?_
  rintro e w9 ⟨rfl, rd, rfl⟩
  rw [← HCQ.out]
  have hbr := bDrewN (Below.refl W0.heap.size W0) rd
  generalize W0.drewN rd = W9 at *
  replace Xa : Hid _ := Xa.out.below hbr
  replace Xb : Hid _ := Xb.out.below hbr
  replace Xr : Hid _ := Xr.out.below hbr
  replace HA : Hid _ := HA.out.below hbr
  replace HB : Hid _ := HB.out.below hbr
  replace AX : Hid _ := AX.out.below hbr
  replace AY : Hid _ := AY.out.below hbr
  replace hbw := Below.on hbw hbr
  clear hbr
  obtain ⟨ca0, ca1, fa0, fa1⟩ := Xa.out
  have hnea := Xa.out.lt
  obtain ⟨cb0, cb1, fb0, fb1⟩ := Xb.out
  have hneb := Xb.out.lt
  go_wp2_with fail
  clear ca0 ca1 fa0 fa1 hnea
  clear cb0 cb1 fb0 fb1 hneb
  clear hcc
  obtain ⟨W1, hW1⟩ : ∃ W1, W1 = W9.drew := ⟨_, rfl⟩
  have hbd : Below W9.heap.size W9 W1 := by rw [hW1]; exact bDrew1 (Below.refl _ _)
  replace Xa : Hid _ := Xa.out.below hbd
  replace Xb : Hid _ := Xb.out.below hbd
  replace Xr : Hid _ := Xr.out.below hbd
  replace HA : Hid _ := HA.out.below hbd
  replace HB : Hid _ := HB.out.below hbd
  replace AX : Hid _ := AX.out.below hbd
  replace AY : Hid _ := AY.out.below hbd
  replace hbw := Below.on hbw hbd
  clear hbd
  have HJ : Hid ((fun W' : World => W'.cell? ⟨ga, 0, none⟩ = some (.bool s) ∧ W'.cell? ⟨ga, 1, none⟩ = some (.slice p m m) ∧ W'.cell? ⟨gb, 0, none⟩ = some (.bool t) ∧ W'.cell? ⟨gb, 1, none⟩ = some (.slice q n n)) W1) := ⟨Xa.out.c0, Xa.out.c1, Xb.out.c0, Xb.out.c1⟩
  refine wp_region_J (fun W' => W'.cell? ⟨ga, 0, none⟩ = some (.bool s) ∧ W'.cell? ⟨ga, 1, none⟩ = some (.slice p m m) ∧ W'.cell? ⟨gb, 0, none⟩ = some (.bool t) ∧ W'.cell? ⟨gb, 1, none⟩ = some (.slice q n n)) (by kernel_rfl) ?_
  rw [← hW1]
  clear hW1
  refine wpJ_tq 0 rfl HJ.out ?_
  refine wpJ_tq 1 rfl HJ.out ?_
  refine wpJ_tq 2 rfl HJ.out ?_
  refine wpJ_tq 3 rfl HJ.out ?_
  refine wpJ_tq 4 rfl HJ.out ?_
  refine wpJ_tq 5 rfl HJ.out ?_
  refine wpJ_on 6 rfl fun KJ hK => ?_
  go_simp
  refine (rsub_any AX.out AY.out HNX.out.1 HNX.out.2 (by have := HM.out; omega) HCM.out).mono ?_
  rintro e w2 ⟨p2, m2, z2, rfl, hA2, hN2, hl2q, hb2⟩
  have hl2 : m2 ≤ max m n + 1 := by omega
  clear hl2q
  replace Xa : Hid _ := Xa.out.below hb2
  replace Xb : Hid _ := Xb.out.below hb2
  replace Xr : Hid _ := Xr.out.below hb2
  replace HA : Hid _ := HA.out.below hb2
  replace HB : Hid _ := HB.out.below hb2
  replace AX : Hid _ := AX.out.below hb2
  replace AY : Hid _ := AY.out.below hb2
  replace hbw := Below.on hbw hb2
  clear hb2
  have A2 : Hid (At32 w2 p2 m2 m2 z2) := hA2
  have N2 : Hid (Nf B32 z2 (x.natAbs - y.natAbs)) := hN2
  have HLL : Hid (m2 ≤ max m n + 1) := hl2
  have HRL : Hid (gr < w2.heap.size) := Xr.out.lt
  have HBS : Hid (w.heap.size ≤ w2.heap.size) := hbw.size
  clear hA2 hN2 hl2
  refine hK _ _ ⟨Xa.out.c0, Xa.out.c1, Xb.out.c0, Xb.out.c1⟩ ?_
  clear hK
  refine wpJ_on 7 rfl fun KJ hK => ?_
  go_simp
  refine (rmk_any s A2.out N2.out (by have := HLL.out; have := HM.out; omega)).mono ?_
  rintro e w3 ⟨v, rfl, hv, hb3⟩
  rw [HZV.out] at hv
  replace Xa : Hid _ := Xa.out.below hb3
  replace Xb : Hid _ := Xb.out.below hb3
  replace Xr : Hid _ := Xr.out.below hb3
  replace HA : Hid _ := HA.out.below hb3
  replace HB : Hid _ := HB.out.below hb3
  replace AX : Hid _ := AX.out.below hb3
  replace AY : Hid _ := AY.out.below hb3
  replace A2 : Hid _ := A2.out.below hb3
  replace hbw := Below.on hbw hb3
  clear hb3
  obtain ⟨s9, g9, m9, rfl, hg9, hz9, hl9⟩ := hv
  have ZA : Hid (ZR w3 s9 (some ⟨g9, 0, none⟩) m9 (x + y)) := hz9
  have HL : Hid (m9 ≤ max m n + 1) := by have := hl9; have := HLL.out; show m9 ≤ _; omega
  have HGE : Hid (gr < g9) := Nat.lt_of_lt_of_le HRL.out hg9
  have HGB : Hid (w.heap.size ≤ g9) := Nat.le_trans HBS.out hg9
  clear hg9 hz9 hl9
  refine hK _ _ ⟨Xa.out.c0, Xa.out.c1, Xb.out.c0, Xb.out.c1⟩ ?_
  clear hK
  obtain ⟨cr0, cr1, fr0, fr1⟩ := Xr.out
  have hner := Xr.out.lt
  obtain ⟨ca0, ca1, fa0, fa1⟩ := Xa.out
  have hnea := Xa.out.lt
  obtain ⟨cb0, cb1, fb0, fb1⟩ := Xb.out
  have hneb := Xb.out.lt
  obtain ⟨hgd0, hgd1, hgd2, hgd3, hgd4, hgd5⟩ := HGD.out
  refine wpJ_on 8 rfl fun KJ hK => ?_
  go_simp
  have HJ2 : Hid ((fun W' : World => W'.cell? ⟨ga, 0, none⟩ = some (.bool s) ∧ W'.cell? ⟨ga, 1, none⟩ = some (.slice p m m) ∧ W'.cell? ⟨gb, 0, none⟩ = some (.bool t) ∧ W'.cell? ⟨gb, 1, none⟩ = some (.slice q n n)) ((w3.setCell ⟨gr, 0, none⟩ (.bool s9)).setCell ⟨gr, 1, none⟩ (.slice (some ⟨g9, 0, none⟩) m9 m9))) := ⟨by go_simp, by go_simp, by go_simp, by go_simp⟩
  refine hK _ _ HJ2.out ?_
  clear hK HJ
  have HJ := HJ2
  clear HJ2
  refine wpJ_done (by kernel_rfl) ?_ _
  clear HJ
  go_wp2_with fail
  refine bodyPost_ret (v := .agg #[.bool s9, .slice (some ⟨g9, 0, none⟩) m9 m9]) (by rw [results_cell1 rfl]; go_simp) rfl ⟨_, rfl, ⟨s9, g9, m9, rfl, HGB.out, ?_, HL.out⟩, ?_⟩
  · have := HGE.out
    exact (ZA.out.set _ _ _ (by omega)).set _ _ _ (by omega)
  · exact bSet (bSet hbw _ _ _ HGr.out) _ _ _ HGr.out
theorem radd04_l {p q : Option Addr} {m n : Nat} {w : World} {x y : Int} (s t : Bool) (h : ZR w s p m x) (k : ZR w t q n y) (hm : m ≤ 50000) (hn : n ≤ 50000) (hst : s ≠ t) (hcm : x.natAbs < y.natAbs) :
    Calls Tryz.prog 19 #[.agg #[.bool s, .slice p m m], .agg #[.bool t, .slice q n n]] w fun e w' => ∃ v, e = .returned v ∧ GotR w.heap.size w' v (x + y) (max m n + 1) ∧ Below w.heap.size w w' := by
  have HA : Hid (ZR w s p m x) := h
  have HB : Hid (ZR w t q n y) := k
  have HM : Hid (m ≤ 50000 ∧ n ≤ 50000) := ⟨hm, hn⟩
  clear h k hm hn
  have hse : (s == t) = false := by simpa using hst
  have HST : Hid (s ≠ t) := hst
  have HCM : Hid (x.natAbs < y.natAbs) := hcm
  clear hst hcm
  go_enter Tryz.func19, Tryz.ntmps19
  go_wp2_with fail
  obtain ⟨W0, hW0⟩ : ∃ W0, W0 = (((w.alloc (.cells #[.bool s, .slice p m m] 33)).alloc (.cells #[.bool t, .slice q n n] 33)).alloc (.cells #[.bool false, .slice none 0 0] 33)) := ⟨_, rfl⟩
  have Xa : Hid (Box W0 (w.heap.size) (.bool s) (.slice p m m)) := by rw [hW0]; exact ⟨by go_simp, by go_simp, by go_simp, by go_simp⟩
  have Xb : Hid (Box W0 (w.heap.size + 1) (.bool t) (.slice q n n)) := by rw [hW0]; exact ⟨by go_simp, by go_simp, by go_simp, by go_simp⟩
  have Xr : Hid (Box W0 (w.heap.size + 1 + 1) (.bool false) (.slice none 0 0)) := by rw [hW0]; exact ⟨by go_simp, by go_simp, by go_simp, by go_simp⟩
  have hb0 : Below w.heap.size w W0 := by rw [hW0]; exact below3 w _ _ _
  rw [← hW0]
  clear hW0
  have hbw : Below w.heap.size w w := Below.refl _ _
  obtain ⟨gr, hgr⟩ : ∃ g, g = w.heap.size + 1 + 1 := ⟨_, rfl⟩
  have HGr : Hid (w.heap.size ≤ gr) := by rw [hgr]; show _ ≤ _; omega
  rw [← hgr] at Xr
  try rw [← hgr]
  obtain ⟨gb, hgb⟩ : ∃ g, g = w.heap.size + 1 := ⟨_, rfl⟩
  have HGb : Hid (w.heap.size ≤ gb) := by rw [hgb]; show _ ≤ _; omega
  rw [← hgb] at Xb
  try rw [← hgb]
  obtain ⟨ga, hga⟩ : ∃ g, g = w.heap.size := ⟨_, rfl⟩
  have HGa : Hid (w.heap.size ≤ ga) := by rw [hga]; show _ ≤ _; omega
  rw [← hga] at Xa
  try rw [← hga]
  have HGD : Hid (ga ≠ gb ∧ ga ≠ gr ∧ gb ≠ ga ∧ gb ≠ gr ∧ gr ≠ ga ∧ gr ≠ gb) := by rw [hga, hgb, hgr]; exact ⟨by omega, by omega, by omega, by omega, by omega, by omega⟩
  clear hga hgb hgr
  replace HA : Hid _ := HA.out.below hb0
  replace HB : Hid _ := HB.out.below hb0
  replace hbw := Below.on hbw hb0
  clear hb0
  obtain ⟨xs, hAx, hNx⟩ := HA.out.ex
  obtain ⟨ys, hAy, hNy⟩ := HB.out.ex
  have HNX : Hid (Nf B32 xs x.natAbs ∧ Nf B32 ys y.natAbs) := ⟨hNx, hNy⟩
  clear hNx hNy
  have AX : Hid (At32 W0 p m m xs) := hAx
  have AY : Hid (At32 W0 q n n ys) := hAy
  clear hAx hAy
  have HZV : Hid (iv t (y.natAbs - x.natAbs) = x + y) := by have h1 := HA.out.sg; have h2 := HB.out.sg; have h3 := HST.out; exact iv_suml h1 h2 h3 HCM.out
  obtain ⟨cm, hcm⟩ : ∃ cm, cm = cmpN x.natAbs y.natAbs := ⟨_, rfl⟩
  have HCQ : Hid (cm = cmpN x.natAbs y.natAbs) := hcm
  have hcc : decide (0 ≤ cm) = false := decide_eq_false (by rw [hcm, cmpN_lt HCM.out]; omega)
  clear hcm
  refine (rcmp_any AX.out AY.out HNX.out.1 HNX.out.2).mono ?_
  rintro e w9 ⟨rfl, rd, rfl⟩
  rw [← HCQ.out]
  have hbr := bDrewN (Below.refl W0.heap.size W0) rd
  generalize W0.drewN rd = W9 at *
  replace Xa : Hid _ := Xa.out.below hbr
  replace Xb : Hid _ := Xb.out.below hbr
  replace Xr : Hid _ := Xr.out.below hbr
  replace HA : Hid _ := HA.out.below hbr
  replace HB : Hid _ := HB.out.below hbr
  replace AX : Hid _ := AX.out.below hbr
  replace AY : Hid _ := AY.out.below hbr
  replace hbw := Below.on hbw hbr
  clear hbr
  obtain ⟨ca0, ca1, fa0, fa1⟩ := Xa.out
  have hnea := Xa.out.lt
  obtain ⟨cb0, cb1, fb0, fb1⟩ := Xb.out
  have hneb := Xb.out.lt
  go_wp2_with fail
  clear ca0 ca1 fa0 fa1 hnea
  clear cb0 cb1 fb0 fb1 hneb
  clear hcc
  obtain ⟨W1, hW1⟩ : ∃ W1, W1 = W9.drew := ⟨_, rfl⟩
  have hbd : Below W9.heap.size W9 W1 := by rw [hW1]; exact bDrew1 (Below.refl _ _)
  replace Xa : Hid _ := Xa.out.below hbd
  replace Xb : Hid _ := Xb.out.below hbd
  replace Xr : Hid _ := Xr.out.below hbd
  replace HA : Hid _ := HA.out.below hbd
  replace HB : Hid _ := HB.out.below hbd
  replace AX : Hid _ := AX.out.below hbd
  replace AY : Hid _ := AY.out.below hbd
  replace hbw := Below.on hbw hbd
  clear hbd
  have HJ : Hid ((fun W' : World => W'.cell? ⟨ga, 0, none⟩ = some (.bool s) ∧ W'.cell? ⟨ga, 1, none⟩ = some (.slice p m m) ∧ W'.cell? ⟨gb, 0, none⟩ = some (.bool t) ∧ W'.cell? ⟨gb, 1, none⟩ = some (.slice q n n)) W1) := ⟨Xa.out.c0, Xa.out.c1, Xb.out.c0, Xb.out.c1⟩
  refine wp_region_J (fun W' => W'.cell? ⟨ga, 0, none⟩ = some (.bool s) ∧ W'.cell? ⟨ga, 1, none⟩ = some (.slice p m m) ∧ W'.cell? ⟨gb, 0, none⟩ = some (.bool t) ∧ W'.cell? ⟨gb, 1, none⟩ = some (.slice q n n)) (by kernel_rfl) ?_
  rw [← hW1]
  clear hW1
  refine wpJ_tq 0 rfl HJ.out ?_
  refine wpJ_tq 1 rfl HJ.out ?_
  refine wpJ_tq 2 rfl HJ.out ?_
  refine wpJ_tq 3 rfl HJ.out ?_
  refine wpJ_tq 4 rfl HJ.out ?_
  refine wpJ_tq 5 rfl HJ.out ?_
  refine wpJ_on 6 rfl fun KJ hK => ?_
  go_simp
  refine (rsub_any AY.out AX.out HNX.out.2 HNX.out.1 (by have := HM.out; omega) (Nat.le_of_lt HCM.out)).mono ?_
  rintro e w2 ⟨p2, m2, z2, rfl, hA2, hN2, hl2q, hb2⟩
  have hl2 : m2 ≤ max m n + 1 := by omega
  clear hl2q
  replace Xa : Hid _ := Xa.out.below hb2
  replace Xb : Hid _ := Xb.out.below hb2
  replace Xr : Hid _ := Xr.out.below hb2
  replace HA : Hid _ := HA.out.below hb2
  replace HB : Hid _ := HB.out.below hb2
  replace AX : Hid _ := AX.out.below hb2
  replace AY : Hid _ := AY.out.below hb2
  replace hbw := Below.on hbw hb2
  clear hb2
  have A2 : Hid (At32 w2 p2 m2 m2 z2) := hA2
  have N2 : Hid (Nf B32 z2 (y.natAbs - x.natAbs)) := hN2
  have HLL : Hid (m2 ≤ max m n + 1) := hl2
  have HRL : Hid (gr < w2.heap.size) := Xr.out.lt
  have HBS : Hid (w.heap.size ≤ w2.heap.size) := hbw.size
  clear hA2 hN2 hl2
  refine hK _ _ ⟨Xa.out.c0, Xa.out.c1, Xb.out.c0, Xb.out.c1⟩ ?_
  clear hK
  refine wpJ_on 7 rfl fun KJ hK => ?_
  go_simp
  refine (rmk_any t A2.out N2.out (by have := HLL.out; have := HM.out; omega)).mono ?_
  rintro e w3 ⟨v, rfl, hv, hb3⟩
  rw [HZV.out] at hv
  replace Xa : Hid _ := Xa.out.below hb3
  replace Xb : Hid _ := Xb.out.below hb3
  replace Xr : Hid _ := Xr.out.below hb3
  replace HA : Hid _ := HA.out.below hb3
  replace HB : Hid _ := HB.out.below hb3
  replace AX : Hid _ := AX.out.below hb3
  replace AY : Hid _ := AY.out.below hb3
  replace A2 : Hid _ := A2.out.below hb3
  replace hbw := Below.on hbw hb3
  clear hb3
  obtain ⟨s9, g9, m9, rfl, hg9, hz9, hl9⟩ := hv
  have ZA : Hid (ZR w3 s9 (some ⟨g9, 0, none⟩) m9 (x + y)) := hz9
  have HL : Hid (m9 ≤ max m n + 1) := by have := hl9; have := HLL.out; show m9 ≤ _; omega
  have HGE : Hid (gr < g9) := Nat.lt_of_lt_of_le HRL.out hg9
  have HGB : Hid (w.heap.size ≤ g9) := Nat.le_trans HBS.out hg9
  clear hg9 hz9 hl9
  refine hK _ _ ⟨Xa.out.c0, Xa.out.c1, Xb.out.c0, Xb.out.c1⟩ ?_
  clear hK
  obtain ⟨cr0, cr1, fr0, fr1⟩ := Xr.out
  have hner := Xr.out.lt
  obtain ⟨ca0, ca1, fa0, fa1⟩ := Xa.out
  have hnea := Xa.out.lt
  obtain ⟨cb0, cb1, fb0, fb1⟩ := Xb.out
  have hneb := Xb.out.lt
  obtain ⟨hgd0, hgd1, hgd2, hgd3, hgd4, hgd5⟩ := HGD.out
  refine wpJ_on 8 rfl fun KJ hK => ?_
  go_simp
  have HJ2 : Hid ((fun W' : World => W'.cell? ⟨ga, 0, none⟩ = some (.bool s) ∧ W'.cell? ⟨ga, 1, none⟩ = some (.slice p m m) ∧ W'.cell? ⟨gb, 0, none⟩ = some (.bool t) ∧ W'.cell? ⟨gb, 1, none⟩ = some (.slice q n n)) ((w3.setCell ⟨gr, 0, none⟩ (.bool s9)).setCell ⟨gr, 1, none⟩ (.slice (some ⟨g9, 0, none⟩) m9 m9))) := ⟨by go_simp, by go_simp, by go_simp, by go_simp⟩
  refine hK _ _ HJ2.out ?_
  clear hK HJ
  have HJ := HJ2
  clear HJ2
  refine wpJ_done (by kernel_rfl) ?_ _
  clear HJ
  go_wp2_with fail
  refine bodyPost_ret (v := .agg #[.bool s9, .slice (some ⟨g9, 0, none⟩) m9 m9]) (by rw [results_cell1 rfl]; go_simp) rfl ⟨_, rfl, ⟨s9, g9, m9, rfl, HGB.out, ?_, HL.out⟩, ?_⟩
  · have := HGE.out
    exact (ZA.out.set _ _ _ (by omega)).set _ _ _ (by omega)
  · exact bSet (bSet hbw _ _ _ HGr.out) _ _ _ HGr.out
theorem radd04 {p q : Option Addr} {m n : Nat} {w : World} {x y : Int} (s t : Bool) (h : ZR w s p m x) (k : ZR w t q n y) (hm : m ≤ 50000) (hn : n ≤ 50000) : Calls Tryz.prog 19 #[.agg #[.bool s, .slice p m m], .agg #[.bool t, .slice q n n]] w fun e w' => ∃ v, e = .returned v ∧ GotR w.heap.size w' v (x + y) (max m n + 1) ∧ Below w.heap.size w w' := by
  by_cases hst : s = t
  · exact radd04_s s t h k hm hn hst
  · rcases Nat.lt_or_ge x.natAbs y.natAbs with hl | hl
    · exact radd04_l s t h k hm hn hst hl
    · exact radd04_g s t h k hm hn hst hl
theorem rsub04 {p q : Option Addr} {m n : Nat} {w : World} {x y : Int} (s t : Bool) (h : ZR w s p m x) (k : ZR w t q n y) (hm : m ≤ 50000) (hn : n ≤ 50000) :
    Calls Tryz.prog 14 #[.agg #[.bool s, .slice p m m], .agg #[.bool t, .slice q n n]] w fun e w' => ∃ v, e = .returned v ∧ GotR w.heap.size w' v (x - y) (max m n + 1) ∧ Below w.heap.size w w' := by
  have HA : Hid (ZR w s p m x) := h
  have HB : Hid (ZR w t q n y) := k
  have HM : Hid (m ≤ 50000 ∧ n ≤ 50000) := ⟨hm, hn⟩
  clear h k hm hn
  go_enter Tryz.func14, Tryz.ntmps14
  go_wp2_with fail
  obtain ⟨W0, hW0⟩ : ∃ W0, W0 = (((w.alloc (.cells #[.bool s, .slice p m m] 33)).alloc (.cells #[.bool t, .slice q n n] 33)).alloc (.cells #[.bool false, .slice none 0 0] 33)) := ⟨_, rfl⟩
  have Xa : Hid (Box W0 (w.heap.size) (.bool s) (.slice p m m)) := by rw [hW0]; exact ⟨by go_simp, by go_simp, by go_simp, by go_simp⟩
  have Xb : Hid (Box W0 (w.heap.size + 1) (.bool t) (.slice q n n)) := by rw [hW0]; exact ⟨by go_simp, by go_simp, by go_simp, by go_simp⟩
  have Xr : Hid (Box W0 (w.heap.size + 1 + 1) (.bool false) (.slice none 0 0)) := by rw [hW0]; exact ⟨by go_simp, by go_simp, by go_simp, by go_simp⟩
  have hb0 : Below w.heap.size w W0 := by rw [hW0]; exact below3 w _ _ _
  rw [← hW0]
  clear hW0
  have hbw : Below w.heap.size w w := Below.refl _ _
  obtain ⟨gr, hgr⟩ : ∃ g, g = w.heap.size + 1 + 1 := ⟨_, rfl⟩
  have HGr : Hid (w.heap.size ≤ gr) := by rw [hgr]; show _ ≤ _; omega
  rw [← hgr] at Xr
  try rw [← hgr]
  obtain ⟨gb, hgb⟩ : ∃ g, g = w.heap.size + 1 := ⟨_, rfl⟩
  have HGb : Hid (w.heap.size ≤ gb) := by rw [hgb]; show _ ≤ _; omega
  rw [← hgb] at Xb
  try rw [← hgb]
  obtain ⟨ga, hga⟩ : ∃ g, g = w.heap.size := ⟨_, rfl⟩
  have HGa : Hid (w.heap.size ≤ ga) := by rw [hga]; show _ ≤ _; omega
  rw [← hga] at Xa
  try rw [← hga]
  have HGD : Hid (ga ≠ gb ∧ ga ≠ gr ∧ gb ≠ ga ∧ gb ≠ gr ∧ gr ≠ ga ∧ gr ≠ gb) := by rw [hga, hgb, hgr]; exact ⟨by omega, by omega, by omega, by omega, by omega, by omega⟩
  clear hga hgb hgr
  replace HA : Hid _ := HA.out.below hb0
  replace HB : Hid _ := HB.out.below hb0
  replace hbw := Below.on hbw hb0
  clear hb0
  obtain ⟨W1, hW1⟩ : ∃ W1, W1 = W0.drew := ⟨_, rfl⟩
  have hbd : Below W0.heap.size W0 W1 := by rw [hW1]; exact bDrew1 (Below.refl _ _)
  replace Xa : Hid _ := Xa.out.below hbd
  replace Xb : Hid _ := Xb.out.below hbd
  replace Xr : Hid _ := Xr.out.below hbd
  replace HA : Hid _ := HA.out.below hbd
  replace HB : Hid _ := HB.out.below hbd
  replace hbw := Below.on hbw hbd
  clear hbd
  have HJ : Hid ((fun W' : World => W'.cell? ⟨ga, 0, none⟩ = some (.bool s) ∧ W'.cell? ⟨ga, 1, none⟩ = some (.slice p m m) ∧ W'.cell? ⟨gb, 0, none⟩ = some (.bool t) ∧ W'.cell? ⟨gb, 1, none⟩ = some (.slice q n n)) W1) := ⟨Xa.out.c0, Xa.out.c1, Xb.out.c0, Xb.out.c1⟩
  refine wp_region_J (fun W' => W'.cell? ⟨ga, 0, none⟩ = some (.bool s) ∧ W'.cell? ⟨ga, 1, none⟩ = some (.slice p m m) ∧ W'.cell? ⟨gb, 0, none⟩ = some (.bool t) ∧ W'.cell? ⟨gb, 1, none⟩ = some (.slice q n n)) (by kernel_rfl) ?_
  rw [← hW1]
  clear hW1
  refine wpJ_tq 0 rfl HJ.out ?_
  refine wpJ_tq 1 rfl HJ.out ?_
  refine wpJ_on 2 rfl fun KJ hK => ?_
  go_simp
  refine (rflip_any t HB.out (by have := HM.out; omega)).mono ?_
  rintro e w2 ⟨v, rfl, hv, hb2⟩
  obtain ⟨s2, g2, m2, rfl, hg2, hz2, hl2⟩ := hv
  replace Xa : Hid _ := Xa.out.below hb2
  replace Xb : Hid _ := Xb.out.below hb2
  replace Xr : Hid _ := Xr.out.below hb2
  replace HA : Hid _ := HA.out.below hb2
  replace HB : Hid _ := HB.out.below hb2
  replace hbw := Below.on hbw hb2
  clear hb2
  have ZB : Hid (ZR w2 s2 (some ⟨g2, 0, none⟩) m2 (-y)) := hz2
  have HL2 : Hid (m2 ≤ n) := hl2
  have HRL : Hid (gr < w2.heap.size) := Xr.out.lt
  have HBS : Hid (w.heap.size ≤ w2.heap.size) := hbw.size
  clear hg2 hz2 hl2
  refine hK _ _ ⟨Xa.out.c0, Xa.out.c1, Xb.out.c0, Xb.out.c1⟩ ?_
  clear hK
  refine wpJ_on 3 rfl fun KJ hK => ?_
  go_simp
  refine (radd04 s s2 HA.out ZB.out HM.out.1 (Nat.le_trans HL2.out HM.out.2)).mono ?_
  rintro e w3 ⟨v, rfl, hv, hb3⟩
  rw [← Int.sub_eq_add_neg] at hv
  replace Xa : Hid _ := Xa.out.below hb3
  replace Xb : Hid _ := Xb.out.below hb3
  replace Xr : Hid _ := Xr.out.below hb3
  replace HA : Hid _ := HA.out.below hb3
  replace HB : Hid _ := HB.out.below hb3
  replace ZB : Hid _ := ZB.out.below hb3
  replace hbw := Below.on hbw hb3
  clear hb3
  have HLL : Hid (max m m2 + 1 ≤ max m n + 1) := by have := HL2.out; show _ ≤ _; omega
  obtain ⟨s9, g9, m9, rfl, hg9, hz9, hl9⟩ := hv
  have ZA : Hid (ZR w3 s9 (some ⟨g9, 0, none⟩) m9 (x - y)) := hz9
  have HL : Hid (m9 ≤ max m n + 1) := by have := hl9; have := HLL.out; show m9 ≤ _; omega
  have HGE : Hid (gr < g9) := Nat.lt_of_lt_of_le HRL.out hg9
  have HGB : Hid (w.heap.size ≤ g9) := Nat.le_trans HBS.out hg9
  clear hg9 hz9 hl9
  refine hK _ _ ⟨Xa.out.c0, Xa.out.c1, Xb.out.c0, Xb.out.c1⟩ ?_
  clear hK
  obtain ⟨cr0, cr1, fr0, fr1⟩ := Xr.out
  have hner := Xr.out.lt
  obtain ⟨ca0, ca1, fa0, fa1⟩ := Xa.out
  have hnea := Xa.out.lt
  obtain ⟨cb0, cb1, fb0, fb1⟩ := Xb.out
  have hneb := Xb.out.lt
  obtain ⟨hgd0, hgd1, hgd2, hgd3, hgd4, hgd5⟩ := HGD.out
  refine wpJ_on 4 rfl fun KJ hK => ?_
  go_simp
  have HJ2 : Hid ((fun W' : World => W'.cell? ⟨ga, 0, none⟩ = some (.bool s) ∧ W'.cell? ⟨ga, 1, none⟩ = some (.slice p m m) ∧ W'.cell? ⟨gb, 0, none⟩ = some (.bool t) ∧ W'.cell? ⟨gb, 1, none⟩ = some (.slice q n n)) ((w3.setCell ⟨gr, 0, none⟩ (.bool s9)).setCell ⟨gr, 1, none⟩ (.slice (some ⟨g9, 0, none⟩) m9 m9))) := ⟨by go_simp, by go_simp, by go_simp, by go_simp⟩
  refine hK _ _ HJ2.out ?_
  clear hK HJ
  have HJ := HJ2
  clear HJ2
  refine wpJ_done (by kernel_rfl) ?_ _
  clear HJ
  go_wp2_with fail
  refine bodyPost_ret (v := .agg #[.bool s9, .slice (some ⟨g9, 0, none⟩) m9 m9]) (by rw [results_cell1 rfl]; go_simp) rfl ⟨_, rfl, ⟨s9, g9, m9, rfl, HGB.out, ?_, HL.out⟩, ?_⟩
  · have := HGE.out
    exact (ZA.out.set _ _ _ (by omega)).set _ _ _ (by omega)
  · exact bSet (bSet hbw _ _ _ HGr.out) _ _ _ HGr.out
theorem rsign04 {p : Option Addr} {m : Nat} {w : World} {z : Int} (s : Bool) (h : ZR w s p m z) :
    Calls Tryz.prog 20 #[.agg #[.bool s, .slice p m m]] w fun e w' => e = .returned (.int .i64 (sgnI z)) ∧ Below w.heap.size w w' := by
  have hz := h.zero
  have hsg := h.sg
  obtain ⟨sg, hs⟩ : ∃ sg, sg = sgnI z := ⟨_, rfl⟩
  rw [← hs]
  by_cases hm : m = 0
  · have hv : sg = 0 := by rw [hs, hz.1 hm]; rfl
    subst hv
    subst hm
    clear h hz hsg hs
    go_enter Tryz.func20, Tryz.ntmps20
    go_wp2_with fail
    go_ret
    exact ⟨rfl, below1 w _⟩
  · have hm0 : ((m : Int) == 0) = false := by simp; omega
    have hz0 : z ≠ 0 := fun e => hm (hz.2 e)
    cases s
    · have hv : sg = 1 := by rw [hs]; unfold sgnI; have := of_decide_eq_false hsg.symm; rw [if_neg this, if_neg hz0]
      subst hv
      clear h hz hsg hs hz0
      go_enter Tryz.func20, Tryz.ntmps20
      go_wp2_with fail
      go_ret
      exact ⟨rfl, below1 w _⟩
    · have hv : sg = -1 := by rw [hs]; unfold sgnI; have := of_decide_eq_true hsg.symm; rw [if_pos this]
      subst hv
      clear h hz hsg hs hz0
      go_enter Tryz.func20, Tryz.ntmps20
      go_wp2_with fail
      go_ret
      exact ⟨rfl, below1 w _⟩
theorem sgn_cmp (x y : Int) : sgnI (x - y) = cmpI x y := by
  unfold sgnI cmpI
  rcases Int.lt_trichotomy x y with h | h | h
  · rw [if_pos (by omega), if_pos h]
  · rw [if_neg (by omega), if_pos (by omega), if_neg (by omega), if_pos h]
  · rw [if_neg (by omega), if_neg (by omega), if_neg (by omega), if_neg (by omega)]
theorem rcmp04 {p q : Option Addr} {m n : Nat} {w : World} {x y : Int} (s t : Bool) (h : ZR w s p m x) (k : ZR w t q n y) (hm : m ≤ 50000) (hn : n ≤ 50000) :
    Calls Tryz.prog 11 #[.agg #[.bool s, .slice p m m], .agg #[.bool t, .slice q n n]] w fun e w' => e = .returned (.int .i64 (cmpI x y)) ∧ Below w.heap.size w w' := by
  have HA : Hid (ZR w s p m x) := h
  have HB : Hid (ZR w t q n y) := k
  have HM : Hid (m ≤ 50000 ∧ n ≤ 50000) := ⟨hm, hn⟩
  clear h k hm hn
  rw [← sgn_cmp]
  go_enter Tryz.func11, Tryz.ntmps11
  go_wp2_with fail
  obtain ⟨W0, hW0⟩ : ∃ W0, W0 = ((w.alloc (.cells #[.bool s, .slice p m m] 33)).alloc (.cells #[.bool t, .slice q n n] 33)) := ⟨_, rfl⟩
  have Xa : Hid (Box W0 (w.heap.size) (.bool s) (.slice p m m)) := by rw [hW0]; exact ⟨by go_simp, by go_simp, by go_simp, by go_simp⟩
  have Xb : Hid (Box W0 (w.heap.size + 1) (.bool t) (.slice q n n)) := by rw [hW0]; exact ⟨by go_simp, by go_simp, by go_simp, by go_simp⟩
  have hb0 : Below w.heap.size w W0 := by rw [hW0]; exact below2 w _ _
  rw [← hW0]
  clear hW0
  have hbw : Below w.heap.size w w := Below.refl _ _
  obtain ⟨gb, hgb⟩ : ∃ g, g = w.heap.size + 1 := ⟨_, rfl⟩
  have HGb : Hid (w.heap.size ≤ gb) := by rw [hgb]; show _ ≤ _; omega
  rw [← hgb] at Xb
  try rw [← hgb]
  obtain ⟨ga, hga⟩ : ∃ g, g = w.heap.size := ⟨_, rfl⟩
  have HGa : Hid (w.heap.size ≤ ga) := by rw [hga]; show _ ≤ _; omega
  rw [← hga] at Xa
  try rw [← hga]
  have HGD : Hid (ga ≠ gb ∧ gb ≠ ga) := by rw [hga, hgb]; exact ⟨by omega, by omega⟩
  clear hga hgb
  replace HA : Hid _ := HA.out.below hb0
  replace HB : Hid _ := HB.out.below hb0
  replace hbw := Below.on hbw hb0
  clear hb0
  refine (rsub04 s t HA.out HB.out HM.out.1 HM.out.2).mono ?_
  rintro e w2 ⟨v, rfl, hv, hb2⟩
  obtain ⟨s2, g2, m2, rfl, hg2, hz2, hl2⟩ := hv
  replace Xa : Hid _ := Xa.out.below hb2
  replace Xb : Hid _ := Xb.out.below hb2
  replace HA : Hid _ := HA.out.below hb2
  replace HB : Hid _ := HB.out.below hb2
  replace hbw := Below.on hbw hb2
  clear hb2
  have ZB : Hid (ZR w2 s2 (some ⟨g2, 0, none⟩) m2 (x - y)) := hz2
  clear hg2 hz2 hl2
  go_wp2_with fail
  refine (rsign04 s2 ZB.out).mono ?_
  rintro e v3 ⟨rfl, hb3⟩
  obtain ⟨sv, hsv⟩ : ∃ sv, sv = sgnI (x - y) := ⟨_, rfl⟩
  rw [← hsv]
  have HSV : Hid (sv = sgnI (x - y)) := hsv
  clear hsv
  replace Xa : Hid _ := Xa.out.below hb3
  replace Xb : Hid _ := Xb.out.below hb3
  replace HA : Hid _ := HA.out.below hb3
  replace HB : Hid _ := HB.out.below hb3
  replace ZB : Hid _ := ZB.out.below hb3
  replace hbw := Below.on hbw hb3
  clear hb3
  go_wp2_with fail
  go_ret
  exact ⟨by rw [← HSV.out]; rfl, hbw⟩
def NewAt (B : Nat) (w : World) (p : Option Addr) (m c : Nat) (us : List Nat) : Prop := At w p m c us ∧ (m = 0 ∨ ∃ g, p = some ⟨g, 0, none⟩ ∧ B ≤ g)
theorem NewAt.below {B : Nat} {w w' : World} {p : Option Addr} {m c : Nat} {us : List Nat} (h : NewAt B w p m c us) (hb : Below w.heap.size w w') : NewAt B w' p m c us := ⟨h.1.below hb, h.2⟩
theorem NewAt.mono {B B' : Nat} {w : World} {p : Option Addr} {m c : Nat} {us : List Nat} (h : NewAt B w p m c us) (hB : B' ≤ B) : NewAt B' w p m c us :=
  ⟨h.1, h.2.imp id (fun ⟨g, e, k⟩ => ⟨g, e, Nat.le_trans hB k⟩)⟩
theorem NewAt.set {B : Nat} {w : World} {p : Option Addr} {m c : Nat} {us : List Nat} (h : NewAt B w p m c us) {r : Nat} (hr : r < B) (o : Nat) (v : Value) : NewAt B (w.setCell ⟨r, o, none⟩ v) p m c us := by
  refine ⟨?_, h.2⟩
  rcases h.2 with h0 | ⟨g, rfl, hg⟩
  · subst h0
    obtain rfl : us = [] := List.eq_nil_of_length_eq_zero h.1.len
    exact At.empty _ _ _ h.1.big
  · exact h.1.setOther _ _ _ (by omega)
def DocZ (z : Int) (s : Bool) (us : List Nat) (er : Int) : Prop :=
  (z.natAbs < LIM ∧ s = decide (z < 0) ∧ Nf B64 us z.natAbs ∧ er = 0) ∨ (LIM ≤ z.natAbs ∧ s = false ∧ us = [] ∧ er = 5)
theorem DocZ.inj {z : Int} {s s' : Bool} {us us' : List Nat} {er er' : Int} (h : DocZ z s us er) (k : DocZ z s' us' er') : s = s' ∧ us = us' ∧ er = er' := by
  rcases h with ⟨h0, rfl, h1, rfl⟩ | ⟨h0, rfl, rfl, rfl⟩ <;> rcases k with ⟨k0, rfl, k1, rfl⟩ | ⟨k0, rfl, rfl, rfl⟩
  · exact ⟨rfl, h1.inj B64_one k1, rfl⟩
  · omega
  · omega
  · exact ⟨rfl, rfl, rfl⟩
def OneZ (r : Int → Int) (sx : Bool) (xs : List Nat) (s : Bool) (us : List Nat) (er : Int) : Prop :=
  (formZ sx xs = false ∧ s = false ∧ us = [] ∧ er = 2) ∨ (formZ sx xs = true ∧ DocZ (r (iv sx (valB B64 xs))) s us er)
def TwoZ (r : Int → Int → Int) (sx : Bool) (xs : List Nat) (sy : Bool) (ys : List Nat) (s : Bool) (us : List Nat) (er : Int) : Prop :=
  ((formZ sx xs && formZ sy ys) = false ∧ s = false ∧ us = [] ∧ er = 2) ∨ ((formZ sx xs && formZ sy ys) = true ∧ DocZ (r (iv sx (valB B64 xs)) (iv sy (valB B64 ys))) s us er)
theorem OneZ.inj {r : Int → Int} {sx : Bool} {xs : List Nat} {s s' : Bool} {us us' : List Nat} {er er' : Int} (h : OneZ r sx xs s us er) (k : OneZ r sx xs s' us' er') : s = s' ∧ us = us' ∧ er = er' := by
  rcases h with ⟨h0, rfl, rfl, rfl⟩ | ⟨h0, h1⟩ <;> rcases k with ⟨k0, rfl, rfl, rfl⟩ | ⟨k0, k1⟩
  · exact ⟨rfl, rfl, rfl⟩
  · rw [h0] at k0; cases k0
  · rw [h0] at k0; cases k0
  · exact h1.inj k1
theorem TwoZ.inj {r : Int → Int → Int} {sx sy : Bool} {xs ys : List Nat} {s s' : Bool} {us us' : List Nat} {er er' : Int} (h : TwoZ r sx xs sy ys s us er) (k : TwoZ r sx xs sy ys s' us' er') : s = s' ∧ us = us' ∧ er = er' := by
  rcases h with ⟨h0, rfl, rfl, rfl⟩ | ⟨h0, h1⟩ <;> rcases k with ⟨k0, rfl, rfl, rfl⟩ | ⟨k0, k1⟩
  · exact ⟨rfl, rfl, rfl⟩
  · rw [h0] at k0; cases k0
  · rw [h0] at k0; cases k0
  · exact h1.inj k1
def OffR (g m g2 : Nat) : Prop := m = 0 ∨ g ≠ g2
theorem ZR.off_new {w : World} {s : Bool} {g m : Nat} {z : Int} (h : ZR w s (some ⟨g, 0, none⟩) m z) : OffR g m w.heap.size := by
  obtain ⟨zs, hA, _⟩ := h.ex
  rcases Nat.eq_zero_or_pos m with e | e
  · exact .inl e
  · rcases hA.cells with h0 | ⟨g', off, he, hc⟩
    · exact .inl h0
    · have h1 := World.block_lt_of_cell? w _ (hc 0 e)
      have h2 : g = g' := by have := Option.some.inj he; simpa using congrArg Addr.block this
      exact .inr (by subst h2; exact Nat.ne_of_lt h1)
theorem ZR.setOff {w : World} {s : Bool} {g m : Nat} {z : Int} (h : ZR w s (some ⟨g, 0, none⟩) m z) {g2 : Nat} (hf : OffR g m g2) (o2 : Nat) (v : Value) : ZR (w.setCell ⟨g2, o2, none⟩ v) s (some ⟨g, 0, none⟩) m z := by
  rcases hf with h0 | h0
  · subst h0
    obtain ⟨zs, hA, hN⟩ := h.ex
    obtain rfl : zs = [] := List.eq_nil_of_length_eq_zero hA.len
    exact ⟨⟨[], At32.empty _ _ _ (by decide), hN⟩, h.sg⟩
  · exact h.set g2 o2 v h0
structure WinRel32 (w : World) (g off n : Nat) (W D d b : Nat) (ws : List Nat) (wr : World) : Prop where
  wrs : Wr g off (n + 1) w wr
  row : Row32 wr g off (n + 1) ws
  db : d < B32
  bb : b ≤ 1
  ge : W / D ≤ d
  sum : valB B32 ws + D * d = W + B32 ^ (n + 1) * b
theorem WinRel32.done {w : World} {g off n W D d : Nat} {ws : List Nat} {wr : World} (h : WinRel32 w g off n W D d 0 ws wr) (hD : 0 < D) : d = W / D ∧ valB B32 ws = W % D := by
  have h1 := h.sum; have h2 := h.ge
  rw [Nat.mul_zero, Nat.add_zero] at h1
  have h3 : d ≤ W / D := (Nat.le_div_iff_mul_le hD).2 (by rw [Nat.mul_comm]; omega)
  have h4 : d = W / D := by omega
  refine ⟨h4, ?_⟩
  have h5 := Nat.div_add_mod W D
  rw [← h4] at h5
  omega
theorem WinRel32.more {w : World} {g off n W D d : Nat} {ws : List Nat} {wr wr' : World} (h : WinRel32 w g off n W D d 1 ws wr) {cy : Nat} {ws' : List Nat} (hcy : cy ≤ 1) (hwr : Wr g off (n + 1) wr wr') (hrow : Row32 wr' g off (n + 1) ws') (hs : valB B32 ws' + B32 ^ (n + 1) * cy = valB B32 ws + D) :
    1 ≤ d ∧ WinRel32 w g off n W D (d - 1) (1 - cy) ws' wr' := by
  have h1 := h.sum; have h2 := h.ge; have h3 := h.db
  have hl := valB_lt B32_pos h.row.dig
  rw [h.row.len] at hl
  rw [Nat.mul_one] at h1
  have hgt : W < D * d := by omega
  have hd : 1 ≤ d := by
    rcases Nat.eq_zero_or_pos d with e | e
    · subst e; simp at hgt
    · exact e
  have hlt : W / D < d := Nat.div_lt_of_lt_mul hgt
  have e4 : D * d = D * (d - 1) + D := by rw [← Nat.mul_succ, show (d - 1).succ = d by omega]
  refine ⟨hd, h.wrs.trans hwr, hrow, by omega, by omega, by omega, ?_⟩
  rcases Nat.eq_zero_or_pos cy with e | e
  · subst e; rw [Nat.mul_zero, Nat.add_zero] at hs; rw [Nat.sub_zero, Nat.mul_one]; omega
  · obtain rfl : cy = 1 := by omega
    rw [Nat.mul_one] at hs; rw [Nat.sub_self, Nat.mul_zero]; omega
structure DgS (w : World) (g off n : Nat) (us vs : List Nat) (q k cy ow : Nat) (dk : List Nat) (wr : World) : Prop where
  wrs : Wr g off (n + 1) w wr
  row : Row32 wr g off (n + 1) dk
  hi : dk.drop k = us.drop k
  car : cy < B32
  owb : ow ≤ 1
  fin : k = n + 1 → cy = 0
  sum : valB B32 (dk.take k) + valB B32 (vs.take k) * q = valB B32 (us.take k) + B32 ^ k * (ow + cy)
theorem dgs_abs {P B S V U q d y u o c o' c' : Nat} (h : S + V * q = U + P * (o + c)) (hs : o + c + d + y * q = u + B * (o' + c')) : S + P * d + (V + P * y) * q = U + P * u + P * B * (o' + c') := by
  have e1 : P * (o + c + d + y * q) = P * (u + B * (o' + c')) := by rw [hs]
  rw [Nat.mul_add P (o + c + d) (y * q), Nat.mul_add P (o + c) d, Nat.mul_add P u] at e1
  have e2 : P * (y * q) = P * y * q := (Nat.mul_assoc _ _ _).symm
  have e3 : P * (B * (o' + c')) = P * B * (o' + c') := (Nat.mul_assoc _ _ _).symm
  rw [e2, e3] at e1
  rw [Nat.add_mul]
  generalize P * y * q = X1 at *
  generalize P * B * (o' + c') = X2 at *
  generalize P * (o + c) = X3 at *
  generalize P * d = X4 at *
  generalize P * u = X5 at *
  omega
theorem DgS.step {w : World} {g off n : Nat} {us vs : List Nat} {q k cy ow : Nat} {dk : List Nat} {wr : World} (h : DgS w g off n us vs q k cy ow dk wr) (hk : k < n + 1) (hvl : vs.length = n)
    {y u c1 lo cy' ow' d : Nat} (hy : y = vs.getD k 0) (hu : u = dk.getD k 0) (hc1 : c1 = cy + y * q) (hlo : c1 = lo + B32 * cy') (hcy' : cy' < B32) (how' : ow' ≤ 1) (hd : d + lo + ow = u + B32 * ow') (hdb : d < B32) :
    DgS w g off n us vs q (k + 1) cy' ow' (dk.set k d) (wr.setCell ⟨g, off + k, none⟩ (V d)) := by
  have hlen := h.row.len
  refine ⟨h.wrs.setCell (off + k) ⟨by omega, by omega⟩ _, h.row.set k d hk hdb, ?_, hcy', how', ?_, ?_⟩
  · rw [drop_set_lt]; exact drop_succ_of_drop h.hi
  · intro hkn
    have h0 : y = 0 := by
      rw [hy, List.getD_eq_getElem?_getD, List.getElem?_eq_none (by omega)]; rfl
    rw [h0, Nat.zero_mul] at hc1
    have := h.car
    rcases Nat.eq_zero_or_pos cy' with e | e
    · exact e
    · have : B32 * 1 ≤ B32 * cy' := Nat.mul_le_mul_left _ e
      omega
  · have huu : u = us.getD k 0 := hu.trans (getD_of_drop h.hi)
    rw [take_set_succ dk k d (by omega), valB_snoc, List.length_take, hlen, Nat.min_eq_left (by omega), valB_take_any _ us k, valB_take_any _ vs k, ← huu, ← hy, Nat.pow_succ]
    refine dgs_abs h.sum ?_
    rw [Nat.mul_add]
    omega
structure DgA (w : World) (g off n : Nat) (ws vs : List Nat) (k cy : Nat) (dk : List Nat) (wr : World) : Prop where
  wrs : Wr g off (n + 1) w wr
  row : Row32 wr g off (n + 1) dk
  hi : dk.drop k = ws.drop k
  car : cy ≤ 1
  sum : valB B32 (dk.take k) + B32 ^ k * cy = valB B32 (ws.take k) + valB B32 (vs.take k)
theorem DgA.step {w : World} {g off n : Nat} {ws vs : List Nat} {k cy : Nat} {dk : List Nat} {wr : World} (h : DgA w g off n ws vs k cy dk wr) (hk : k < n + 1)
    {y u lo cy' : Nat} (hy : y = vs.getD k 0) (hu : u = dk.getD k 0) (hs : cy + u + y = lo + B32 * cy') (hlo : lo < B32) (hcy' : cy' ≤ 1) :
    DgA w g off n ws vs (k + 1) cy' (dk.set k lo) (wr.setCell ⟨g, off + k, none⟩ (V lo)) := by
  have hlen := h.row.len
  refine ⟨h.wrs.setCell (off + k) ⟨by omega, by omega⟩ _, h.row.set k lo hk hlo, ?_, hcy', ?_⟩
  · rw [drop_set_lt]; exact drop_succ_of_drop h.hi
  · have huu : u = ws.getD k 0 := hu.trans (getD_of_drop h.hi)
    rw [take_set_succ dk k lo (by omega), valB_snoc, List.length_take, hlen, Nat.min_eq_left (by omega), valB_take_any _ ws k, valB_take_any _ vs k, ← huu, ← hy, Nat.pow_succ]
    have e1 := h.sum
    have e2 : B32 ^ k * (cy + u + y) = B32 ^ k * (lo + B32 * cy') := by rw [hs]
    rw [Nat.mul_add, Nat.mul_add, Nat.mul_add, ← Nat.mul_assoc] at e2
    omega
theorem Blk32.own {w : World} {g base : Nat} {xs : List Nat} (h : Blk32 w g xs) (hb : base ≤ g) (hm : xs.length ≤ maxLen) : w.ownsRow base 74 1 (.slice (some ⟨g, 0, none⟩) xs.length xs.length) xs.length (cellsV xs) :=
  ⟨by simp [cellsV], .inr ⟨g, xs.length, (cellsV xs).toArray, rfl, hb, h, Nat.le_refl _, hm, by simp [cellsV], by rw [Nat.mul_one]; exact List.take_of_length_le (by simp [cellsV])⟩⟩
end Go.Proofs.YtbafjgmfonepnaaGreatDoor
