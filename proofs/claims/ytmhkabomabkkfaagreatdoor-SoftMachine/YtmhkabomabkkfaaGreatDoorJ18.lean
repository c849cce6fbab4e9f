import Derived.Test.YtmhkabomabkkfaaGreatDoorJ17
import Derived.Test.YtmhkabomabkkfaaGreatDoorJ12
import Derived.Test.YtmhkabomabkkfaaGreatDoorJ14
namespace Go.Proofs.YtmhkabomabkkfaaGreatDoor
open Go.RowKit Go.Shelf
set_option maxRecDepth 20000
set_option maxHeartbeats 0
theorem vf_lit9 {b q man : Nat} {zo eo : Int} (hb : b < 9218868437227405312) (hq : b / 4503599627370496 - 1 = q) (hm : b - q * 4503599627370496 = man) (hf : DFm zo eo) (hv : dv zo eo = dv (man : Int) (-1074 + (q : Int))) : VF 9223372036854775808 4503599627370496 (-1074) b zo eo := by
  have h1 : b % 9223372036854775808 = b := Nat.mod_eq_of_lt (by omega)
  obtain ⟨z1, e1, v1, v2⟩ := vf_ex (b := b) pm_64 (by omega)
  rw [h1, if_neg (by omega), hq, hm, ← hv] at v2
  obtain ⟨rfl, rfl⟩ := dv_inj v1.fm hf v2
  exact v1
theorem vf_one : VF 9223372036854775808 4503599627370496 (-1074) 4607182418800017408 1 0 := vf_lit9 (q := 1022) (man := 4503599627370496) (by decide) (by decide) (by decide) (.inr (by decide)) (by rw [dv_shift (z := 1) (e := 0) (f := -52) (by decide) (by decide)]; rfl)
theorem vf_two : VF 9223372036854775808 4503599627370496 (-1074) 4611686018427387904 1 1 := vf_lit9 (q := 1023) (man := 4503599627370496) (by decide) (by decide) (by decide) (.inr (by decide)) (by rw [dv_shift (z := 1) (e := 1) (f := -51) (by decide) (by decide)]; rfl)
theorem vf_three9 : VF 9223372036854775808 4503599627370496 (-1074) 4613937818241073152 3 0 := vf_lit9 (q := 1023) (man := 6755399441055744) (by decide) (by decide) (by decide) (.inr (by decide)) (by rw [dv_shift (z := 3) (e := 0) (f := -51) (by decide) (by decide)]; rfl)
theorem vf_four : VF 9223372036854775808 4503599627370496 (-1074) 4616189618054758400 1 2 := vf_lit9 (q := 1024) (man := 4503599627370496) (by decide) (by decide) (by decide) (.inr (by decide)) (by rw [dv_shift (z := 1) (e := 2) (f := -50) (by decide) (by decide)]; rfl)
theorem vf_mone : VF 9223372036854775808 4503599627370496 (-1074) 13830554455654793216 (-1) 0 := by
  have h := (xs_neg (b := 4607182418800017408) (by decide) vf_one).1
  rwa [show xsS 9223372036854775808 4607182418800017408 = 13830554455654793216 from by decide] at h
theorem vf_one32 : VF 2147483648 8388608 (-149) 1065353216 1 0 := by
  obtain ⟨z1, e1, v1, v2⟩ := vf_ex (b := 1065353216) pm_32 (by decide)
  rw [if_neg (by decide), show 1065353216 % 2147483648 / 8388608 - 1 = 126 from by decide, show 1065353216 % 2147483648 - 126 * 8388608 = 8388608 from by decide] at v2
  have h5 : dv 1 0 = dv ((8388608 : Nat) : Int) (-149 + ((126 : Nat) : Int)) := by rw [dv_shift (z := 1) (e := 0) (f := -23) (by decide) (by decide)]; rfl
  obtain ⟨rfl, rfl⟩ := dv_inj v1.fm (.inr (by decide)) (v2.trans h5.symm)
  exact v1
theorem opb_is {S I H : Nat} {l : Int} {b : Nat} {o : Opd} {x e : Int} (h : OpB S I H l b o) (h0 : b % S ≠ 0) (h1 : b % S < I) (hv : VF S H l b x e) : o = ofin x e := by
  obtain ⟨y, g, h2, _, h3⟩ := h.fin h0 h1
  obtain ⟨rfl, rfl⟩ := dv_inj hv.fm h2.fm (hv.v.trans h2.v.symm)
  exact h3
theorem sum_lit {x e y f z g : Int} (hf : DFm z g) (h0 : z ≠ 0) (hv : dv z g = dv x e + dv y f) : SumO (ofin x e) (ofin y f) (ofin z g) :=
  .inr (.inr (.inr (.inr (.inr (.inr ⟨⟨rfl, rfl⟩, .inr ⟨z, g, hf, h0, hv, rfl⟩⟩)))))
theorem mul_lit {x e y f z g : Int} (hf : DFm z g) (h0 : z ≠ 0) (hv : dv z g = dv (x * y) (e + f)) : MulO (ofin x e) (ofin y f) (ofin z g) :=
  .inr (.inr (.inr ⟨⟨rfl, rfl⟩, z, g, hf, h0, hv, rfl⟩))
theorem dv11 : dv 1 1 = dv 1 0 + dv 1 0 := by rw [← dv_add, dv_shift (z := 1) (e := 1) (f := 0) (by decide) (by decide)]; rfl
theorem dv12 : dv 1 2 = dv 1 1 + dv 1 1 := by rw [← dv_add, dv_shift (z := 1) (e := 2) (f := 1) (by decide) (by decide)]; rfl
theorem dv31 : dv 1 1 = dv 3 0 + dv (-1) 0 := by rw [← dv_add, dv_shift (z := 1) (e := 1) (f := 0) (by decide) (by decide)]; rfl
theorem aw_add (w : World) (hT : Tab w) : Calls Tryz.prog 9 #[.int .i64 64, .int .u64 4607182418800017408, .int .u64 4607182418800017408] w fun en w' => en = .returned (.tuple #[.int .u64 4611686018427387904, .int .i64 0]) ∧ Below w.heap.size w w' := by
  refine Calls.mono (soft_add jo_64 (by decide : 4607182418800017408 < 2 * 9223372036854775808) (by decide : 4607182418800017408 < 2 * 9223372036854775808) w hT) ?_
  rintro en w' ⟨oa, ob, c, rfl, ha, hb, hs, _, hbw⟩
  have qa := opb_is ha (by decide) (by decide) vf_one
  have qb := opb_is hb (by decide) (by decide) vf_one
  subst qa qb
  have qc := hs.uniq (sum_lit (.inr (by decide)) (by decide) dv11)
  subst qc
  exact ⟨by rw [patO_fin, show rnp (-1074) 52 1024 9223372036854775808 9218868437227405312 1 1 = 4611686018427387904 from by decide +kernel]; rfl, hbw⟩
theorem aw_mul (w : World) (hT : Tab w) : Calls Tryz.prog 11 #[.int .i64 64, .int .u64 4611686018427387904, .int .u64 4611686018427387904] w fun en w' => en = .returned (.tuple #[.int .u64 4616189618054758400, .int .i64 0]) ∧ Below w.heap.size w w' := by
  refine Calls.mono (soft_mul jo_64 (by decide : 4611686018427387904 < 2 * 9223372036854775808) (by decide : 4611686018427387904 < 2 * 9223372036854775808) w hT) ?_
  rintro en w' ⟨oa, ob, c, rfl, ha, hb, hs, _, hbw⟩
  have qa := opb_is ha (by decide) (by decide) vf_two
  have qb := opb_is hb (by decide) (by decide) vf_two
  subst qa qb
  have qc := hs.uniq (mul_lit (z := 1) (g := 2) (.inr (by decide)) (by decide) rfl)
  subst qc
  exact ⟨by rw [patO_fin, show rnp (-1074) 52 1024 9223372036854775808 9218868437227405312 1 2 = 4616189618054758400 from by decide +kernel]; rfl, hbw⟩
theorem aw_sub (w : World) (hT : Tab w) : Calls Tryz.prog 10 #[.int .i64 64, .int .u64 4613937818241073152, .int .u64 4607182418800017408] w fun en w' => en = .returned (.tuple #[.int .u64 4611686018427387904, .int .i64 0]) ∧ Below w.heap.size w w' := by
  refine Calls.mono (soft_sub jo_64 (by decide : 4613937818241073152 < 2 * 9223372036854775808) (by decide : 4607182418800017408 < 2 * 9223372036854775808) w hT) ?_
  rintro en w' ⟨oa, ob, c, rfl, ha, hb, hs, _, hbw⟩
  have qa := opb_is ha (by decide) (by decide) vf_three9
  have qb := opb_is hb (by decide) (by decide) vf_one
  subst qa qb
  rw [negO_fin] at hs
  have qc := hs.uniq (sum_lit (.inr (by decide)) (by decide) dv31)
  subst qc
  exact ⟨by rw [patO_fin, show rnp (-1074) 52 1024 9223372036854775808 9218868437227405312 1 1 = 4611686018427387904 from by decide +kernel]; rfl, hbw⟩
theorem aw_fma (w : World) (hT : Tab w) : Calls Tryz.prog 28 #[.int .i64 64, .int .u64 4607182418800017408, .int .u64 4611686018427387904, .int .u64 4611686018427387904] w fun en w' => en = .returned (.tuple #[.int .u64 4616189618054758400, .int .i64 0]) ∧ Below w.heap.size w w' := by
  refine Calls.mono (soft_fma jo_64 ⟨(by decide : 4607182418800017408 < 2 * 9223372036854775808), (by decide : 4611686018427387904 < 2 * 9223372036854775808), (by decide : 4611686018427387904 < 2 * 9223372036854775808)⟩ w hT) ?_
  rintro en w' ⟨oa, ob, oc, q, c, rfl, ha, hb, hc, hm, hs, hbw⟩
  have qa := opb_is ha (by decide) (by decide) vf_one
  have qb := opb_is hb (by decide) (by decide) vf_two
  have qd := opb_is hc (by decide) (by decide) vf_two
  subst qa qb qd
  have qq := hm.uniq (mul_lit (z := 1) (g := 1) (.inr (by decide)) (by decide) rfl)
  subst qq
  have qc := hs.uniq (sum_lit (.inr (by decide)) (by decide) dv12)
  subst qc
  exact ⟨by rw [patO_fin, show rnp (-1074) 52 1024 9223372036854775808 9218868437227405312 1 2 = 4616189618054758400 from by decide +kernel]; rfl, hbw⟩
theorem aw_neg (w : World) (hT : Tab w) : Calls Tryz.prog 35 #[.int .i64 64, .int .u64 4607182418800017408] w fun en w' => en = .returned (.tuple #[.int .u64 13830554455654793216, .int .i64 0]) ∧ Below w.heap.size w w' := by
  refine Calls.mono (soft_neg jo_64 (by decide : 4607182418800017408 < 2 * 9223372036854775808) w hT) ?_
  rintro en w' ⟨oa, rfl, ha, hbw⟩
  have qa := opb_is ha (by decide) (by decide) vf_one
  subst qa
  rw [negO_fin]
  exact ⟨by rw [patO_fin, show rnp (-1074) 52 1024 9223372036854775808 9218868437227405312 (-1) 0 = 13830554455654793216 from by decide +kernel]; rfl, hbw⟩
theorem aw_abs (w : World) (hT : Tab w) : Calls Tryz.prog 37 #[.int .i64 64, .int .u64 13830554455654793216] w fun en w' => en = .returned (.tuple #[.int .u64 4607182418800017408, .int .i64 0]) ∧ Below w.heap.size w w' := by
  refine Calls.mono (soft_abs_f jo_64 (a := 13830554455654793216) (by decide) w hT) ?_
  rintro en w' ⟨x, e, rfl, hv, _, hbw⟩
  obtain ⟨rfl, rfl⟩ := dv_inj vf_mone.fm hv.fm (vf_mone.v.trans hv.v.symm)
  exact ⟨by rw [patO_fin, show rnp (-1074) 52 1024 9223372036854775808 9218868437227405312 (((-1 : Int).natAbs : Nat) : Int) 0 = 4607182418800017408 from by decide +kernel]; rfl, hbw⟩
theorem aw_cmp (w : World) (hT : Tab w) : Calls Tryz.prog 14 #[.int .i64 64, .int .u64 4607182418800017408, .int .u64 4611686018427387904] w fun en w' => en = .returned (.tuple #[.int .i64 (-1), .int .i64 0]) ∧ Below w.heap.size w w' := by
  refine Calls.mono (soft_cmp_ff jo_64 (a := 4607182418800017408) (b := 4611686018427387904) (by decide) (by decide) w hT) ?_
  rintro en w' ⟨rfl, hbw⟩
  exact ⟨by rw [show cmpI (rkS 9223372036854775808 4607182418800017408) (rkS 9223372036854775808 4611686018427387904) = -1 from by decide], hbw⟩
theorem aw_div (w : World) (hT : Tab w) : Calls Tryz.prog 12 #[.int .i64 64, .int .u64 4616189618054758400, .int .u64 4611686018427387904] w fun en w' => en = .returned (.tuple #[.int .u64 4611686018427387904, .int .i64 0]) ∧ Below w.heap.size w w' := by
  refine Calls.mono (soft_div_ff jo_64 (by decide) (a := 4616189618054758400) (b := 4611686018427387904) (by decide) (by decide) w hT) ?_
  rintro en w' ⟨x, e, y, g, r, Z, V, rfl, hx, hy, h1, h2, h3, hbw⟩
  obtain ⟨rfl, rfl⟩ := dv_inj vf_four.fm hx.fm (vf_four.v.trans hx.v.symm)
  obtain ⟨rfl, rfl⟩ := dv_inj vf_two.fm hy.fm (vf_two.v.trans hy.v.symm)
  have r1 := rn_of jn_64 (n := 1) (e := 1) (by decide) (by decide)
  rw [show rnz (-1074) 52 1024 9218868437227405312 1 1 = 4611686018427387904 from by decide +kernel] at r1
  have hZ := h3.same (rise_mul (by decide)) h2 r1 (dv_nn _ _) (by
    show dv (((1 : Int).natAbs : Nat) : Int) (2 - 1) = (((1 : Int).natAbs : Nat) : Int) * dv ((1 : Nat) : Int) 1
    rw [show ((1 : Int).natAbs) = 1 from rfl, mul_dv]; rfl)
  have hr : r = Z := by
    have h4 : r = if decide ((1 : Int) < 0) = decide ((1 : Int) < 0) then Z else 9223372036854775808 + Z := h1
    rw [h4, if_pos rfl]
  subst hr
  subst hZ
  exact ⟨rfl, hbw⟩
theorem aw_sqrt (w : World) (hT : Tab w) : Calls Tryz.prog 16 #[.int .i64 64, .int .u64 4616189618054758400] w fun en w' => en = .returned (.tuple #[.int .u64 4611686018427387904, .int .i64 0]) ∧ Below w.heap.size w w' := by
  refine Calls.mono (soft_sqrt_f jo_64 (by decide) (a := 4616189618054758400) (by decide) w hT) ?_
  rintro en w' ⟨x, e, Z, V, rfl, hx, h2, h3, hbw⟩
  obtain ⟨rfl, rfl⟩ := dv_inj vf_four.fm hx.fm (vf_four.v.trans hx.v.symm)
  have r1 := rn_of jn_64 (n := 1) (e := 1) (by decide) (by decide)
  rw [show rnz (-1074) 52 1024 9218868437227405312 1 1 = 4611686018427387904 from by decide +kernel] at r1
  have hZ := h3.same rise_sq h2 r1 (dv_nn _ _) (by
    show (((1 : Int).natAbs : Nat) : Int) * ((2 ^ ((2 : Int) + 2 * 4194304).toNat : Nat) : Int) = dv ((1 : Nat) : Int) 1 * dv ((1 : Nat) : Int) 1
    unfold dv
    rw [show ((1 : Int).natAbs) = 1 from rfl, show ((1 : Nat) : Int) = 1 from rfl, Int.one_mul, Int.one_mul, ← Int.natCast_mul, ← Nat.pow_add, show ((2 : Int) + 2 * 4194304).toNat = ((1 : Int) + 4194304).toNat + ((1 : Int) + 4194304).toNat from by omega])
  subst hZ
  exact ⟨rfl, hbw⟩
theorem aw_add32 (w : World) (hT : Tab w) : Calls Tryz.prog 9 #[.int .i64 32, .int .u64 1065353216, .int .u64 1065353216] w fun en w' => en = .returned (.tuple #[.int .u64 1073741824, .int .i64 0]) ∧ Below w.heap.size w w' := by
  refine Calls.mono (soft_add jo_32 (by decide : 1065353216 < 2 * 2147483648) (by decide : 1065353216 < 2 * 2147483648) w hT) ?_
  rintro en w' ⟨oa, ob, c, rfl, ha, hb, hs, _, hbw⟩
  have qa := opb_is ha (by decide) (by decide) vf_one32
  have qb := opb_is hb (by decide) (by decide) vf_one32
  subst qa qb
  have qc := hs.uniq (sum_lit (.inr (by decide)) (by decide) dv11)
  subst qc
  exact ⟨by rw [patO_fin, show rnp (-149) 23 128 2147483648 2139095040 1 1 = 1073741824 from by decide +kernel]; rfl, hbw⟩
theorem awake9 (w : World) (hT : Tab w) :
    Calls Tryz.prog 7 #[] w fun en w' => en = .returned (.bool true) ∧ Below w.heap.size w w' := by
  have hbw : Below w.heap.size w w := Below.refl _ _
  have TB : Hid (Tab w) := hT
  clear hT
  go_enter Tryz.func7, Tryz.ntmps7
  go_wp2_with fail
  refine (aw_add _ (TB.out.below hbw)).mono ?_
  rintro e v1 ⟨rfl, hb1⟩
  replace hbw := Below.on hbw hb1
  clear hb1
  go_wp2_with fail
  refine (aw_mul _ (TB.out.below hbw)).mono ?_
  rintro e v2 ⟨rfl, hb2⟩
  replace hbw := Below.on hbw hb2
  clear hb2
  go_wp2_with fail
  refine (aw_div _ (TB.out.below hbw)).mono ?_
  rintro e v3 ⟨rfl, hb3⟩
  replace hbw := Below.on hbw hb3
  clear hb3
  go_wp2_with fail
  refine (aw_sqrt _ (TB.out.below hbw)).mono ?_
  rintro e v4 ⟨rfl, hb4⟩
  replace hbw := Below.on hbw hb4
  clear hb4
  go_wp2_with fail
  refine (aw_sub _ (TB.out.below hbw)).mono ?_
  rintro e v5 ⟨rfl, hb5⟩
  replace hbw := Below.on hbw hb5
  clear hb5
  go_wp2_with fail
  refine (aw_fma _ (TB.out.below hbw)).mono ?_
  rintro e v6 ⟨rfl, hb6⟩
  replace hbw := Below.on hbw hb6
  clear hb6
  go_wp2_with fail
  refine (aw_neg _ (TB.out.below hbw)).mono ?_
  rintro e v7 ⟨rfl, hb7⟩
  replace hbw := Below.on hbw hb7
  clear hb7
  go_wp2_with fail
  refine (aw_abs _ (TB.out.below hbw)).mono ?_
  rintro e v8 ⟨rfl, hb8⟩
  replace hbw := Below.on hbw hb8
  clear hb8
  go_wp2_with fail
  refine (aw_cmp _ (TB.out.below hbw)).mono ?_
  rintro e v9 ⟨rfl, hb9⟩
  replace hbw := Below.on hbw hb9
  clear hb9
  go_wp2_with fail
  refine (aw_add32 _ (TB.out.below hbw)).mono ?_
  rintro e v10 ⟨rfl, hb10⟩
  replace hbw := Below.on hbw hb10
  clear hb10
  go_wp2_with fail
  go_ret
  exact ⟨rfl, hbw⟩
theorem DFm.lo4 {z e : Int} (h : DFm z e) : -4194304 ≤ e := by rcases h with ⟨_, h⟩ | ⟨_, h, _⟩ <;> omega
theorem OpB.uniq {S I H : Nat} {l : Int} {b : Nat} {o o' : Opd} (h : OpB S I H l b o) (h' : OpB S I H l b o') (hI : 0 < I) : o = o' := by
  rcases h with ⟨h1, h2⟩ | ⟨h1, h2⟩ | ⟨h1, h2⟩ | ⟨h1, h3, x, e, h4, h5, h6⟩ <;> rcases h' with ⟨k1, k2⟩ | ⟨k1, k2⟩ | ⟨k1, k2⟩ | ⟨k1, k3, y, f, k4, k5, k6⟩
  all_goals first
    | (rw [h2, k2]; done)
    | omega
    | (obtain ⟨rfl, rfl⟩ := dv_inj h4.fm k4.fm (h4.v.trans k4.v.symm); rw [h6, k6])
theorem OpB.pat {f p m l : Int} {S I H sd : Nat} {Be : Int} {Q : Nat} (J : Jn f p m l S I H sd Be) {b : Nat} {o : Opd} (h : OpB S I H l b o) (hb : b < 2 * S) : (I < b % S ∧ o = onan ∧ patO l sd Be S I Q o = Q) ∨ (b % S ≤ I ∧ o.k ≠ 0 ∧ patO l sd Be S I Q o = b) := by
  have hlt := J.jm.pm.fm.lt
  rcases h with ⟨h1, h2⟩ | ⟨h1, h2⟩ | ⟨h1, h2⟩ | ⟨h1, h3, x, e, h4, h5, h6⟩
  · left; exact ⟨h1, h2, by rw [h2]; rfl⟩
  · right
    refine ⟨by omega, by rw [h2]; exact Nat.one_ne_zero, ?_⟩
    rw [h2, patO_inf]
    by_cases hS : S ≤ b
    · rw [decide_eq_true hS, if_pos rfl]; have h9 := (pat_eq hb).1; rw [if_pos hS] at h9; omega
    · rw [decide_eq_false hS, if_neg (by decide)]; have := Nat.mod_eq_of_lt (show b < S by omega); omega
  · right
    refine ⟨by omega, by rw [h2]; exact Nat.succ_ne_zero 1, ?_⟩
    rw [h2, patO_no]
    by_cases hS : S ≤ b
    · rw [decide_eq_true hS, if_pos rfl]; have h9 := (pat_eq hb).1; rw [if_pos hS] at h9; omega
    · rw [decide_eq_false hS, if_neg (by decide)]; have := Nat.mod_eq_of_lt (show b < S by omega); omega
  · right
    refine ⟨by omega, by rw [h6]; exact Nat.succ_ne_zero 2, ?_⟩
    rw [h6, patO_fin]
    exact rn_own J hb h1 h3 (h4.fm.lo4) h4.v
theorem xs_lt {S b : Nat} (h : b < 2 * S) : xsS S b < 2 * S ∧ xsS S b % S = b % S ∧ decide (S ≤ xsS S b) = !decide (S ≤ b) := by
  unfold xsS
  by_cases h1 : S ≤ b
  · rw [if_pos h1, decide_eq_true h1]
    refine ⟨by omega, ?_, decide_eq_false (by omega)⟩
    rw [Nat.mod_eq_sub_mod h1]
  · rw [if_neg h1, decide_eq_false h1]
    exact ⟨by omega, by rw [Nat.add_mod_right], decide_eq_true (by omega)⟩
theorem OpB.npat {f p m l : Int} {S I H sd : Nat} {Be : Int} {Q : Nat} (J : Jq f p m l S I H sd Be Q) {b : Nat} {o : Opd} (h : OpB S I H l b o) (hb : b < 2 * S) :
    (I < b % S ∧ o = onan ∧ patO l sd Be S I Q (negO o) = Q ∧ OpB S I H l Q (negO o)) ∨ (b % S ≤ I ∧ o.k ≠ 0 ∧ patO l sd Be S I Q (negO o) = xsS S b ∧ OpB S I H l (xsS S b) (negO o)) := by
  have hlt := J.jn.jm.pm.fm.lt
  obtain ⟨x1, x2, x3⟩ := xs_lt hb
  rcases h with ⟨h1, h2⟩ | ⟨h1, h2⟩ | ⟨h1, h2⟩ | ⟨h1, h3, x, e, h4, h5, h6⟩
  · left; rw [h2, negO_nan]; exact ⟨h1, rfl, rfl, .inl ⟨J.qb.2, rfl⟩⟩
  · right
    rw [h2, negO_inf]
    have ho : OpB S I H l (xsS S b) (oinf (!decide (S ≤ b))) := .inr (.inl ⟨by omega, by rw [x3]⟩)
    refine ⟨by omega, Nat.one_ne_zero, ?_, ho⟩
    rcases ho.pat (Q := Q) J.jn x1 with ⟨k1, _⟩ | ⟨_, _, k3⟩
    · omega
    · exact k3
  · right
    rw [h2, negO_no]
    have ho : OpB S I H l (xsS S b) (ono (!decide (S ≤ b))) := .inr (.inr (.inl ⟨by omega, by rw [x3]⟩))
    refine ⟨by omega, Nat.succ_ne_zero 1, ?_, ho⟩
    rcases ho.pat (Q := Q) J.jn x1 with ⟨k1, _⟩ | ⟨_, _, k3⟩
    · omega
    · exact k3
  · right
    rw [h6, negO_fin]
    have ho : OpB S I H l (xsS S b) (ofin (-x) e) := .inr (.inr (.inr ⟨by omega, by omega, -x, e, (xs_neg hb h4).1, by omega, rfl⟩))
    refine ⟨by omega, Nat.succ_ne_zero 2, ?_, ho⟩
    rcases ho.pat (Q := Q) J.jn x1 with ⟨k1, _⟩ | ⟨_, _, k3⟩
    · omega
    · exact k3
def GoodO (c : Opd) : Prop := c = onan ∨ (∃ s, c = oinf s) ∨ (∃ s, c = ono s) ∨ ∃ x e, c = ofin x e ∧ DFm x e ∧ x ≠ 0
theorem OpB.good {S I H : Nat} {l : Int} {b : Nat} {o : Opd} (h : OpB S I H l b o) : GoodO o := by
  rcases h with ⟨_, h2⟩ | ⟨_, h2⟩ | ⟨_, h2⟩ | ⟨_, _, x, e, h4, h5, h6⟩
  · exact .inl h2
  · exact .inr (.inl ⟨_, h2⟩)
  · exact .inr (.inr (.inl ⟨_, h2⟩))
  · exact .inr (.inr (.inr ⟨x, e, h6, h4.fm, h5⟩))
theorem MulO.good {a b c : Opd} (h : MulO a b c) : GoodO c := by
  rcases h with ⟨_, h2⟩ | ⟨_, h2⟩ | ⟨_, h2⟩ | ⟨_, z, g, h3, h4, _, h6⟩
  · exact .inl h2
  · exact .inr (.inl ⟨_, h2⟩)
  · exact .inr (.inr (.inl ⟨_, h2⟩))
  · exact .inr (.inr (.inr ⟨z, g, h6, h3, h4⟩))
theorem GoodO.npat {f p m l : Int} {S I H sd : Nat} {Be : Int} {Q : Nat} (J : Jq f p m l S I H sd Be Q) {c : Opd} (h : GoodO c) : (c = onan) ∨ (c.k ≠ 0 ∧ patO l sd Be S I Q c < 2 * S ∧ patO l sd Be S I Q c % S ≤ I ∧ patO l sd Be S I Q (negO c) = xsS S (patO l sd Be S I Q c)) := by
  have hlt := J.jn.jm.pm.fm.lt
  rcases h with rfl | ⟨s, rfl⟩ | ⟨s, rfl⟩ | ⟨x, e, rfl, hf, h0⟩
  · exact .inl rfl
  · right
    rw [negO_inf, patO_inf, patO_inf]
    unfold xsS
    cases s
    · refine ⟨Nat.one_ne_zero, ?_⟩
      simp
      rw [if_neg (by omega), Nat.mod_eq_of_lt hlt]; omega
    · refine ⟨Nat.one_ne_zero, ?_⟩
      simp
      rw [Nat.mod_eq_of_lt hlt]; omega
  · right
    rw [negO_no, patO_no, patO_no]
    unfold xsS
    cases s
    · refine ⟨Nat.succ_ne_zero 1, ?_⟩
      simp
      omega
    · refine ⟨Nat.succ_ne_zero 1, ?_⟩
      simp
      omega
  · right
    rw [negO_fin, patO_fin, patO_fin]
    obtain ⟨Z, z1, _, _, z4, z5, _⟩ := rnp_is J.jn x e hf.lo4
    exact ⟨Nat.succ_ne_zero 2, z4, by omega, rnp_neg J.jn h0 hf.lo4⟩
theorem MulO.neg {a b c : Opd} (h : MulO a b c) (hg : GoodO a) : MulO (negO a) b (negO c) := by
  rcases hg with rfl | ⟨s, rfl⟩ | ⟨s, rfl⟩ | ⟨x, e, rfl, hf, h0⟩
  · rcases h with ⟨h1, h2⟩ | ⟨h1, h2⟩ | ⟨h1, h2⟩ | ⟨h1, h2⟩
    · rw [h2]; exact .inl ⟨.inl rfl, rfl⟩
    · exfalso; rcases h1 with ⟨h, _⟩ | ⟨h, _⟩ <;> exact by cases h
    · exfalso; rcases h1 with ⟨h, _⟩ | ⟨h, _⟩ <;> exact by cases h
    · exact by cases h1.1
  · rcases h with ⟨h1, h2⟩ | ⟨h1, h2⟩ | ⟨h1, h2⟩ | ⟨h1, h2⟩
    · rw [h2]; exact .inl ⟨h1, rfl⟩
    · rw [h2, negO_inf, negO_inf]; exact .inr (.inl ⟨h1, by show oinf (!(s != b.s)) = oinf ((!s) != b.s); cases s <;> cases b.s <;> rfl⟩)
    · exfalso; rcases h1 with ⟨h, _⟩ | ⟨h, _⟩ <;> exact by cases h
    · exact by cases h1.1
  · rcases h with ⟨h1, h2⟩ | ⟨h1, h2⟩ | ⟨h1, h2⟩ | ⟨h1, h2⟩
    · rw [h2]; exact .inl ⟨h1, rfl⟩
    · exfalso; rcases h1 with ⟨h, _⟩ | ⟨h, _⟩ <;> exact by cases h
    · rw [h2, negO_no, negO_no]; exact .inr (.inr (.inl ⟨h1, by show ono (!(s != b.s)) = ono ((!s) != b.s); cases s <;> cases b.s <;> rfl⟩))
    · exact by cases h1.1
  · have hs : decide (-x < 0) = !decide (x < 0) := by
      rcases Int.lt_or_le x 0 with hx | hx
      · rw [decide_eq_true hx, decide_eq_false (by omega)]; rfl
      · rw [decide_eq_false (show ¬ x < 0 by omega), decide_eq_true (show -x < 0 by omega)]; rfl
    rcases h with ⟨h1, h2⟩ | ⟨h1, h2⟩ | ⟨h1, h2⟩ | ⟨h1, z, g, h3, h4, h5, h6⟩
    · rw [h2]; exact .inl ⟨h1, rfl⟩
    · rw [h2, negO_inf, negO_fin]; exact .inr (.inl ⟨h1, by show oinf (!(decide (x < 0) != b.s)) = oinf (decide (-x < 0) != b.s); rw [hs]; cases decide (x < 0) <;> cases b.s <;> rfl⟩)
    · rw [h2, negO_no, negO_fin]; exact .inr (.inr (.inl ⟨h1, by show ono (!(decide (x < 0) != b.s)) = ono (decide (-x < 0) != b.s); rw [hs]; cases decide (x < 0) <;> cases b.s <;> rfl⟩))
    · rw [h6, negO_fin, negO_fin]
      refine .inr (.inr (.inr ⟨h1, -z, g, h3.neg, by omega, ?_, rfl⟩))
      rw [dv_neg, h5]
      show _ = dv (-x * b.x) (e + b.e)
      rw [Int.neg_mul, dv_neg]
      rfl
theorem MulO.one {o c : Opd} (hg : GoodO o) (h : MulO (ofin 1 0) o c) : c = o := by
  rcases hg with rfl | ⟨s, rfl⟩ | ⟨s, rfl⟩ | ⟨x, e, rfl, hf, h0⟩
  · exact h.uniq (.inl ⟨.inr (.inl rfl), rfl⟩)
  · refine h.uniq (.inr (.inl ⟨.inr ⟨rfl, rfl⟩, ?_⟩))
    show oinf s = oinf (decide ((1 : Int) < 0) != s)
    cases s <;> rfl
  · refine h.uniq (.inr (.inr (.inl ⟨.inr ⟨rfl, rfl⟩, ?_⟩)))
    show ono s = ono (decide ((1 : Int) < 0) != s)
    cases s <;> rfl
  · refine h.uniq (mul_lit hf h0 ?_)
    rw [Int.one_mul, Int.zero_add]
theorem SumO.nought {q c : Opd} {s : Bool} (hg : GoodO q) (hs : ∀ t, q = ono t → t = s) (h : SumO q (ono s) c) : c = q := by
  rcases hg with rfl | ⟨t, rfl⟩ | ⟨t, rfl⟩ | ⟨x, e, rfl, hf, h0⟩
  · exact h.uniq (.inl ⟨.inl rfl, rfl⟩)
  · exact h.uniq (.inr (.inl ⟨⟨rfl, .inl rfl⟩, rfl⟩))
  · obtain rfl := hs t rfl
    refine h.uniq (.inr (.inr (.inr (.inl ⟨⟨rfl, rfl⟩, ?_⟩))))
    show ono t = ono (t && t)
    cases t <;> rfl
  · exact h.uniq (.inr (.inr (.inr (.inr (.inr (.inl ⟨⟨rfl, rfl⟩, rfl⟩))))))
theorem MulO.sgn {S I H : Nat} {l : Int} {a b : Nat} {oa ob : Opd} {t : Bool} (ha : OpB S I H l a oa) (hb : OpB S I H l b ob) (ka : a < 2 * S) (kb : b < 2 * S) (h : MulO oa ob (ono t)) : t = (decide (S ≤ a) != decide (S ≤ b)) := by
  have hs : ∀ {a : Nat} {o : Opd}, OpB S I H l a o → a < 2 * S → o.k ≠ 0 → o.s = decide (S ≤ a) := by
    intro a o h ka h0
    rcases h with ⟨_, h2⟩ | ⟨_, h2⟩ | ⟨_, h2⟩ | ⟨h1, h3, x, e, h4, h5, h6⟩
    · rw [h2] at h0; exact absurd rfl h0
    · rw [h2]; rfl
    · rw [h2]; rfl
    · rw [h6]
      show decide (x < 0) = _
      have h7 := h4.v
      rw [svS_eq] at h7
      have h8 := dv_nn (vs H (a % S)) l
      by_cases hS : S ≤ a
      · rw [if_pos hS, dv_neg] at h7
        rw [decide_eq_true hS]
        refine decide_eq_true ?_
        rcases dv3 x e with ⟨q1, q2⟩ | ⟨q1, q2⟩ | ⟨q1, q2⟩ <;> omega
      · rw [if_neg hS] at h7
        rw [decide_eq_false hS]
        refine decide_eq_false ?_
        rcases dv3 x e with ⟨q1, q2⟩ | ⟨q1, q2⟩ | ⟨q1, q2⟩ <;> omega
  rcases h with ⟨_, h2⟩ | ⟨_, h2⟩ | ⟨h1, h2⟩ | ⟨_, z, g, _, _, _, h6⟩
  · exact by cases congrArg Opd.k h2
  · exact by cases congrArg Opd.k h2
  · have h3 : t = (oa.s != ob.s) := congrArg Opd.s h2
    rw [h3, hs ha ka (by omega), hs hb kb (by omega)]
  · exact by cases congrArg Opd.k h6
theorem OpB.nn {f p m l : Int} {S I H sd : Nat} {Be : Int} {Q : Nat} (J : Jq f p m l S I H sd Be Q) {b : Nat} {o : Opd} (h : OpB S I H l b o) (hb : b < 2 * S) : patO l sd Be S I Q (negO o) < 2 * S ∧ OpB S I H l (patO l sd Be S I Q (negO o)) (negO o) := by
  rcases h.npat J hb with ⟨_, _, h3, h4⟩ | ⟨_, _, h3, h4⟩
  · rw [h3]; exact ⟨J.qb.1, h4⟩
  · rw [h3]; exact ⟨(xs_lt hb).1, h4⟩
theorem GoodO.lt {f p m l : Int} {S I H sd : Nat} {Be : Int} {Q : Nat} (J : Jq f p m l S I H sd Be Q) {c : Opd} (h : GoodO c) : patO l sd Be S I Q c < 2 * S := by
  rcases h.npat J with rfl | ⟨_, h2, _⟩
  · exact J.qb.1
  · exact h2
def FinU (l : Int) (o : Opd) (u : Int) : Prop := (∃ s, o = ono s ∧ u = 0) ∨ ∃ x e, o = ofin x e ∧ DFm x e ∧ x ≠ 0 ∧ dv x e = dv u l
theorem FinU.neg {l : Int} {o : Opd} {u : Int} (h : FinU l o u) : FinU l (negO o) (-u) := by
  rcases h with ⟨s, rfl, rfl⟩ | ⟨x, e, rfl, h1, h2, h3⟩
  · exact .inl ⟨_, negO_no s, rfl⟩
  · exact .inr ⟨-x, e, negO_fin x e, h1.neg, by omega, by rw [dv_neg, dv_neg, h3]⟩
theorem FinU.own {f p m l : Int} {S I H sd : Nat} {Be : Int} (J : Jn f p m l S I H sd Be) {c : Opd} {u : Int} (h : FinU l c u) {r : Nat} (hr : r < I) (hv : ((vs H r : Nat) : Int) = u.natAbs) (Q : Nat) : patO l sd Be S I Q c < 2 * S ∧ patO l sd Be S I Q c % S < I ∧ svS S H (patO l sd Be S I Q c) = u := by
  have hlt := J.jm.pm.fm.lt
  have hpos := J.jm.pm.fm.pos
  have hH := J.jm.pm.hp
  rcases h with ⟨s, rfl, rfl⟩ | ⟨x, e, rfl, h1, h2, h3⟩
  · rw [patO_no]
    cases s
    · refine ⟨by simp; omega, by simp; omega, ?_⟩
      rw [svS_eq]; simp [vs_zero]
    · refine ⟨by simp; omega, by simp; omega, ?_⟩
      rw [svS_eq]; simp [vs_zero]
  · have hu : u ≠ 0 := fun h0 => by
      rw [h0, dv_zero] at h3; exact h2 (dv_eq_zero h3)
    have hr0 : r ≠ 0 := fun h0 => by rw [h0, vs_zero] at hv; omega
    have hb : ((if u < 0 then S else 0) + r) < 2 * S := by split <;> omega
    have hm : ((if u < 0 then S else 0) + r) % S = r := by
      split
      · rw [Nat.add_mod_left, Nat.mod_eq_of_lt (by omega)]
      · rw [Nat.zero_add, Nat.mod_eq_of_lt (by omega)]
    have hs : svS S H ((if u < 0 then S else 0) + r) = u := by
      rw [svS_eq, hm, hv]
      by_cases hn : u < 0
      · rw [if_pos hn, if_pos (by omega)]; omega
      · rw [if_neg hn, if_neg (by omega)]; omega
    have hp : rnp l sd Be S I x e = (if u < 0 then S else 0) + r := rn_own J hb (by rw [hm]; exact hr0) (by rw [hm]; exact hr) h1.lo4 (by rw [hs]; exact h3)
    rw [patO_fin, hp]
    exact ⟨hb, by rw [hm]; exact hr, hs⟩
theorem FinU.rank {f p m l : Int} {S I H sd : Nat} {Be : Int} (J : Jn f p m l S I H sd Be) {c : Opd} {l' u : Int} (h : FinU l' c u) (Q : Nat) : ∃ Z, RNz H l I (dv (u.natAbs : Int) l') Z ∧ patO l sd Be S I Q c < 2 * S ∧ patO l sd Be S I Q c % S ≤ I ∧ rkS S (patO l sd Be S I Q c) = if u < 0 then -(Z : Int) else (Z : Int) := by
  have hlt := J.jm.pm.fm.lt
  have hpos := J.jm.pm.fm.pos
  have hH := J.jm.pm.hp
  have hlo := J.jm.pm.lo
  rcases h with ⟨s, rfl, rfl⟩ | ⟨x, e, rfl, h1, h2, h3⟩
  · refine ⟨0, ?_, ?_⟩
    · have h0 := RNz.exact (H := H) (l := l) (I := I) (Z := 0) hH (by omega) (by omega)
      rw [vs_zero, show ((0 : Nat) : Int) = 0 from rfl, dv_zero] at h0
      rw [show (((0 : Int).natAbs : Nat) : Int) = 0 from rfl, dv_zero]
      exact h0
    · rw [patO_no]
      unfold rkS
      cases s
      · exact ⟨by simp; omega, by simp, by simp⟩
      · exact ⟨by simp; omega, by simp, by simp⟩
  · obtain ⟨Z, z1, z2, z3, z4, z5, z6, _⟩ := rnp_is J x e h1.lo4
    refine ⟨Z, ?_, ?_⟩
    · have h5 : dv (u.natAbs : Int) l' = dv (x.natAbs : Int) e := by rw [dv_abs6, dv_abs6, h3]
      rw [h5]; exact z2
    · rw [patO_fin]
      refine ⟨z4, by omega, ?_⟩
      have hs : x < 0 ↔ u < 0 := by
        rcases dv3 x e with ⟨a, b⟩ | ⟨a, b⟩ | ⟨a, b⟩ <;> rcases dv3 u l' with ⟨a', b'⟩ | ⟨a', b'⟩ | ⟨a', b'⟩ <;> omega
      unfold rkS
      rw [z5]
      by_cases hx : x < 0
      · have : S ≤ rnp l sd Be S I x e := by simpa [hx] using z6
        rw [if_pos this, if_pos (hs.1 hx)]
      · have : ¬ S ≤ rnp l sd Be S I x e := by simpa [hx] using z6
        rw [if_neg this, if_neg (fun h => hx (hs.2 h))]
theorem Mk.mono {H : Nat} {l : Int} {I : Nat} {g : Int → Int} {A B V U : Int} {Z Y : Nat} (h : Mk H l I g A V) (k : Mk H l I g B U) (hZ : RNz H l I V Z) (hY : RNz H l I U Y) (hAB : A ≤ B) : Z ≤ Y := by
  refine Nat.le_of_not_lt fun hlt => ?_
  have hYI : Y < I := Nat.lt_of_lt_of_le hlt hZ.le
  have h1 : U ≤ dv (hv H Y : Int) (l - 1) := Int.not_lt.1 fun h2 => by have := hY.hi Y hYI h2; omega
  have h2 : dv (hv H Y : Int) (l - 1) ≤ V := Int.not_lt.1 fun h3 => by have := hZ.lo Y hYI h3; omega
  have h3 : B ≤ g (dv (hv H Y : Int) (l - 1)) := by
    rcases Int.lt_or_eq_of_le h1 with h4 | h4
    · exact Int.le_of_lt (k.lt Y hYI h4)
    · exact Int.le_of_eq (k.eq Y hYI h4)
  have h4 : g (dv (hv H Y : Int) (l - 1)) ≤ A := by
    rcases Int.lt_or_eq_of_le h2 with h5 | h5
    · exact Int.le_of_lt (h.gt Y hYI h5)
    · exact Int.le_of_eq (h.eq Y hYI h5.symm).symm
  have hVU : V = U := by
    have e1 : V = dv (hv H Y : Int) (l - 1) := by
      rcases Int.lt_or_eq_of_le h2 with h5 | h5
      · have := h.gt Y hYI h5; omega
      · exact h5.symm
    have e2 : U = dv (hv H Y : Int) (l - 1) := by
      rcases Int.lt_or_eq_of_le h1 with h5 | h5
      · have := k.lt Y hYI h5; omega
      · exact h5
    rw [e1, e2]
  rw [hVU] at hZ
  have := hZ.uniq hY
  omega
theorem OpV.nn {w : World} {v : Value} {o : Opd} (h : OpV w v o) (hk : o.k ≠ 0) : ∃ t x, v = .iface t x ∧ (∀ w, Sem.run Tryz.prog (Instr.typeAssert (.iface t x) 66 118 true) w = .ok (.tuple #[.agg #[], .bool false]) w) := by
  rcases h with ⟨_, rfl⟩ | ⟨s, rfl, _⟩ | ⟨s, rfl, _⟩ | ⟨s, p, m, c, e, x, rfl, _⟩
  · exact absurd rfl hk
  · exact ⟨_, _, rfl, fun w => ta_inf_nan _ w⟩
  · exact ⟨_, _, rfl, fun w => ta_no_nan _ w⟩
  · exact ⟨_, _, rfl, fun w => ta_fin_nan _ w⟩
theorem OpB.nn0 {S I H : Nat} {l : Int} {b : Nat} {o : Opd} (h : OpB S I H l b o) (hr : b % S ≤ I) : o.k ≠ 0 := by
  rcases h with ⟨h1, _⟩ | ⟨_, rfl⟩ | ⟨_, rfl⟩ | ⟨_, _, x, e, _, _, rfl⟩
  · omega
  · exact fun h => by cases h
  · exact fun h => by cases h
  · exact fun h => by cases h
theorem OpV.no {w : World} {v : Value} {s : Bool} (h : OpV w v (ono s)) : v = VNo s := by
  rcases h with ⟨_, h2⟩ | ⟨t, _, h2⟩ | ⟨t, h1, h2⟩ | ⟨_, p, m, c, e', x', h1, h2, _, h4⟩
  · exact by cases congrArg Opd.k h2
  · exact by cases congrArg Opd.k h2
  · have : s = t := congrArg Opd.s h2
    rw [this]; exact h1
  · exact by cases congrArg Opd.k h4
theorem OpB.no {S I H : Nat} {l : Int} {b : Nat} {o : Opd} (h : OpB S I H l b o) (h0 : b % S = 0) (hI : 0 < I) : o = ono (decide (S ≤ b)) := by
  rcases h with ⟨h2, _⟩ | ⟨h2, _⟩ | ⟨_, h2⟩ | ⟨h1, _⟩
  · omega
  · omega
  · exact h2
  · exact absurd h0 h1
theorem soft_cmp {f p m l : Int} {S I H sd : Nat} {Be : Int} {Q : Nat} (J : Jo f p m l S I H sd Be Q) {a b : Nat} (ha : a < 2 * S ∧ a % S ≤ I) (hb : b < 2 * S ∧ b % S ≤ I) (w : World) (hT : Tab w) :
    Calls Tryz.prog 14 #[.int .i64 f, U a, U b] w fun en w' => en = .returned (.tuple #[.int .i64 (cmpI (rkS S a) (rkS S b)), .int .i64 0]) ∧ Below w.heap.size w w' := by
  have HJO : Hid (Jo f p m l S I H sd Be Q) := J
  have HA : Hid (a < 2 * S ∧ a % S ≤ I) := ha
  have HB : Hid (b < 2 * S ∧ b % S ≤ I) := hb
  have TB : Hid (Tab w) := hT
  obtain ⟨ra, hra⟩ : ∃ ra, ra = rkS S a := ⟨_, rfl⟩
  obtain ⟨rb, hrb⟩ : ∃ rb, rb = rkS S b := ⟨_, rfl⟩
  obtain ⟨rc, hrc⟩ : ∃ rc, rc = cmpI ra rb := ⟨_, rfl⟩
  rw [← hra, ← hrb, ← hrc]
  have HRA : Hid (ra = rkS S a ∧ rb = rkS S b ∧ rc = cmpI ra rb) := ⟨hra, hrb, hrc⟩
  clear J ha hb hT hra hrb hrc
  go_enter Tryz.func14, Tryz.ntmps14
  go_wp2_with fail
  have hb0 := below1 w (.cells #[U a, U b] 22)
  refine (operands2 HJO.out HA.out.1 HB.out.1 ⟨by go_simp, by go_simp⟩ (TB.out.below hb0)).mono ?_
  rintro e9 v1 ⟨go, va, vb, oa, ob, rfl, hgo, hx, hva, hvb, hoa, hob, hb1⟩
  have hbw := Below.on hb0 hb1
  obtain ⟨t1, x1, rfl, ht1⟩ := hva.nn (hoa.nn0 HA.out.2)
  obtain ⟨t2, x2, rfl, ht2⟩ := hvb.nn (hob.nn0 HB.out.2)
  have Xo : Hid (Box v1 go (.iface t1 x1) (.iface t2 x2)) := hx
  have HTT : Hid ((∀ w, Sem.run Tryz.prog (Instr.typeAssert (.iface t1 x1) 66 118 true) w = .ok (.tuple #[.agg #[], .bool false]) w) ∧ (∀ w, Sem.run Tryz.prog (Instr.typeAssert (.iface t2 x2) 66 118 true) w = .ok (.tuple #[.agg #[], .bool false]) w)) := ⟨ht1, ht2⟩
  clear hb0 hb1 hx hva hvb hoa hob hgo ht1 ht2
  obtain ⟨co0, co1, fo0, fo1⟩ := Xo.out
  have hneo := Xo.out.lt
  go_wp2_with fail
  clear co0 co1 fo0 fo1 hneo
  refine (unord2 HTT.out.1 HTT.out.2 Xo.out).mono ?_
  rintro e v2 ⟨rfl, hb2⟩
  replace Xo : Hid _ := Xo.out.below hb2
  replace hbw := Below.on hbw hb2
  clear hb2
  go_wp2_with fail
  refine (rank_ok HJO.out.jq.jn.jm.pm.fm a HA.out.1 HA.out.2 _).mono ?_
  rintro e v3 ⟨rfl, hb3⟩
  rw [show (if S ≤ a then -((a % S : Nat) : Int) else ((a % S : Nat) : Int)) = ra from HRA.out.1.symm]
  replace Xo : Hid _ := Xo.out.below hb3
  replace hbw := Below.on hbw hb3
  clear hb3
  go_wp2_with fail
  refine (rank_ok HJO.out.jq.jn.jm.pm.fm b HB.out.1 HB.out.2 _).mono ?_
  rintro e v4 ⟨rfl, hb4⟩
  rw [show (if S ≤ b then -((b % S : Nat) : Int) else ((b % S : Nat) : Int)) = rb from HRA.out.2.1.symm]
  replace Xo : Hid _ := Xo.out.below hb4
  replace hbw := Below.on hbw hb4
  clear hb4
  go_wp2_with fail
  refine (ccmp ra rb _).mono ?_
  rintro e v5 ⟨rfl, hb5⟩
  rw [← HRA.out.2.2]
  replace Xo : Hid _ := Xo.out.below hb5
  replace hbw := Below.on hbw hb5
  clear hb5
  go_wp2_with fail
  go_ret2
  exact ⟨rfl, hbw⟩
theorem inv_no (s1 : Bool) (w : World) :
    Calls Tryz.prog 79 #[VNo s1] w fun en w' => en = .returned (VInf s1) ∧ Below w.heap.size w w' := by
  have hanan := ta_no_nan
  have hainf := ta_no_inf
  have hano := ta_no_no
  have hafin := ta_no_fin
  go_enter Tryz.func79, Tryz.ntmps79
  go_wp2_with fail
  go_ret
  exact ⟨rfl, below1 _ _⟩
theorem inv_inf (s1 : Bool) (w : World) :
    Calls Tryz.prog 79 #[VInf s1] w fun en w' => en = .returned (VNo s1) ∧ Below w.heap.size w w' := by
  have hanan := ta_inf_nan
  have hainf := ta_inf_inf
  have hano := ta_inf_no
  have hafin := ta_inf_fin
  go_enter Tryz.func79, Tryz.ntmps79
  go_wp2_with fail
  go_ret
  exact ⟨rfl, below1 _ _⟩
theorem inv_fin (s1 : Bool) (p1 : Option Addr) (m1 c1 : Nat) (e1 : Int) (w : World) :
    Calls Tryz.prog 79 #[VFin s1 p1 m1 c1 e1] w fun en w' => en = .returned (VFin s1 p1 m1 c1 e1) ∧ Below w.heap.size w w' := by
  have hanan := ta_fin_nan
  have hainf := ta_fin_inf
  have hano := ta_fin_no
  have hafin := ta_fin_fin
  go_enter Tryz.func79, Tryz.ntmps79
  go_wp2_with fail
  go_ret
  exact ⟨rfl, Below.refl _ _⟩
theorem cut_ne (neg : Bool) (n L : Nat) : Ieee.Toward.even.cut neg n L = neN n (2 ^ L) := by
  unfold Ieee.Toward.cut neN neUp
  dsimp only
  rw [Nat.shiftLeft_eq, Nat.one_mul]
  by_cases h : L ≤ n.log2 + 2
  · rw [Nat.min_eq_left h]
    obtain ⟨G, hG⟩ : ∃ G, G = 2 ^ L := ⟨_, rfl⟩
    rw [← hG]
    have e1 : (G == 2 * (n % G)) = decide (2 * (n % G) = G) := decide_eq_decide.2 ⟨Eq.symm, Eq.symm⟩
    rw [e1]
    rfl
  · rw [Nat.min_eq_right (by omega)]
    have h1 : n < 2 ^ (n.log2 + 1) := Nat.lt_log2_self
    have h2 : 2 ^ (n.log2 + 2) = 2 * 2 ^ (n.log2 + 1) := by rw [Nat.pow_succ, Nat.mul_comm]
    have h3 : 2 ^ (n.log2 + 2) ≤ 2 ^ L := Nat.pow_le_pow_right (by decide) (by omega)
    obtain ⟨P, hP⟩ : ∃ P, P = 2 ^ L := ⟨_, rfl⟩
    obtain ⟨Q, hQ⟩ : ∃ Q, Q = 2 ^ (n.log2 + 2) := ⟨_, rfl⟩
    rw [← hP] at h3 ⊢
    rw [← hQ] at h2 h3 ⊢
    rw [Nat.div_eq_of_lt (show n < Q by omega), Nat.div_eq_of_lt (show n < P by omega), Nat.mod_eq_of_lt (show n < Q by omega), Nat.mod_eq_of_lt (show n < P by omega)]
    have e1 : decide (Q < 2 * n) = false := decide_eq_false (by omega)
    have e2 : (Q == 2 * n) = false := beq_eq_false_iff_ne.2 (by omega)
    have e3 : decide (P < 2 * n) = false := decide_eq_false (by omega)
    have e4 : decide (2 * n = P) = false := decide_eq_false (by omega)
    rw [e1, e2, e3, e4]
    rfl
theorem vs_of9 {H q mn : Nat} (hp : 0 < H) (h2 : mn < 2 * H) (hq : q = 0 ∨ H ≤ mn) : vs H (q * H + mn) = mn * 2 ^ q := by
  have h1 : (q * H + mn) / H - 1 = q := by
    rw [Nat.mul_comm, Nat.mul_add_div hp]
    have : mn / H < 2 := by rw [Nat.div_lt_iff_lt_mul hp]; exact h2
    rcases hq with rfl | h3
    · omega
    · have : 1 ≤ mn / H := (Nat.le_div_iff_mul_le hp).2 (by omega)
      omega
  unfold vs
  rw [h1, Nat.add_sub_cancel_left]
theorem rnz_cut {H I L low rest D Dp up : Nat} {l g : Int} (hH : 0 < H) (h2 : H % 2 = 0) (hD : D = 2 ^ Dp) (hr : rest < D) (hg : g + Dp = l + L) (hg0 : -4194303 ≤ g) (hl0 : -4194303 ≤ l) (hlow : low < 2 * H) (hL : L = 0 ∨ H ≤ low)
    (hup : up = (decide (D < 2 * rest) || (decide (2 * rest = D) && decide (low % 2 = 1))).toNat) : RNz H l I (dv ((low * D + rest : Nat) : Int) g) (min (L * H + low + up) I) := by
  obtain ⟨z0, hz0⟩ : ∃ z0, z0 = L * H + low := ⟨_, rfl⟩
  have hv0 : vs H z0 = low * 2 ^ L := by rw [hz0]; exact vs_of9 hH hlow hL
  have hq : z0 / H - 1 = L := by
    rw [hz0, Nat.mul_comm, Nat.mul_add_div hH]
    rcases hL with h | h
    · subst h
      have : low / H < 2 := Nat.div_lt_of_lt_mul (by omega)
      omega
    · have a1 : 1 ≤ low / H := (Nat.le_div_iff_mul_le hH).2 (by omega)
      have a2 : low / H < 2 := Nat.div_lt_of_lt_mul (by omega)
      omega
  have hpar : z0 % 2 = low % 2 := by
    rw [hz0, Nat.add_mod, Nat.mul_mod, h2, Nat.mul_zero, Nat.zero_mod, Nat.zero_add, Nat.mod_mod]
  have hvn : vs H (z0 + 1) = (low + 1) * 2 ^ L := by rw [vs_next hH, hv0, hq, Nat.add_mul, Nat.one_mul]
  have hvh : hv H z0 = (2 * low + 1) * 2 ^ L := by unfold hv; rw [hv0, hq, Nat.add_mul, Nat.one_mul, Nat.mul_assoc]
  have tr : ∀ (m : Nat), dv ((m * 2 ^ L : Nat) : Int) (l - 1) = dv ((m * D : Nat) : Int) (g - 1) := fun m => by
    have a1 := dv_shift (z := (m : Int)) (e := l + L - 1) (f := l - 1) (by omega) (by omega)
    have a2 := dv_shift (z := (m : Int)) (e := l + L - 1) (f := g - 1) (by omega) (by omega)
    rw [show (l + (L : Int) - 1 - (l - 1)).toNat = L by omega] at a1
    rw [show (l + (L : Int) - 1 - (g - 1)).toNat = Dp by omega, ← hD] at a2
    rw [Int.natCast_mul, Int.natCast_mul, ← a1, ← a2]
  have hA : dv ((low * D + rest : Nat) : Int) g = dv ((2 * (low * D + rest) : Nat) : Int) (g - 1) := by
    rw [dv_shift (e := g) (f := g - 1) (by omega) (by omega), show (g - (g - 1)).toNat = 1 by omega, Int.natCast_mul 2, Int.mul_comm]
  -- how the number stands to the points half way
  have below : ∀ z, z < z0 → dv (hv H z : Int) (l - 1) < dv ((low * D + rest : Nat) : Int) g := fun z hz => by
    have b1 := hv_lt hH z
    have b2 := vs_le hH (show z + 1 ≤ z0 from hz)
    have b3 : hv H z < (2 * low) * 2 ^ L := by rw [Nat.mul_assoc, ← hv0]; omega
    have b4 := (dv_lt_iff (l - 1)).2 (Int.ofNat_lt.2 b3)
    rw [tr (2 * low)] at b4
    rw [hA]
    refine Int.lt_of_lt_of_le b4 ?_
    by_cases hh : ((2 * low * D : Nat) : Int) = ((2 * (low * D + rest) : Nat) : Int)
    · rw [hh]; exact Int.le_refl _
    · exact Int.le_of_lt ((dv_lt_iff _).2 (by have : 2 * low * D ≤ 2 * (low * D + rest) := by rw [Nat.mul_assoc]; omega
                                              omega))
  have above : ∀ z, z0 < z → dv ((low * D + rest : Nat) : Int) g < dv (hv H z : Int) (l - 1) := fun z hz => by
    have b1 := hv_gt H z
    have b2 := vs_le hH (show z0 + 1 ≤ z from hz)
    have b3 : (2 * (low + 1)) * 2 ^ L < hv H z := by rw [Nat.mul_assoc, ← hvn]; omega
    have b4 := (dv_lt_iff (l - 1)).2 (Int.ofNat_lt.2 b3)
    rw [tr (2 * (low + 1))] at b4
    rw [hA]
    refine Int.lt_trans ((dv_lt_iff _).2 ?_) b4
    have : 2 * (low * D + rest) < 2 * (low + 1) * D := by rw [Nat.mul_assoc, Nat.add_mul, Nat.one_mul]; omega
    omega
  have mid : dv (hv H z0 : Int) (l - 1) = dv (((2 * low + 1) * D : Nat) : Int) (g - 1) := by rw [hvh, tr]
  have m1 : dv ((low * D + rest : Nat) : Int) g < dv (hv H z0 : Int) (l - 1) ↔ 2 * rest < D := by
    rw [mid, hA, dv_lt_iff, Nat.add_mul, Nat.mul_assoc, Nat.one_mul]; omega
  have m2 : dv (hv H z0 : Int) (l - 1) < dv ((low * D + rest : Nat) : Int) g ↔ D < 2 * rest := by
    rw [mid, hA, dv_lt_iff, Nat.add_mul, Nat.mul_assoc, Nat.one_mul]; omega
  have hu1 : up ≤ 1 := by
    rw [hup]
    cases (decide (D < 2 * rest) || (decide (2 * rest = D) && decide (low % 2 = 1))) <;> decide
  have hu2 : 2 * rest < D → up = 0 := fun h => by
    rw [hup, decide_eq_false (show ¬ D < 2 * rest by omega), decide_eq_false (show ¬ 2 * rest = D by omega)]; rfl
  have hu3 : D < 2 * rest → up = 1 := fun h => by rw [hup, decide_eq_true h]; rfl
  have hu4 : 2 * rest = D → up = low % 2 := fun h => by
    rw [hup, decide_eq_false (show ¬ D < 2 * rest by omega), decide_eq_true h]
    rcases Nat.mod_two_eq_zero_or_one low with k | k
    · rw [k]; rfl
    · rw [k]; rfl
  rw [← hz0]
  refine ⟨Nat.min_le_right _ _, ?_, ?_, ?_⟩
  · intro z hz h
    rcases Nat.lt_trichotomy z z0 with k | k | k
    · have := below z k; omega
    · subst k
      have := hu2 (m1.1 h); omega
    · omega
  · intro z hz h
    rcases Nat.lt_trichotomy z z0 with k | k | k
    · omega
    · subst k
      have := hu3 (m2.1 h); omega
    · have := above z k; omega
  · intro z hz h
    rcases Nat.lt_trichotomy z z0 with k | k | k
    · have := below z k; omega
    · subst k
      have n1 : ¬ 2 * rest < D := fun q => by have := m1.2 q; omega
      have n2 : ¬ D < 2 * rest := fun q => by have := m2.2 q; omega
      have := hu4 (by omega)
      omega
    · have := above z k; omega
theorem nearest_rnz {F : Ieee.Format} {sd I : Nat} {l : Int} (h1 : F.fractionBits = sd) (h2 : F.leastPlace = l) (h3 : F.infRung = I) (hsd : 1 ≤ sd) {neg : Bool} {n : Nat} {e : Int} (hn : n ≠ 0) (he : -4194303 ≤ e) (hl : -4194303 ≤ l) :
    ∃ Z, F.nearest neg n e = F.word neg Z ∧ RNz (2 ^ sd) l I (dv (n : Int) e) Z := by
  unfold Ieee.Format.nearest
  rw [if_neg hn]
  unfold Ieee.Format.binade
  rw [h1, h2, h3]
  dsimp only
  obtain ⟨k, hk⟩ : ∃ k, k = n.log2 := ⟨_, rfl⟩
  have n1 : 2 ^ k ≤ n := by rw [hk]; exact Nat.log2_self_le hn
  have n2 : n < 2 ^ (k + 1) := by rw [hk]; exact Nat.lt_log2_self
  rw [← hk]
  obtain ⟨last, hlast⟩ : ∃ x, x = max (e + (k : Int) - (sd : Int)) l := ⟨_, rfl⟩
  rw [← hlast]
  obtain ⟨L, hL⟩ : ∃ L, L = (last - l).toNat := ⟨_, rfl⟩
  obtain ⟨U, hU⟩ : ∃ U, U = (e - last).toNat := ⟨_, rfl⟩
  obtain ⟨Dp, hDp⟩ : ∃ Dp, Dp = (last - e).toNat := ⟨_, rfl⟩
  rw [← hL, ← hU, ← hDp, cut_ne, Nat.shiftLeft_eq]
  obtain ⟨a, ha⟩ : ∃ a, a = n * 2 ^ U := ⟨_, rfl⟩
  obtain ⟨D, hD⟩ : ∃ D, D = 2 ^ Dp := ⟨_, rfl⟩
  have hD0 : 0 < D := by rw [hD]; exact Nat.two_pow_pos _
  rw [← ha, ← hD]
  unfold neN neUp
  refine ⟨_, rfl, ?_⟩
  have hdv : dv (n : Int) e = dv ((a / D * D + a % D : Nat) : Int) (e - U) := by
    rw [dv_shift (z := (n : Int)) (e := e) (f := e - U) (by omega) (by omega), show (e - (e - (U : Int))).toNat = U by omega, Nat.div_add_mod' a D, ha, Int.natCast_mul]
  rw [hdv, ← Nat.add_assoc]
  have hlow : a / D < 2 * 2 ^ sd ∧ (L = 0 ∨ 2 ^ sd ≤ a / D) := by
    rw [show 2 * 2 ^ sd = 2 ^ (sd + 1) by rw [Nat.pow_succ, Nat.mul_comm]]
    by_cases hc : last ≤ e
    · have q1 : D = 1 := by rw [hD, show Dp = 0 by omega, Nat.pow_zero]
      rw [q1, Nat.div_one, ha]
      constructor
      · refine Nat.lt_of_lt_of_le ((Nat.mul_lt_mul_right (Nat.two_pow_pos U)).2 n2) ?_
        rw [← Nat.pow_add]
        exact Nat.pow_le_pow_right (by decide) (by omega)
      · by_cases h0 : L = 0
        · exact .inl h0
        · right
          rw [show sd = k + U by omega, Nat.pow_add]
          exact Nat.mul_le_mul_right _ n1
    · have q1 : a = n := by rw [ha, show U = 0 by omega, Nat.pow_zero, Nat.mul_one]
      rw [q1]
      constructor
      · refine Nat.div_lt_of_lt_mul (Nat.lt_of_lt_of_le n2 ?_)
        rw [hD, ← Nat.pow_add]
        exact Nat.pow_le_pow_right (by decide) (by omega)
      · by_cases h0 : L = 0
        · exact .inl h0
        · right
          refine (Nat.le_div_iff_mul_le hD0).2 ?_
          rw [hD, ← Nat.pow_add, show sd + Dp = k by omega]
          exact n1
  have hev : 2 ^ sd % 2 = 0 := by
    obtain ⟨j, hj⟩ : ∃ j, sd = j + 1 := ⟨sd - 1, by omega⟩
    rw [hj, Nat.pow_succ, Nat.mul_mod_left]
  exact rnz_cut (Nat.two_pow_pos sd) hev hD (Nat.mod_lt a hD0) (by omega) (by omega) hl hlow.1 hlow.2 rfl
structure FOk (F : Ieee.Format) (S I H sd : Nat) (l : Int) : Prop where
  fb : F.fractionBits = sd
  lp : F.leastPlace = l
  ir : F.infRung = I
  sw : F.signWeight = S
  bn : F.binade = H
  hh : H = 2 ^ sd
  one : 1 ≤ sd
  ll : -4194303 ≤ l
  hi : H < I
  is : I < S
def DOp : Ieee.Datum → Opd → Prop
  | .nan _ _, o => o = onan
  | .infinity s, o => o = oinf s
  | .number s m i, o => (m = 0 ∧ o = ono s) ∨ (m ≠ 0 ∧ ∃ x e, DFm x e ∧ x ≠ 0 ∧ dv x e = dv (iv s m) i ∧ o = ofin x e)
theorem iv_abs9 (s : Bool) (m : Nat) : (iv s m).natAbs = m := by
  unfold iv
  cases s <;> simp
theorem dv_abs9 (x e : Int) : dv (x.natAbs : Int) e = ((dv x e).natAbs : Int) := by
  unfold dv
  rw [Int.natAbs_mul, Int.natAbs_natCast, Int.natCast_mul]
theorem dv_sign9 {x e y f : Int} (h : dv x e = dv y f) : x < 0 ↔ y < 0 := by
  unfold dv at h
  have h1 : (0 : Int) < ((2 ^ (e + 4194304).toNat : Nat) : Int) := Int.ofNat_lt.2 (Nat.two_pow_pos _)
  have h2 : (0 : Int) < ((2 ^ (f + 4194304).toNat : Nat) : Int) := Int.ofNat_lt.2 (Nat.two_pow_pos _)
  constructor
  · intro k
    have := Int.mul_neg_of_neg_of_pos k h1
    rw [h] at this
    exact Int.lt_of_not_ge fun q => by have := Int.mul_nonneg q (Int.le_of_lt h2); omega
  · intro k
    have := Int.mul_neg_of_neg_of_pos k h2
    rw [← h] at this
    exact Int.lt_of_not_ge fun q => by have := Int.mul_nonneg q (Int.le_of_lt h1); omega
theorem iv_sign9 {s : Bool} {m : Nat} (hm : m ≠ 0) : iv s m < 0 ↔ s = true := by
  unfold iv
  cases s <;> simp <;> omega
theorem write_fin {F : Ieee.Format} {S I H sd : Nat} {l Be : Int} (K : FOk F S I H sd l) (HR : ∀ x e : Int, -4194304 ≤ e → ∃ Z, RNz H l I (dv x.natAbs e) Z ∧ rnp l sd Be S I x e = (if x < 0 then S + Z else Z)) {s : Bool} {m : Nat} {i x e : Int} (hm : m ≠ 0) (hi : -4194303 ≤ i) (he : -4194304 ≤ e) (hv : dv x e = dv (iv s m) i) :
    F.nearest s m i = rnp l sd Be S I x e := by
  obtain ⟨Z, h1, h2⟩ := nearest_rnz (neg := s) K.fb K.lp K.ir K.one hm hi K.ll
  obtain ⟨Y, k1, k2⟩ := HR x e he
  rw [← K.hh] at h2
  have e1 : dv (x.natAbs : Int) e = dv (m : Int) i := by
    rw [dv_abs9, hv, ← dv_abs9, iv_abs9]
  rw [e1] at k1
  obtain rfl := h2.uniq k1
  rw [h1, k2]
  unfold Ieee.Format.word
  rw [K.sw]
  have h3 := (dv_sign9 hv).trans (iv_sign9 (s := s) hm)
  by_cases hx : x < 0
  · rw [if_pos hx, if_pos (h3.1 hx)]
  · rw [if_neg hx, if_neg (fun q => hx (h3.2 q))]
theorem write_pat {F : Ieee.Format} {S I H sd Q : Nat} {l Be : Int} (K : FOk F S I H sd l) (HR : ∀ x e : Int, -4194304 ≤ e → ∃ Z, RNz H l I (dv x.natAbs e) Z ∧ rnp l sd Be S I x e = (if x < 0 then S + Z else Z)) {d : Ieee.Datum} {o : Opd} (h : DOp d o) (hr : ∀ s m i, d = .number s m i → -4194303 ≤ i) (hn : o ≠ onan) :
    F.write d = patO l sd Be S I Q o := by
  match d, h with
  | .nan s t, h => exact absurd h hn
  | .infinity s, h =>
    have h' : o = oinf s := h
    rw [h', patO_inf]
    show F.word s F.infRung = _
    unfold Ieee.Format.word
    rw [K.sw, K.ir]
  | .number s m i, h =>
    rcases h with ⟨h1, h2⟩ | ⟨h1, x, e, hf, hx, hv, h2⟩
    · rw [h2, patO_no]
      show F.nearest s m i = _
      unfold Ieee.Format.nearest Ieee.Format.word
      rw [if_pos h1, K.sw, Nat.add_zero]
    · rw [h2, patO_fin]
      refine write_fin K HR h1 (hr s m i rfl) ?_ hv
      rcases hf with ⟨q, _⟩ | ⟨_, q, _⟩ <;> omega
def DRg (R : Int) : Ieee.Datum → Prop
  | .number _ _ i => R ≤ i
  | _ => True
theorem SumO.ff {x e y f : Int} {c : Opd} (h : SumO (ofin x e) (ofin y f) c) : (dv x e + dv y f = 0 ∧ c = ono false) ∨ ∃ z g, DFm z g ∧ z ≠ 0 ∧ dv z g = dv x e + dv y f ∧ c = ofin z g := by
  have k1 : (ofin x e).k = 3 := rfl
  have k2 : (ofin y f).k = 3 := rfl
  rcases h with ⟨h1, _⟩ | ⟨h1, _⟩ | ⟨h1, _⟩ | ⟨h1, _⟩ | ⟨h1, _⟩ | ⟨h1, _⟩ | ⟨_, h2⟩
  · rcases h1 with h | h | ⟨h, _⟩ <;> omega
  · omega
  · omega
  · omega
  · omega
  · omega
  · exact h2
theorem MulO.ff {x e y f : Int} {c : Opd} (h : MulO (ofin x e) (ofin y f) c) : ∃ z g, DFm z g ∧ z ≠ 0 ∧ dv z g = dv (x * y) (e + f) ∧ c = ofin z g := by
  have k1 : (ofin x e).k = 3 := rfl
  have k2 : (ofin y f).k = 3 := rfl
  rcases h with ⟨h1, _⟩ | ⟨h1, _⟩ | ⟨h1, _⟩ | ⟨_, h2⟩
  · omega
  · omega
  · omega
  · exact h2
theorem signed_iv (s : Bool) (m u : Nat) : Ieee.signed s m u = iv s m * ((2 ^ u : Nat) : Int) := by
  unfold Ieee.signed iv
  rw [Nat.shiftLeft_eq]
  cases s
  · simp
  · simp [Int.neg_mul]
theorem iv_self (t : Int) : iv (decide (t < 0)) t.natAbs = t := by
  unfold iv
  by_cases h : t < 0
  · rw [decide_eq_true h]; simp; omega
  · rw [decide_eq_false h]; simp; omega
theorem iv_zero9 (s : Bool) : iv s 0 = 0 := by
  unfold iv
  cases s <;> rfl
theorem iv_ne9 {s : Bool} {m : Nat} (h : m ≠ 0) : iv s m ≠ 0 := fun q => h (by rw [← iv_abs9 s m, q]; rfl)
theorem sum_num (s t : Bool) (m n : Nat) (i j : Int) (hi : -4194303 ≤ i) (hj : -4194303 ≤ j) : ∃ T : Int, (Ieee.Datum.number s m i).sum (.number t n j) = some (.number (if T = 0 then s && t else decide (T < 0)) T.natAbs (min i j)) ∧ dv T (min i j) = dv (iv s m) i + dv (iv t n) j := by
  refine ⟨Ieee.signed s m (i - min i j).toNat + Ieee.signed t n (j - min i j).toNat, rfl, ?_⟩
  rw [signed_iv, signed_iv, dv_add, ← dv_shift (by omega) (by omega), ← dv_shift (by omega) (by omega)]
theorem sum_op {a b : Ieee.Datum} {oa ob oc : Opd} {R : Int} (hR : -4194303 ≤ R) (ha : DOp a oa) (hb : DOp b ob) (ra : DRg R a) (rb : DRg R b) (hs : SumO oa ob oc) :
    (oc = onan ∧ a.sum b = none) ∨ (oc ≠ onan ∧ ∃ d, a.sum b = some d ∧ DOp d oc ∧ DRg R d) := by
  match a, b, ha, hb, ra, rb with
  | .nan _ _, b, ha, _, _, _ =>
    obtain rfl : oa = onan := ha
    exact .inl ⟨hs.uniq (.inl ⟨.inl rfl, rfl⟩), by cases b <;> rfl⟩
  | .infinity s, .nan _ _, _, hb, _, _ =>
    obtain rfl : ob = onan := hb
    exact .inl ⟨hs.uniq (.inl ⟨.inr (.inl rfl), rfl⟩), rfl⟩
  | .number s m i, .nan _ _, _, hb, _, _ =>
    obtain rfl : ob = onan := hb
    exact .inl ⟨hs.uniq (.inl ⟨.inr (.inl rfl), rfl⟩), rfl⟩
  | .infinity s, .infinity t, ha, hb, _, _ =>
    obtain rfl : oa = oinf s := ha
    obtain rfl : ob = oinf t := hb
    by_cases h : s = t
    · obtain rfl : oc = oinf s := hs.uniq (.inr (.inl ⟨⟨rfl, .inr (.inr ⟨rfl, h⟩)⟩, rfl⟩))
      refine .inr ⟨fun q => (by cases q), .infinity s, ?_, rfl, trivial⟩
      show (if s = t then some (Ieee.Datum.infinity s) else none) = _
      rw [if_pos h]
    · refine .inl ⟨hs.uniq (.inl ⟨.inr (.inr ⟨rfl, rfl, h⟩), rfl⟩), ?_⟩
      show (if s = t then some (Ieee.Datum.infinity s) else none) = _
      rw [if_neg h]
  | .infinity s, .number t n j, ha, hb, _, _ =>
    obtain rfl : oa = oinf s := ha
    have hk : ob.k = 2 ∨ ob.k = 3 := by
      rcases hb with ⟨_, q⟩ | ⟨_, _, _, _, _, _, q⟩
      · rw [q]; exact .inl rfl
      · rw [q]; exact .inr rfl
    obtain rfl : oc = oinf s := hs.uniq (.inr (.inl ⟨⟨rfl, by rcases hk with h | h; (· exact .inl h); exact .inr (.inl h)⟩, rfl⟩))
    exact .inr ⟨fun q => (by cases q), .infinity s, rfl, rfl, trivial⟩
  | .number s m i, .infinity t, ha, hb, _, _ =>
    obtain rfl : ob = oinf t := hb
    have hk : oa.k = 2 ∨ oa.k = 3 := by
      rcases ha with ⟨_, q⟩ | ⟨_, _, _, _, _, _, q⟩
      · rw [q]; exact .inl rfl
      · rw [q]; exact .inr rfl
    obtain rfl : oc = oinf t := hs.uniq (.inr (.inr (.inl ⟨⟨hk, rfl⟩, rfl⟩)))
    exact .inr ⟨fun q => (by cases q), .infinity t, rfl, rfl, trivial⟩
  | .number s m i, .number t n j, ha, hb, ra, rb =>
    have ri : R ≤ i := ra
    have rj : R ≤ j := rb
    obtain ⟨T, e1, e2⟩ := sum_num s t m n i j (by omega) (by omega)
    have rm : R ≤ min i j := by omega
    rcases ha with ⟨m0, rfl⟩ | ⟨m0, x, e, hf, hx, hv, rfl⟩
    · rw [m0, iv_zero9, dv_zero, Int.zero_add] at e2
      rcases hb with ⟨n0, rfl⟩ | ⟨n0, y, f, hg, hy, hw, rfl⟩
      · obtain rfl : oc = ono (s && t) := hs.uniq (.inr (.inr (.inr (.inl ⟨⟨rfl, rfl⟩, rfl⟩))))
        rw [n0, iv_zero9, dv_zero] at e2
        have hT := dv_eq_zero e2
        refine .inr ⟨fun q => (by cases q), _, e1, .inl ⟨by rw [hT]; rfl, by rw [if_pos hT]⟩, rm⟩
      · obtain rfl : oc = ofin y f := hs.uniq (.inr (.inr (.inr (.inr (.inl ⟨⟨rfl, rfl⟩, rfl⟩)))))
        have hT : T ≠ 0 := fun q => hy (dv_eq_zero (by rw [hw, ← e2, q, dv_zero]))
        refine .inr ⟨fun q => (by cases q), _, e1, .inr ⟨by omega, y, f, hg, hy, ?_, rfl⟩, rm⟩
        rw [if_neg hT, iv_self, e2, hw]
    · rcases hb with ⟨n0, rfl⟩ | ⟨n0, y, f, hg, hy, hw, rfl⟩
      · rw [n0, iv_zero9, dv_zero, Int.add_zero] at e2
        obtain rfl : oc = ofin x e := hs.uniq (.inr (.inr (.inr (.inr (.inr (.inl ⟨⟨rfl, rfl⟩, rfl⟩))))))
        have hT : T ≠ 0 := fun q => hx (dv_eq_zero (by rw [hv, ← e2, q, dv_zero]))
        refine .inr ⟨fun q => (by cases q), _, e1, .inr ⟨by omega, x, e, hf, hx, ?_, rfl⟩, rm⟩
        rw [if_neg hT, iv_self, e2, hv]
      · rcases hs.ff with ⟨h0, rfl⟩ | ⟨z, g, hz, z0, hzv, rfl⟩
        · have hT : T = 0 := dv_eq_zero (by rw [e2, ← hv, ← hw]; exact h0)
          refine .inr ⟨fun q => (by cases q), _, e1, .inl ⟨by rw [hT]; rfl, ?_⟩, rm⟩
          rw [if_pos hT]
          have h1 : dv (iv s m) i = dv (-(iv t n)) j := by
            rw [dv_neg]
            rw [hT, dv_zero] at e2
            omega
          have h2 := dv_sign9 h1
          have h3 := iv_sign9 (s := s) m0
          have h4 := iv_sign9 (s := t) n0
          have h5 := iv_ne9 (s := t) n0
          cases s
          · rfl
          · cases t
            · rfl
            · have a1 := h2.1 (h3.2 rfl)
              have a2 := h4.2 rfl
              omega
        · have hT : T ≠ 0 := fun q => z0 (dv_eq_zero (by rw [hzv, hv, hw, ← e2, q, dv_zero]))
          refine .inr ⟨fun q => (by cases q), _, e1, .inr ⟨by omega, z, g, hz, z0, ?_, rfl⟩, rm⟩
          rw [if_neg hT, iv_self, e2, hzv, hv, hw]
theorem iv_xor9 (s t : Bool) (m n : Nat) : iv (s ^^ t) (m * n) = iv s m * iv t n := by
  unfold iv
  cases s <;> cases t <;> simp [Int.neg_mul, Int.mul_neg]
theorem xor_bne9 (s t : Bool) : (s ^^ t) = (s != t) := by cases s <;> cases t <;> rfl
theorem fin_s9 {t : Bool} {n : Nat} {y f j : Int} (hn : n ≠ 0) (h : dv y f = dv (iv t n) j) : decide (y < 0) = t := by
  have h1 := (dv_sign9 h).trans (iv_sign9 (s := t) hn)
  cases t
  · exact decide_eq_false fun q => by have := h1.1 q; cases this
  · exact decide_eq_true (h1.2 rfl)
theorem prod_op {a b : Ieee.Datum} {oa ob oc : Opd} {R : Int} (hR : -2097152 ≤ R) (ha : DOp a oa) (hb : DOp b ob) (ra : DRg R a) (rb : DRg R b) (hs : MulO oa ob oc) :
    (oc = onan ∧ a.product b = none) ∨ (oc ≠ onan ∧ ∃ d, a.product b = some d ∧ DOp d oc ∧ DRg (R + R) d) := by
  match a, b, ha, hb, ra, rb with
  | .nan _ _, b, ha, _, _, _ =>
    obtain rfl : oa = onan := ha
    exact .inl ⟨hs.uniq (.inl ⟨.inl rfl, rfl⟩), by cases b <;> rfl⟩
  | .infinity s, .nan _ _, _, hb, _, _ =>
    obtain rfl : ob = onan := hb
    exact .inl ⟨hs.uniq (.inl ⟨.inr (.inl rfl), rfl⟩), rfl⟩
  | .number s m i, .nan _ _, _, hb, _, _ =>
    obtain rfl : ob = onan := hb
    exact .inl ⟨hs.uniq (.inl ⟨.inr (.inl rfl), rfl⟩), rfl⟩
  | .infinity s, .infinity t, ha, hb, _, _ =>
    obtain rfl : oa = oinf s := ha
    obtain rfl : ob = oinf t := hb
    obtain rfl : oc = oinf (s != t) := hs.uniq (.inr (.inl ⟨.inl ⟨rfl, .inl rfl⟩, rfl⟩))
    exact .inr ⟨fun q => (by cases q), .infinity (s ^^ t), rfl, by rw [xor_bne9]; rfl, trivial⟩
  | .infinity s, .number t n j, ha, hb, _, _ =>
    obtain rfl : oa = oinf s := ha
    have hp : (Ieee.Datum.infinity s).product (.number t n j) = if n = 0 then none else some (.infinity (s ^^ t)) := rfl
    rcases hb with ⟨n0, rfl⟩ | ⟨n0, y, f, hg, hy, hw, rfl⟩
    · exact .inl ⟨hs.uniq (.inl ⟨.inr (.inr (.inl ⟨rfl, rfl⟩)), rfl⟩), by rw [hp, if_pos n0]⟩
    · obtain rfl : oc = oinf (s != decide (y < 0)) := hs.uniq (.inr (.inl ⟨.inl ⟨rfl, .inr rfl⟩, rfl⟩))
      exact .inr ⟨fun q => (by cases q), .infinity (s ^^ t), by rw [hp, if_neg n0], by rw [xor_bne9, fin_s9 n0 hw]; rfl, trivial⟩
  | .number s m i, .infinity t, ha, hb, _, _ =>
    obtain rfl : ob = oinf t := hb
    have hp : (Ieee.Datum.number s m i).product (.infinity t) = if m = 0 then none else some (.infinity (t ^^ s)) := rfl
    rcases ha with ⟨n0, rfl⟩ | ⟨n0, y, f, hg, hy, hw, rfl⟩
    · exact .inl ⟨hs.uniq (.inl ⟨.inr (.inr (.inr ⟨rfl, rfl⟩)), rfl⟩), by rw [hp, if_pos n0]⟩
    · obtain rfl : oc = oinf (decide (y < 0) != t) := hs.uniq (.inr (.inl ⟨.inr ⟨rfl, rfl⟩, rfl⟩))
      exact .inr ⟨fun q => (by cases q), .infinity (t ^^ s), by rw [hp, if_neg n0], by rw [Bool.xor_comm, xor_bne9, fin_s9 n0 hw]; rfl, trivial⟩
  | .number s m i, .number t n j, ha, hb, ra, rb =>
    have ri : R ≤ i := ra
    have rj : R ≤ j := rb
    have hp : (Ieee.Datum.number s m i).product (.number t n j) = some (.number (s ^^ t) (m * n) (i + j)) := rfl
    have rm : DRg (R + R) (.number (s ^^ t) (m * n) (i + j)) := show R + R ≤ i + j by omega
    rcases ha with ⟨m0, rfl⟩ | ⟨m0, x, e, hf, hx, hv, rfl⟩
    · have hz : m * n = 0 := by rw [m0, Nat.zero_mul]
      rcases hb with ⟨n0, rfl⟩ | ⟨n0, y, f, hg, hy, hw, rfl⟩
      · obtain rfl : oc = ono (s != t) := hs.uniq (.inr (.inr (.inl ⟨.inl ⟨rfl, .inl rfl⟩, rfl⟩)))
        exact .inr ⟨fun q => (by cases q), _, hp, .inl ⟨hz, by rw [xor_bne9]⟩, rm⟩
      · obtain rfl : oc = ono (s != decide (y < 0)) := hs.uniq (.inr (.inr (.inl ⟨.inl ⟨rfl, .inr rfl⟩, rfl⟩)))
        exact .inr ⟨fun q => (by cases q), _, hp, .inl ⟨hz, by rw [xor_bne9, fin_s9 n0 hw]⟩, rm⟩
    · rcases hb with ⟨n0, rfl⟩ | ⟨n0, y, f, hg, hy, hw, rfl⟩
      · have hz : m * n = 0 := by rw [n0, Nat.mul_zero]
        obtain rfl : oc = ono (decide (x < 0) != t) := hs.uniq (.inr (.inr (.inl ⟨.inr ⟨rfl, rfl⟩, rfl⟩)))
        exact .inr ⟨fun q => (by cases q), _, hp, .inl ⟨hz, by rw [xor_bne9, fin_s9 m0 hv]⟩, rm⟩
      · obtain ⟨z, g, hz, z0, hzv, rfl⟩ := hs.ff
        have hmn : m * n ≠ 0 := Nat.mul_ne_zero m0 n0
        refine .inr ⟨fun q => (by cases q), _, hp, .inr ⟨hmn, z, g, hz, z0, ?_, rfl⟩, rm⟩
        have e9 : -2097152 ≤ e := by rcases hf with ⟨q, _⟩ | ⟨_, q, _⟩ <;> omega
        have f9 : -2097152 ≤ f := by rcases hg with ⟨q, _⟩ | ⟨_, q, _⟩ <;> omega
        have k1 := dv_mul (z := x) (c := y) e9 f9
        have k2 := dv_mul (z := iv s m) (c := iv t n) (show -2097152 ≤ i by omega) (show -2097152 ≤ j by omega)
        rw [hv, hw, ← k2] at k1
        rw [hzv, iv_xor9]
        exact Int.eq_of_mul_eq_mul_right (pow_pos_int _) k1
theorem opp_op {d : Ieee.Datum} {o : Opd} {R : Int} (h : DOp d o) (r : DRg R d) : DOp d.opposite (negO o) ∧ DRg R d.opposite := by
  match d, h, r with
  | .nan s t, h, _ =>
    obtain rfl : o = onan := h
    exact ⟨rfl, trivial⟩
  | .infinity s, h, _ =>
    obtain rfl : o = oinf s := h
    exact ⟨rfl, trivial⟩
  | .number s m i, h, r =>
    refine ⟨?_, r⟩
    rcases h with ⟨m0, rfl⟩ | ⟨m0, x, e, hf, hx, hv, rfl⟩
    · exact .inl ⟨m0, rfl⟩
    · refine .inr ⟨m0, -x, e, ?_, by omega, ?_, rfl⟩
      · rcases hf with ⟨a, b⟩ | ⟨a, b⟩
        · exact .inl ⟨by omega, b⟩
        · exact .inr ⟨by omega, b⟩
      · rw [dv_neg, hv, ← dv_neg]
        congr 1
        unfold iv
        cases s <;> simp
theorem read_op {F : Ieee.Format} {S I H sd : Nat} {l : Int} (K : FOk F S I H sd l) {b : Nat} {o : Opd} (hb : b < 2 * S) (h : OpB S I H l b o) : DOp (F.read b) o ∧ DRg l (F.read b) := by
  have hpos : 0 < H := by rw [K.hh]; exact Nat.two_pow_pos _
  have hi := K.hi
  have his := K.is
  have hneg : (b / S % 2 == 1) = decide (S ≤ b) := by
    rcases Nat.lt_or_ge b S with k | k
    · rw [Nat.div_eq_of_lt k, decide_eq_false (by omega)]; rfl
    · have h1 : b / S = 1 := Nat.div_eq_of_lt_le (by omega) (by omega)
      rw [h1, decide_eq_true k]; rfl
  unfold Ieee.Format.read
  dsimp only
  rw [K.sw, K.bn, K.ir, K.lp, hneg]
  rcases h with ⟨h1, rfl⟩ | ⟨h1, rfl⟩ | ⟨h1, rfl⟩ | ⟨h0, h1, x, e, hv, hx, rfl⟩
  · rw [if_neg (by omega), if_neg (by omega), if_neg (by omega)]
    exact ⟨rfl, trivial⟩
  · rw [if_neg (by omega), if_neg (by omega), if_pos h1]
    exact ⟨rfl, trivial⟩
  · rw [if_pos (by omega)]
    exact ⟨.inl ⟨h1, rfl⟩, Int.le_refl l⟩
  · have hvv := hv.v
    rw [svS_eq] at hvv
    by_cases hr : b % S < H
    · rw [if_pos hr]
      refine ⟨.inr ⟨h0, x, e, hv.fm, hx, ?_, rfl⟩, Int.le_refl l⟩
      rw [hvv]
      congr 1
      have e1 : vs H (b % S) = b % S := by
        unfold vs
        rw [Nat.div_eq_of_lt hr]; simp
      rw [e1]
      unfold iv
      by_cases k : S ≤ b
      · rw [if_pos k, decide_eq_true k]; rfl
      · rw [if_neg k, decide_eq_false k]; rfl
    · rw [if_neg hr, if_pos h1]
      have hq : 1 ≤ b % S / H := (Nat.le_div_iff_mul_le hpos).2 (by omega)
      have hdm := Nat.div_add_mod (b % S) H
      obtain ⟨q, hqq⟩ : ∃ q, q = b % S / H - 1 := ⟨_, rfl⟩
      have e2 : b % S - (b % S / H - 1) * H = H + b % S % H := by
        rw [show b % S / H = q + 1 by omega, Nat.mul_add, Nat.mul_one, Nat.mul_comm] at hdm
        rw [← hqq]
        omega
      have e1 : vs H (b % S) = (H + b % S % H) * 2 ^ q := by
        unfold vs
        rw [e2, ← hqq]
      refine ⟨.inr ⟨by omega, x, e, hv.fm, hx, ?_, rfl⟩, show l ≤ l + ((b % S / H - 1 : Nat) : Int) by omega⟩
      have hl := K.ll
      rw [hvv, e1, ← hqq, dv_shift (e := l + (q : Int)) (f := l) (by omega) (by omega), show (l + (q : Int) - l).toNat = q by omega]
      congr 1
      unfold iv
      by_cases k : S ≤ b
      · rw [if_pos k, decide_eq_true k, Int.natCast_mul _ (2 ^ q), if_pos rfl, Int.neg_mul]
      · rw [if_neg k, decide_eq_false k, Int.natCast_mul _ (2 ^ q)]; rfl
theorem DRg.mono {R R' : Int} {d : Ieee.Datum} (h : DRg R d) (k : R' ≤ R) : DRg R' d := by
  cases d
  · exact Int.le_trans k h
  · trivial
  · trivial
theorem wr_op {F : Ieee.Format} {S I H sd Q : Nat} {l Be : Int} (K : FOk F S I H sd l) (_hl : -1000000 ≤ l ∧ l ≤ 0) (HR : ∀ x e : Int, -4194304 ≤ e → ∃ Z, RNz H l I (dv x.natAbs e) Z ∧ rnp l sd Be S I x e = (if x < 0 then S + Z else Z)) {d : Ieee.Datum} {o : Opd} {R : Int} (h : DOp d o) (r : DRg R d) (hR : -4194303 ≤ R) (hn : o ≠ onan) : F.write d = patO l sd Be S I Q o :=
  write_pat K HR h (fun s m i e => by subst e; exact Int.le_trans hR r) hn
theorem flo_add {F : Ieee.Format} {S I H sd Q : Nat} {l Be : Int} (K : FOk F S I H sd l) (hl : -1000000 ≤ l ∧ l ≤ 0) (HR : ∀ x e : Int, -4194304 ≤ e → ∃ Z, RNz H l I (dv x.natAbs e) Z ∧ rnp l sd Be S I x e = (if x < 0 then S + Z else Z)) {a b : Nat} {oa ob oc : Opd} (ha : a < 2 * S) (hb : b < 2 * S) (ka : OpB S I H l a oa) (kb : OpB S I H l b ob) (hs : SumO oa ob oc) :
    (oc = onan ∧ F.add a b = none) ∨ (oc ≠ onan ∧ F.add a b = some (patO l sd Be S I Q oc)) := by
  obtain ⟨a1, a2⟩ := read_op K ha ka
  obtain ⟨b1, b2⟩ := read_op K hb kb
  unfold Ieee.Format.add
  rcases sum_op (R := l) (by omega) a1 b1 a2 b2 hs with ⟨h1, h2⟩ | ⟨h1, d, h2, h3, h4⟩
  · exact .inl ⟨h1, by rw [h2]; rfl⟩
  · refine .inr ⟨h1, ?_⟩
    rw [h2]
    show some (F.write d) = _
    rw [wr_op (Q := Q) K hl HR h3 h4 (by omega) h1]
theorem flo_sub {F : Ieee.Format} {S I H sd Q : Nat} {l Be : Int} (K : FOk F S I H sd l) (hl : -1000000 ≤ l ∧ l ≤ 0) (HR : ∀ x e : Int, -4194304 ≤ e → ∃ Z, RNz H l I (dv x.natAbs e) Z ∧ rnp l sd Be S I x e = (if x < 0 then S + Z else Z)) {a b : Nat} {oa ob oc : Opd} (ha : a < 2 * S) (hb : b < 2 * S) (ka : OpB S I H l a oa) (kb : OpB S I H l b ob) (hs : SumO oa (negO ob) oc) :
    (oc = onan ∧ F.sub a b = none) ∨ (oc ≠ onan ∧ F.sub a b = some (patO l sd Be S I Q oc)) := by
  obtain ⟨a1, a2⟩ := read_op K ha ka
  obtain ⟨b1, b2⟩ := read_op K hb kb
  obtain ⟨c1, c2⟩ := opp_op b1 b2
  unfold Ieee.Format.sub
  rcases sum_op (R := l) (by omega) a1 c1 a2 c2 hs with ⟨h1, h2⟩ | ⟨h1, d, h2, h3, h4⟩
  · exact .inl ⟨h1, by rw [h2]; rfl⟩
  · refine .inr ⟨h1, ?_⟩
    rw [h2]
    show some (F.write d) = _
    rw [wr_op (Q := Q) K hl HR h3 h4 (by omega) h1]
theorem flo_mul {F : Ieee.Format} {S I H sd Q : Nat} {l Be : Int} (K : FOk F S I H sd l) (hl : -1000000 ≤ l ∧ l ≤ 0) (HR : ∀ x e : Int, -4194304 ≤ e → ∃ Z, RNz H l I (dv x.natAbs e) Z ∧ rnp l sd Be S I x e = (if x < 0 then S + Z else Z)) {a b : Nat} {oa ob oc : Opd} (ha : a < 2 * S) (hb : b < 2 * S) (ka : OpB S I H l a oa) (kb : OpB S I H l b ob) (hs : MulO oa ob oc) :
    (oc = onan ∧ F.mul a b = none) ∨ (oc ≠ onan ∧ F.mul a b = some (patO l sd Be S I Q oc)) := by
  obtain ⟨a1, a2⟩ := read_op K ha ka
  obtain ⟨b1, b2⟩ := read_op K hb kb
  unfold Ieee.Format.mul
  rcases prod_op (R := l) (by omega) a1 b1 a2 b2 hs with ⟨h1, h2⟩ | ⟨h1, d, h2, h3, h4⟩
  · exact .inl ⟨h1, by rw [h2]; rfl⟩
  · refine .inr ⟨h1, ?_⟩
    rw [h2]
    show some (F.write d) = _
    rw [wr_op (Q := Q) K hl HR h3 h4 (by omega) h1]
theorem fok_64 : FOk Ieee.double 9223372036854775808 9218868437227405312 4503599627370496 52 (-1074) := ⟨by decide, by decide, by decide, by decide, by decide, by decide, by decide, by decide, by decide, by decide⟩
theorem Mk.scale9 {H : Nat} {l : Int} {I : Nat} {y n A B V : Int} (hy : 0 < y) (hn : 0 < n) (hAB : y * A = n * B) (k : Mk H l I (fun t => n * t) A V) : Mk H l I (fun t => y * t) B V := by
  have key : ∀ t : Int, n * (y * t) = y * (n * t) := fun t => Int.mul_left_comm _ _ _
  refine ⟨fun z hz h => ?_, fun z hz h => ?_, fun z hz h => ?_⟩
  · have h1 := Int.mul_lt_mul_of_pos_left (k.lt z hz h) hy
    rw [hAB, ← key] at h1
    exact Int.lt_of_mul_lt_mul_left h1 (Int.le_of_lt hn)
  · have h1 := Int.mul_lt_mul_of_pos_left (k.gt z hz h) hy
    rw [hAB, ← key] at h1
    exact Int.lt_of_mul_lt_mul_left h1 (Int.le_of_lt hn)
  · have h1 := congrArg (fun t => y * t) (k.eq z hz h)
    rw [hAB, ← key] at h1
    exact Int.eq_of_mul_eq_mul_left (by omega) h1
theorem quo_eq9 {X Y m n e g i j : Int} (hx : dv X e = dv m i) (hy : dv Y g = dv n j) (h1 : -2097152 ≤ e - g) (h2 : -2097152 ≤ g) (h3 : -2097152 ≤ i - j) (h4 : -2097152 ≤ j) : Y * dv m (i - j) = n * dv X (e - g) := by
  have a1 := dv_mul (z := X) (c := 1) h1 h2
  have a2 := dv_mul (z := m) (c := 1) h3 h4
  rw [Int.mul_one, Int.sub_add_cancel] at a1 a2
  rw [hx, a2] at a1
  obtain ⟨G, hG⟩ : ∃ G, G = dv 1 g := ⟨_, rfl⟩
  obtain ⟨J, hJ⟩ : ∃ J, J = dv 1 j := ⟨_, rfl⟩
  have g0 : G ≠ 0 := by rw [hG]; unfold dv; rw [Int.one_mul]; exact pow_pos_int _
  have j0 : J ≠ 0 := by rw [hJ]; unfold dv; rw [Int.one_mul]; exact pow_pos_int _
  have b1 : Y * G = n * J := by
    have c1 : dv Y g = Y * G := by rw [hG]; unfold dv; rw [Int.one_mul]
    have c2 : dv n j = n * J := by rw [hJ]; unfold dv; rw [Int.one_mul]
    rw [← c1, ← c2, hy]
  rw [← hG, ← hJ] at a1
  obtain ⟨A, hA⟩ : ∃ A, A = dv m (i - j) := ⟨_, rfl⟩
  obtain ⟨B, hB⟩ : ∃ B, B = dv X (e - g) := ⟨_, rfl⟩
  rw [← hA, ← hB] at a1 ⊢
  refine Int.eq_of_mul_eq_mul_right (Int.mul_ne_zero g0 j0) ?_
  have c1 : Y * A * (G * J) = Y * G * (A * J) := by ac_rfl
  have c2 : n * B * (G * J) = n * J * (B * G) := by ac_rfl
  rw [c1, c2, b1, a1]
theorem read_fin9 {F : Ieee.Format} {S I H sd : Nat} {l : Int} (K : FOk F S I H sd l) (hIH : I ≤ 4096 * H) {b : Nat} {x e : Int} (hb : b < 2 * S) (h0 : b % S ≠ 0) (h1 : b % S < I) (hv : VF S H l b x e) :
    ∃ s m i, s = decide (S ≤ b) ∧ F.read b = .number s m i ∧ m ≠ 0 ∧ m < 2 * H ∧ l ≤ i ∧ i ≤ l + 4096 ∧ dv x e = dv (iv s m) i := by
  have hpos : 0 < H := by rw [K.hh]; exact Nat.two_pow_pos _
  have hi := K.hi
  have his := K.is
  have hneg : (b / S % 2 == 1) = decide (S ≤ b) := by
    rcases Nat.lt_or_ge b S with k | k
    · rw [Nat.div_eq_of_lt k, decide_eq_false (by omega)]; rfl
    · have h1 : b / S = 1 := Nat.div_eq_of_lt_le (by omega) (by omega)
      rw [h1, decide_eq_true k]; rfl
  unfold Ieee.Format.read
  dsimp only
  rw [K.sw, K.bn, K.ir, K.lp, hneg]
  have hvv := hv.v
  rw [svS_eq] at hvv
  by_cases hr : b % S < H
  · rw [if_pos hr]
    refine ⟨_, _, _, rfl, rfl, h0, by omega, Int.le_refl l, by omega, ?_⟩
    rw [hvv]
    congr 1
    have e1 : vs H (b % S) = b % S := by
      unfold vs
      rw [Nat.div_eq_of_lt hr]; simp
    rw [e1]
    unfold iv
    by_cases k : S ≤ b
    · rw [if_pos k, decide_eq_true k]; rfl
    · rw [if_neg k, decide_eq_false k]; rfl
  · rw [if_neg hr, if_pos h1]
    have hq : 1 ≤ b % S / H := (Nat.le_div_iff_mul_le hpos).2 (by omega)
    have hq2 : b % S / H < 4096 := Nat.div_lt_of_lt_mul (by rw [Nat.mul_comm]; omega)
    have hml := Nat.mod_lt (b % S) hpos
    have hdm := Nat.div_add_mod (b % S) H
    obtain ⟨q, hqq⟩ : ∃ q, q = b % S / H - 1 := ⟨_, rfl⟩
    have e2 : b % S - (b % S / H - 1) * H = H + b % S % H := by
      rw [show b % S / H = q + 1 by omega, Nat.mul_add, Nat.mul_one, Nat.mul_comm] at hdm
      rw [← hqq]
      omega
    have e1 : vs H (b % S) = (H + b % S % H) * 2 ^ q := by
      unfold vs
      rw [e2, ← hqq]
    refine ⟨_, _, _, rfl, rfl, by omega, by omega, by omega, by omega, ?_⟩
    have hl := K.ll
    rw [hvv, e1, ← hqq, dv_shift (e := l + (q : Int)) (f := l) (by omega) (by omega), show (l + (q : Int) - l).toNat = q by omega]
    congr 1
    unfold iv
    by_cases k : S ≤ b
    · rw [if_pos k, decide_eq_true k, Int.natCast_mul _ (2 ^ q), if_pos rfl, Int.neg_mul]
    · rw [if_neg k, decide_eq_false k, Int.natCast_mul _ (2 ^ q)]; rfl
theorem quo_ff {F : Ieee.Format} {S I H sd : Nat} {l : Int} (K : FOk F S I H sd l) (hl : -1000000 ≤ l ∧ l ≤ 0) (hIH : I ≤ 4096 * H) (hsd : sd ≤ 1000) {a b : Nat} (ha : a < 2 * S ∧ a % S ≠ 0 ∧ a % S < I) (hb : b < 2 * S ∧ b % S ≠ 0 ∧ b % S < I) {x e y g V : Int} {Z : Nat} (hva : VF S H l a x e) (hvb : VF S H l b y g) (hZ : RNz H l I V Z) (hM : Mk H l I (fun t => (y.natAbs : Int) * t) (dv (x.natAbs : Int) (e - g)) V) :
    F.div a b = some (F.word (decide (x < 0) != decide (y < 0)) Z) := by
  have hpos : 0 < H := by rw [K.hh]; exact Nat.two_pow_pos _
  obtain ⟨s, m, i, _, ea, m0, mH, i1, i2, hx⟩ := read_fin9 K hIH ha.1 ha.2.1 ha.2.2 hva
  obtain ⟨t, n, j, _, eb, n0, nH, j1, j2, hy⟩ := read_fin9 K hIH hb.1 hb.2.1 hb.2.2 hvb
  have e1 := hva.fm
  have g1 := hvb.fm
  have e2 : -1048576 ≤ e ∧ e ≤ 1048576 := by rcases e1 with ⟨_, q⟩ | ⟨_, q⟩ <;> omega
  have g2 : -1048576 ≤ g ∧ g ≤ 1048576 := by rcases g1 with ⟨_, q⟩ | ⟨_, q⟩ <;> omega
  have hs := fin_s9 m0 hx
  have ht := fin_s9 n0 hy
  have y0 : y ≠ 0 := fun q => by
    rw [q, dv_zero] at hy
    have : dv (iv t n) j = 0 := hy.symm
    unfold dv at this
    rcases Int.mul_eq_zero.1 this with k | k
    · have := iv_abs9 t n; rw [k] at this; exact n0 this.symm
    · exact pow_pos_int _ k
  have hxa : dv (x.natAbs : Int) e = dv (m : Int) i := by
    rw [dv_abs9, hx, ← dv_abs9, iv_abs9]
  have hya : dv (y.natAbs : Int) g = dv (n : Int) j := by
    rw [dv_abs9, hy, ← dv_abs9, iv_abs9]
  unfold Ieee.Format.div
  rw [ea, eb, K.fb]
  have hq : (Ieee.Datum.number s m i).quotient (sd + 2) (.number t n j) = if n = 0 then if m = 0 then none else some (.infinity (s ^^ t)) else some (.number (s ^^ t) (2 * ((m <<< (sd + 2 + n.log2 - m.log2)) / n) + ((m <<< (sd + 2 + n.log2 - m.log2)) % n != 0).toNat) (i - j - ((sd + 2 + n.log2 - m.log2 : Nat) : Int) - 1)) := rfl
  rw [hq, if_neg n0]
  obtain ⟨k, hk⟩ : ∃ k, k = sd + 2 + n.log2 - m.log2 := ⟨_, rfl⟩
  have ln : n.log2 ≤ sd := by
    have h1 : n < 2 ^ (sd + 1) := by rw [Nat.pow_succ, ← K.hh]; omega
    have := (Nat.log2_lt n0).2 h1
    omega
  rw [← hk, Nat.shiftLeft_eq]
  obtain ⟨D, hD⟩ : ∃ D, D = m * 2 ^ k := ⟨_, rfl⟩
  rw [← hD]
  have hD1 : 2 ^ (sd + 2 + n.log2) ≤ D := by
    have h1 := Nat.log2_self_le m0
    have h2 : 2 ^ m.log2 * 2 ^ k ≤ D := by rw [hD]; exact Nat.mul_le_mul_right _ h1
    rw [← Nat.pow_add] at h2
    exact Nat.le_trans (Nat.pow_le_pow_right (by decide) (by omega)) h2
  have hF : 2 * H ≤ D / n := by
    refine (Nat.le_div_iff_mul_le (by omega)).2 ?_
    have h1 : n < 2 ^ (n.log2 + 1) := Nat.lt_log2_self
    have h2 : 2 ^ (sd + 2 + n.log2) = 2 * H * 2 ^ (n.log2 + 1) := by
      rw [K.hh, show sd + 2 + n.log2 = 1 + sd + (n.log2 + 1) by omega, Nat.pow_add, Nat.pow_add]
    have h3 : 2 * H * n ≤ 2 * H * 2 ^ (n.log2 + 1) := Nat.mul_le_mul_left _ (Nat.le_of_lt h1)
    omega
  have hmag : 2 * (D / n) + (D % n != 0).toNat = 2 * (D / n) + (if D % n = 0 then 0 else 1) := by
    by_cases h : D % n = 0
    · rw [if_pos h, h]; rfl
    · rw [if_neg h, show (D % n != 0) = true from bne_iff_ne.2 h]; rfl
  obtain ⟨mag, hg⟩ : ∃ mag, mag = 2 * (D / n) + (D % n != 0).toNat := ⟨_, rfl⟩
  rw [← hg]
  have hk2 := mk_quo (l := l) (I := I) hpos K.ll (e := i - j) (d := i - j - (k : Int) - 1) (x := m) (y := n) (k := k) (F := D / n) (r := D % n) (m := mag) rfl (by omega) hF (by rw [← hD, Nat.mul_comm (D / n), Nat.div_add_mod]) (Nat.mod_lt _ (by omega)) (by rw [hg, hmag])
  have hk3 : Mk H l I (fun t => (y.natAbs : Int) * t) (dv (x.natAbs : Int) (e - g)) (dv (mag : Int) (i - j - (k : Int) - 1)) :=
    hk2.scale9 (by omega) (by omega) (quo_eq9 hxa hya (by omega) (by omega) (by omega) (by omega))
  have hmag0 : mag ≠ 0 := by omega
  obtain ⟨Y, hw, hY⟩ := nearest_rnz (F := F) K.fb K.lp K.ir K.one (neg := s ^^ t) hmag0 (show -4194303 ≤ i - j - (k : Int) - 1 by omega) K.ll
  rw [← K.hh] at hY
  have hYZ : Y = Z := Nat.le_antisymm (hk3.uniq hM hY hZ) (hM.uniq hk3 hZ hY)
  show some (F.nearest (s ^^ t) mag (i - j - (k : Int) - 1)) = _
  rw [hw, hYZ, xor_bne9, hs, ht]
theorem cmp9 {a b c d : Int} (h1 : a < b ↔ c < d) (h2 : a = b ↔ c = d) : compare a b = compare c d := by
  have e1 : compare a b = if a < b then .lt else if a = b then .eq else .gt := rfl
  have e2 : compare c d = if c < d then .lt else if c = d then .eq else .gt := rfl
  rw [e1, e2]
  simp only [h1, h2]
theorem signed9 (s : Bool) (m u : Nat) : Ieee.signed s m u = iv s m * ((2 ^ u : Nat) : Int) := by
  unfold Ieee.signed iv
  rw [Nat.shiftLeft_eq]
  cases s
  · exact Int.natCast_mul _ _
  · show -((m * 2 ^ u : Nat) : Int) = -(m : Int) * _
    rw [Int.natCast_mul, Int.neg_mul]
theorem read_num9 {F : Ieee.Format} {S I H sd : Nat} {l : Int} (K : FOk F S I H sd l) {b : Nat} (hb : b < 2 * S) (h1 : b % S < I) :
    ∃ s m i, F.read b = .number s m i ∧ l ≤ i ∧ dv (svS S H b) l = dv (iv s m) i := by
  have hpos : 0 < H := by rw [K.hh]; exact Nat.two_pow_pos _
  have hi := K.hi
  have his := K.is
  have hneg : (b / S % 2 == 1) = decide (S ≤ b) := by
    rcases Nat.lt_or_ge b S with k | k
    · rw [Nat.div_eq_of_lt k, decide_eq_false (by omega)]; rfl
    · have h1 : b / S = 1 := Nat.div_eq_of_lt_le (by omega) (by omega)
      rw [h1, decide_eq_true k]; rfl
  unfold Ieee.Format.read
  dsimp only
  rw [K.sw, K.bn, K.ir, K.lp, hneg, svS_eq]
  by_cases hr : b % S < H
  · rw [if_pos hr]
    refine ⟨_, _, _, rfl, Int.le_refl l, ?_⟩
    congr 1
    have e1 : vs H (b % S) = b % S := by
      unfold vs
      rw [Nat.div_eq_of_lt hr]; simp
    rw [e1]
    unfold iv
    by_cases k : S ≤ b
    · rw [if_pos k, decide_eq_true k]; rfl
    · rw [if_neg k, decide_eq_false k]; rfl
  · rw [if_neg hr, if_pos h1]
    have hq : 1 ≤ b % S / H := (Nat.le_div_iff_mul_le hpos).2 (by omega)
    have hdm := Nat.div_add_mod (b % S) H
    obtain ⟨q, hqq⟩ : ∃ q, q = b % S / H - 1 := ⟨_, rfl⟩
    have e2 : b % S - (b % S / H - 1) * H = H + b % S % H := by
      rw [show b % S / H = q + 1 by omega, Nat.mul_add, Nat.mul_one, Nat.mul_comm] at hdm
      rw [← hqq]
      omega
    have e1 : vs H (b % S) = (H + b % S % H) * 2 ^ q := by
      unfold vs
      rw [e2, ← hqq]
    refine ⟨_, _, _, rfl, by omega, ?_⟩
    have hl := K.ll
    rw [e1, ← hqq, dv_shift (e := l + (q : Int)) (f := l) (by omega) (by omega), show (l + (q : Int) - l).toNat = q by omega]
    congr 1
    unfold iv
    by_cases k : S ≤ b
    · rw [if_pos k, decide_eq_true k, Int.natCast_mul _ (2 ^ q), if_pos rfl, Int.neg_mul]
    · rw [if_neg k, decide_eq_false k, Int.natCast_mul _ (2 ^ q)]; rfl
theorem read_nan9 {F : Ieee.Format} {S I H sd : Nat} {l : Int} (K : FOk F S I H sd l) {b : Nat} (h : I < b % S) : ∃ s t, F.read b = .nan s t := by
  have hi := K.hi
  unfold Ieee.Format.read
  dsimp only
  rw [K.sw, K.bn, K.ir, K.lp, if_neg (by omega), if_neg (by omega), if_neg (by omega)]
  exact ⟨_, _, rfl⟩
theorem read_inf9 {F : Ieee.Format} {S I H sd : Nat} {l : Int} (K : FOk F S I H sd l) {b : Nat} (hb : b < 2 * S) (h : b % S = I) : F.read b = .infinity (decide (S ≤ b)) := by
  have hi := K.hi
  have hneg : (b / S % 2 == 1) = decide (S ≤ b) := by
    rcases Nat.lt_or_ge b S with k | k
    · rw [Nat.div_eq_of_lt k, decide_eq_false (by omega)]; rfl
    · have h1 : b / S = 1 := Nat.div_eq_of_lt_le (by omega) (by omega)
      rw [h1, decide_eq_true k]; rfl
  unfold Ieee.Format.read
  dsimp only
  rw [K.sw, K.bn, K.ir, K.lp, hneg, if_neg (by omega), if_neg (by omega), if_pos h]
theorem order_nan9 {F : Ieee.Format} {S I H sd : Nat} {l : Int} (K : FOk F S I H sd l) {a b : Nat} (h : I < a % S ∨ I < b % S) : F.order a b = none := by
  unfold Ieee.Format.order
  rcases h with h | h
  · obtain ⟨s, m, hr⟩ := read_nan9 K h; rw [hr]; rfl
  · obtain ⟨s, m, hr⟩ := read_nan9 K h; rw [hr]
    cases F.read a <;> rfl
theorem order_rk {F : Ieee.Format} {S I H sd : Nat} {l : Int} (K : FOk F S I H sd l) {a b : Nat} (ha : a < 2 * S ∧ a % S ≤ I) (hb : b < 2 * S ∧ b % S ≤ I) : F.order a b = some (compare (rkS S a) (rkS S b)) := by
  have hpos : 0 < H := by rw [K.hh]; exact Nat.two_pow_pos _
  have hi := K.hi
  have hl := K.ll
  unfold Ieee.Format.order
  have rk : ∀ c : Nat, rkS S c = if S ≤ c then -((c % S : Nat) : Int) else ((c % S : Nat) : Int) := fun _ => rfl
  have lg : ∀ x y : Int, compare x y = if x < y then Ordering.lt else if x = y then Ordering.eq else Ordering.gt := fun _ _ => rfl
  by_cases h1 : a % S = I
  · rw [read_inf9 K ha.1 h1]
    by_cases h2 : b % S = I
    · rw [read_inf9 K hb.1 h2, rk, rk, h1, h2]
      show some (compare (decide (S ≤ b)).toNat (decide (S ≤ a)).toNat) = _
      by_cases k1 : S ≤ a <;> by_cases k2 : S ≤ b
      · rw [if_pos k1, if_pos k2, decide_eq_true k1, decide_eq_true k2, lg, if_neg (by omega), if_pos rfl]; rfl
      · rw [if_pos k1, if_neg k2, decide_eq_true k1, decide_eq_false k2, lg, if_pos (by omega)]; rfl
      · rw [if_neg k1, if_pos k2, decide_eq_false k1, decide_eq_true k2, lg, if_neg (by omega), if_neg (by omega)]; rfl
      · rw [if_neg k1, if_neg k2, decide_eq_false k1, decide_eq_false k2, lg, if_neg (by omega), if_pos rfl]; rfl
    · obtain ⟨t, n, j, hr, _, _⟩ := read_num9 K hb.1 (by omega)
      rw [hr, rk, rk, h1]
      show some (if decide (S ≤ a) then Ordering.lt else Ordering.gt) = _
      by_cases k1 : S ≤ a
      · rw [if_pos k1, decide_eq_true k1, if_pos rfl, lg, if_pos (by split <;> omega)]
      · rw [if_neg k1, decide_eq_false k1, if_neg (by decide), lg, if_neg (by split <;> omega), if_neg (by split <;> omega)]
  · obtain ⟨s, m, i, hr, i1, hx⟩ := read_num9 K ha.1 (by omega)
    rw [hr]
    by_cases h2 : b % S = I
    · rw [read_inf9 K hb.1 h2, rk, rk, h2]
      show some (if decide (S ≤ b) then Ordering.gt else Ordering.lt) = _
      by_cases k1 : S ≤ b
      · rw [if_pos k1, decide_eq_true k1, if_pos rfl, lg, if_neg (by split <;> omega), if_neg (by split <;> omega)]
      · rw [if_neg k1, decide_eq_false k1, if_neg (by decide), lg, if_pos (by split <;> omega)]
    · obtain ⟨t, n, j, hr2, j1, hy⟩ := read_num9 K hb.1 (by omega)
      rw [hr2]
      show some (compare (Ieee.signed s m (i - min i j).toNat) (Ieee.signed t n (j - min i j).toNat)) = _
      obtain ⟨B, hB⟩ : ∃ B, B = min i j := ⟨_, rfl⟩
      rw [← hB, signed9, signed9]
      rw [dv_shift (e := i) (f := B) (by omega) (by omega)] at hx
      rw [dv_shift (e := j) (f := B) (by omega) (by omega)] at hy
      have lt : ∀ {r t : Int}, gR H r < gR H t ↔ r < t := fun {r t} => ⟨fun h => Int.not_le.1 fun q => by have := gR_le hpos q; omega, gR_mono hpos⟩
      have hlt : ∀ {x y u v : Int} {p q : Int}, dv x p = dv u q → dv y p = dv v q → (u < v ↔ x < y) := fun {x y u v p q} g1 g2 => by
        rw [← dv_lt_iff q, ← g1, ← g2, dv_lt_iff]
      have g1 := (hlt hx hy).trans (lt (r := rkS S a) (t := rkS S b))
      have g2 := (hlt hy hx).trans (lt (r := rkS S b) (t := rkS S a))
      rw [cmp9 g1 (by omega)]
theorem write_inf9 {F : Ieee.Format} {S I H sd : Nat} {l : Int} (K : FOk F S I H sd l) (Be : Int) (Q : Nat) (s : Bool) : F.write (.infinity s) = patO l sd Be S I Q (oinf s) := by
  rw [patO_inf, ← K.sw, ← K.ir]
  rfl
theorem write_no9 {F : Ieee.Format} {S I H sd : Nat} {l : Int} (K : FOk F S I H sd l) (Be : Int) (Q : Nat) (s : Bool) (e : Int) : F.write (.number s 0 e) = patO l sd Be S I Q (ono s) := by
  show F.nearest s 0 e = if s then S else 0
  unfold Ieee.Format.nearest
  rw [if_pos rfl, ← K.sw]
  rfl
def DivS (a b c : Opd) : Prop :=
  (a.k = 0 ∨ b.k = 0 ∨ (a.k = 1 ∧ b.k = 1) ∨ (a.k = 2 ∧ b.k = 2)) ∧ c = onan ∨
  ((a.k = 1 ∧ (b.k = 2 ∨ b.k = 3)) ∨ (a.k = 3 ∧ b.k = 2)) ∧ c = oinf (a.s != b.s) ∨
  (((a.k = 2 ∨ a.k = 3) ∧ b.k = 1) ∨ (a.k = 2 ∧ b.k = 3)) ∧ c = ono (a.s != b.s)
theorem DOp.kinds {d : Ieee.Datum} {o : Opd} (h : DOp d o) : (o.k = 0 ∧ ∃ s t, d = .nan s t) ∨ (o.k = 1 ∧ d = .infinity o.s) ∨ (o.k = 2 ∧ ∃ i, d = .number o.s 0 i) ∨ (o.k = 3 ∧ ∃ m i, m ≠ 0 ∧ d = .number o.s m i) := by
  match d, h with
  | .nan s t, h =>
    obtain rfl : o = onan := h
    exact .inl ⟨rfl, s, t, rfl⟩
  | .infinity s, h =>
    obtain rfl : o = oinf s := h
    exact .inr (.inl ⟨rfl, rfl⟩)
  | .number s m i, h =>
    rcases h with ⟨rfl, rfl⟩ | ⟨m0, x, e, _, _, hv, rfl⟩
    · exact .inr (.inr (.inl ⟨rfl, i, rfl⟩))
    · refine .inr (.inr (.inr ⟨rfl, m, i, m0, ?_⟩))
      show _ = Ieee.Datum.number (decide (x < 0)) m i
      rw [fin_s9 m0 hv]
theorem div_sp {F : Ieee.Format} {S I H sd : Nat} {l : Int} (K : FOk F S I H sd l) (Be : Int) (Q : Nat) {a b : Nat} {oa ob oc : Opd} (ha : a < 2 * S) (hb : b < 2 * S) (ka : OpB S I H l a oa) (kb : OpB S I H l b ob) (hs : DivS oa ob oc) :
    (oc = onan ∧ F.div a b = none) ∨ (oc ≠ onan ∧ F.div a b = some (patO l sd Be S I Q oc)) := by
  have a1 := (read_op K ha ka).1.kinds
  have b1 := (read_op K hb kb).1.kinds
  unfold Ieee.Format.div
  rcases hs with ⟨h, rfl⟩ | ⟨h, rfl⟩ | ⟨h, rfl⟩
  · refine .inl ⟨rfl, ?_⟩
    rcases a1 with ⟨p1, s, t, q1⟩ | ⟨p1, q1⟩ | ⟨p1, i, q1⟩ | ⟨p1, m, i, m0, q1⟩ <;> rcases b1 with ⟨p2, s', t', q2⟩ | ⟨p2, q2⟩ | ⟨p2, j, q2⟩ | ⟨p2, n, j, n0, q2⟩
    all_goals first
      | (rw [q1, q2]; rfl)
      | (exfalso; omega)
  · refine .inr ⟨fun q => (by cases q), ?_⟩
    rw [← write_inf9 K Be Q, ← xor_bne9]
    rcases a1 with ⟨p1, s, t, q1⟩ | ⟨p1, q1⟩ | ⟨p1, i, q1⟩ | ⟨p1, m, i, m0, q1⟩ <;> rcases b1 with ⟨p2, s', t', q2⟩ | ⟨p2, q2⟩ | ⟨p2, j, q2⟩ | ⟨p2, n, j, n0, q2⟩
    all_goals first
      | (exfalso; omega)
      | (rw [q1, q2]; rfl)
      | skip
    rw [q1, q2]
    have hq : (Ieee.Datum.number oa.s m i).quotient (F.fractionBits + 2) (.number ob.s 0 j) = if m = 0 then none else some (.infinity (oa.s ^^ ob.s)) := rfl
    rw [hq, if_neg m0]
    rfl
  · refine .inr ⟨fun q => (by cases q), ?_⟩
    rcases a1 with ⟨p1, s, t, q1⟩ | ⟨p1, q1⟩ | ⟨p1, i, q1⟩ | ⟨p1, m, i, m0, q1⟩ <;> rcases b1 with ⟨p2, s', t', q2⟩ | ⟨p2, q2⟩ | ⟨p2, j, q2⟩ | ⟨p2, n, j, n0, q2⟩
    all_goals first
      | (exfalso; omega)
      | (rw [q1, q2, ← write_no9 K Be Q _ 0, ← xor_bne9]; rfl)
      | skip
    rw [q1, q2]
    obtain ⟨k, hk⟩ : ∃ k, k = F.fractionBits + 2 + n.log2 - (0 : Nat).log2 := ⟨_, rfl⟩
    have hq : (Ieee.Datum.number oa.s 0 i).quotient (F.fractionBits + 2) (.number ob.s n j) = if n = 0 then (if (0 : Nat) = 0 then none else some (.infinity (oa.s ^^ ob.s))) else some (.number (oa.s ^^ ob.s) (2 * ((0 <<< (F.fractionBits + 2 + n.log2 - (0 : Nat).log2)) / n) + ((0 <<< (F.fractionBits + 2 + n.log2 - (0 : Nat).log2)) % n != 0).toNat) (i - j - ((F.fractionBits + 2 + n.log2 - (0 : Nat).log2 : Nat) : Int) - 1)) := rfl
    rw [hq, if_neg n0, ← hk, Nat.shiftLeft_eq, Nat.zero_mul, Nat.zero_div, Nat.zero_mod, ← write_no9 K Be Q _ (i - j - (k : Int) - 1), ← xor_bne9]
    rfl
theorem OpV.nf {w : World} {v : Value} {o : Opd} (h : OpV w v o) (hk : o.k ≠ 3) : ∃ t x, v = .iface t x ∧ (∀ w, Sem.run Tryz.prog (Instr.typeAssert (.iface t x) 66 122 true) w = .ok (.tuple #[.agg #[.bool false, .slice none 0 0, .int .i64 0], .bool false]) w) := by
  rcases h with ⟨rfl, _⟩ | ⟨s, rfl, _⟩ | ⟨s, rfl, _⟩ | ⟨s, p, m, c, e, x, _, _, _, rfl⟩
  · exact ⟨_, _, rfl, fun w => ta_nan_fin _ w⟩
  · exact ⟨_, _, rfl, fun w => ta_inf_fin _ w⟩
  · exact ⟨_, _, rfl, fun w => ta_no_fin _ w⟩
  · exact absurd rfl hk
theorem OpV.cf {w : World} {v : Value} {o : Opd} (h : OpV w v o) (hk : o.k = 3) : ∃ s p m c e, v = VFin s p m c e := by
  rcases h with ⟨_, rfl⟩ | ⟨s, _, rfl⟩ | ⟨s, _, rfl⟩ | ⟨s, p, m, c, e, x, rfl, _⟩
  · cases hk
  · cases hk
  · cases hk
  · exact ⟨_, _, _, _, _, rfl⟩
def invO (o : Opd) : Opd := if o.k = 1 then ono o.s else if o.k = 2 then oinf o.s else o
theorem invO_k (o : Opd) : ((invO o).k = 0 ↔ o.k = 0) ∧ ((invO o).k = 1 ↔ o.k = 2) ∧ ((invO o).k = 2 ↔ o.k = 1) ∧ ((invO o).k = 3 ↔ o.k = 3) ∧ (invO o).s = o.s := by
  unfold invO
  by_cases h1 : o.k = 1
  · rw [if_pos h1]; refine ⟨⟨fun h => ?_, fun h => ?_⟩, ⟨fun h => ?_, fun h => ?_⟩, ⟨fun _ => h1, fun _ => rfl⟩, ⟨fun h => ?_, fun h => ?_⟩, rfl⟩
    all_goals first | (cases h; done) | omega
  · rw [if_neg h1]
    by_cases h2 : o.k = 2
    · rw [if_pos h2]; refine ⟨⟨fun h => ?_, fun h => ?_⟩, ⟨fun _ => h2, fun _ => rfl⟩, ⟨fun h => ?_, fun h => ?_⟩, ⟨fun h => ?_, fun h => ?_⟩, rfl⟩
      all_goals first | (cases h; done) | omega
    · rw [if_neg h2]; refine ⟨Iff.rfl, ?_, ?_, Iff.rfl, rfl⟩ <;> omega
theorem inv_bd {K E : Nat} {o : Opd} (h : BdO K E o) : BdO K E (invO o) := by
  unfold invO
  split
  · exact fun q => by cases q
  · split
    · exact fun q => by cases q
    · exact h
theorem div_mul {a b c : Opd} (h : MulO a (invO b) c) (hn : ¬ (a.k = 3 ∧ b.k = 3)) : DivS a b c ∧ c.k ≠ 3 := by
  obtain ⟨k0, k1, k2, k3, ks⟩ := invO_k b
  rcases h with ⟨h, rfl⟩ | ⟨h, rfl⟩ | ⟨h, rfl⟩ | ⟨h, _⟩
  · exact ⟨.inl ⟨by omega, rfl⟩, by decide⟩
  · rw [ks]; exact ⟨.inr (.inl ⟨by omega, rfl⟩), fun q => by cases q⟩
  · rw [ks]; exact ⟨.inr (.inr ⟨by omega, rfl⟩), fun q => by cases q⟩
  · exact absurd ⟨h.1, k3.1 h.2⟩ hn
theorem OpB.k3 {S I H : Nat} {l : Int} {b : Nat} {o : Opd} (h : OpB S I H l b o) (hk : o.k = 3) : b % S ≠ 0 ∧ b % S < I := by
  rcases h with ⟨_, rfl⟩ | ⟨_, rfl⟩ | ⟨_, rfl⟩ | ⟨h0, h1, _⟩
  · cases hk
  · cases hk
  · cases hk
  · exact ⟨h0, h1⟩
theorem OpB.nan0 {S I H : Nat} {l : Int} {b : Nat} {o : Opd} (h : OpB S I H l b o) (hb : I < b % S) : o.k = 0 := by
  rcases h with ⟨_, rfl⟩ | ⟨h1, _⟩ | ⟨h1, _⟩ | ⟨_, h1, _⟩
  · rfl
  · omega
  · omega
  · omega
theorem inv_nan (w : World) :
    Calls Tryz.prog 79 #[VNan] w fun en w' => en = .returned VNan ∧ Below w.heap.size w w' := by
  have hanan := ta_nan_nan
  have hainf := ta_nan_inf
  have hano := ta_nan_no
  have hafin := ta_nan_fin
  go_enter Tryz.func79, Tryz.ntmps79
  go_wp2_with fail
  go_ret
  exact ⟨rfl, Below.refl _ _⟩
theorem invs_ok {w : World} {v : Value} {o : Opd} (h : OpV w v o) :
    Calls Tryz.prog 79 #[v] w fun en w' => ∃ u, en = .returned u ∧ OpV w' u (invO o) ∧ Below w.heap.size w w' := by
  rcases h with ⟨rfl, rfl⟩ | ⟨s, rfl, rfl⟩ | ⟨s, rfl, rfl⟩ | ⟨s, p, m, c, e, x, rfl, d, n, rfl⟩
  · exact (inv_nan w).mono fun en w' ⟨h1, h2⟩ => ⟨_, h1, .inl ⟨rfl, rfl⟩, h2⟩
  · exact (inv_inf s w).mono fun en w' ⟨h1, h2⟩ => ⟨_, h1, .inr (.inr (.inl ⟨_, rfl, rfl⟩)), h2⟩
  · exact (inv_no s w).mono fun en w' ⟨h1, h2⟩ => ⟨_, h1, .inr (.inl ⟨_, rfl, rfl⟩), h2⟩
  · exact (inv_fin s p m c e w).mono fun en w' ⟨h1, h2⟩ => ⟨_, h1, .inr (.inr (.inr ⟨_, _, _, _, _, _, rfl, d.below h2, n, rfl⟩)), h2⟩
theorem quot_ff9 {f p m l : Int} {S I H sd : Nat} {Be : Int} {Q : Nat} (J : Jo f p m l S I H sd Be Q) {t1 : TypeId} {x1 : Value} (ta : (∀ w, Sem.run Tryz.prog (Instr.typeAssert (.iface t1 x1) 66 122 true) w = .ok (.tuple #[.agg #[.bool false, .slice none 0 0, .int .i64 0], .bool false]) w)) {t2 : TypeId} {x2 : Value} (tb : (∀ w, Sem.run Tryz.prog (Instr.typeAssert (.iface t2 x2) 66 122 true) w = .ok (.tuple #[.agg #[.bool false, .slice none 0 0, .int .i64 0], .bool false]) w)) {oa ob : Opd} {K E K' E' : Nat} {w : World} (ha : OpV w (.iface t1 x1) oa) (hb : OpV w (.iface t2 x2) ob) (ka : BdO K E oa) (kb : BdO K' E' ob) (hK : K + K' ≤ 524288) (hE : E + E' ≤ 524288) (hn : ¬ (oa.k = 3 ∧ ob.k = 3)) (hT : Tab w) :
    Calls Tryz.prog 42 #[.int .i64 f, .iface t1 x1, .iface t2 x2] w fun en w' => ∃ c, en = .returned (U (patO l sd Be S I Q c)) ∧ DivS oa ob c ∧ Below w.heap.size w w' := by
  have HJO : Hid (Jo f p m l S I H sd Be Q) := J
  have HA : Hid (OpV w (.iface t1 x1) oa) := ha
  have HB : Hid (OpV w (.iface t2 x2) ob) := hb
  have HK : Hid (BdO K E oa ∧ BdO K' E' ob ∧ K + K' ≤ 524288 ∧ E + E' ≤ 524288 ∧ ¬ (oa.k = 3 ∧ ob.k = 3)) := ⟨ka, kb, hK, hE, hn⟩
  have TB : Hid (Tab w) := hT
  clear J ha hb ka kb hK hE hn hT
  go_enter Tryz.func42, Tryz.ntmps42
  go_wp2_with fail
  have hbw := below2 w (.cells #[.bool false, .slice none 0 0, .int .i64 0] 122) (.cells #[.bool false, .slice none 0 0, .int .i64 0] 122)
  generalize (w.alloc (.cells #[.bool false, .slice none 0 0, .int .i64 0] 122)).alloc (.cells #[.bool false, .slice none 0 0, .int .i64 0] 122) = v0 at *
  clear ta tb
  refine (invs_ok (HB.out.below hbw)).mono ?_
  rintro e v1 ⟨u, rfl, hu, hb1⟩
  replace hbw := Below.on hbw hb1
  clear hb1
  have HU : Hid (OpV v1 u (invO ob)) := hu
  clear hu
  go_wp2_with fail
  refine (mul_ok (HA.out.below hbw) HU.out HK.out.1 (inv_bd HK.out.2.1) HK.out.2.2.1 HK.out.2.2.2.1 (TB.out.below hbw)).mono ?_
  rintro e v2 ⟨v, c, rfl, hv, hm, _, hb2⟩
  replace hbw := Below.on hbw hb2
  clear hb2
  obtain ⟨hd, h3⟩ := div_mul hm HK.out.2.2.2.2
  have HD : Hid (DivS oa ob c) := hd
  have HN3 : Hid (c.k ≠ 3) := h3
  clear hm hd h3
  rcases hv with ⟨rfl, rfl⟩ | ⟨s9, rfl, rfl⟩ | ⟨s9, rfl, rfl⟩ | ⟨_, _, _, _, _, _, _, _, _, rfl⟩
  · have me := meth_pattern_nan
    go_wp2_with fail
    refine (pat_nan HJO.out.jq _).mono ?_
    rintro e v9 ⟨rfl, hb9⟩
    obtain ⟨r, hr⟩ : ∃ r, r = patO l sd Be S I Q onan := ⟨_, rfl⟩
    rw [show Q = r from hr.symm]
    have HPR : Hid (r = patO l sd Be S I Q onan) := hr
    clear hr
    replace hbw := Below.on hbw hb9
    clear hb9
    go_wp2_with fail
    go_ret
    exact ⟨onan, by rw [HPR.out]; rfl, HD.out, hbw⟩
  · have me := meth_pattern_inf
    go_wp2_with fail
    refine (pat_inf HJO.out.jq s9 _).mono ?_
    rintro e v9 ⟨rfl, hb9⟩
    obtain ⟨r, hr⟩ : ∃ r, r = patO l sd Be S I Q (oinf s9) := ⟨_, rfl⟩
    rw [show (if s9 = true then S + I else I) = r from hr.symm]
    have HPR : Hid (r = patO l sd Be S I Q (oinf s9)) := hr
    clear hr
    replace hbw := Below.on hbw hb9
    clear hb9
    go_wp2_with fail
    go_ret
    exact ⟨(oinf s9), by rw [HPR.out]; rfl, HD.out, hbw⟩
  · have me := meth_pattern_no
    go_wp2_with fail
    refine (pat_no HJO.out.jq s9 _).mono ?_
    rintro e v9 ⟨rfl, hb9⟩
    obtain ⟨r, hr⟩ : ∃ r, r = patO l sd Be S I Q (ono s9) := ⟨_, rfl⟩
    rw [show (if s9 = true then S + 0 else 0) = r from hr.symm]
    have HPR : Hid (r = patO l sd Be S I Q (ono s9)) := hr
    clear hr
    replace hbw := Below.on hbw hb9
    clear hb9
    go_wp2_with fail
    go_ret
    exact ⟨(ono s9), by rw [HPR.out]; rfl, HD.out, hbw⟩
  · exact absurd rfl HN3.out
theorem quot_fn9 {f p m l : Int} {S I H sd : Nat} {Be : Int} {Q : Nat} (J : Jo f p m l S I H sd Be Q) {t1 : TypeId} {x1 : Value} (ta : (∀ w, Sem.run Tryz.prog (Instr.typeAssert (.iface t1 x1) 66 122 true) w = .ok (.tuple #[.agg #[.bool false, .slice none 0 0, .int .i64 0], .bool false]) w)) {s2 : Bool} {p2 : Option Addr} {m2 c2 : Nat} {e2 : Int} {oa ob : Opd} {K E K' E' : Nat} {w : World} (ha : OpV w (.iface t1 x1) oa) (hb : OpV w (VFin s2 p2 m2 c2 e2) ob) (ka : BdO K E oa) (kb : BdO K' E' ob) (hK : K + K' ≤ 524288) (hE : E + E' ≤ 524288) (hn : ¬ (oa.k = 3 ∧ ob.k = 3)) (hT : Tab w) :
    Calls Tryz.prog 42 #[.int .i64 f, .iface t1 x1, VFin s2 p2 m2 c2 e2] w fun en w' => ∃ c, en = .returned (U (patO l sd Be S I Q c)) ∧ DivS oa ob c ∧ Below w.heap.size w w' := by
  have HJO : Hid (Jo f p m l S I H sd Be Q) := J
  have HA : Hid (OpV w (.iface t1 x1) oa) := ha
  have HB : Hid (OpV w (VFin s2 p2 m2 c2 e2) ob) := hb
  have HK : Hid (BdO K E oa ∧ BdO K' E' ob ∧ K + K' ≤ 524288 ∧ E + E' ≤ 524288 ∧ ¬ (oa.k = 3 ∧ ob.k = 3)) := ⟨ka, kb, hK, hE, hn⟩
  have TB : Hid (Tab w) := hT
  clear J ha hb ka kb hK hE hn hT
  have tb := ta_fin_fin
  go_enter Tryz.func42, Tryz.ntmps42
  go_wp2_with fail
  have hbw := below2 w (.cells #[.bool false, .slice none 0 0, .int .i64 0] 122) (.cells #[.bool s2, .slice p2 m2 c2, .int .i64 e2] 122)
  generalize (w.alloc (.cells #[.bool false, .slice none 0 0, .int .i64 0] 122)).alloc (.cells #[.bool s2, .slice p2 m2 c2, .int .i64 e2] 122) = v0 at *
  clear ta tb
  refine (invs_ok (HB.out.below hbw)).mono ?_
  rintro e v1 ⟨u, rfl, hu, hb1⟩
  replace hbw := Below.on hbw hb1
  clear hb1
  have HU : Hid (OpV v1 u (invO ob)) := hu
  clear hu
  go_wp2_with fail
  refine (mul_ok (HA.out.below hbw) HU.out HK.out.1 (inv_bd HK.out.2.1) HK.out.2.2.1 HK.out.2.2.2.1 (TB.out.below hbw)).mono ?_
  rintro e v2 ⟨v, c, rfl, hv, hm, _, hb2⟩
  replace hbw := Below.on hbw hb2
  clear hb2
  obtain ⟨hd, h3⟩ := div_mul hm HK.out.2.2.2.2
  have HD : Hid (DivS oa ob c) := hd
  have HN3 : Hid (c.k ≠ 3) := h3
  clear hm hd h3
  rcases hv with ⟨rfl, rfl⟩ | ⟨s9, rfl, rfl⟩ | ⟨s9, rfl, rfl⟩ | ⟨_, _, _, _, _, _, _, _, _, rfl⟩
  · have me := meth_pattern_nan
    go_wp2_with fail
    refine (pat_nan HJO.out.jq _).mono ?_
    rintro e v9 ⟨rfl, hb9⟩
    obtain ⟨r, hr⟩ : ∃ r, r = patO l sd Be S I Q onan := ⟨_, rfl⟩
    rw [show Q = r from hr.symm]
    have HPR : Hid (r = patO l sd Be S I Q onan) := hr
    clear hr
    replace hbw := Below.on hbw hb9
    clear hb9
    go_wp2_with fail
    go_ret
    exact ⟨onan, by rw [HPR.out]; rfl, HD.out, hbw⟩
  · have me := meth_pattern_inf
    go_wp2_with fail
    refine (pat_inf HJO.out.jq s9 _).mono ?_
    rintro e v9 ⟨rfl, hb9⟩
    obtain ⟨r, hr⟩ : ∃ r, r = patO l sd Be S I Q (oinf s9) := ⟨_, rfl⟩
    rw [show (if s9 = true then S + I else I) = r from hr.symm]
    have HPR : Hid (r = patO l sd Be S I Q (oinf s9)) := hr
    clear hr
    replace hbw := Below.on hbw hb9
    clear hb9
    go_wp2_with fail
    go_ret
    exact ⟨(oinf s9), by rw [HPR.out]; rfl, HD.out, hbw⟩
  · have me := meth_pattern_no
    go_wp2_with fail
    refine (pat_no HJO.out.jq s9 _).mono ?_
    rintro e v9 ⟨rfl, hb9⟩
    obtain ⟨r, hr⟩ : ∃ r, r = patO l sd Be S I Q (ono s9) := ⟨_, rfl⟩
    rw [show (if s9 = true then S + 0 else 0) = r from hr.symm]
    have HPR : Hid (r = patO l sd Be S I Q (ono s9)) := hr
    clear hr
    replace hbw := Below.on hbw hb9
    clear hb9
    go_wp2_with fail
    go_ret
    exact ⟨(ono s9), by rw [HPR.out]; rfl, HD.out, hbw⟩
  · exact absurd rfl HN3.out
theorem quot_nf9 {f p m l : Int} {S I H sd : Nat} {Be : Int} {Q : Nat} (J : Jo f p m l S I H sd Be Q) {s1 : Bool} {p1 : Option Addr} {m1 c1 : Nat} {e1 : Int} {t2 : TypeId} {x2 : Value} (tb : (∀ w, Sem.run Tryz.prog (Instr.typeAssert (.iface t2 x2) 66 122 true) w = .ok (.tuple #[.agg #[.bool false, .slice none 0 0, .int .i64 0], .bool false]) w)) {oa ob : Opd} {K E K' E' : Nat} {w : World} (ha : OpV w (VFin s1 p1 m1 c1 e1) oa) (hb : OpV w (.iface t2 x2) ob) (ka : BdO K E oa) (kb : BdO K' E' ob) (hK : K + K' ≤ 524288) (hE : E + E' ≤ 524288) (hn : ¬ (oa.k = 3 ∧ ob.k = 3)) (hT : Tab w) :
    Calls Tryz.prog 42 #[.int .i64 f, VFin s1 p1 m1 c1 e1, .iface t2 x2] w fun en w' => ∃ c, en = .returned (U (patO l sd Be S I Q c)) ∧ DivS oa ob c ∧ Below w.heap.size w w' := by
  have HJO : Hid (Jo f p m l S I H sd Be Q) := J
  have HA : Hid (OpV w (VFin s1 p1 m1 c1 e1) oa) := ha
  have HB : Hid (OpV w (.iface t2 x2) ob) := hb
  have HK : Hid (BdO K E oa ∧ BdO K' E' ob ∧ K + K' ≤ 524288 ∧ E + E' ≤ 524288 ∧ ¬ (oa.k = 3 ∧ ob.k = 3)) := ⟨ka, kb, hK, hE, hn⟩
  have TB : Hid (Tab w) := hT
  clear J ha hb ka kb hK hE hn hT
  have ta := ta_fin_fin
  go_enter Tryz.func42, Tryz.ntmps42
  go_wp2_with fail
  have hbw := below2 w (.cells #[.bool s1, .slice p1 m1 c1, .int .i64 e1] 122) (.cells #[.bool false, .slice none 0 0, .int .i64 0] 122)
  generalize (w.alloc (.cells #[.bool s1, .slice p1 m1 c1, .int .i64 e1] 122)).alloc (.cells #[.bool false, .slice none 0 0, .int .i64 0] 122) = v0 at *
  clear ta tb
  refine (invs_ok (HB.out.below hbw)).mono ?_
  rintro e v1 ⟨u, rfl, hu, hb1⟩
  replace hbw := Below.on hbw hb1
  clear hb1
  have HU : Hid (OpV v1 u (invO ob)) := hu
  clear hu
  go_wp2_with fail
  refine (mul_ok (HA.out.below hbw) HU.out HK.out.1 (inv_bd HK.out.2.1) HK.out.2.2.1 HK.out.2.2.2.1 (TB.out.below hbw)).mono ?_
  rintro e v2 ⟨v, c, rfl, hv, hm, _, hb2⟩
  replace hbw := Below.on hbw hb2
  clear hb2
  obtain ⟨hd, h3⟩ := div_mul hm HK.out.2.2.2.2
  have HD : Hid (DivS oa ob c) := hd
  have HN3 : Hid (c.k ≠ 3) := h3
  clear hm hd h3
  rcases hv with ⟨rfl, rfl⟩ | ⟨s9, rfl, rfl⟩ | ⟨s9, rfl, rfl⟩ | ⟨_, _, _, _, _, _, _, _, _, rfl⟩
  · have me := meth_pattern_nan
    go_wp2_with fail
    refine (pat_nan HJO.out.jq _).mono ?_
    rintro e v9 ⟨rfl, hb9⟩
    obtain ⟨r, hr⟩ : ∃ r, r = patO l sd Be S I Q onan := ⟨_, rfl⟩
    rw [show Q = r from hr.symm]
    have HPR : Hid (r = patO l sd Be S I Q onan) := hr
    clear hr
    replace hbw := Below.on hbw hb9
    clear hb9
    go_wp2_with fail
    go_ret
    exact ⟨onan, by rw [HPR.out]; rfl, HD.out, hbw⟩
  · have me := meth_pattern_inf
    go_wp2_with fail
    refine (pat_inf HJO.out.jq s9 _).mono ?_
    rintro e v9 ⟨rfl, hb9⟩
    obtain ⟨r, hr⟩ : ∃ r, r = patO l sd Be S I Q (oinf s9) := ⟨_, rfl⟩
    rw [show (if s9 = true then S + I else I) = r from hr.symm]
    have HPR : Hid (r = patO l sd Be S I Q (oinf s9)) := hr
    clear hr
    replace hbw := Below.on hbw hb9
    clear hb9
    go_wp2_with fail
    go_ret
    exact ⟨(oinf s9), by rw [HPR.out]; rfl, HD.out, hbw⟩
  · have me := meth_pattern_no
    go_wp2_with fail
    refine (pat_no HJO.out.jq s9 _).mono ?_
    rintro e v9 ⟨rfl, hb9⟩
    obtain ⟨r, hr⟩ : ∃ r, r = patO l sd Be S I Q (ono s9) := ⟨_, rfl⟩
    rw [show (if s9 = true then S + 0 else 0) = r from hr.symm]
    have HPR : Hid (r = patO l sd Be S I Q (ono s9)) := hr
    clear hr
    replace hbw := Below.on hbw hb9
    clear hb9
    go_wp2_with fail
    go_ret
    exact ⟨(ono s9), by rw [HPR.out]; rfl, HD.out, hbw⟩
  · exact absurd rfl HN3.out
theorem quot_s9 {f p m l : Int} {S I H sd : Nat} {Be : Int} {Q : Nat} (J : Jo f p m l S I H sd Be Q) {va vb : Value} {oa ob : Opd} {K E K' E' : Nat} {w : World} (ha : OpV w va oa) (hb : OpV w vb ob) (ka : BdO K E oa) (kb : BdO K' E' ob) (hK : K + K' ≤ 524288) (hE : E + E' ≤ 524288) (hn : ¬ (oa.k = 3 ∧ ob.k = 3)) (hT : Tab w) :
    Calls Tryz.prog 42 #[.int .i64 f, va, vb] w fun en w' => ∃ c, en = .returned (U (patO l sd Be S I Q c)) ∧ DivS oa ob c ∧ Below w.heap.size w w' := by
  by_cases h1 : oa.k = 3
  · obtain ⟨s1, p1, m1, c1, e1, rfl⟩ := ha.cf h1
    obtain ⟨t2, x2, rfl, tb⟩ := hb.nf fun h => hn ⟨h1, h⟩
    exact quot_nf9 J tb ha hb ka kb hK hE hn hT
  · obtain ⟨t1, x1, rfl, ta⟩ := ha.nf h1
    by_cases h2 : ob.k = 3
    · obtain ⟨s2, p2, m2, c2, e2, rfl⟩ := hb.cf h2
      exact quot_fn9 J ta ha hb ka kb hK hE hn hT
    · obtain ⟨t2, x2, rfl, tb⟩ := hb.nf h2
      exact quot_ff9 J ta tb ha hb ka kb hK hE hn hT
theorem soft_div_s {f p m l : Int} {S I H sd : Nat} {Be : Int} {Q : Nat} (J : Jo f p m l S I H sd Be Q) {a b : Nat} (ha : a < 2 * S) (hb : b < 2 * S) (hn : ¬ ((a % S ≠ 0 ∧ a % S < I) ∧ (b % S ≠ 0 ∧ b % S < I))) (w : World) (hT : Tab w) :
    Calls Tryz.prog 12 #[.int .i64 f, U a, U b] w fun en w' => ∃ oa ob c, en = .returned (.tuple #[U (patO l sd Be S I Q c), .int .i64 0]) ∧ OpB S I H l a oa ∧ OpB S I H l b ob ∧ DivS oa ob c ∧ Below w.heap.size w w' := by
  have HJO : Hid (Jo f p m l S I H sd Be Q) := J
  have HAB : Hid (a < 2 * S ∧ b < 2 * S ∧ ¬ ((a % S ≠ 0 ∧ a % S < I) ∧ (b % S ≠ 0 ∧ b % S < I))) := ⟨ha, hb, hn⟩
  have TB : Hid (Tab w) := hT
  clear J ha hb hn hT
  go_enter Tryz.func12, Tryz.ntmps12
  go_wp2_with fail
  have hb0 := below1 w (.cells #[U a, U b] 22)
  refine (operands2 HJO.out HAB.out.1 HAB.out.2.1 ⟨by go_simp, by go_simp⟩ (TB.out.below hb0)).mono ?_
  rintro e9 v1 ⟨go, va, vb, oa, ob, rfl, hgo, hx, hva, hvb, hoa, hob, hb1⟩
  have hbw := Below.on hb0 hb1
  obtain ⟨ta, xa, rfl⟩ := hva.iface
  obtain ⟨tb, xb, rfl⟩ := hvb.iface
  have Xo : Hid (Box v1 go (.iface ta xa) (.iface tb xb)) := hx
  have HOA : Hid (OpB S I H l a oa ∧ OpB S I H l b ob) := ⟨hoa, hob⟩
  have VA : Hid (OpV v1 (.iface ta xa) oa) := hva
  have VB : Hid (OpV v1 (.iface tb xb) ob) := hvb
  clear hb0 hb1 hx hva hvb hoa hob hgo
  obtain ⟨co0, co1, fo0, fo1⟩ := Xo.out
  have hneo := Xo.out.lt
  go_wp2_with fail
  clear co0 co1 fo0 fo1 hneo
  obtain ⟨W2, hW2⟩ : ∃ W1, W1 = v1.drew := ⟨_, rfl⟩
  have hbd : Below v1.heap.size v1 W2 := by rw [hW2]; exact bDrew1 (Below.refl _ _)
  replace Xo : Hid _ := Xo.out.below hbd
  replace VA : Hid (OpV W2 (.iface ta xa) oa) := VA.out.below hbd
  replace VB : Hid (OpV W2 (.iface tb xb) ob) := VB.out.below hbd
  replace hbw := Below.on hbw hbd
  clear hbd
  have HJ : Hid ((fun W' : World => W'.cell? ⟨go, 0, none⟩ = some (.iface ta xa) ∧ W'.cell? ⟨go, 1, none⟩ = some (.iface tb xb)) W2) := ⟨Xo.out.c0, Xo.out.c1⟩
  refine wp_region_J (fun W' => W'.cell? ⟨go, 0, none⟩ = some (.iface ta xa) ∧ W'.cell? ⟨go, 1, none⟩ = some (.iface tb xb)) (by kernel_rfl) ?_
  rw [← hW2]
  clear hW2
  refine wpJ_tq 0 rfl HJ.out ?_
  refine wpJ_tq 1 rfl HJ.out ?_
  refine wpJ_tq 2 rfl HJ.out ?_
  refine wpJ_tq 3 rfl HJ.out ?_
  refine wpJ_tq 4 rfl HJ.out ?_
  go_simp
  refine wpJ_tq 5 rfl HJ.out ?_
  refine wpJ_tq 6 rfl HJ.out ?_
  refine wpJ_on 7 rfl fun KJ hK => ?_
  go_simp
  refine (quot_s9 HJO.out VA.out VB.out (HOA.out.1.bd HJO.out.jq.jn) (HOA.out.2.bd HJO.out.jq.jn) (by decide) (by decide) (fun h => HAB.out.2.2 ⟨OpB.k3 HOA.out.1 h.1, OpB.k3 HOA.out.2 h.2⟩) (TB.out.below hbw)).mono ?_
  rintro e9 v2 ⟨c, rfl, hd, hb2⟩
  have HD : Hid (DivS oa ob c) := hd
  clear hd
  obtain ⟨r, hr⟩ : ∃ r, r = patO l sd Be S I Q c := ⟨_, rfl⟩
  rw [← hr]
  have HPR : Hid (r = patO l sd Be S I Q c) := hr
  clear hr
  replace Xo : Hid _ := Xo.out.below hb2
  replace VA : Hid (OpV v2 (.iface ta xa) oa) := VA.out.below hb2
  replace VB : Hid (OpV v2 (.iface tb xb) ob) := VB.out.below hb2
  replace hbw := Below.on hbw hb2
  clear hb2
  clear HJ
  have HJ : Hid ((fun W' : World => W'.cell? ⟨go, 0, none⟩ = some (.iface ta xa) ∧ W'.cell? ⟨go, 1, none⟩ = some (.iface tb xb)) v2) := ⟨Xo.out.c0, Xo.out.c1⟩
  refine hK _ _ HJ.out ?_
  clear hK
  refine wpJ_tq 8 rfl HJ.out ?_
  refine wpJ_tq 9 rfl HJ.out ?_
  refine wpJ_done (by kernel_rfl) ?_ _
  clear HJ
  go_wp2_with fail
  go_ret2
  exact ⟨oa, ob, c, by rw [HPR.out]; rfl, HOA.out.1, HOA.out.2, HD.out, hbw⟩
theorem unord_n {t1 t2 : TypeId} {x1 x2 : Value} (h1 : (∀ w, Sem.run Tryz.prog (Instr.typeAssert (.iface t1 x1) 66 118 true) w = .ok (.tuple #[.agg #[], .bool true]) w)) {go : Nat} {w : World} (hx : Box w go (.iface t1 x1) (.iface t2 x2)) :
    Calls Tryz.prog 44 #[.slice (some ⟨go, 0, none⟩) 2 2] w fun en w' => en = .returned (.bool true) ∧ Below w.heap.size w w' := by
  have HX : Hid (Box w go (.iface t1 x1) (.iface t2 x2)) := hx
  clear hx
  go_enter Tryz.func44, Tryz.ntmps44
  go_wp2_with fail
  go_loopg [9] 2 (fun gk iv wr => ∃ k : Nat, (k = 0 ∧ gk = 2) ∧ iv = .int .i64 k ∧ Box wr go (.iface t1 x1) (.iface t2 x2) ∧ Below w.heap.size w wr)
  case atStart => exact ⟨0, ⟨rfl, rfl⟩, rfl, HX.out, Below.refl _ _⟩
  case round =>
    obtain ⟨k, hkg, rfl, hx, hbw⟩ := hrel
    have HX1 : Hid (Box wr go (.iface t1 x1) (.iface t2 x2)) := hx
    cases gk with
    | zero => omega
    | succ gg =>
      obtain ⟨c0, c1, f0, f1⟩ := hx
      obtain rfl : k = 0 := hkg.1
      go_wp2_with fail
      go_ret
      exact ⟨rfl, Below.on hbw (below1 _ _)⟩
theorem unord_nn {t1 t2 : TypeId} {x1 x2 : Value} (h1 : (∀ w, Sem.run Tryz.prog (Instr.typeAssert (.iface t1 x1) 66 118 true) w = .ok (.tuple #[.agg #[], .bool false]) w)) (h2 : (∀ w, Sem.run Tryz.prog (Instr.typeAssert (.iface t2 x2) 66 118 true) w = .ok (.tuple #[.agg #[], .bool true]) w)) {go : Nat} {w : World} (hx : Box w go (.iface t1 x1) (.iface t2 x2)) :
    Calls Tryz.prog 44 #[.slice (some ⟨go, 0, none⟩) 2 2] w fun en w' => en = .returned (.bool true) ∧ Below w.heap.size w w' := by
  have HX : Hid (Box w go (.iface t1 x1) (.iface t2 x2)) := hx
  clear hx
  go_enter Tryz.func44, Tryz.ntmps44
  go_wp2_with fail
  go_loopg [9] 2 (fun gk iv wr => ∃ k : Nat, (k + gk = 2 ∧ k ≤ 1) ∧ iv = .int .i64 k ∧ Box wr go (.iface t1 x1) (.iface t2 x2) ∧ Below w.heap.size w wr)
  case atStart => exact ⟨0, ⟨by omega, by omega⟩, rfl, HX.out, Below.refl _ _⟩
  case round =>
    obtain ⟨k, hkg, rfl, hx, hbw⟩ := hrel
    have HX1 : Hid (Box wr go (.iface t1 x1) (.iface t2 x2)) := hx
    cases gk with
    | zero => omega
    | succ gg =>
      obtain ⟨c0, c1, f0, f1⟩ := hx
      rcases Nat.eq_zero_or_pos k with hk0 | hk0
      · subst hk0
        go_wp2_with fail
        go_roundg gg
        case measure => omega
        case rel => exact ⟨1, ⟨by omega, by omega⟩, by go_num, HX1.out.below (below1 _ _), Below.on hbw (below1 _ _)⟩
      · obtain rfl : k = 1 := by omega
        go_wp2_with fail
        go_ret
        exact ⟨rfl, Below.on hbw (below1 _ _)⟩
theorem OpV.isn {w : World} {v : Value} {o : Opd} (h : OpV w v o) (hk : o.k = 0) : ∃ t x, v = .iface t x ∧ (∀ w, Sem.run Tryz.prog (Instr.typeAssert (.iface t x) 66 118 true) w = .ok (.tuple #[.agg #[], .bool true]) w) := by
  rcases h with ⟨rfl, _⟩ | ⟨s, _, rfl⟩ | ⟨s, _, rfl⟩ | ⟨s, p, m, c, e, x, _, _, _, rfl⟩
  · exact ⟨_, _, rfl, fun w => ta_nan_nan _ w⟩
  · cases hk
  · cases hk
  · cases hk
theorem unord_ok {va vb : Value} {oa ob : Opd} {go : Nat} {w : World} (ha : OpV w va oa) (hb : OpV w vb ob) (hn : oa.k = 0 ∨ ob.k = 0) (hx : Box w go va vb) :
    Calls Tryz.prog 44 #[.slice (some ⟨go, 0, none⟩) 2 2] w fun en w' => en = .returned (.bool true) ∧ Below w.heap.size w w' := by
  by_cases h : oa.k = 0
  · obtain ⟨t1, x1, rfl, h1⟩ := ha.isn h
    obtain ⟨t2, x2, rfl⟩ := hb.iface
    exact unord_n h1 hx
  · obtain ⟨t1, x1, rfl, h1⟩ := ha.nn h
    obtain ⟨t2, x2, rfl, h2⟩ := hb.isn (by omega)
    exact unord_nn h1 h2 hx
theorem soft_cmp_n {f p m l : Int} {S I H sd : Nat} {Be : Int} {Q : Nat} (J : Jo f p m l S I H sd Be Q) {a b : Nat} (ha : a < 2 * S) (hb : b < 2 * S) (hn : I < a % S ∨ I < b % S) (w : World) (hT : Tab w) :
    Calls Tryz.prog 14 #[.int .i64 f, U a, U b] w fun en w' => en = .returned (.tuple #[.int .i64 2, .int .i64 0]) ∧ Below w.heap.size w w' := by
  have HJO : Hid (Jo f p m l S I H sd Be Q) := J
  have HA : Hid (a < 2 * S ∧ b < 2 * S ∧ (I < a % S ∨ I < b % S)) := ⟨ha, hb, hn⟩
  have TB : Hid (Tab w) := hT
  clear J ha hb hn hT
  go_enter Tryz.func14, Tryz.ntmps14
  go_wp2_with fail
  have hb0 := below1 w (.cells #[U a, U b] 22)
  refine (operands2 HJO.out HA.out.1 HA.out.2.1 ⟨by go_simp, by go_simp⟩ (TB.out.below hb0)).mono ?_
  rintro e9 v1 ⟨go, va, vb, oa, ob, rfl, hgo, hx, hva, hvb, hoa, hob, hb1⟩
  have hbw := Below.on hb0 hb1
  have HN : Hid (oa.k = 0 ∨ ob.k = 0) := HA.out.2.2.imp (OpB.nan0 hoa) (OpB.nan0 hob)
  obtain ⟨t1, x1, rfl⟩ := hva.iface
  obtain ⟨t2, x2, rfl⟩ := hvb.iface
  have Xo : Hid (Box v1 go (.iface t1 x1) (.iface t2 x2)) := hx
  have VA : Hid (OpV v1 (.iface t1 x1) oa) := hva
  have VB : Hid (OpV v1 (.iface t2 x2) ob) := hvb
  clear hb0 hb1 hx hva hvb hoa hob hgo
  obtain ⟨co0, co1, fo0, fo1⟩ := Xo.out
  have hneo := Xo.out.lt
  go_wp2_with fail
  clear co0 co1 fo0 fo1 hneo
  refine (unord_ok VA.out VB.out HN.out Xo.out).mono ?_
  rintro e v2 ⟨rfl, hb2⟩
  replace Xo : Hid _ := Xo.out.below hb2
  replace VA : Hid (OpV v2 (.iface t1 x1) oa) := VA.out.below hb2
  replace VB : Hid (OpV v2 (.iface t2 x2) ob) := VB.out.below hb2
  replace hbw := Below.on hbw hb2
  clear hb2
  go_wp2_with fail
  go_ret2
  exact ⟨rfl, hbw⟩
end Go.Proofs.YtmhkabomabkkfaaGreatDoor
