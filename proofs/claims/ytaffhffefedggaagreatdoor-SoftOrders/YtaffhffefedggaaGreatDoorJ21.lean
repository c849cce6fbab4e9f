import Derived.Test.YtaffhffefedggaaGreatDoorJ20
import Derived.Test.YtaffhffefedggaaGreatDoorJ14
import Derived.Test.YtaffhffefedggaaGreatDoorJ16
import Derived.Test.YtaffhffefedggaaGreatDoorBs4
import Derived.Test.YtaffhffefedggaaGreatDoorJ15
namespace Go.Proofs.YtaffhffefedggaaGreatDoor
open Go.RowKit Go.Shelf
theorem vf_lit9 {b q man : Nat} {zo eo : Int} (hb : b < 9218868437227405312) (hq : b / 4503599627370496 - 1 = q) (hm : b - q * 4503599627370496 = man) (hf : DFm zo eo) (hv : dv zo eo = dv (man : Int) (-1074 + (q : Int))) : VF 9223372036854775808 4503599627370496 (-1074) b zo eo := by
  have h1 : b % 9223372036854775808 = b := Nat.mod_eq_of_lt (by omega)
  obtain ⟨z1, e1, v1, v2⟩ := vf_ex (b := b) pm_64 (by omega)
  rw [h1, if_neg (by omega), hq, hm, ← hv] at v2
  obtain ⟨rfl, rfl⟩ := dv_inj v1.fm hf v2
  exact v1
theorem vf_one : VF 9223372036854775808 4503599627370496 (-1074) 4607182418800017408 1 0 := vf_lit9 (q := 1022) (man := 4503599627370496) (by decide) (by decide) (by decide) (.inr (by decide)) (by rw [dv_shift (z := 1) (e := 0) (f := -52) (by decide) (by decide)]; rfl)
theorem vf_two : VF 9223372036854775808 4503599627370496 (-1074) 4611686018427387904 1 1 := vf_lit9 (q := 1023) (man := 4503599627370496) (by decide) (by decide) (by decide) (.inr (by decide)) (by rw [dv_shift (z := 1) (e := 1) (f := -51) (by decide) (by decide)]; rfl)
theorem vf_three9 : VF 9223372036854775808 4503599627370496 (-1074) 4613937818241073152 3 0 := vf_lit9 (q := 1023) (man := 6755399441055744) (by decide) (by decide) (by decide) (.inr (by decide)) (by rw [dv_shift (z := 3) (e := 0) (f := -51) (by decide) (by decide)]; rfl)
theorem vf_four : VF 9223372036854775808 4503599627370496 (-1074) 4616189618054758400 1 2 := vf_lit9 (q := 1024) (man := 4503599627370496) (by decide) (by decide) (by decide) (.inr (by decide)) (by rw [dv_shift (z := 1) (e := 2) (f := -50) (by decide) (by decide)]; rfl)
theorem vf_mone : VF 9223372036854775808 4503599627370496 (-1074) 13830554455654793216 (-1) 0 := by
  have h := (xs_neg (b := 4607182418800017408) (by decide) vf_one).1
  rwa [show xsS 9223372036854775808 4607182418800017408 = 13830554455654793216 from by decide] at h
theorem vf_one32 : VF 2147483648 8388608 (-149) 1065353216 1 0 := by
  obtain ⟨z1, e1, v1, v2⟩ := vf_ex (b := 1065353216) pm_32 (by decide)
  rw [if_neg (by decide), show 1065353216 % 2147483648 / 8388608 - 1 = 126 from by decide, show 1065353216 % 2147483648 - 126 * 8388608 = 8388608 from by decide] at v2
  have h5 : dv 1 0 = dv ((8388608 : Nat) : Int) (-149 + ((126 : Nat) : Int)) := by rw [dv_shift (z := 1) (e := 0) (f := -23) (by decide) (by decide)]; rfl
  obtain ⟨rfl, rfl⟩ := dv_inj v1.fm (.inr (by decide)) (v2.trans h5.symm)
  exact v1
theorem opb_is {S I H : Nat} {l : Int} {b : Nat} {o : Opd} {x e : Int} (h : OpB S I H l b o) (h0 : b % S ≠ 0) (h1 : b % S < I) (hv : VF S H l b x e) : o = ofin x e := by
  obtain ⟨y, g, h2, _, h3⟩ := h.fin h0 h1
  obtain ⟨rfl, rfl⟩ := dv_inj hv.fm h2.fm (hv.v.trans h2.v.symm)
  exact h3
theorem sum_lit {x e y f z g : Int} (hf : DFm z g) (h0 : z ≠ 0) (hv : dv z g = dv x e + dv y f) : SumO (ofin x e) (ofin y f) (ofin z g) :=
  .inr (.inr (.inr (.inr (.inr (.inr ⟨⟨rfl, rfl⟩, .inr ⟨z, g, hf, h0, hv, rfl⟩⟩)))))
theorem mul_lit {x e y f z g : Int} (hf : DFm z g) (h0 : z ≠ 0) (hv : dv z g = dv (x * y) (e + f)) : MulO (ofin x e) (ofin y f) (ofin z g) :=
  .inr (.inr (.inr ⟨⟨rfl, rfl⟩, z, g, hf, h0, hv, rfl⟩))
theorem dv11 : dv 1 1 = dv 1 0 + dv 1 0 := by rw [← dv_add, dv_shift (z := 1) (e := 1) (f := 0) (by decide) (by decide)]; rfl
theorem dv12 : dv 1 2 = dv 1 1 + dv 1 1 := by rw [← dv_add, dv_shift (z := 1) (e := 2) (f := 1) (by decide) (by decide)]; rfl
theorem dv31 : dv 1 1 = dv 3 0 + dv (-1) 0 := by rw [← dv_add, dv_shift (z := 1) (e := 1) (f := 0) (by decide) (by decide)]; rfl
theorem aw_add (w : World) (hT : Tab w) : Calls Tryz.prog 20 #[.int .i64 64, .int .u64 4607182418800017408, .int .u64 4607182418800017408] w fun en w' => en = .returned (.tuple #[.int .u64 4611686018427387904, .int .i64 0]) ∧ Below w.heap.size w w' := by
  refine Calls.mono (soft_add jo_64 (by decide : 4607182418800017408 < 2 * 9223372036854775808) (by decide : 4607182418800017408 < 2 * 9223372036854775808) w hT) ?_
  rintro en w' ⟨oa, ob, c, rfl, ha, hb, hs, _, hbw⟩
  have qa := opb_is ha (by decide) (by decide) vf_one
  have qb := opb_is hb (by decide) (by decide) vf_one
  subst qa qb
  have qc := hs.uniq (sum_lit (.inr (by decide)) (by decide) dv11)
  subst qc
  exact ⟨by rw [patO_fin, show rnp (-1074) 52 1024 9223372036854775808 9218868437227405312 1 1 = 4611686018427387904 from by decide +kernel]; rfl, hbw⟩
theorem aw_mul (w : World) (hT : Tab w) : Calls Tryz.prog 24 #[.int .i64 64, .int .u64 4611686018427387904, .int .u64 4611686018427387904] w fun en w' => en = .returned (.tuple #[.int .u64 4616189618054758400, .int .i64 0]) ∧ Below w.heap.size w w' := by
  refine Calls.mono (soft_mul jo_64 (by decide : 4611686018427387904 < 2 * 9223372036854775808) (by decide : 4611686018427387904 < 2 * 9223372036854775808) w hT) ?_
  rintro en w' ⟨oa, ob, c, rfl, ha, hb, hs, _, hbw⟩
  have qa := opb_is ha (by decide) (by decide) vf_two
  have qb := opb_is hb (by decide) (by decide) vf_two
  subst qa qb
  have qc := hs.uniq (mul_lit (z := 1) (g := 2) (.inr (by decide)) (by decide) rfl)
  subst qc
  exact ⟨by rw [patO_fin, show rnp (-1074) 52 1024 9223372036854775808 9218868437227405312 1 2 = 4616189618054758400 from by decide +kernel]; rfl, hbw⟩
theorem aw_sub (w : World) (hT : Tab w) : Calls Tryz.prog 15 #[.int .i64 64, .int .u64 4613937818241073152, .int .u64 4607182418800017408] w fun en w' => en = .returned (.tuple #[.int .u64 4611686018427387904, .int .i64 0]) ∧ Below w.heap.size w w' := by
  refine Calls.mono (soft_sub jo_64 (by decide : 4613937818241073152 < 2 * 9223372036854775808) (by decide : 4607182418800017408 < 2 * 9223372036854775808) w hT) ?_
  rintro en w' ⟨oa, ob, c, rfl, ha, hb, hs, _, hbw⟩
  have qa := opb_is ha (by decide) (by decide) vf_three9
  have qb := opb_is hb (by decide) (by decide) vf_one
  subst qa qb
  rw [negO_fin] at hs
  have qc := hs.uniq (sum_lit (.inr (by decide)) (by decide) dv31)
  subst qc
  exact ⟨by rw [patO_fin, show rnp (-1074) 52 1024 9223372036854775808 9218868437227405312 1 1 = 4611686018427387904 from by decide +kernel]; rfl, hbw⟩
theorem aw_fma (w : World) (hT : Tab w) : Calls Tryz.prog 26 #[.int .i64 64, .int .u64 4607182418800017408, .int .u64 4611686018427387904, .int .u64 4611686018427387904] w fun en w' => en = .returned (.tuple #[.int .u64 4616189618054758400, .int .i64 0]) ∧ Below w.heap.size w w' := by
  refine Calls.mono (soft_fma jo_64 ⟨(by decide : 4607182418800017408 < 2 * 9223372036854775808), (by decide : 4611686018427387904 < 2 * 9223372036854775808), (by decide : 4611686018427387904 < 2 * 9223372036854775808)⟩ w hT) ?_
  rintro en w' ⟨oa, ob, oc, q, c, rfl, ha, hb, hc, hm, hs, hbw⟩
  have qa := opb_is ha (by decide) (by decide) vf_one
  have qb := opb_is hb (by decide) (by decide) vf_two
  have qd := opb_is hc (by decide) (by decide) vf_two
  subst qa qb qd
  have qq := hm.uniq (mul_lit (z := 1) (g := 1) (.inr (by decide)) (by decide) rfl)
  subst qq
  have qc := hs.uniq (sum_lit (.inr (by decide)) (by decide) dv12)
  subst qc
  exact ⟨by rw [patO_fin, show rnp (-1074) 52 1024 9223372036854775808 9218868437227405312 1 2 = 4616189618054758400 from by decide +kernel]; rfl, hbw⟩
theorem aw_neg (w : World) (hT : Tab w) : Calls Tryz.prog 33 #[.int .i64 64, .int .u64 4607182418800017408] w fun en w' => en = .returned (.tuple #[.int .u64 13830554455654793216, .int .i64 0]) ∧ Below w.heap.size w w' := by
  refine Calls.mono (soft_neg jo_64 (by decide : 4607182418800017408 < 2 * 9223372036854775808) w hT) ?_
  rintro en w' ⟨oa, rfl, ha, hbw⟩
  have qa := opb_is ha (by decide) (by decide) vf_one
  subst qa
  rw [negO_fin]
  exact ⟨by rw [patO_fin, show rnp (-1074) 52 1024 9223372036854775808 9218868437227405312 (-1) 0 = 13830554455654793216 from by decide +kernel]; rfl, hbw⟩
theorem aw_abs (w : World) (hT : Tab w) : Calls Tryz.prog 30 #[.int .i64 64, .int .u64 13830554455654793216] w fun en w' => en = .returned (.tuple #[.int .u64 4607182418800017408, .int .i64 0]) ∧ Below w.heap.size w w' := by
  refine Calls.mono (soft_abs_f jo_64 (a := 13830554455654793216) (by decide) w hT) ?_
  rintro en w' ⟨x, e, rfl, hv, _, hbw⟩
  obtain ⟨rfl, rfl⟩ := dv_inj vf_mone.fm hv.fm (vf_mone.v.trans hv.v.symm)
  exact ⟨by rw [patO_fin, show rnp (-1074) 52 1024 9223372036854775808 9218868437227405312 (((-1 : Int).natAbs : Nat) : Int) 0 = 4607182418800017408 from by decide +kernel]; rfl, hbw⟩
theorem aw_cmp (w : World) (hT : Tab w) : Calls Tryz.prog 29 #[.int .i64 64, .int .u64 4607182418800017408, .int .u64 4611686018427387904] w fun en w' => en = .returned (.tuple #[.int .i64 (-1), .int .i64 0]) ∧ Below w.heap.size w w' := by
  refine Calls.mono (soft_cmp_ff jo_64 (a := 4607182418800017408) (b := 4611686018427387904) (by decide) (by decide) w hT) ?_
  rintro en w' ⟨rfl, hbw⟩
  exact ⟨by rw [show cmpI (rkS 9223372036854775808 4607182418800017408) (rkS 9223372036854775808 4611686018427387904) = -1 from by decide], hbw⟩
theorem aw_div (w : World) (hT : Tab w) : Calls Tryz.prog 27 #[.int .i64 64, .int .u64 4616189618054758400, .int .u64 4611686018427387904] w fun en w' => en = .returned (.tuple #[.int .u64 4611686018427387904, .int .i64 0]) ∧ Below w.heap.size w w' := by
  refine Calls.mono (soft_div_ff jo_64 (by decide) (a := 4616189618054758400) (b := 4611686018427387904) (by decide) (by decide) w hT) ?_
  rintro en w' ⟨x, e, y, g, r, Z, V, rfl, hx, hy, h1, h2, h3, hbw⟩
  obtain ⟨rfl, rfl⟩ := dv_inj vf_four.fm hx.fm (vf_four.v.trans hx.v.symm)
  obtain ⟨rfl, rfl⟩ := dv_inj vf_two.fm hy.fm (vf_two.v.trans hy.v.symm)
  have r1 := rn_of jn_64 (n := 1) (e := 1) (by decide) (by decide)
  rw [show rnz (-1074) 52 1024 9218868437227405312 1 1 = 4611686018427387904 from by decide +kernel] at r1
  have hZ := h3.same (rise_mul (by decide)) h2 r1 (dv_nn _ _) (by
    show dv (((1 : Int).natAbs : Nat) : Int) (2 - 1) = (((1 : Int).natAbs : Nat) : Int) * dv ((1 : Nat) : Int) 1
    rw [show ((1 : Int).natAbs) = 1 from rfl, mul_dv]; rfl)
  have hr : r = Z := by
    have h4 : r = if decide ((1 : Int) < 0) = decide ((1 : Int) < 0) then Z else 9223372036854775808 + Z := h1
    rw [h4, if_pos rfl]
  subst hr
  subst hZ
  exact ⟨rfl, hbw⟩
theorem aw_sqrt (w : World) (hT : Tab w) : Calls Tryz.prog 31 #[.int .i64 64, .int .u64 4616189618054758400] w fun en w' => en = .returned (.tuple #[.int .u64 4611686018427387904, .int .i64 0]) ∧ Below w.heap.size w w' := by
  refine Calls.mono (soft_sqrt_f jo_64 (by decide) (a := 4616189618054758400) (by decide) w hT) ?_
  rintro en w' ⟨x, e, Z, V, rfl, hx, h2, h3, hbw⟩
  obtain ⟨rfl, rfl⟩ := dv_inj vf_four.fm hx.fm (vf_four.v.trans hx.v.symm)
  have r1 := rn_of jn_64 (n := 1) (e := 1) (by decide) (by decide)
  rw [show rnz (-1074) 52 1024 9218868437227405312 1 1 = 4611686018427387904 from by decide +kernel] at r1
  have hZ := h3.same rise_sq h2 r1 (dv_nn _ _) (by
    show (((1 : Int).natAbs : Nat) : Int) * ((2 ^ ((2 : Int) + 2 * 4194304).toNat : Nat) : Int) = dv ((1 : Nat) : Int) 1 * dv ((1 : Nat) : Int) 1
    unfold dv
    rw [show ((1 : Int).natAbs) = 1 from rfl, show ((1 : Nat) : Int) = 1 from rfl, Int.one_mul, Int.one_mul, ← Int.natCast_mul, ← Nat.pow_add, show ((2 : Int) + 2 * 4194304).toNat = ((1 : Int) + 4194304).toNat + ((1 : Int) + 4194304).toNat from by omega])
  subst hZ
  exact ⟨rfl, hbw⟩
theorem aw_add32 (w : World) (hT : Tab w) : Calls Tryz.prog 20 #[.int .i64 32, .int .u64 1065353216, .int .u64 1065353216] w fun en w' => en = .returned (.tuple #[.int .u64 1073741824, .int .i64 0]) ∧ Below w.heap.size w w' := by
  refine Calls.mono (soft_add jo_32 (by decide : 1065353216 < 2 * 2147483648) (by decide : 1065353216 < 2 * 2147483648) w hT) ?_
  rintro en w' ⟨oa, ob, c, rfl, ha, hb, hs, _, hbw⟩
  have qa := opb_is ha (by decide) (by decide) vf_one32
  have qb := opb_is hb (by decide) (by decide) vf_one32
  subst qa qb
  have qc := hs.uniq (sum_lit (.inr (by decide)) (by decide) dv11)
  subst qc
  exact ⟨by rw [patO_fin, show rnp (-149) 23 128 2147483648 2139095040 1 1 = 1073741824 from by decide +kernel]; rfl, hbw⟩
set_option maxRecDepth 20000 in
set_option maxHeartbeats 8000000 in
theorem awake9 (w : World) (hT : Tab w) :
    Calls Tryz.prog 8 #[] w fun en w' => en = .returned (.bool true) ∧ Below w.heap.size w w' := by
  have hbw : Below w.heap.size w w := Below.refl _ _
  have TB : Hid (Tab w) := hT
  clear hT
  go_enter Tryz.func8, Tryz.ntmps8
  go_wp2_with fail
  refine (aw_add _ (TB.out.below hbw)).mono ?_
  rintro e v1 ⟨rfl, hb1⟩
  replace hbw := Below.on hbw hb1
  clear hb1
  go_wp2_with fail
  refine (aw_mul _ (TB.out.below hbw)).mono ?_
  rintro e v2 ⟨rfl, hb2⟩
  replace hbw := Below.on hbw hb2
  clear hb2
  go_wp2_with fail
  refine (aw_div _ (TB.out.below hbw)).mono ?_
  rintro e v3 ⟨rfl, hb3⟩
  replace hbw := Below.on hbw hb3
  clear hb3
  go_wp2_with fail
  refine (aw_sqrt _ (TB.out.below hbw)).mono ?_
  rintro e v4 ⟨rfl, hb4⟩
  replace hbw := Below.on hbw hb4
  clear hb4
  go_wp2_with fail
  refine (aw_sub _ (TB.out.below hbw)).mono ?_
  rintro e v5 ⟨rfl, hb5⟩
  replace hbw := Below.on hbw hb5
  clear hb5
  go_wp2_with fail
  refine (aw_fma _ (TB.out.below hbw)).mono ?_
  rintro e v6 ⟨rfl, hb6⟩
  replace hbw := Below.on hbw hb6
  clear hb6
  go_wp2_with fail
  refine (aw_neg _ (TB.out.below hbw)).mono ?_
  rintro e v7 ⟨rfl, hb7⟩
  replace hbw := Below.on hbw hb7
  clear hb7
  go_wp2_with fail
  refine (aw_abs _ (TB.out.below hbw)).mono ?_
  rintro e v8 ⟨rfl, hb8⟩
  replace hbw := Below.on hbw hb8
  clear hb8
  go_wp2_with fail
  refine (aw_cmp _ (TB.out.below hbw)).mono ?_
  rintro e v9 ⟨rfl, hb9⟩
  replace hbw := Below.on hbw hb9
  clear hb9
  go_wp2_with fail
  refine (aw_add32 _ (TB.out.below hbw)).mono ?_
  rintro e v10 ⟨rfl, hb10⟩
  replace hbw := Below.on hbw hb10
  clear hb10
  go_wp2_with fail
  go_ret
  exact ⟨rfl, hbw⟩
theorem DFm.lo4 {z e : Int} (h : DFm z e) : -4194304 ≤ e := by rcases h with ⟨_, h⟩ | ⟨_, h, _⟩ <;> omega
theorem OpB.uniq {S I H : Nat} {l : Int} {b : Nat} {o o' : Opd} (h : OpB S I H l b o) (h' : OpB S I H l b o') (hI : 0 < I) : o = o' := by
  rcases h with ⟨h1, h2⟩ | ⟨h1, h2⟩ | ⟨h1, h2⟩ | ⟨h1, h3, x, e, h4, h5, h6⟩ <;> rcases h' with ⟨k1, k2⟩ | ⟨k1, k2⟩ | ⟨k1, k2⟩ | ⟨k1, k3, y, f, k4, k5, k6⟩
  all_goals first
    | (rw [h2, k2]; done)
    | omega
    | (obtain ⟨rfl, rfl⟩ := dv_inj h4.fm k4.fm (h4.v.trans k4.v.symm); rw [h6, k6])
theorem opb_ex {f p m l : Int} {S I H : Nat} (F : Pm f p m l S I H) (b : Nat) : ∃ o, OpB S I H l b o := by
  rcases Nat.lt_trichotomy (b % S) I with h | h | h
  · by_cases h0 : b % S = 0
    · exact ⟨_, .inr (.inr (.inl ⟨h0, rfl⟩))⟩
    · obtain ⟨x, e, hv, _⟩ := vf_ex F h
      refine ⟨ofin x e, .inr (.inr (.inr ⟨h0, h, x, e, hv, ?_, rfl⟩))⟩
      intro hx
      have h1 := hv.v
      rw [hx, dv_zero] at h1
      have h2 := dv_eq_zero h1.symm
      rw [svS_eq] at h2
      have h3 : 0 < vs H (b % S) := by
        have := vs_mono F.hp (show 0 < b % S by omega)
        rw [vs_zero] at this
        exact this
      split at h2 <;> omega
  · exact ⟨_, .inr (.inl ⟨h, rfl⟩)⟩
  · exact ⟨_, .inl ⟨h, rfl⟩⟩
theorem OpB.pat {f p m l : Int} {S I H sd : Nat} {Be : Int} {Q : Nat} (J : Jn f p m l S I H sd Be) {b : Nat} {o : Opd} (h : OpB S I H l b o) (hb : b < 2 * S) : (I < b % S ∧ o = onan ∧ patO l sd Be S I Q o = Q) ∨ (b % S ≤ I ∧ o.k ≠ 0 ∧ patO l sd Be S I Q o = b) := by
  have hlt := J.jm.pm.fm.lt
  rcases h with ⟨h1, h2⟩ | ⟨h1, h2⟩ | ⟨h1, h2⟩ | ⟨h1, h3, x, e, h4, h5, h6⟩
  · left; exact ⟨h1, h2, by rw [h2]; rfl⟩
  · right
    refine ⟨by omega, by rw [h2]; exact Nat.one_ne_zero, ?_⟩
    rw [h2, patO_inf]
    by_cases hS : S ≤ b
    · rw [decide_eq_true hS, if_pos rfl]; have h9 := (pat_eq hb).1; rw [if_pos hS] at h9; omega
    · rw [decide_eq_false hS, if_neg (by decide)]; have := Nat.mod_eq_of_lt (show b < S by omega); omega
  · right
    refine ⟨by omega, by rw [h2]; exact Nat.succ_ne_zero 1, ?_⟩
    rw [h2, patO_no]
    by_cases hS : S ≤ b
    · rw [decide_eq_true hS, if_pos rfl]; have h9 := (pat_eq hb).1; rw [if_pos hS] at h9; omega
    · rw [decide_eq_false hS, if_neg (by decide)]; have := Nat.mod_eq_of_lt (show b < S by omega); omega
  · right
    refine ⟨by omega, by rw [h6]; exact Nat.succ_ne_zero 2, ?_⟩
    rw [h6, patO_fin]
    exact rn_own J hb h1 h3 (h4.fm.lo4) h4.v
theorem xs_lt {S b : Nat} (h : b < 2 * S) : xsS S b < 2 * S ∧ xsS S b % S = b % S ∧ decide (S ≤ xsS S b) = !decide (S ≤ b) := by
  unfold xsS
  by_cases h1 : S ≤ b
  · rw [if_pos h1, decide_eq_true h1]
    refine ⟨by omega, ?_, decide_eq_false (by omega)⟩
    rw [Nat.mod_eq_sub_mod h1]
  · rw [if_neg h1, decide_eq_false h1]
    exact ⟨by omega, by rw [Nat.add_mod_right], decide_eq_true (by omega)⟩
theorem OpB.npat {f p m l : Int} {S I H sd : Nat} {Be : Int} {Q : Nat} (J : Jq f p m l S I H sd Be Q) {b : Nat} {o : Opd} (h : OpB S I H l b o) (hb : b < 2 * S) :
    (I < b % S ∧ o = onan ∧ patO l sd Be S I Q (negO o) = Q ∧ OpB S I H l Q (negO o)) ∨ (b % S ≤ I ∧ o.k ≠ 0 ∧ patO l sd Be S I Q (negO o) = xsS S b ∧ OpB S I H l (xsS S b) (negO o)) := by
  have hlt := J.jn.jm.pm.fm.lt
  obtain ⟨x1, x2, x3⟩ := xs_lt hb
  rcases h with ⟨h1, h2⟩ | ⟨h1, h2⟩ | ⟨h1, h2⟩ | ⟨h1, h3, x, e, h4, h5, h6⟩
  · left; rw [h2, negO_nan]; exact ⟨h1, rfl, rfl, .inl ⟨J.qb.2, rfl⟩⟩
  · right
    rw [h2, negO_inf]
    have ho : OpB S I H l (xsS S b) (oinf (!decide (S ≤ b))) := .inr (.inl ⟨by omega, by rw [x3]⟩)
    refine ⟨by omega, Nat.one_ne_zero, ?_, ho⟩
    rcases ho.pat (Q := Q) J.jn x1 with ⟨k1, _⟩ | ⟨_, _, k3⟩
    · omega
    · exact k3
  · right
    rw [h2, negO_no]
    have ho : OpB S I H l (xsS S b) (ono (!decide (S ≤ b))) := .inr (.inr (.inl ⟨by omega, by rw [x3]⟩))
    refine ⟨by omega, Nat.succ_ne_zero 1, ?_, ho⟩
    rcases ho.pat (Q := Q) J.jn x1 with ⟨k1, _⟩ | ⟨_, _, k3⟩
    · omega
    · exact k3
  · right
    rw [h6, negO_fin]
    have ho : OpB S I H l (xsS S b) (ofin (-x) e) := .inr (.inr (.inr ⟨by omega, by omega, -x, e, (xs_neg hb h4).1, by omega, rfl⟩))
    refine ⟨by omega, Nat.succ_ne_zero 2, ?_, ho⟩
    rcases ho.pat (Q := Q) J.jn x1 with ⟨k1, _⟩ | ⟨_, _, k3⟩
    · omega
    · exact k3
def GoodO (c : Opd) : Prop := c = onan ∨ (∃ s, c = oinf s) ∨ (∃ s, c = ono s) ∨ ∃ x e, c = ofin x e ∧ DFm x e ∧ x ≠ 0
theorem GoodO.npat {f p m l : Int} {S I H sd : Nat} {Be : Int} {Q : Nat} (J : Jq f p m l S I H sd Be Q) {c : Opd} (h : GoodO c) : (c = onan) ∨ (c.k ≠ 0 ∧ patO l sd Be S I Q c < 2 * S ∧ patO l sd Be S I Q c % S ≤ I ∧ patO l sd Be S I Q (negO c) = xsS S (patO l sd Be S I Q c)) := by
  have hlt := J.jn.jm.pm.fm.lt
  rcases h with rfl | ⟨s, rfl⟩ | ⟨s, rfl⟩ | ⟨x, e, rfl, hf, h0⟩
  · exact .inl rfl
  · right
    rw [negO_inf, patO_inf, patO_inf]
    unfold xsS
    cases s
    · refine ⟨Nat.one_ne_zero, ?_⟩
      simp
      rw [if_neg (by omega), Nat.mod_eq_of_lt hlt]; omega
    · refine ⟨Nat.one_ne_zero, ?_⟩
      simp
      rw [Nat.mod_eq_of_lt hlt]; omega
  · right
    rw [negO_no, patO_no, patO_no]
    unfold xsS
    cases s
    · refine ⟨Nat.succ_ne_zero 1, ?_⟩
      simp
      omega
    · refine ⟨Nat.succ_ne_zero 1, ?_⟩
      simp
      omega
  · right
    rw [negO_fin, patO_fin, patO_fin]
    obtain ⟨Z, z1, _, _, z4, z5, _⟩ := rnp_is J.jn x e hf.lo4
    exact ⟨Nat.succ_ne_zero 2, z4, by omega, rnp_neg J.jn h0 hf.lo4⟩
theorem MulO.neg {a b c : Opd} (h : MulO a b c) (hg : GoodO a) : MulO (negO a) b (negO c) := by
  rcases hg with rfl | ⟨s, rfl⟩ | ⟨s, rfl⟩ | ⟨x, e, rfl, hf, h0⟩
  · rcases h with ⟨h1, h2⟩ | ⟨h1, h2⟩ | ⟨h1, h2⟩ | ⟨h1, h2⟩
    · rw [h2]; exact .inl ⟨.inl rfl, rfl⟩
    · exfalso; rcases h1 with ⟨h, _⟩ | ⟨h, _⟩ <;> exact by cases h
    · exfalso; rcases h1 with ⟨h, _⟩ | ⟨h, _⟩ <;> exact by cases h
    · exact by cases h1.1
  · rcases h with ⟨h1, h2⟩ | ⟨h1, h2⟩ | ⟨h1, h2⟩ | ⟨h1, h2⟩
    · rw [h2]; exact .inl ⟨h1, rfl⟩
    · rw [h2, negO_inf, negO_inf]; exact .inr (.inl ⟨h1, by show oinf (!(s != b.s)) = oinf ((!s) != b.s); cases s <;> cases b.s <;> rfl⟩)
    · exfalso; rcases h1 with ⟨h, _⟩ | ⟨h, _⟩ <;> exact by cases h
    · exact by cases h1.1
  · rcases h with ⟨h1, h2⟩ | ⟨h1, h2⟩ | ⟨h1, h2⟩ | ⟨h1, h2⟩
    · rw [h2]; exact .inl ⟨h1, rfl⟩
    · exfalso; rcases h1 with ⟨h, _⟩ | ⟨h, _⟩ <;> exact by cases h
    · rw [h2, negO_no, negO_no]; exact .inr (.inr (.inl ⟨h1, by show ono (!(s != b.s)) = ono ((!s) != b.s); cases s <;> cases b.s <;> rfl⟩))
    · exact by cases h1.1
  · have hs : decide (-x < 0) = !decide (x < 0) := by
      rcases Int.lt_or_le x 0 with hx | hx
      · rw [decide_eq_true hx, decide_eq_false (by omega)]; rfl
      · rw [decide_eq_false (show ¬ x < 0 by omega), decide_eq_true (show -x < 0 by omega)]; rfl
    rcases h with ⟨h1, h2⟩ | ⟨h1, h2⟩ | ⟨h1, h2⟩ | ⟨h1, z, g, h3, h4, h5, h6⟩
    · rw [h2]; exact .inl ⟨h1, rfl⟩
    · rw [h2, negO_inf, negO_fin]; exact .inr (.inl ⟨h1, by show oinf (!(decide (x < 0) != b.s)) = oinf (decide (-x < 0) != b.s); rw [hs]; cases decide (x < 0) <;> cases b.s <;> rfl⟩)
    · rw [h2, negO_no, negO_fin]; exact .inr (.inr (.inl ⟨h1, by show ono (!(decide (x < 0) != b.s)) = ono (decide (-x < 0) != b.s); rw [hs]; cases decide (x < 0) <;> cases b.s <;> rfl⟩))
    · rw [h6, negO_fin, negO_fin]
      refine .inr (.inr (.inr ⟨h1, -z, g, h3.neg, by omega, ?_, rfl⟩))
      rw [dv_neg, h5]
      show _ = dv (-x * b.x) (e + b.e)
      rw [Int.neg_mul, dv_neg]
      rfl
theorem MulO.one {o c : Opd} (hg : GoodO o) (h : MulO (ofin 1 0) o c) : c = o := by
  rcases hg with rfl | ⟨s, rfl⟩ | ⟨s, rfl⟩ | ⟨x, e, rfl, hf, h0⟩
  · exact h.uniq (.inl ⟨.inr (.inl rfl), rfl⟩)
  · refine h.uniq (.inr (.inl ⟨.inr ⟨rfl, rfl⟩, ?_⟩))
    show oinf s = oinf (decide ((1 : Int) < 0) != s)
    cases s <;> rfl
  · refine h.uniq (.inr (.inr (.inl ⟨.inr ⟨rfl, rfl⟩, ?_⟩)))
    show ono s = ono (decide ((1 : Int) < 0) != s)
    cases s <;> rfl
  · refine h.uniq (mul_lit hf h0 ?_)
    rw [Int.one_mul, Int.zero_add]
theorem SumO.nought {q c : Opd} {s : Bool} (hg : GoodO q) (hs : ∀ t, q = ono t → t = s) (h : SumO q (ono s) c) : c = q := by
  rcases hg with rfl | ⟨t, rfl⟩ | ⟨t, rfl⟩ | ⟨x, e, rfl, hf, h0⟩
  · exact h.uniq (.inl ⟨.inl rfl, rfl⟩)
  · exact h.uniq (.inr (.inl ⟨⟨rfl, .inl rfl⟩, rfl⟩))
  · obtain rfl := hs t rfl
    refine h.uniq (.inr (.inr (.inr (.inl ⟨⟨rfl, rfl⟩, ?_⟩))))
    show ono t = ono (t && t)
    cases t <;> rfl
  · exact h.uniq (.inr (.inr (.inr (.inr (.inr (.inl ⟨⟨rfl, rfl⟩, rfl⟩))))))
theorem MulO.sgn {S I H : Nat} {l : Int} {a b : Nat} {oa ob : Opd} {t : Bool} (ha : OpB S I H l a oa) (hb : OpB S I H l b ob) (ka : a < 2 * S) (kb : b < 2 * S) (h : MulO oa ob (ono t)) : t = (decide (S ≤ a) != decide (S ≤ b)) := by
  have hs : ∀ {a : Nat} {o : Opd}, OpB S I H l a o → a < 2 * S → o.k ≠ 0 → o.s = decide (S ≤ a) := by
    intro a o h ka h0
    rcases h with ⟨_, h2⟩ | ⟨_, h2⟩ | ⟨_, h2⟩ | ⟨h1, h3, x, e, h4, h5, h6⟩
    · rw [h2] at h0; exact absurd rfl h0
    · rw [h2]; rfl
    · rw [h2]; rfl
    · rw [h6]
      show decide (x < 0) = _
      have h7 := h4.v
      rw [svS_eq] at h7
      have h8 := dv_nn (vs H (a % S)) l
      by_cases hS : S ≤ a
      · rw [if_pos hS, dv_neg] at h7
        rw [decide_eq_true hS]
        refine decide_eq_true ?_
        rcases dv3 x e with ⟨q1, q2⟩ | ⟨q1, q2⟩ | ⟨q1, q2⟩ <;> omega
      · rw [if_neg hS] at h7
        rw [decide_eq_false hS]
        refine decide_eq_false ?_
        rcases dv3 x e with ⟨q1, q2⟩ | ⟨q1, q2⟩ | ⟨q1, q2⟩ <;> omega
  rcases h with ⟨_, h2⟩ | ⟨_, h2⟩ | ⟨h1, h2⟩ | ⟨_, z, g, _, _, _, h6⟩
  · exact by cases congrArg Opd.k h2
  · exact by cases congrArg Opd.k h2
  · have h3 : t = (oa.s != ob.s) := congrArg Opd.s h2
    rw [h3, hs ha ka (by omega), hs hb kb (by omega)]
  · exact by cases congrArg Opd.k h6
theorem add_is {f p m l : Int} {S I H sd : Nat} {Be : Int} {Q : Nat} (J : Jo f p m l S I H sd Be Q) {a : Nat} {b : Nat} {oa : Opd} {ob : Opd} (ha : a < 2 * S) (hb : b < 2 * S) (ka : OpB S I H l a oa) (kb : OpB S I H l b ob) (w : World) (hT : Tab w) : Calls Tryz.prog 20 #[.int .i64 f, U a, U b] w fun en w' => ∃ c, en = .returned (.tuple #[U (patO l sd Be S I Q c), .int .i64 0]) ∧ SumO oa ob c ∧ Below w.heap.size w w' := by
  have hI : 0 < I := by have := J.jq.jn.jm.pm.fm.pos; omega
  refine (soft_add J ha hb w hT).mono ?_
  rintro en w' ⟨oa', ob', c, rfl, h1, h2, hs, _, hbw⟩
  obtain rfl := h1.uniq ka hI
  obtain rfl := h2.uniq kb hI
  exact ⟨c, rfl, hs, hbw⟩
theorem mul_is {f p m l : Int} {S I H sd : Nat} {Be : Int} {Q : Nat} (J : Jo f p m l S I H sd Be Q) {a : Nat} {b : Nat} {oa : Opd} {ob : Opd} (ha : a < 2 * S) (hb : b < 2 * S) (ka : OpB S I H l a oa) (kb : OpB S I H l b ob) (w : World) (hT : Tab w) : Calls Tryz.prog 24 #[.int .i64 f, U a, U b] w fun en w' => ∃ c, en = .returned (.tuple #[U (patO l sd Be S I Q c), .int .i64 0]) ∧ MulO oa ob c ∧ Below w.heap.size w w' := by
  have hI : 0 < I := by have := J.jq.jn.jm.pm.fm.pos; omega
  refine (soft_mul J ha hb w hT).mono ?_
  rintro en w' ⟨oa', ob', c, rfl, h1, h2, hs, _, hbw⟩
  obtain rfl := h1.uniq ka hI
  obtain rfl := h2.uniq kb hI
  exact ⟨c, rfl, hs, hbw⟩
theorem sub_is {f p m l : Int} {S I H sd : Nat} {Be : Int} {Q : Nat} (J : Jo f p m l S I H sd Be Q) {a : Nat} {b : Nat} {oa : Opd} {ob : Opd} (ha : a < 2 * S) (hb : b < 2 * S) (ka : OpB S I H l a oa) (kb : OpB S I H l b ob) (w : World) (hT : Tab w) : Calls Tryz.prog 15 #[.int .i64 f, U a, U b] w fun en w' => ∃ c, en = .returned (.tuple #[U (patO l sd Be S I Q c), .int .i64 0]) ∧ SumO oa (negO ob) c ∧ Below w.heap.size w w' := by
  have hI : 0 < I := by have := J.jq.jn.jm.pm.fm.pos; omega
  refine (soft_sub J ha hb w hT).mono ?_
  rintro en w' ⟨oa', ob', c, rfl, h1, h2, hs, _, hbw⟩
  obtain rfl := h1.uniq ka hI
  obtain rfl := h2.uniq kb hI
  exact ⟨c, rfl, hs, hbw⟩
theorem OpB.nn {f p m l : Int} {S I H sd : Nat} {Be : Int} {Q : Nat} (J : Jq f p m l S I H sd Be Q) {b : Nat} {o : Opd} (h : OpB S I H l b o) (hb : b < 2 * S) : patO l sd Be S I Q (negO o) < 2 * S ∧ OpB S I H l (patO l sd Be S I Q (negO o)) (negO o) := by
  rcases h.npat J hb with ⟨_, _, h3, h4⟩ | ⟨_, _, h3, h4⟩
  · rw [h3]; exact ⟨J.qb.1, h4⟩
  · rw [h3]; exact ⟨(xs_lt hb).1, h4⟩
theorem GoodO.lt {f p m l : Int} {S I H sd : Nat} {Be : Int} {Q : Nat} (J : Jq f p m l S I H sd Be Q) {c : Opd} (h : GoodO c) : patO l sd Be S I Q c < 2 * S := by
  rcases h.npat J with rfl | ⟨_, h2, _⟩
  · exact J.qb.1
  · exact h2
theorem results_tc9 {fn : Func} {a p : Tmp} {ty : TypeId} (h : fn.results = #[.tmp a, .cell p ty]) (tmps : Array Value) (P : Program) (w : World) :
    (results fn tmps).run P w = ((asAddr (tmps.getD p undef)).run P w).andThen fun x w₁ => ((loadVar ty x).run P w₁).andThen fun v w₂ => .ok (.tuple #[tmps.getD a undef, v]) w₂ := by
  simp only [results, h]
  simp [Sem.run_bind, Result.andThen]
set_option maxRecDepth 20000 in
set_option maxHeartbeats 8000000 in
theorem form9_64 (w : World) :
    Calls Tryz.prog 9 #[.bool false] w fun en w' => en = .returned (.tuple #[.int .i64 64, FV 9223372036854775808 53 (-1074) 971 9218868437227405312 9221120237041090561]) ∧ Below w.heap.size w w' := by
  go_enter Tryz.func9, Tryz.ntmps9
  go_wp2_with fail
  obtain ⟨W0, hW0⟩ : ∃ W0, W0 = (w.alloc (.cells #[.int .u64 0, .int .i64 0, .int .i64 0, .int .i64 0, .int .u64 0, .int .u64 0] 26)) := ⟨_, rfl⟩
  have Xr : Hid (B6q W0 (w.heap.size) (.int .u64 0) (.int .i64 0) (.int .i64 0) (.int .i64 0) (.int .u64 0) (.int .u64 0)) := by rw [hW0]; exact ⟨by go_simp, by go_simp, by go_simp, by go_simp, by go_simp, by go_simp, by go_simp, by go_simp, by go_simp, by go_simp, by go_simp, by go_simp⟩
  have hb0 : Below w.heap.size w W0 := by rw [hW0]; exact below1 w _
  rw [← hW0]
  clear hW0
  have hbw : Below w.heap.size w w := Below.refl _ _
  obtain ⟨gr, hgr⟩ : ∃ g, g = w.heap.size := ⟨_, rfl⟩
  have HGr : Hid (w.heap.size ≤ gr) := by rw [hgr]; show _ ≤ _; omega
  rw [← hgr] at Xr
  try rw [← hgr]
  clear hgr
  replace hbw := Below.on hbw hb0
  clear hb0
  refine (rf_64.of _).mono ?_
  rintro e v1 ⟨rfl, hb1⟩
  replace Xr : Hid _ := Xr.out.below hb1
  replace hbw := Below.on hbw hb1
  clear hb1
  obtain ⟨cr0, cr1, cr2, cr3, cr4, cr5, fr0, fr1, fr2, fr3, fr4, fr5⟩ := Xr.out
  have hner : gr < v1.heap.size := World.block_lt_of_cell? v1 _ cr0
  go_wp2_with fail
  clear cr0 cr1 cr2 cr3 cr4 cr5 fr0 fr1 fr2 fr3 fr4 fr5 hner
  have HDrk : Hid (gr ≠ v1.heap.size) := Nat.ne_of_lt Xr.out.lt
  have Xk0 : Hid (B6q (v1.alloc (.cells #[U 9223372036854775808, .int .i64 53, .int .i64 (-1074), .int .i64 971, U 9218868437227405312, U 9221120237041090561] 26)) v1.heap.size (U 9223372036854775808) (.int .i64 53) (.int .i64 (-1074)) (.int .i64 971) (U 9218868437227405312) (U 9221120237041090561)) := B6q.new v1 _ _ _ _ _ _ _
  have hbn : Below v1.heap.size v1 (v1.alloc (.cells #[U 9223372036854775808, .int .i64 53, .int .i64 (-1074), .int .i64 971, U 9218868437227405312, U 9221120237041090561] 26)) := below1 v1 _
  generalize v1.alloc (.cells #[U 9223372036854775808, .int .i64 53, .int .i64 (-1074), .int .i64 971, U 9218868437227405312, U 9221120237041090561] 26) = Wk at *
  have HGk : Hid (w.heap.size ≤ v1.heap.size) := hbw.size
  replace Xr : Hid _ := Xr.out.below hbn
  replace hbw := Below.on hbw hbn
  clear hbn
  generalize v1.heap.size = gk at *
  have Xk := Xk0
  clear Xk0
  obtain ⟨W1, hW1⟩ : ∃ W1, W1 = Wk.drew := ⟨_, rfl⟩
  have hbd : Below Wk.heap.size Wk W1 := by rw [hW1]; exact bDrew1 (Below.refl _ _)
  replace Xr : Hid _ := Xr.out.below hbd
  replace Xk : Hid _ := Xk.out.below hbd
  replace hbw := Below.on hbw hbd
  clear hbd
  have HJ : Hid ((fun W' : World => W'.cell? ⟨gk, 0, none⟩ = some (U 9223372036854775808) ∧ W'.cell? ⟨gk, 1, none⟩ = some (.int .i64 53) ∧ W'.cell? ⟨gk, 2, none⟩ = some (.int .i64 (-1074)) ∧ W'.cell? ⟨gk, 3, none⟩ = some (.int .i64 971) ∧ W'.cell? ⟨gk, 4, none⟩ = some (U 9218868437227405312) ∧ W'.cell? ⟨gk, 5, none⟩ = some (U 9221120237041090561)) W1) := ⟨Xk.out.c0, Xk.out.c1, Xk.out.c2, Xk.out.c3, Xk.out.c4, Xk.out.c5⟩
  refine wp_region_J (fun W' => W'.cell? ⟨gk, 0, none⟩ = some (U 9223372036854775808) ∧ W'.cell? ⟨gk, 1, none⟩ = some (.int .i64 53) ∧ W'.cell? ⟨gk, 2, none⟩ = some (.int .i64 (-1074)) ∧ W'.cell? ⟨gk, 3, none⟩ = some (.int .i64 971) ∧ W'.cell? ⟨gk, 4, none⟩ = some (U 9218868437227405312) ∧ W'.cell? ⟨gk, 5, none⟩ = some (U 9221120237041090561)) (by kernel_rfl) ?_
  rw [← hW1]
  clear hW1
  refine wpJ_tk 0 (v := ?v1x0) rfl ?hy1x0 HJ.out ?_
  case hy1x0 => (intro W' hJ; obtain ⟨j0, j1, j2, j3, j4, j5⟩ := hJ; go_simp; first | done | with_reducible rfl)
  refine wpJ_tk 1 (v := ?v2x1) rfl ?hy2x1 HJ.out ?_
  case hy2x1 => (intro W' hJ; obtain ⟨j0, j1, j2, j3, j4, j5⟩ := hJ; go_simp; first | done | with_reducible rfl)
  refine wpJ_tk 2 (v := ?v3x2) rfl ?hy3x2 HJ.out ?_
  case hy3x2 => (intro W' hJ; obtain ⟨j0, j1, j2, j3, j4, j5⟩ := hJ; go_simp; first | done | with_reducible rfl)
  have HGD : Hid (gr ≠ gk ∧ gk ≠ gr) := ⟨HDrk.out, fun h => HDrk.out h.symm⟩
  obtain ⟨cr0, cr1, cr2, cr3, cr4, cr5, fr0, fr1, fr2, fr3, fr4, fr5⟩ := Xr.out
  have hner : gr < W1.heap.size := World.block_lt_of_cell? W1 _ cr0
  obtain ⟨ck0, ck1, ck2, ck3, ck4, ck5, fk0, fk1, fk2, fk3, fk4, fk5⟩ := Xk.out
  have hnek : gk < W1.heap.size := World.block_lt_of_cell? W1 _ ck0
  obtain ⟨hgd0, hgd1⟩ := HGD.out
  refine wpJ_one (i := 3) (by kernel_rfl) rfl (by kernel_rfl) (fun KJ hK => ?_)
  go_simp
  have HJ2 : Hid ((fun W' : World => W'.cell? ⟨gk, 0, none⟩ = some (U 9223372036854775808) ∧ W'.cell? ⟨gk, 1, none⟩ = some (.int .i64 53) ∧ W'.cell? ⟨gk, 2, none⟩ = some (.int .i64 (-1074)) ∧ W'.cell? ⟨gk, 3, none⟩ = some (.int .i64 971) ∧ W'.cell? ⟨gk, 4, none⟩ = some (U 9218868437227405312) ∧ W'.cell? ⟨gk, 5, none⟩ = some (U 9221120237041090561)) ((((((W1.setCell ⟨gr, 0, none⟩ (U 9223372036854775808)).setCell ⟨gr, 1, none⟩ (.int .i64 53)).setCell ⟨gr, 2, none⟩ (.int .i64 (-1074))).setCell ⟨gr, 3, none⟩ (.int .i64 971)).setCell ⟨gr, 4, none⟩ (U 9218868437227405312)).setCell ⟨gr, 5, none⟩ (U 9221120237041090561))) := ⟨by go_simp, by go_simp, by go_simp, by go_simp, by go_simp, by go_simp⟩
  refine hK _ _ HJ2.out ?_
  clear hK HJ
  have HJ := HJ2
  clear HJ2
  refine wpJ_done (by kernel_rfl) ?_ _
  clear HJ
  go_wp2_with fail
  refine bodyPost_ret (v := .tuple #[.int .i64 64, FV 9223372036854775808 53 (-1074) 971 9218868437227405312 9221120237041090561]) (by rw [results_tc9 rfl]; go_simp) rfl ⟨rfl, ?_⟩
  exact bSet (bSet (bSet (bSet (bSet (bSet (hbw) _ _ _ HGr.out) _ _ _ HGr.out) _ _ _ HGr.out) _ _ _ HGr.out) _ _ _ HGr.out) _ _ _ HGr.out
theorem mask9_64 (a : Nat) (ha : a < B64) : bits BinOp.and IntKind.u64 (a : Int) 18446744073709551615 = ((a % 18446744073709551616 : Nat) : Int) := by
  rw [B64_eq] at ha
  have h := bits_and_u64_nat a 18446744073709551615 (by omega) (by decide)
  rw [show 18446744073709551615 = 2 ^ 64 - 1 from by decide, Nat.and_two_pow_sub_one_eq_mod] at h
  exact h
set_option maxRecDepth 20000 in
set_option maxHeartbeats 8000000 in
theorem sizes9_64t (a b : Nat) (ha : a < B64) (hb : b = a % 18446744073709551616) (h : b % 9223372036854775808 < 9218868437227405312) (w : World) :
    Calls Tryz.prog 10 #[FV 9223372036854775808 53 (-1074) 971 9218868437227405312 9221120237041090561, U a] w fun en w' => en = .returned (.tuple #[U b, .bool true]) ∧ Below w.heap.size w w' := by
  have hm := mask9_64 a ha
  rw [← hb] at hm
  obtain ⟨v, hv⟩ : ∃ v, v = b % 9223372036854775808 := ⟨_, rfl⟩
  have h1 : (b : Int) % 9223372036854775808 = (v : Int) := by omega
  have h2 : (b : Int).tmod 9223372036854775808 = (v : Int) := by rw [Int.tmod_eq_emod_of_nonneg (by omega)]; omega
  rw [← hv] at h
  have h3 : decide (v < 9218868437227405312) = true := decide_eq_true h
  have h4 : decide ((v : Int) < 9218868437227405312) = true := decide_eq_true (by omega)
  clear hv h ha hb
  have hw : IntKind.u64.wrap (IntKind.u64.wrap 18446744073709551616 - 1) = 18446744073709551615 := by decide
  go_enter Tryz.func10, Tryz.ntmps10
  go_wp2_with fail
  obtain ⟨W0, hW0⟩ : ∃ W0, W0 = (w.alloc (.cells #[U 9223372036854775808, .int .i64 53, .int .i64 (-1074), .int .i64 971, U 9218868437227405312, U 9221120237041090561] 26)) := ⟨_, rfl⟩
  have Xk : Hid (B6q W0 (w.heap.size) (U 9223372036854775808) (.int .i64 53) (.int .i64 (-1074)) (.int .i64 971) (U 9218868437227405312) (U 9221120237041090561)) := by rw [hW0]; exact ⟨by go_simp, by go_simp, by go_simp, by go_simp, by go_simp, by go_simp, by go_simp, by go_simp, by go_simp, by go_simp, by go_simp, by go_simp⟩
  have hb0 : Below w.heap.size w W0 := by rw [hW0]; exact below1 w _
  rw [← hW0]
  clear hW0
  have hbw : Below w.heap.size w w := Below.refl _ _
  obtain ⟨gk, hgk⟩ : ∃ g, g = w.heap.size := ⟨_, rfl⟩
  have HGk : Hid (w.heap.size ≤ gk) := by rw [hgk]; show _ ≤ _; omega
  rw [← hgk] at Xk
  try rw [← hgk]
  clear hgk
  replace hbw := Below.on hbw hb0
  clear hb0
  obtain ⟨ck0, ck1, ck2, ck3, ck4, ck5, fk0, fk1, fk2, fk3, fk4, fk5⟩ := Xk.out
  have hnek : gk < W0.heap.size := World.block_lt_of_cell? W0 _ ck0
  go_wp2_with fail
  clear ck0 ck1 ck2 ck3 ck4 ck5 fk0 fk1 fk2 fk3 fk4 fk5 hnek
  obtain ⟨W1, hW1⟩ : ∃ W1, W1 = W0.drew := ⟨_, rfl⟩
  have hbd : Below W0.heap.size W0 W1 := by rw [hW1]; exact bDrew1 (Below.refl _ _)
  replace Xk : Hid _ := Xk.out.below hbd
  replace hbw := Below.on hbw hbd
  clear hbd
  have HJ : Hid ((fun W' : World => W'.cell? ⟨gk, 0, none⟩ = some (U 9223372036854775808) ∧ W'.cell? ⟨gk, 1, none⟩ = some (.int .i64 53) ∧ W'.cell? ⟨gk, 2, none⟩ = some (.int .i64 (-1074)) ∧ W'.cell? ⟨gk, 3, none⟩ = some (.int .i64 971) ∧ W'.cell? ⟨gk, 4, none⟩ = some (U 9218868437227405312) ∧ W'.cell? ⟨gk, 5, none⟩ = some (U 9221120237041090561)) W1) := ⟨Xk.out.c0, Xk.out.c1, Xk.out.c2, Xk.out.c3, Xk.out.c4, Xk.out.c5⟩
  refine wp_region_J (fun W' => W'.cell? ⟨gk, 0, none⟩ = some (U 9223372036854775808) ∧ W'.cell? ⟨gk, 1, none⟩ = some (.int .i64 53) ∧ W'.cell? ⟨gk, 2, none⟩ = some (.int .i64 (-1074)) ∧ W'.cell? ⟨gk, 3, none⟩ = some (.int .i64 971) ∧ W'.cell? ⟨gk, 4, none⟩ = some (U 9218868437227405312) ∧ W'.cell? ⟨gk, 5, none⟩ = some (U 9221120237041090561)) (by kernel_rfl) ?_
  rw [← hW1]
  clear hW1
  refine wpJ_tk 0 (v := ?v4x0) rfl ?hy4x0 HJ.out ?_
  case hy4x0 => (intro W' hJ; obtain ⟨j0, j1, j2, j3, j4, j5⟩ := hJ; go_simp; first | done | with_reducible rfl)
  refine wpJ_tk 1 (v := ?v5x1) rfl ?hy5x1 HJ.out ?_
  case hy5x1 => (intro W' hJ; obtain ⟨j0, j1, j2, j3, j4, j5⟩ := hJ; go_simp; first | done | with_reducible rfl)
  refine wpJ_tk 2 (v := ?v6x2) rfl ?hy6x2 HJ.out ?_
  case hy6x2 => (intro W' hJ; obtain ⟨j0, j1, j2, j3, j4, j5⟩ := hJ; go_simp; first | done | with_reducible rfl)
  refine wpJ_tk 3 (v := ?v7x3) rfl ?hy7x3 HJ.out ?_
  case hy7x3 => (intro W' hJ; obtain ⟨j0, j1, j2, j3, j4, j5⟩ := hJ; go_simp; first | done | with_reducible rfl)
  refine wpJ_tk 4 (v := ?v8x4) rfl ?hy8x4 HJ.out ?_
  case hy8x4 => (intro W' hJ; obtain ⟨j0, j1, j2, j3, j4, j5⟩ := hJ; go_simp; first | done | with_reducible rfl)
  go_simp
  refine wpJ_tk 5 (v := ?v9x5) rfl ?hy9x5 HJ.out ?_
  case hy9x5 => (intro W' hJ; obtain ⟨j0, j1, j2, j3, j4, j5⟩ := hJ; go_simp; first | done | with_reducible rfl)
  refine wpJ_tk 6 (v := ?v10x6) rfl ?hy10x6 HJ.out ?_
  case hy10x6 => (intro W' hJ; obtain ⟨j0, j1, j2, j3, j4, j5⟩ := hJ; go_simp; first | done | with_reducible rfl)
  refine wpJ_tk 7 (v := ?v11x7) rfl ?hy11x7 HJ.out ?_
  case hy11x7 => (intro W' hJ; obtain ⟨j0, j1, j2, j3, j4, j5⟩ := hJ; go_simp; first | done | with_reducible rfl)
  refine wpJ_tk 8 (v := ?v12x8) rfl ?hy12x8 HJ.out ?_
  case hy12x8 => (intro W' hJ; obtain ⟨j0, j1, j2, j3, j4, j5⟩ := hJ; go_simp; first | done | with_reducible rfl)
  refine wpJ_tk 9 (v := ?v13x9) rfl ?hy13x9 HJ.out ?_
  case hy13x9 => (intro W' hJ; obtain ⟨j0, j1, j2, j3, j4, j5⟩ := hJ; go_simp; first | done | with_reducible rfl)
  refine wpJ_done (by kernel_rfl) ?_ _
  clear HJ
  go_wp2_with fail
  go_ret2
  exact ⟨rfl, hbw⟩
set_option maxRecDepth 20000 in
set_option maxHeartbeats 8000000 in
theorem sizes9_64f (a b : Nat) (ha : a < B64) (hb : b = a % 18446744073709551616) (h : ¬ b % 9223372036854775808 < 9218868437227405312) (w : World) :
    Calls Tryz.prog 10 #[FV 9223372036854775808 53 (-1074) 971 9218868437227405312 9221120237041090561, U a] w fun en w' => en = .returned (.tuple #[U b, .bool false]) ∧ Below w.heap.size w w' := by
  have hm := mask9_64 a ha
  rw [← hb] at hm
  obtain ⟨v, hv⟩ : ∃ v, v = b % 9223372036854775808 := ⟨_, rfl⟩
  have h1 : (b : Int) % 9223372036854775808 = (v : Int) := by omega
  have h2 : (b : Int).tmod 9223372036854775808 = (v : Int) := by rw [Int.tmod_eq_emod_of_nonneg (by omega)]; omega
  rw [← hv] at h
  have h3 : decide (v < 9218868437227405312) = false := decide_eq_false h
  have h4 : decide ((v : Int) < 9218868437227405312) = false := decide_eq_false (by omega)
  clear hv h ha hb
  have hw : IntKind.u64.wrap (IntKind.u64.wrap 18446744073709551616 - 1) = 18446744073709551615 := by decide
  go_enter Tryz.func10, Tryz.ntmps10
  go_wp2_with fail
  obtain ⟨W0, hW0⟩ : ∃ W0, W0 = (w.alloc (.cells #[U 9223372036854775808, .int .i64 53, .int .i64 (-1074), .int .i64 971, U 9218868437227405312, U 9221120237041090561] 26)) := ⟨_, rfl⟩
  have Xk : Hid (B6q W0 (w.heap.size) (U 9223372036854775808) (.int .i64 53) (.int .i64 (-1074)) (.int .i64 971) (U 9218868437227405312) (U 9221120237041090561)) := by rw [hW0]; exact ⟨by go_simp, by go_simp, by go_simp, by go_simp, by go_simp, by go_simp, by go_simp, by go_simp, by go_simp, by go_simp, by go_simp, by go_simp⟩
  have hb0 : Below w.heap.size w W0 := by rw [hW0]; exact below1 w _
  rw [← hW0]
  clear hW0
  have hbw : Below w.heap.size w w := Below.refl _ _
  obtain ⟨gk, hgk⟩ : ∃ g, g = w.heap.size := ⟨_, rfl⟩
  have HGk : Hid (w.heap.size ≤ gk) := by rw [hgk]; show _ ≤ _; omega
  rw [← hgk] at Xk
  try rw [← hgk]
  clear hgk
  replace hbw := Below.on hbw hb0
  clear hb0
  obtain ⟨ck0, ck1, ck2, ck3, ck4, ck5, fk0, fk1, fk2, fk3, fk4, fk5⟩ := Xk.out
  have hnek : gk < W0.heap.size := World.block_lt_of_cell? W0 _ ck0
  go_wp2_with fail
  clear ck0 ck1 ck2 ck3 ck4 ck5 fk0 fk1 fk2 fk3 fk4 fk5 hnek
  obtain ⟨W1, hW1⟩ : ∃ W1, W1 = W0.drew := ⟨_, rfl⟩
  have hbd : Below W0.heap.size W0 W1 := by rw [hW1]; exact bDrew1 (Below.refl _ _)
  replace Xk : Hid _ := Xk.out.below hbd
  replace hbw := Below.on hbw hbd
  clear hbd
  have HJ : Hid ((fun W' : World => W'.cell? ⟨gk, 0, none⟩ = some (U 9223372036854775808) ∧ W'.cell? ⟨gk, 1, none⟩ = some (.int .i64 53) ∧ W'.cell? ⟨gk, 2, none⟩ = some (.int .i64 (-1074)) ∧ W'.cell? ⟨gk, 3, none⟩ = some (.int .i64 971) ∧ W'.cell? ⟨gk, 4, none⟩ = some (U 9218868437227405312) ∧ W'.cell? ⟨gk, 5, none⟩ = some (U 9221120237041090561)) W1) := ⟨Xk.out.c0, Xk.out.c1, Xk.out.c2, Xk.out.c3, Xk.out.c4, Xk.out.c5⟩
  refine wp_region_J (fun W' => W'.cell? ⟨gk, 0, none⟩ = some (U 9223372036854775808) ∧ W'.cell? ⟨gk, 1, none⟩ = some (.int .i64 53) ∧ W'.cell? ⟨gk, 2, none⟩ = some (.int .i64 (-1074)) ∧ W'.cell? ⟨gk, 3, none⟩ = some (.int .i64 971) ∧ W'.cell? ⟨gk, 4, none⟩ = some (U 9218868437227405312) ∧ W'.cell? ⟨gk, 5, none⟩ = some (U 9221120237041090561)) (by kernel_rfl) ?_
  rw [← hW1]
  clear hW1
  refine wpJ_tk 0 (v := ?v14x0) rfl ?hy14x0 HJ.out ?_
  case hy14x0 => (intro W' hJ; obtain ⟨j0, j1, j2, j3, j4, j5⟩ := hJ; go_simp; first | done | with_reducible rfl)
  refine wpJ_tk 1 (v := ?v15x1) rfl ?hy15x1 HJ.out ?_
  case hy15x1 => (intro W' hJ; obtain ⟨j0, j1, j2, j3, j4, j5⟩ := hJ; go_simp; first | done | with_reducible rfl)
  refine wpJ_tk 2 (v := ?v16x2) rfl ?hy16x2 HJ.out ?_
  case hy16x2 => (intro W' hJ; obtain ⟨j0, j1, j2, j3, j4, j5⟩ := hJ; go_simp; first | done | with_reducible rfl)
  refine wpJ_tk 3 (v := ?v17x3) rfl ?hy17x3 HJ.out ?_
  case hy17x3 => (intro W' hJ; obtain ⟨j0, j1, j2, j3, j4, j5⟩ := hJ; go_simp; first | done | with_reducible rfl)
  refine wpJ_tk 4 (v := ?v18x4) rfl ?hy18x4 HJ.out ?_
  case hy18x4 => (intro W' hJ; obtain ⟨j0, j1, j2, j3, j4, j5⟩ := hJ; go_simp; first | done | with_reducible rfl)
  go_simp
  refine wpJ_tk 5 (v := ?v19x5) rfl ?hy19x5 HJ.out ?_
  case hy19x5 => (intro W' hJ; obtain ⟨j0, j1, j2, j3, j4, j5⟩ := hJ; go_simp; first | done | with_reducible rfl)
  refine wpJ_tk 6 (v := ?v20x6) rfl ?hy20x6 HJ.out ?_
  case hy20x6 => (intro W' hJ; obtain ⟨j0, j1, j2, j3, j4, j5⟩ := hJ; go_simp; first | done | with_reducible rfl)
  refine wpJ_tk 7 (v := ?v21x7) rfl ?hy21x7 HJ.out ?_
  case hy21x7 => (intro W' hJ; obtain ⟨j0, j1, j2, j3, j4, j5⟩ := hJ; go_simp; first | done | with_reducible rfl)
  refine wpJ_tk 8 (v := ?v22x8) rfl ?hy22x8 HJ.out ?_
  case hy22x8 => (intro W' hJ; obtain ⟨j0, j1, j2, j3, j4, j5⟩ := hJ; go_simp; first | done | with_reducible rfl)
  refine wpJ_tk 9 (v := ?v23x9) rfl ?hy23x9 HJ.out ?_
  case hy23x9 => (intro W' hJ; obtain ⟨j0, j1, j2, j3, j4, j5⟩ := hJ; go_simp; first | done | with_reducible rfl)
  refine wpJ_done (by kernel_rfl) ?_ _
  clear HJ
  go_wp2_with fail
  go_ret2
  exact ⟨rfl, hbw⟩
set_option maxRecDepth 20000 in
set_option maxHeartbeats 8000000 in
theorem form9_32 (w : World) :
    Calls Tryz.prog 9 #[.bool true] w fun en w' => en = .returned (.tuple #[.int .i64 32, FV 2147483648 24 (-149) 104 2139095040 2143289345]) ∧ Below w.heap.size w w' := by
  go_enter Tryz.func9, Tryz.ntmps9
  go_wp2_with fail
  obtain ⟨W0, hW0⟩ : ∃ W0, W0 = (w.alloc (.cells #[.int .u64 0, .int .i64 0, .int .i64 0, .int .i64 0, .int .u64 0, .int .u64 0] 26)) := ⟨_, rfl⟩
  have Xr : Hid (B6q W0 (w.heap.size) (.int .u64 0) (.int .i64 0) (.int .i64 0) (.int .i64 0) (.int .u64 0) (.int .u64 0)) := by rw [hW0]; exact ⟨by go_simp, by go_simp, by go_simp, by go_simp, by go_simp, by go_simp, by go_simp, by go_simp, by go_simp, by go_simp, by go_simp, by go_simp⟩
  have hb0 : Below w.heap.size w W0 := by rw [hW0]; exact below1 w _
  rw [← hW0]
  clear hW0
  have hbw : Below w.heap.size w w := Below.refl _ _
  obtain ⟨gr, hgr⟩ : ∃ g, g = w.heap.size := ⟨_, rfl⟩
  have HGr : Hid (w.heap.size ≤ gr) := by rw [hgr]; show _ ≤ _; omega
  rw [← hgr] at Xr
  try rw [← hgr]
  clear hgr
  replace hbw := Below.on hbw hb0
  clear hb0
  refine (rf_32.of _).mono ?_
  rintro e v1 ⟨rfl, hb1⟩
  replace Xr : Hid _ := Xr.out.below hb1
  replace hbw := Below.on hbw hb1
  clear hb1
  obtain ⟨cr0, cr1, cr2, cr3, cr4, cr5, fr0, fr1, fr2, fr3, fr4, fr5⟩ := Xr.out
  have hner : gr < v1.heap.size := World.block_lt_of_cell? v1 _ cr0
  go_wp2_with fail
  clear cr0 cr1 cr2 cr3 cr4 cr5 fr0 fr1 fr2 fr3 fr4 fr5 hner
  have HDrk : Hid (gr ≠ v1.heap.size) := Nat.ne_of_lt Xr.out.lt
  have Xk0 : Hid (B6q (v1.alloc (.cells #[U 2147483648, .int .i64 24, .int .i64 (-149), .int .i64 104, U 2139095040, U 2143289345] 26)) v1.heap.size (U 2147483648) (.int .i64 24) (.int .i64 (-149)) (.int .i64 104) (U 2139095040) (U 2143289345)) := B6q.new v1 _ _ _ _ _ _ _
  have hbn : Below v1.heap.size v1 (v1.alloc (.cells #[U 2147483648, .int .i64 24, .int .i64 (-149), .int .i64 104, U 2139095040, U 2143289345] 26)) := below1 v1 _
  generalize v1.alloc (.cells #[U 2147483648, .int .i64 24, .int .i64 (-149), .int .i64 104, U 2139095040, U 2143289345] 26) = Wk at *
  have HGk : Hid (w.heap.size ≤ v1.heap.size) := hbw.size
  replace Xr : Hid _ := Xr.out.below hbn
  replace hbw := Below.on hbw hbn
  clear hbn
  generalize v1.heap.size = gk at *
  have Xk := Xk0
  clear Xk0
  obtain ⟨W1, hW1⟩ : ∃ W1, W1 = Wk.drew := ⟨_, rfl⟩
  have hbd : Below Wk.heap.size Wk W1 := by rw [hW1]; exact bDrew1 (Below.refl _ _)
  replace Xr : Hid _ := Xr.out.below hbd
  replace Xk : Hid _ := Xk.out.below hbd
  replace hbw := Below.on hbw hbd
  clear hbd
  have HJ : Hid ((fun W' : World => W'.cell? ⟨gk, 0, none⟩ = some (U 2147483648) ∧ W'.cell? ⟨gk, 1, none⟩ = some (.int .i64 24) ∧ W'.cell? ⟨gk, 2, none⟩ = some (.int .i64 (-149)) ∧ W'.cell? ⟨gk, 3, none⟩ = some (.int .i64 104) ∧ W'.cell? ⟨gk, 4, none⟩ = some (U 2139095040) ∧ W'.cell? ⟨gk, 5, none⟩ = some (U 2143289345)) W1) := ⟨Xk.out.c0, Xk.out.c1, Xk.out.c2, Xk.out.c3, Xk.out.c4, Xk.out.c5⟩
  refine wp_region_J (fun W' => W'.cell? ⟨gk, 0, none⟩ = some (U 2147483648) ∧ W'.cell? ⟨gk, 1, none⟩ = some (.int .i64 24) ∧ W'.cell? ⟨gk, 2, none⟩ = some (.int .i64 (-149)) ∧ W'.cell? ⟨gk, 3, none⟩ = some (.int .i64 104) ∧ W'.cell? ⟨gk, 4, none⟩ = some (U 2139095040) ∧ W'.cell? ⟨gk, 5, none⟩ = some (U 2143289345)) (by kernel_rfl) ?_
  rw [← hW1]
  clear hW1
  refine wpJ_tk 0 (v := ?v24x0) rfl ?hy24x0 HJ.out ?_
  case hy24x0 => (intro W' hJ; obtain ⟨j0, j1, j2, j3, j4, j5⟩ := hJ; go_simp; first | done | with_reducible rfl)
  refine wpJ_tk 1 (v := ?v25x1) rfl ?hy25x1 HJ.out ?_
  case hy25x1 => (intro W' hJ; obtain ⟨j0, j1, j2, j3, j4, j5⟩ := hJ; go_simp; first | done | with_reducible rfl)
  refine wpJ_tk 2 (v := ?v26x2) rfl ?hy26x2 HJ.out ?_
  case hy26x2 => (intro W' hJ; obtain ⟨j0, j1, j2, j3, j4, j5⟩ := hJ; go_simp; first | done | with_reducible rfl)
  have HGD : Hid (gr ≠ gk ∧ gk ≠ gr) := ⟨HDrk.out, fun h => HDrk.out h.symm⟩
  obtain ⟨cr0, cr1, cr2, cr3, cr4, cr5, fr0, fr1, fr2, fr3, fr4, fr5⟩ := Xr.out
  have hner : gr < W1.heap.size := World.block_lt_of_cell? W1 _ cr0
  obtain ⟨ck0, ck1, ck2, ck3, ck4, ck5, fk0, fk1, fk2, fk3, fk4, fk5⟩ := Xk.out
  have hnek : gk < W1.heap.size := World.block_lt_of_cell? W1 _ ck0
  obtain ⟨hgd0, hgd1⟩ := HGD.out
  refine wpJ_one (i := 3) (by kernel_rfl) rfl (by kernel_rfl) (fun KJ hK => ?_)
  go_simp
  have HJ2 : Hid ((fun W' : World => W'.cell? ⟨gk, 0, none⟩ = some (U 2147483648) ∧ W'.cell? ⟨gk, 1, none⟩ = some (.int .i64 24) ∧ W'.cell? ⟨gk, 2, none⟩ = some (.int .i64 (-149)) ∧ W'.cell? ⟨gk, 3, none⟩ = some (.int .i64 104) ∧ W'.cell? ⟨gk, 4, none⟩ = some (U 2139095040) ∧ W'.cell? ⟨gk, 5, none⟩ = some (U 2143289345)) ((((((W1.setCell ⟨gr, 0, none⟩ (U 2147483648)).setCell ⟨gr, 1, none⟩ (.int .i64 24)).setCell ⟨gr, 2, none⟩ (.int .i64 (-149))).setCell ⟨gr, 3, none⟩ (.int .i64 104)).setCell ⟨gr, 4, none⟩ (U 2139095040)).setCell ⟨gr, 5, none⟩ (U 2143289345))) := ⟨by go_simp, by go_simp, by go_simp, by go_simp, by go_simp, by go_simp⟩
  refine hK _ _ HJ2.out ?_
  clear hK HJ
  have HJ := HJ2
  clear HJ2
  refine wpJ_done (by kernel_rfl) ?_ _
  clear HJ
  go_wp2_with fail
  refine bodyPost_ret (v := .tuple #[.int .i64 32, FV 2147483648 24 (-149) 104 2139095040 2143289345]) (by rw [results_tc9 rfl]; go_simp) rfl ⟨rfl, ?_⟩
  exact bSet (bSet (bSet (bSet (bSet (bSet (hbw) _ _ _ HGr.out) _ _ _ HGr.out) _ _ _ HGr.out) _ _ _ HGr.out) _ _ _ HGr.out) _ _ _ HGr.out
theorem mask9_32 (a : Nat) (ha : a < B64) : bits BinOp.and IntKind.u64 (a : Int) 4294967295 = ((a % 4294967296 : Nat) : Int) := by
  rw [B64_eq] at ha
  have h := bits_and_u64_nat a 4294967295 (by omega) (by decide)
  rw [show 4294967295 = 2 ^ 32 - 1 from by decide, Nat.and_two_pow_sub_one_eq_mod] at h
  exact h
set_option maxRecDepth 20000 in
set_option maxHeartbeats 8000000 in
theorem sizes9_32t (a b : Nat) (ha : a < B64) (hb : b = a % 4294967296) (h : b % 2147483648 < 2139095040) (w : World) :
    Calls Tryz.prog 10 #[FV 2147483648 24 (-149) 104 2139095040 2143289345, U a] w fun en w' => en = .returned (.tuple #[U b, .bool true]) ∧ Below w.heap.size w w' := by
  have hm := mask9_32 a ha
  rw [← hb] at hm
  obtain ⟨v, hv⟩ : ∃ v, v = b % 2147483648 := ⟨_, rfl⟩
  have h1 : (b : Int) % 2147483648 = (v : Int) := by omega
  have h2 : (b : Int).tmod 2147483648 = (v : Int) := by rw [Int.tmod_eq_emod_of_nonneg (by omega)]; omega
  rw [← hv] at h
  have h3 : decide (v < 2139095040) = true := decide_eq_true h
  have h4 : decide ((v : Int) < 2139095040) = true := decide_eq_true (by omega)
  clear hv h ha hb
  go_enter Tryz.func10, Tryz.ntmps10
  go_wp2_with fail
  obtain ⟨W0, hW0⟩ : ∃ W0, W0 = (w.alloc (.cells #[U 2147483648, .int .i64 24, .int .i64 (-149), .int .i64 104, U 2139095040, U 2143289345] 26)) := ⟨_, rfl⟩
  have Xk : Hid (B6q W0 (w.heap.size) (U 2147483648) (.int .i64 24) (.int .i64 (-149)) (.int .i64 104) (U 2139095040) (U 2143289345)) := by rw [hW0]; exact ⟨by go_simp, by go_simp, by go_simp, by go_simp, by go_simp, by go_simp, by go_simp, by go_simp, by go_simp, by go_simp, by go_simp, by go_simp⟩
  have hb0 : Below w.heap.size w W0 := by rw [hW0]; exact below1 w _
  rw [← hW0]
  clear hW0
  have hbw : Below w.heap.size w w := Below.refl _ _
  obtain ⟨gk, hgk⟩ : ∃ g, g = w.heap.size := ⟨_, rfl⟩
  have HGk : Hid (w.heap.size ≤ gk) := by rw [hgk]; show _ ≤ _; omega
  rw [← hgk] at Xk
  try rw [← hgk]
  clear hgk
  replace hbw := Below.on hbw hb0
  clear hb0
  obtain ⟨ck0, ck1, ck2, ck3, ck4, ck5, fk0, fk1, fk2, fk3, fk4, fk5⟩ := Xk.out
  have hnek : gk < W0.heap.size := World.block_lt_of_cell? W0 _ ck0
  go_wp2_with fail
  clear ck0 ck1 ck2 ck3 ck4 ck5 fk0 fk1 fk2 fk3 fk4 fk5 hnek
  obtain ⟨W1, hW1⟩ : ∃ W1, W1 = W0.drew := ⟨_, rfl⟩
  have hbd : Below W0.heap.size W0 W1 := by rw [hW1]; exact bDrew1 (Below.refl _ _)
  replace Xk : Hid _ := Xk.out.below hbd
  replace hbw := Below.on hbw hbd
  clear hbd
  have HJ : Hid ((fun W' : World => W'.cell? ⟨gk, 0, none⟩ = some (U 2147483648) ∧ W'.cell? ⟨gk, 1, none⟩ = some (.int .i64 24) ∧ W'.cell? ⟨gk, 2, none⟩ = some (.int .i64 (-149)) ∧ W'.cell? ⟨gk, 3, none⟩ = some (.int .i64 104) ∧ W'.cell? ⟨gk, 4, none⟩ = some (U 2139095040) ∧ W'.cell? ⟨gk, 5, none⟩ = some (U 2143289345)) W1) := ⟨Xk.out.c0, Xk.out.c1, Xk.out.c2, Xk.out.c3, Xk.out.c4, Xk.out.c5⟩
  refine wp_region_J (fun W' => W'.cell? ⟨gk, 0, none⟩ = some (U 2147483648) ∧ W'.cell? ⟨gk, 1, none⟩ = some (.int .i64 24) ∧ W'.cell? ⟨gk, 2, none⟩ = some (.int .i64 (-149)) ∧ W'.cell? ⟨gk, 3, none⟩ = some (.int .i64 104) ∧ W'.cell? ⟨gk, 4, none⟩ = some (U 2139095040) ∧ W'.cell? ⟨gk, 5, none⟩ = some (U 2143289345)) (by kernel_rfl) ?_
  rw [← hW1]
  clear hW1
  refine wpJ_tk 0 (v := ?v27x0) rfl ?hy27x0 HJ.out ?_
  case hy27x0 => (intro W' hJ; obtain ⟨j0, j1, j2, j3, j4, j5⟩ := hJ; go_simp; first | done | with_reducible rfl)
  refine wpJ_tk 1 (v := ?v28x1) rfl ?hy28x1 HJ.out ?_
  case hy28x1 => (intro W' hJ; obtain ⟨j0, j1, j2, j3, j4, j5⟩ := hJ; go_simp; first | done | with_reducible rfl)
  refine wpJ_tk 2 (v := ?v29x2) rfl ?hy29x2 HJ.out ?_
  case hy29x2 => (intro W' hJ; obtain ⟨j0, j1, j2, j3, j4, j5⟩ := hJ; go_simp; first | done | with_reducible rfl)
  refine wpJ_tk 3 (v := ?v30x3) rfl ?hy30x3 HJ.out ?_
  case hy30x3 => (intro W' hJ; obtain ⟨j0, j1, j2, j3, j4, j5⟩ := hJ; go_simp; first | done | with_reducible rfl)
  refine wpJ_tk 4 (v := ?v31x4) rfl ?hy31x4 HJ.out ?_
  case hy31x4 => (intro W' hJ; obtain ⟨j0, j1, j2, j3, j4, j5⟩ := hJ; go_simp; first | done | with_reducible rfl)
  go_simp
  refine wpJ_tk 5 (v := ?v32x5) rfl ?hy32x5 HJ.out ?_
  case hy32x5 => (intro W' hJ; obtain ⟨j0, j1, j2, j3, j4, j5⟩ := hJ; go_simp; first | done | with_reducible rfl)
  refine wpJ_tk 6 (v := ?v33x6) rfl ?hy33x6 HJ.out ?_
  case hy33x6 => (intro W' hJ; obtain ⟨j0, j1, j2, j3, j4, j5⟩ := hJ; go_simp; first | done | with_reducible rfl)
  refine wpJ_tk 7 (v := ?v34x7) rfl ?hy34x7 HJ.out ?_
  case hy34x7 => (intro W' hJ; obtain ⟨j0, j1, j2, j3, j4, j5⟩ := hJ; go_simp; first | done | with_reducible rfl)
  refine wpJ_tk 8 (v := ?v35x8) rfl ?hy35x8 HJ.out ?_
  case hy35x8 => (intro W' hJ; obtain ⟨j0, j1, j2, j3, j4, j5⟩ := hJ; go_simp; first | done | with_reducible rfl)
  refine wpJ_tk 9 (v := ?v36x9) rfl ?hy36x9 HJ.out ?_
  case hy36x9 => (intro W' hJ; obtain ⟨j0, j1, j2, j3, j4, j5⟩ := hJ; go_simp; first | done | with_reducible rfl)
  refine wpJ_done (by kernel_rfl) ?_ _
  clear HJ
  go_wp2_with fail
  go_ret2
  exact ⟨rfl, hbw⟩
set_option maxRecDepth 20000 in
set_option maxHeartbeats 8000000 in
theorem sizes9_32f (a b : Nat) (ha : a < B64) (hb : b = a % 4294967296) (h : ¬ b % 2147483648 < 2139095040) (w : World) :
    Calls Tryz.prog 10 #[FV 2147483648 24 (-149) 104 2139095040 2143289345, U a] w fun en w' => en = .returned (.tuple #[U b, .bool false]) ∧ Below w.heap.size w w' := by
  have hm := mask9_32 a ha
  rw [← hb] at hm
  obtain ⟨v, hv⟩ : ∃ v, v = b % 2147483648 := ⟨_, rfl⟩
  have h1 : (b : Int) % 2147483648 = (v : Int) := by omega
  have h2 : (b : Int).tmod 2147483648 = (v : Int) := by rw [Int.tmod_eq_emod_of_nonneg (by omega)]; omega
  rw [← hv] at h
  have h3 : decide (v < 2139095040) = false := decide_eq_false h
  have h4 : decide ((v : Int) < 2139095040) = false := decide_eq_false (by omega)
  clear hv h ha hb
  go_enter Tryz.func10, Tryz.ntmps10
  go_wp2_with fail
  obtain ⟨W0, hW0⟩ : ∃ W0, W0 = (w.alloc (.cells #[U 2147483648, .int .i64 24, .int .i64 (-149), .int .i64 104, U 2139095040, U 2143289345] 26)) := ⟨_, rfl⟩
  have Xk : Hid (B6q W0 (w.heap.size) (U 2147483648) (.int .i64 24) (.int .i64 (-149)) (.int .i64 104) (U 2139095040) (U 2143289345)) := by rw [hW0]; exact ⟨by go_simp, by go_simp, by go_simp, by go_simp, by go_simp, by go_simp, by go_simp, by go_simp, by go_simp, by go_simp, by go_simp, by go_simp⟩
  have hb0 : Below w.heap.size w W0 := by rw [hW0]; exact below1 w _
  rw [← hW0]
  clear hW0
  have hbw : Below w.heap.size w w := Below.refl _ _
  obtain ⟨gk, hgk⟩ : ∃ g, g = w.heap.size := ⟨_, rfl⟩
  have HGk : Hid (w.heap.size ≤ gk) := by rw [hgk]; show _ ≤ _; omega
  rw [← hgk] at Xk
  try rw [← hgk]
  clear hgk
  replace hbw := Below.on hbw hb0
  clear hb0
  obtain ⟨ck0, ck1, ck2, ck3, ck4, ck5, fk0, fk1, fk2, fk3, fk4, fk5⟩ := Xk.out
  have hnek : gk < W0.heap.size := World.block_lt_of_cell? W0 _ ck0
  go_wp2_with fail
  clear ck0 ck1 ck2 ck3 ck4 ck5 fk0 fk1 fk2 fk3 fk4 fk5 hnek
  obtain ⟨W1, hW1⟩ : ∃ W1, W1 = W0.drew := ⟨_, rfl⟩
  have hbd : Below W0.heap.size W0 W1 := by rw [hW1]; exact bDrew1 (Below.refl _ _)
  replace Xk : Hid _ := Xk.out.below hbd
  replace hbw := Below.on hbw hbd
  clear hbd
  have HJ : Hid ((fun W' : World => W'.cell? ⟨gk, 0, none⟩ = some (U 2147483648) ∧ W'.cell? ⟨gk, 1, none⟩ = some (.int .i64 24) ∧ W'.cell? ⟨gk, 2, none⟩ = some (.int .i64 (-149)) ∧ W'.cell? ⟨gk, 3, none⟩ = some (.int .i64 104) ∧ W'.cell? ⟨gk, 4, none⟩ = some (U 2139095040) ∧ W'.cell? ⟨gk, 5, none⟩ = some (U 2143289345)) W1) := ⟨Xk.out.c0, Xk.out.c1, Xk.out.c2, Xk.out.c3, Xk.out.c4, Xk.out.c5⟩
  refine wp_region_J (fun W' => W'.cell? ⟨gk, 0, none⟩ = some (U 2147483648) ∧ W'.cell? ⟨gk, 1, none⟩ = some (.int .i64 24) ∧ W'.cell? ⟨gk, 2, none⟩ = some (.int .i64 (-149)) ∧ W'.cell? ⟨gk, 3, none⟩ = some (.int .i64 104) ∧ W'.cell? ⟨gk, 4, none⟩ = some (U 2139095040) ∧ W'.cell? ⟨gk, 5, none⟩ = some (U 2143289345)) (by kernel_rfl) ?_
  rw [← hW1]
  clear hW1
  refine wpJ_tk 0 (v := ?v37x0) rfl ?hy37x0 HJ.out ?_
  case hy37x0 => (intro W' hJ; obtain ⟨j0, j1, j2, j3, j4, j5⟩ := hJ; go_simp; first | done | with_reducible rfl)
  refine wpJ_tk 1 (v := ?v38x1) rfl ?hy38x1 HJ.out ?_
  case hy38x1 => (intro W' hJ; obtain ⟨j0, j1, j2, j3, j4, j5⟩ := hJ; go_simp; first | done | with_reducible rfl)
  refine wpJ_tk 2 (v := ?v39x2) rfl ?hy39x2 HJ.out ?_
  case hy39x2 => (intro W' hJ; obtain ⟨j0, j1, j2, j3, j4, j5⟩ := hJ; go_simp; first | done | with_reducible rfl)
  refine wpJ_tk 3 (v := ?v40x3) rfl ?hy40x3 HJ.out ?_
  case hy40x3 => (intro W' hJ; obtain ⟨j0, j1, j2, j3, j4, j5⟩ := hJ; go_simp; first | done | with_reducible rfl)
  refine wpJ_tk 4 (v := ?v41x4) rfl ?hy41x4 HJ.out ?_
  case hy41x4 => (intro W' hJ; obtain ⟨j0, j1, j2, j3, j4, j5⟩ := hJ; go_simp; first | done | with_reducible rfl)
  go_simp
  refine wpJ_tk 5 (v := ?v42x5) rfl ?hy42x5 HJ.out ?_
  case hy42x5 => (intro W' hJ; obtain ⟨j0, j1, j2, j3, j4, j5⟩ := hJ; go_simp; first | done | with_reducible rfl)
  refine wpJ_tk 6 (v := ?v43x6) rfl ?hy43x6 HJ.out ?_
  case hy43x6 => (intro W' hJ; obtain ⟨j0, j1, j2, j3, j4, j5⟩ := hJ; go_simp; first | done | with_reducible rfl)
  refine wpJ_tk 7 (v := ?v44x7) rfl ?hy44x7 HJ.out ?_
  case hy44x7 => (intro W' hJ; obtain ⟨j0, j1, j2, j3, j4, j5⟩ := hJ; go_simp; first | done | with_reducible rfl)
  refine wpJ_tk 8 (v := ?v45x8) rfl ?hy45x8 HJ.out ?_
  case hy45x8 => (intro W' hJ; obtain ⟨j0, j1, j2, j3, j4, j5⟩ := hJ; go_simp; first | done | with_reducible rfl)
  refine wpJ_tk 9 (v := ?v46x9) rfl ?hy46x9 HJ.out ?_
  case hy46x9 => (intro W' hJ; obtain ⟨j0, j1, j2, j3, j4, j5⟩ := hJ; go_simp; first | done | with_reducible rfl)
  refine wpJ_done (by kernel_rfl) ?_ _
  clear HJ
  go_wp2_with fail
  go_ret2
  exact ⟨rfl, hbw⟩
def FinU (l : Int) (o : Opd) (u : Int) : Prop := (∃ s, o = ono s ∧ u = 0) ∨ ∃ x e, o = ofin x e ∧ DFm x e ∧ x ≠ 0 ∧ dv x e = dv u l
theorem OpB.finU {S I H : Nat} {l : Int} {b : Nat} {o : Opd} (h : OpB S I H l b o) (hr : b % S < I) : FinU l o (svS S H b) := by
  rcases h with ⟨h1, _⟩ | ⟨h1, _⟩ | ⟨h1, h2⟩ | ⟨_, _, x, e, h2, h3, h4⟩
  · omega
  · omega
  · refine .inl ⟨_, h2, ?_⟩
    rw [svS_eq, h1, vs_zero]; split <;> rfl
  · exact .inr ⟨x, e, h4, h2.fm, h3, h2.v⟩
theorem FinU.neg {l : Int} {o : Opd} {u : Int} (h : FinU l o u) : FinU l (negO o) (-u) := by
  rcases h with ⟨s, rfl, rfl⟩ | ⟨x, e, rfl, h1, h2, h3⟩
  · exact .inl ⟨_, negO_no s, rfl⟩
  · exact .inr ⟨-x, e, negO_fin x e, h1.neg, by omega, by rw [dv_neg, dv_neg, h3]⟩
theorem SumO.finU {l : Int} {a b c : Opd} {u v : Int} (h : SumO a b c) (ha : FinU l a u) (hb : FinU l b v) : FinU l c (u + v) := by
  rcases ha with ⟨s, rfl, rfl⟩ | ⟨x, e, rfl, h1, h2, h3⟩ <;> rcases hb with ⟨t, rfl, rfl⟩ | ⟨y, f, rfl, k1, k2, k3⟩
  · have : c = ono (s && t) := h.uniq (.inr (.inr (.inr (.inl ⟨⟨rfl, rfl⟩, rfl⟩))))
    exact .inl ⟨_, this, rfl⟩
  · have : c = ofin y f := h.uniq (.inr (.inr (.inr (.inr (.inl ⟨⟨rfl, rfl⟩, rfl⟩)))))
    exact .inr ⟨y, f, this, k1, k2, by rw [k3, Int.zero_add]⟩
  · have : c = ofin x e := h.uniq (.inr (.inr (.inr (.inr (.inr (.inl ⟨⟨rfl, rfl⟩, rfl⟩))))))
    exact .inr ⟨x, e, this, h1, h2, by rw [h3, Int.add_zero]⟩
  · rcases h with ⟨q, _⟩ | ⟨q, _⟩ | ⟨q, _⟩ | ⟨q, _⟩ | ⟨q, _⟩ | ⟨q, _⟩ | ⟨_, q⟩
    · rcases q with q | q | ⟨q, _⟩ <;> exact by cases q
    · exact by cases q.1
    · exact by cases q.2
    · exact by cases q.1
    · exact by cases q.1
    · exact by cases q.2
    · rcases q with ⟨q1, q2⟩ | ⟨z, g, q1, q2, q3, q4⟩
      · refine .inl ⟨_, q2, ?_⟩
        have q1' : dv x e + dv y f = 0 := q1
        rw [h3, k3, ← dv_add] at q1'
        exact dv_eq_zero q1'
      · refine .inr ⟨z, g, q4, q1, q2, ?_⟩
        rw [q3, dv_add]
        show dv x e + dv y f = _
        rw [h3, k3]
theorem FinU.own {f p m l : Int} {S I H sd : Nat} {Be : Int} (J : Jn f p m l S I H sd Be) {c : Opd} {u : Int} (h : FinU l c u) {r : Nat} (hr : r < I) (hv : ((vs H r : Nat) : Int) = u.natAbs) (Q : Nat) : patO l sd Be S I Q c < 2 * S ∧ patO l sd Be S I Q c % S < I ∧ svS S H (patO l sd Be S I Q c) = u := by
  have hlt := J.jm.pm.fm.lt
  have hpos := J.jm.pm.fm.pos
  have hH := J.jm.pm.hp
  rcases h with ⟨s, rfl, rfl⟩ | ⟨x, e, rfl, h1, h2, h3⟩
  · rw [patO_no]
    cases s
    · refine ⟨by simp; omega, by simp; omega, ?_⟩
      rw [svS_eq]; simp [vs_zero]
    · refine ⟨by simp; omega, by simp; omega, ?_⟩
      rw [svS_eq]; simp [vs_zero]
  · have hu : u ≠ 0 := fun h0 => by
      rw [h0, dv_zero] at h3; exact h2 (dv_eq_zero h3)
    have hr0 : r ≠ 0 := fun h0 => by rw [h0, vs_zero] at hv; omega
    have hb : ((if u < 0 then S else 0) + r) < 2 * S := by split <;> omega
    have hm : ((if u < 0 then S else 0) + r) % S = r := by
      split
      · rw [Nat.add_mod_left, Nat.mod_eq_of_lt (by omega)]
      · rw [Nat.zero_add, Nat.mod_eq_of_lt (by omega)]
    have hs : svS S H ((if u < 0 then S else 0) + r) = u := by
      rw [svS_eq, hm, hv]
      by_cases hn : u < 0
      · rw [if_pos hn, if_pos (by omega)]; omega
      · rw [if_neg hn, if_neg (by omega)]; omega
    have hp : rnp l sd Be S I x e = (if u < 0 then S else 0) + r := rn_own J hb (by rw [hm]; exact hr0) (by rw [hm]; exact hr) h1.lo4 (by rw [hs]; exact h3)
    rw [patO_fin, hp]
    exact ⟨hb, by rw [hm]; exact hr, hs⟩
theorem FinU.rank {f p m l : Int} {S I H sd : Nat} {Be : Int} (J : Jn f p m l S I H sd Be) {c : Opd} {l' u : Int} (h : FinU l' c u) (Q : Nat) : ∃ Z, RNz H l I (dv (u.natAbs : Int) l') Z ∧ patO l sd Be S I Q c < 2 * S ∧ patO l sd Be S I Q c % S ≤ I ∧ rkS S (patO l sd Be S I Q c) = if u < 0 then -(Z : Int) else (Z : Int) := by
  have hlt := J.jm.pm.fm.lt
  have hpos := J.jm.pm.fm.pos
  have hH := J.jm.pm.hp
  have hlo := J.jm.pm.lo
  rcases h with ⟨s, rfl, rfl⟩ | ⟨x, e, rfl, h1, h2, h3⟩
  · refine ⟨0, ?_, ?_⟩
    · have h0 := RNz.exact (H := H) (l := l) (I := I) (Z := 0) hH (by omega) (by omega)
      rw [vs_zero, show ((0 : Nat) : Int) = 0 from rfl, dv_zero] at h0
      rw [show (((0 : Int).natAbs : Nat) : Int) = 0 from rfl, dv_zero]
      exact h0
    · rw [patO_no]
      unfold rkS
      cases s
      · exact ⟨by simp; omega, by simp, by simp⟩
      · exact ⟨by simp; omega, by simp, by simp⟩
  · obtain ⟨Z, z1, z2, z3, z4, z5, z6, _⟩ := rnp_is J x e h1.lo4
    refine ⟨Z, ?_, ?_⟩
    · have h5 : dv (u.natAbs : Int) l' = dv (x.natAbs : Int) e := by rw [dv_abs6, dv_abs6, h3]
      rw [h5]; exact z2
    · rw [patO_fin]
      refine ⟨z4, by omega, ?_⟩
      have hs : x < 0 ↔ u < 0 := by
        rcases dv3 x e with ⟨a, b⟩ | ⟨a, b⟩ | ⟨a, b⟩ <;> rcases dv3 u l' with ⟨a', b'⟩ | ⟨a', b'⟩ | ⟨a', b'⟩ <;> omega
      unfold rkS
      rw [z5]
      by_cases hx : x < 0
      · have : S ≤ rnp l sd Be S I x e := by simpa [hx] using z6
        rw [if_pos this, if_pos (hs.1 hx)]
      · have : ¬ S ≤ rnp l sd Be S I x e := by simpa [hx] using z6
        rw [if_neg this, if_neg (fun h => hx (hs.2 h))]
theorem rank_mono {f p m l : Int} {S I H sd : Nat} {Be : Int} (J : Jn f p m l S I H sd Be) {c d : Opd} {l' u v : Int} (hc : FinU l' c u) (hd : FinU l' d v) (huv : u ≤ v) (Q : Nat) : rkS S (patO l sd Be S I Q c) ≤ rkS S (patO l sd Be S I Q d) := by
  obtain ⟨Z, z1, _, _, z4⟩ := hc.rank J Q
  obtain ⟨Y, y1, _, _, y4⟩ := hd.rank J Q
  rw [z4, y4]
  by_cases hu : u < 0
  · rw [if_pos hu]
    by_cases hv : v < 0
    · rw [if_pos hv]
      have := y1.mono z1 (dv_le l' (by omega))
      omega
    · rw [if_neg hv]; omega
  · rw [if_neg hu, if_neg (by omega)]
    have := z1.mono y1 (dv_le l' (by omega))
    omega
theorem MulO.finU {l : Int} {a b c : Opd} {u v : Int} (hl : -2097152 ≤ l) (h : MulO a b c) (ha : FinU l a u) (hb : FinU l b v) : FinU (l + l) c (u * v) := by
  rcases ha with ⟨s, rfl, rfl⟩ | ⟨x, e, rfl, h1, h2, h3⟩ <;> rcases hb with ⟨t, rfl, rfl⟩ | ⟨y, f, rfl, k1, k2, k3⟩
  · exact .inl ⟨_, h.uniq (.inr (.inr (.inl ⟨.inl ⟨rfl, .inl rfl⟩, rfl⟩))), Int.zero_mul _⟩
  · exact .inl ⟨_, h.uniq (.inr (.inr (.inl ⟨.inl ⟨rfl, .inr rfl⟩, rfl⟩))), Int.zero_mul _⟩
  · exact .inl ⟨_, h.uniq (.inr (.inr (.inl ⟨.inr ⟨rfl, rfl⟩, rfl⟩))), Int.mul_zero _⟩
  · rcases h with ⟨q, _⟩ | ⟨q, _⟩ | ⟨q, _⟩ | ⟨_, z, g, q1, q2, q3, q4⟩
    · rcases q with q | q | ⟨q, _⟩ | ⟨q, _⟩ <;> exact by cases q
    · rcases q with ⟨q, _⟩ | ⟨_, q⟩ <;> exact by cases q
    · rcases q with ⟨q, _⟩ | ⟨_, q⟩ <;> exact by cases q
    · refine .inr ⟨z, g, q4, q1, q2, ?_⟩
      have he : -2097152 ≤ e := by rcases h1 with ⟨_, h⟩ | ⟨_, h, _⟩ <;> omega
      have hf : -2097152 ≤ f := by rcases k1 with ⟨_, h⟩ | ⟨_, h, _⟩ <;> omega
      have q3' : dv z g = dv (x * y) (e + f) := q3
      refine dv_cancel ?_
      rw [q3', dv_mul he hf, dv_mul hl hl, h3, k3]
theorem Mk.mono {H : Nat} {l : Int} {I : Nat} {g : Int → Int} {A B V U : Int} {Z Y : Nat} (h : Mk H l I g A V) (k : Mk H l I g B U) (hZ : RNz H l I V Z) (hY : RNz H l I U Y) (hAB : A ≤ B) : Z ≤ Y := by
  refine Nat.le_of_not_lt fun hlt => ?_
  have hYI : Y < I := Nat.lt_of_lt_of_le hlt hZ.le
  have h1 : U ≤ dv (hv H Y : Int) (l - 1) := Int.not_lt.1 fun h2 => by have := hY.hi Y hYI h2; omega
  have h2 : dv (hv H Y : Int) (l - 1) ≤ V := Int.not_lt.1 fun h3 => by have := hZ.lo Y hYI h3; omega
  have h3 : B ≤ g (dv (hv H Y : Int) (l - 1)) := by
    rcases Int.lt_or_eq_of_le h1 with h4 | h4
    · exact Int.le_of_lt (k.lt Y hYI h4)
    · exact Int.le_of_eq (k.eq Y hYI h4)
  have h4 : g (dv (hv H Y : Int) (l - 1)) ≤ A := by
    rcases Int.lt_or_eq_of_le h2 with h5 | h5
    · exact Int.le_of_lt (h.gt Y hYI h5)
    · exact Int.le_of_eq (h.eq Y hYI h5.symm).symm
  have hVU : V = U := by
    have e1 : V = dv (hv H Y : Int) (l - 1) := by
      rcases Int.lt_or_eq_of_le h2 with h5 | h5
      · have := h.gt Y hYI h5; omega
      · exact h5.symm
    have e2 : U = dv (hv H Y : Int) (l - 1) := by
      rcases Int.lt_or_eq_of_le h1 with h5 | h5
      · have := k.lt Y hYI h5; omega
      · exact h5
    rw [e1, e2]
  rw [hVU] at hZ
  have := hZ.uniq hY
  omega
theorem svS_mono {S H a b : Nat} (hH : 0 < H) (h : rkS S a ≤ rkS S b) : svS S H a ≤ svS S H b := by
  unfold svS
  rcases Int.lt_or_eq_of_le h with h1 | h1
  · exact Int.le_of_lt (gR_mono hH h1)
  · rw [h1]; exact Int.le_refl _
theorem OpV.nn {w : World} {v : Value} {o : Opd} (h : OpV w v o) (hk : o.k ≠ 0) : ∃ t x, v = .iface t x ∧ (∀ w, Sem.run Tryz.prog (Instr.typeAssert (.iface t x) 65 93 true) w = .ok (.tuple #[.agg #[], .bool false]) w) := by
  rcases h with ⟨_, rfl⟩ | ⟨s, rfl, _⟩ | ⟨s, rfl, _⟩ | ⟨s, p, m, c, e, x, rfl, _⟩
  · exact absurd rfl hk
  · exact ⟨_, _, rfl, fun w => ta_inf_nan _ w⟩
  · exact ⟨_, _, rfl, fun w => ta_no_nan _ w⟩
  · exact ⟨_, _, rfl, fun w => ta_fin_nan _ w⟩
theorem OpB.nn0 {S I H : Nat} {l : Int} {b : Nat} {o : Opd} (h : OpB S I H l b o) (hr : b % S ≤ I) : o.k ≠ 0 := by
  rcases h with ⟨h1, _⟩ | ⟨_, rfl⟩ | ⟨_, rfl⟩ | ⟨_, _, x, e, _, _, rfl⟩
  · omega
  · exact fun h => by cases h
  · exact fun h => by cases h
  · exact fun h => by cases h
theorem OpV.no {w : World} {v : Value} {s : Bool} (h : OpV w v (ono s)) : v = VNo s := by
  rcases h with ⟨_, h2⟩ | ⟨t, _, h2⟩ | ⟨t, h1, h2⟩ | ⟨_, p, m, c, e', x', h1, h2, _, h4⟩
  · exact by cases congrArg Opd.k h2
  · exact by cases congrArg Opd.k h2
  · have : s = t := congrArg Opd.s h2
    rw [this]; exact h1
  · exact by cases congrArg Opd.k h4
theorem OpB.no {S I H : Nat} {l : Int} {b : Nat} {o : Opd} (h : OpB S I H l b o) (h0 : b % S = 0) (hI : 0 < I) : o = ono (decide (S ≤ b)) := by
  rcases h with ⟨h2, _⟩ | ⟨h2, _⟩ | ⟨_, h2⟩ | ⟨h1, _⟩
  · omega
  · omega
  · exact h2
  · exact absurd h0 h1
set_option maxRecDepth 20000 in
set_option maxHeartbeats 8000000 in
theorem soft_cmp {f p m l : Int} {S I H sd : Nat} {Be : Int} {Q : Nat} (J : Jo f p m l S I H sd Be Q) {a b : Nat} (ha : a < 2 * S ∧ a % S ≤ I) (hb : b < 2 * S ∧ b % S ≤ I) (w : World) (hT : Tab w) :
    Calls Tryz.prog 29 #[.int .i64 f, U a, U b] w fun en w' => en = .returned (.tuple #[.int .i64 (cmpI (rkS S a) (rkS S b)), .int .i64 0]) ∧ Below w.heap.size w w' := by
  have HJO : Hid (Jo f p m l S I H sd Be Q) := J
  have HA : Hid (a < 2 * S ∧ a % S ≤ I) := ha
  have HB : Hid (b < 2 * S ∧ b % S ≤ I) := hb
  have TB : Hid (Tab w) := hT
  obtain ⟨ra, hra⟩ : ∃ ra, ra = rkS S a := ⟨_, rfl⟩
  obtain ⟨rb, hrb⟩ : ∃ rb, rb = rkS S b := ⟨_, rfl⟩
  obtain ⟨rc, hrc⟩ : ∃ rc, rc = cmpI ra rb := ⟨_, rfl⟩
  rw [← hra, ← hrb, ← hrc]
  have HRA : Hid (ra = rkS S a ∧ rb = rkS S b ∧ rc = cmpI ra rb) := ⟨hra, hrb, hrc⟩
  clear J ha hb hT hra hrb hrc
  go_enter Tryz.func29, Tryz.ntmps29
  go_wp2_with fail
  have hb0 := below1 w (.cells #[U a, U b] 22)
  refine (operands2 HJO.out HA.out.1 HB.out.1 ⟨by go_simp, by go_simp⟩ (TB.out.below hb0)).mono ?_
  rintro e9 v1 ⟨go, va, vb, oa, ob, rfl, hgo, hx, hva, hvb, hoa, hob, hb1⟩
  have hbw := Below.on hb0 hb1
  obtain ⟨t1, x1, rfl, ht1⟩ := hva.nn (hoa.nn0 HA.out.2)
  obtain ⟨t2, x2, rfl, ht2⟩ := hvb.nn (hob.nn0 HB.out.2)
  have Xo : Hid (Box v1 go (.iface t1 x1) (.iface t2 x2)) := hx
  have HTT : Hid ((∀ w, Sem.run Tryz.prog (Instr.typeAssert (.iface t1 x1) 65 93 true) w = .ok (.tuple #[.agg #[], .bool false]) w) ∧ (∀ w, Sem.run Tryz.prog (Instr.typeAssert (.iface t2 x2) 65 93 true) w = .ok (.tuple #[.agg #[], .bool false]) w)) := ⟨ht1, ht2⟩
  clear hb0 hb1 hx hva hvb hoa hob hgo ht1 ht2
  obtain ⟨co0, co1, fo0, fo1⟩ := Xo.out
  have hneo := Xo.out.lt
  go_wp2_with fail
  clear co0 co1 fo0 fo1 hneo
  refine (unord2 HTT.out.1 HTT.out.2 Xo.out).mono ?_
  rintro e v2 ⟨rfl, hb2⟩
  replace Xo : Hid _ := Xo.out.below hb2
  replace hbw := Below.on hbw hb2
  clear hb2
  go_wp2_with fail
  refine (rank_ok HJO.out.jq.jn.jm.pm.fm a HA.out.1 HA.out.2 _).mono ?_
  rintro e v3 ⟨rfl, hb3⟩
  rw [show (if S ≤ a then -((a % S : Nat) : Int) else ((a % S : Nat) : Int)) = ra from HRA.out.1.symm]
  replace Xo : Hid _ := Xo.out.below hb3
  replace hbw := Below.on hbw hb3
  clear hb3
  go_wp2_with fail
  refine (rank_ok HJO.out.jq.jn.jm.pm.fm b HB.out.1 HB.out.2 _).mono ?_
  rintro e v4 ⟨rfl, hb4⟩
  rw [show (if S ≤ b then -((b % S : Nat) : Int) else ((b % S : Nat) : Int)) = rb from HRA.out.2.1.symm]
  replace Xo : Hid _ := Xo.out.below hb4
  replace hbw := Below.on hbw hb4
  clear hb4
  go_wp2_with fail
  refine (ccmp ra rb _).mono ?_
  rintro e v5 ⟨rfl, hb5⟩
  rw [← HRA.out.2.2]
  replace Xo : Hid _ := Xo.out.below hb5
  replace hbw := Below.on hbw hb5
  clear hb5
  go_wp2_with fail
  go_ret2
  exact ⟨rfl, hbw⟩
set_option maxRecDepth 20000 in
set_option maxHeartbeats 8000000 in
theorem soft_abs_z {f p m l : Int} {S I H sd : Nat} {Be : Int} {Q : Nat} (J : Jo f p m l S I H sd Be Q) {a : Nat} (ha : a < 2 * S ∧ a % S = 0) (w : World) (hT : Tab w) :
    Calls Tryz.prog 30 #[.int .i64 f, U a] w fun en w' => en = .returned (.tuple #[.int .u64 0, .int .i64 0]) ∧ Below w.heap.size w w' := by
  have HJO : Hid (Jo f p m l S I H sd Be Q) := J
  have HA : Hid (a < 2 * S ∧ a % S = 0) := ha
  have TB : Hid (Tab w) := hT
  obtain ⟨s1, hs1⟩ : ∃ s1, s1 = decide (S ≤ a) := ⟨_, rfl⟩
  have HS1 : Hid (decide (S ≤ a) = s1) := hs1.symm
  clear J ha hT hs1
  go_enter Tryz.func30, Tryz.ntmps30
  go_wp2_with fail
  have hb0 := below1 w (.cells #[U a] 22)
  refine (operands1 HJO.out HA.out.1 (by go_simp) (TB.out.below hb0)).mono ?_
  rintro e9 v1 ⟨go, va, oa, rfl, hgo, hx, hva, hoa, hb1⟩
  have hbw := Below.on hb0 hb1
  obtain rfl := hoa.no HA.out.2 (by have := HJO.out.jq.jn.jm.pm.fm.pos; omega)
  rw [HS1.out] at hva
  obtain rfl := hva.no
  have Xo : Hid (B1s v1 go (VNo s1)) := hx
  have ms := meth_signed_no
  have ns := nila_signed_no
  clear hb0 hb1 hx hva hoa hgo
  obtain ⟨co0, fo0⟩ := Xo.out
  have hneo : go < v1.heap.size := World.block_lt_of_cell? v1 _ co0
  go_wp2_with fail
  clear co0 fo0 hneo
  refine (signed_no s1 false _).mono ?_
  rintro e v2 ⟨rfl, hb2⟩
  replace Xo : Hid (B1s v2 go (VNo s1)) := Xo.out.below hb2
  replace hbw := Below.on hbw hb2
  clear hb2
  clear ms ns
  have me := meth_pattern_no
  go_wp2_with fail
  refine (pat_no HJO.out.jq false _).mono ?_
  rintro e v3 ⟨rfl, hb3⟩
  replace Xo : Hid (B1s v3 go (VNo s1)) := Xo.out.below hb3
  replace hbw := Below.on hbw hb3
  clear hb3
  go_wp2_with fail
  go_ret2
  exact ⟨rfl, hbw⟩
set_option maxRecDepth 20000 in
set_option maxHeartbeats 8000000 in
theorem inv_fin (s1 : Bool) (p1 : Option Addr) (m1 c1 : Nat) (e1 : Int) (w : World) :
    Calls Tryz.prog 64 #[VFin s1 p1 m1 c1 e1] w fun en w' => en = .returned (VFin s1 p1 m1 c1 e1) ∧ Below w.heap.size w w' := by
  have hanan := ta_fin_nan
  have hainf := ta_fin_inf
  have hano := ta_fin_no
  have hafin := ta_fin_fin
  go_enter Tryz.func64, Tryz.ntmps64
  go_wp2_with fail
  go_ret
  exact ⟨rfl, Below.refl _ _⟩
set_option maxRecDepth 20000 in
set_option maxHeartbeats 8000000 in
theorem quot_no_fin {f p m l : Int} {S I H sd : Nat} {Be : Int} {Q : Nat} (J : Jo f p m l S I H sd Be Q) (s1 : Bool) (s2 : Bool) (p2 : Option Addr) (m2 c2 : Nat) (e2 : Int) (w : World) :
    Calls Tryz.prog 49 #[.int .i64 f, VNo s1, VFin s2 p2 m2 c2 e2] w fun en w' => en = .returned (U (patO l sd Be S I Q (ono (s1 != s2)))) ∧ Below w.heap.size w w' := by
  have HJO : Hid (Jo f p m l S I H sd Be Q) := J
  have ha := ta_no_fin
  have hb := ta_fin_fin
  clear J
  go_enter Tryz.func49, Tryz.ntmps49
  go_wp2_with fail
  have hbw := below2 w (.cells #[.bool false, .slice none 0 0, .int .i64 0] 101) (.cells #[.bool s2, .slice p2 m2 c2, .int .i64 e2] 101)
  generalize (w.alloc (.cells #[.bool false, .slice none 0 0, .int .i64 0] 101)).alloc (.cells #[.bool s2, .slice p2 m2 c2, .int .i64 e2] 101) = v0 at *
  refine (inv_fin s2 p2 m2 c2 e2 _).mono ?_
  rintro e v1 ⟨rfl, hb1⟩
  replace hbw := Below.on hbw hb1
  clear hb1
  go_wp2_with fail
  refine (mul_no_fin s1 s2 p2 m2 c2 e2 _).mono ?_
  rintro e v2 ⟨rfl, hb2⟩
  replace hbw := Below.on hbw hb2
  clear hb2
  have me := meth_pattern_no
  clear ha hb
  go_wp2_with fail
  refine (pat_no HJO.out.jq (s1 != s2) _).mono ?_
  rintro e v3 ⟨rfl, hb3⟩
  obtain ⟨r, hr⟩ : ∃ r, r = patO l sd Be S I Q (ono (s1 != s2)) := ⟨_, rfl⟩
  rw [show (if (s1 != s2) = true then S + 0 else 0) = r from hr.symm]
  have HPR : Hid (r = patO l sd Be S I Q (ono (s1 != s2))) := hr
  clear hr
  replace hbw := Below.on hbw hb3
  clear hb3
  go_wp2_with fail
  go_ret
  exact ⟨by rw [HPR.out]; rfl, hbw⟩
structure Ord9 (S I p q : Nat) : Prop where
  p1 : p < 2 * S
  p2 : p % S ≤ I
  q1 : q < 2 * S
  q2 : q % S ≤ I
  le : rkS S p ≤ rkS S q
theorem Ord9.cmp {S I p q : Nat} (h : Ord9 S I p q) : cmpI (rkS S p) (rkS S q) = -1 ∨ cmpI (rkS S p) (rkS S q) = 0 := by
  have := h.le
  unfold cmpI
  split
  · exact .inl rfl
  · split
    · exact .inr rfl
    · omega
theorem ord_fin {f p m l : Int} {S I H sd : Nat} {Be : Int} (J : Jn f p m l S I H sd Be) {c d : Opd} {l' u v : Int} (hc : FinU l' c u) (hd : FinU l' d v) (huv : u ≤ v) (Q : Nat) : Ord9 S I (patO l sd Be S I Q c) (patO l sd Be S I Q d) := by
  obtain ⟨_, _, c1, c2, _⟩ := hc.rank J Q
  obtain ⟨_, _, d1, d2, _⟩ := hd.rank J Q
  exact ⟨c1, c2, d1, d2, rank_mono J hc hd huv Q⟩
theorem ord_add {f p m l : Int} {S I H sd : Nat} {Be : Int} (J : Jn f p m l S I H sd Be) {x y z : Nat} {ox oy oz c d : Opd} (hx : OpB S I H l x ox) (hy : OpB S I H l y oy) (hz : OpB S I H l z oz) (kx : x % S < I) (ky : y % S < I) (kz : z % S < I) (hr : rkS S x ≤ rkS S y) (hc : SumO ox oz c) (hd : SumO oy oz d) (Q : Nat) : Ord9 S I (patO l sd Be S I Q c) (patO l sd Be S I Q d) := by
  have h := svS_mono J.jm.pm.hp hr
  exact ord_fin J (hc.finU (hx.finU kx) (hz.finU kz)) (hd.finU (hy.finU ky) (hz.finU kz)) (by omega) Q
theorem ord_sub {f p m l : Int} {S I H sd : Nat} {Be : Int} (J : Jn f p m l S I H sd Be) {x y z : Nat} {ox oy oz c d : Opd} (hx : OpB S I H l x ox) (hy : OpB S I H l y oy) (hz : OpB S I H l z oz) (kx : x % S < I) (ky : y % S < I) (kz : z % S < I) (hr : rkS S x ≤ rkS S y) (hc : SumO oz (negO oy) c) (hd : SumO oz (negO ox) d) (Q : Nat) : Ord9 S I (patO l sd Be S I Q c) (patO l sd Be S I Q d) := by
  have h := svS_mono J.jm.pm.hp hr
  exact ord_fin J (hc.finU (hz.finU kz) (hy.finU ky).neg) (hd.finU (hz.finU kz) (hx.finU kx).neg) (by omega) Q
theorem ord_mul {f p m l : Int} {S I H sd : Nat} {Be : Int} (J : Jn f p m l S I H sd Be) {x y z : Nat} {ox oy oz c d : Opd} (hx : OpB S I H l x ox) (hy : OpB S I H l y oy) (hz : OpB S I H l z oz) (kx : x % S < I) (ky : y % S < I) (kz : z % S < I) (hzS : z < S) (hr : rkS S x ≤ rkS S y) (hc : MulO ox oz c) (hd : MulO oy oz d) (Q : Nat) : Ord9 S I (patO l sd Be S I Q c) (patO l sd Be S I Q d) := by
  have h := svS_mono J.jm.pm.hp hr
  have hlo := J.jm.pm.lo
  have h0 : 0 ≤ svS S H z := by rw [svS_eq, if_neg (by omega)]; omega
  exact ord_fin J (hc.finU (by omega) (hx.finU kx) (hz.finU kz)) (hd.finU (by omega) (hy.finU ky) (hz.finU kz)) (Int.mul_le_mul_of_nonneg_right h h0) Q
def DivR (S I H : Nat) (l : Int) (x z r : Nat) : Prop :=
  (x % S = 0 ∧ r < 2 * S ∧ r % S = 0) ∨ (x % S ≠ 0 ∧ ∃ X e Y g Z V, VF S H l x X e ∧ VF S H l z Y g ∧ SgB S (decide (X < 0)) (decide (Y < 0)) r Z ∧ RNz H l I V Z ∧ Mk H l I (fun τ => (Y.natAbs : Int) * τ) (dv (X.natAbs : Int) (e - g)) V)
def SqrR (S I H : Nat) (l : Int) (x r : Nat) : Prop :=
  (x % S = 0 ∧ r < 2 * S ∧ r % S = 0) ∨ (x % S ≠ 0 ∧ x < S ∧ ∃ X e V, VF S H l x X e ∧ RNz H l I V r ∧ Mk H l I (fun τ => τ * τ) ((X.natAbs : Int) * ((2 ^ (e + 2 * 4194304).toNat : Nat) : Int)) V)
theorem rk_zero {S r : Nat} (h : r % S = 0) : rkS S r = 0 := by unfold rkS; rw [h]; split <;> rfl
theorem rk_sg {S I r Z : Nat} {X : Int} (hI : I < S) (hZ : Z ≤ I) (h : SgB S (decide (X < 0)) false r Z) : r < 2 * S ∧ r % S = Z ∧ rkS S r = if X < 0 then -(Z : Int) else (Z : Int) := by
  unfold SgB at h
  unfold rkS
  by_cases hx : X < 0
  · rw [decide_eq_true hx, if_neg (by decide)] at h
    have hm : r % S = Z := by rw [h, Nat.add_mod_left, Nat.mod_eq_of_lt (by omega)]
    rw [hm, if_pos (by omega), if_pos hx]
    exact ⟨by omega, rfl, rfl⟩
  · rw [decide_eq_false hx, if_pos rfl] at h
    have hm : r % S = Z := by rw [h, Nat.mod_eq_of_lt (by omega)]
    rw [hm, if_neg (by omega), if_neg hx]
    exact ⟨by omega, rfl, rfl⟩
theorem rk_sign {S H x : Nat} {l X e : Int} (hv : VF S H l x X e) (hH : 0 < H) (h0 : x % S ≠ 0) : (X < 0 ∧ rkS S x < 0) ∨ (0 < X ∧ 0 < rkS S x) := by
  have h := hv.v
  have hp := vs_mono hH (show 0 < x % S by omega)
  rw [vs_zero] at hp
  rw [svS_eq] at h
  unfold rkS
  rcases dv3 X e with ⟨a, b⟩ | ⟨a, b⟩ | ⟨a, b⟩ <;> rcases dv3 (if S ≤ x then -(vs H (x % S) : Int) else (vs H (x % S) : Int)) l with ⟨a', b'⟩ | ⟨a', b'⟩ | ⟨a', b'⟩ <;> first | omega | (split at a' <;> first | omega | (rename_i hS; first | rw [if_pos hS] | rw [if_neg hS]; omega))
theorem ord_div {f p m l : Int} {S I H sd : Nat} {Be : Int} (J : Jn f p m l S I H sd Be) {x y z r q : Nat} (kx : x % S < I) (ky : y % S < I) (hz0 : z % S ≠ 0) (hzS : z < S) (hr : rkS S x ≤ rkS S y) (h1 : DivR S I H l x z r) (h2 : DivR S I H l y z q) : Ord9 S I r q := by
  have hlt := J.jm.pm.fm.lt
  have hpos := J.jm.pm.fm.pos
  have hH := J.jm.pm.hp
  have hzp : 0 < rkS S z := by unfold rkS; rw [if_neg (by omega)]; omega
  rcases h1 with ⟨a0, a1, a2⟩ | ⟨a0, X, e, Y, g, Z, V, a1, a2, a3, a4, a5⟩ <;> rcases h2 with ⟨b0, b1, b2⟩ | ⟨b0, X', e', Y', g', Z', V', b1, b2, b3, b4, b5⟩
  · exact ⟨a1, by omega, b1, by omega, by rw [rk_zero a2, rk_zero b2]; exact Int.le_refl _⟩
  · have hY : ¬ Y' < 0 := by rcases rk_sign b2 hH hz0 with ⟨_, h⟩ | ⟨h, _⟩ <;> omega
    rw [decide_eq_false hY] at b3
    obtain ⟨c1, c2, c3⟩ := rk_sg hlt b4.le b3
    refine ⟨a1, by omega, c1, by rw [c2]; exact b4.le, ?_⟩
    rw [rk_zero a2, c3]
    rw [rk_zero a0] at hr
    rcases rk_sign b1 hH b0 with ⟨_, h⟩ | ⟨h, _⟩
    · omega
    · rw [if_neg (by omega)]; omega
  · have hY : ¬ Y < 0 := by rcases rk_sign a2 hH hz0 with ⟨_, h⟩ | ⟨h, _⟩ <;> omega
    rw [decide_eq_false hY] at a3
    obtain ⟨c1, c2, c3⟩ := rk_sg hlt a4.le a3
    refine ⟨c1, by rw [c2]; exact a4.le, b1, by omega, ?_⟩
    rw [rk_zero b2, c3]
    rw [rk_zero b0] at hr
    rcases rk_sign a1 hH a0 with ⟨h, _⟩ | ⟨_, h⟩
    · rw [if_pos h]; omega
    · omega
  · have hY : ¬ Y < 0 := by rcases rk_sign a2 hH hz0 with ⟨_, h⟩ | ⟨h, _⟩ <;> omega
    obtain ⟨rfl, rfl⟩ := dv_inj a2.fm b2.fm (a2.v.trans b2.v.symm)
    rw [decide_eq_false hY] at a3 b3
    obtain ⟨c1, c2, c3⟩ := rk_sg hlt a4.le a3
    obtain ⟨d1, d2, d3⟩ := rk_sg hlt b4.le b3
    refine ⟨c1, by rw [c2]; exact a4.le, d1, by rw [d2]; exact b4.le, ?_⟩
    rw [c3, d3]
    have hs := svS_mono hH hr
    have hd : dv X e ≤ dv X' e' := by rw [a1.v, b1.v]; exact dv_le l hs
    have he : -1048576 ≤ e := by rcases a1.fm with ⟨_, h⟩ | ⟨_, h, _⟩ <;> omega
    have he' : -1048576 ≤ e' := by rcases b1.fm with ⟨_, h⟩ | ⟨_, h, _⟩ <;> omega
    have hg : g ≤ 1048576 := by rcases a2.fm with ⟨_, h⟩ | ⟨_, _, h⟩ <;> omega
    rcases rk_sign a1 hH a0 with ⟨hx, _⟩ | ⟨hx, _⟩ <;> rcases rk_sign b1 hH b0 with ⟨hy, _⟩ | ⟨hy, _⟩
    · rw [if_pos hx, if_pos hy]
      have h3 : dv (X'.natAbs : Int) e' ≤ dv (X.natAbs : Int) e := by
        rw [show ((X'.natAbs : Nat) : Int) = -X' from by omega, show ((X.natAbs : Nat) : Int) = -X from by omega, dv_neg, dv_neg]; omega
      have h4 := dv_scale (g := -g) (by omega) (by omega) (by omega) (by omega) h3
      have := b5.mono a5 b4 a4 h4
      omega
    · rw [if_pos hx, if_neg (by omega)]; omega
    · exfalso
      rcases dv3 X e with ⟨u, v⟩ | ⟨u, v⟩ | ⟨u, v⟩ <;> rcases dv3 X' e' with ⟨u', v'⟩ | ⟨u', v'⟩ | ⟨u', v'⟩ <;> omega
    · rw [if_neg (by omega), if_neg (by omega)]
      have h3 : dv (X.natAbs : Int) e ≤ dv (X'.natAbs : Int) e' := by
        rw [show ((X'.natAbs : Nat) : Int) = X' from by omega, show ((X.natAbs : Nat) : Int) = X from by omega]; exact hd
      have h4 := dv_scale (g := -g) (by omega) (by omega) (by omega) (by omega) h3
      have := a5.mono b5 a4 b4 h4
      omega
theorem ord_sqrt {f p m l : Int} {S I H sd : Nat} {Be : Int} (J : Jn f p m l S I H sd Be) {x y r q : Nat} (hr : rkS S x ≤ rkS S y) (h1 : SqrR S I H l x r) (h2 : SqrR S I H l y q) : Ord9 S I r q := by
  have hlt := J.jm.pm.fm.lt
  have hpos := J.jm.pm.fm.pos
  have hH := J.jm.pm.hp
  rcases h1 with ⟨a0, a1, a2⟩ | ⟨a0, aS, X, e, V, a1, a4, a5⟩ <;> rcases h2 with ⟨b0, b1, b2⟩ | ⟨b0, bS, X', e', V', b1, b4, b5⟩
  · exact ⟨a1, by omega, b1, by omega, by rw [rk_zero a2, rk_zero b2]; exact Int.le_refl _⟩
  · have hq := b4.le
    have hm : q % S = q := Nat.mod_eq_of_lt (by omega)
    refine ⟨a1, by omega, by omega, by omega, ?_⟩
    rw [rk_zero a2]; unfold rkS; rw [if_neg (by omega)]; omega
  · exfalso
    rw [rk_zero b0] at hr
    have : 0 < rkS S x := by unfold rkS; rw [if_neg (by omega)]; omega
    omega
  · have hq := b4.le
    have hp := a4.le
    have hm : q % S = q := Nat.mod_eq_of_lt (by omega)
    have hn : r % S = r := Nat.mod_eq_of_lt (by omega)
    refine ⟨by omega, by omega, by omega, by omega, ?_⟩
    unfold rkS
    rw [if_neg (by omega), if_neg (by omega), hm, hn]
    have hs := svS_mono hH hr
    have hd : dv X e ≤ dv X' e' := by rw [a1.v, b1.v]; exact dv_le l hs
    have hX : 0 < X := by rcases rk_sign a1 hH a0 with ⟨_, h⟩ | ⟨h, _⟩; (· unfold rkS at h; rw [if_neg (by omega)] at h; omega); exact h
    have hX' : 0 < X' := by rcases rk_sign b1 hH b0 with ⟨_, h⟩ | ⟨h, _⟩; (· unfold rkS at h; rw [if_neg (by omega)] at h; omega); exact h
    have he : -1048576 ≤ e := by rcases a1.fm with ⟨_, h⟩ | ⟨_, h, _⟩ <;> omega
    have he' : -1048576 ≤ e' := by rcases b1.fm with ⟨_, h⟩ | ⟨_, h, _⟩ <;> omega
    have h3 : (X.natAbs : Int) * ((2 ^ (e + 2 * 4194304).toNat : Nat) : Int) ≤ (X'.natAbs : Int) * ((2 ^ (e' + 2 * 4194304).toNat : Nat) : Int) := by
      rw [show ((X'.natAbs : Nat) : Int) = X' from by omega, show ((X.natAbs : Nat) : Int) = X from by omega]
      have h4 := dv_scale (g := 4194304) (by omega) (by omega) (by omega) (by omega) hd
      unfold dv at h4
      rw [show e + 2 * 4194304 = e + 4194304 + 4194304 from by omega, show e' + 2 * 4194304 = e' + 4194304 + 4194304 from by omega]
      exact h4
    have := a5.mono b5 a4 b4 h3
    omega
set_option maxRecDepth 20000 in
set_option maxHeartbeats 8000000 in
theorem root_no {f p m l : Int} {S I H sd : Nat} {Be : Int} {Q : Nat} (J : Jo f p m l S I H sd Be Q) (s1 : Bool) (w : World) :
    Calls Tryz.prog 53 #[.int .i64 f, VNo s1] w fun en w' => en = .returned (U (patO l sd Be S I Q (ono s1))) ∧ Below w.heap.size w w' := by
  have HJO : Hid (Jo f p m l S I H sd Be Q) := J
  clear J
  have hanan := ta_no_nan
  have hainf := ta_no_inf
  have hano := ta_no_no
  have hafin := ta_no_fin
  go_enter Tryz.func53, Tryz.ntmps53
  go_wp2_with fail
  obtain ⟨W0, hW0⟩ : ∃ W0, W0 = (w.alloc (.cells #[.bool s1] 94)) := ⟨_, rfl⟩
  have Xx : Hid (B1s W0 (w.heap.size) (.bool s1)) := by rw [hW0]; exact ⟨by go_simp, by go_simp⟩
  have hb0 : Below w.heap.size w W0 := by rw [hW0]; exact below1 w _
  rw [← hW0]
  clear hW0
  have hbw : Below w.heap.size w w := Below.refl _ _
  obtain ⟨gx, hgx⟩ : ∃ g, g = w.heap.size := ⟨_, rfl⟩
  have HGx : Hid (w.heap.size ≤ gx) := by rw [hgx]; show _ ≤ _; omega
  rw [← hgx] at Xx
  try rw [← hgx]
  clear hgx
  replace hbw := Below.on hbw hb0
  clear hb0
  obtain ⟨cx0, fx0⟩ := Xx.out
  have hnex : gx < W0.heap.size := World.block_lt_of_cell? W0 _ cx0
  go_wp2_with fail
  clear cx0 fx0 hnex
  refine (pat_no HJO.out.jq s1 _).mono ?_
  rintro e v1 ⟨rfl, hb1⟩
  obtain ⟨r, hr⟩ : ∃ r, r = patO l sd Be S I Q (ono s1) := ⟨_, rfl⟩
  rw [show (if s1 = true then S + 0 else 0) = r from hr.symm]
  have HPR : Hid (r = patO l sd Be S I Q (ono s1)) := hr
  clear hr
  replace Xx : Hid (B1s v1 gx (.bool s1)) := Xx.out.below hb1
  replace hbw := Below.on hbw hb1
  clear hb1
  go_wp2_with fail
  go_ret
  exact ⟨by rw [HPR.out]; rfl, hbw⟩
set_option maxRecDepth 20000 in
set_option maxHeartbeats 8000000 in
theorem soft_sqrt_z {f p m l : Int} {S I H sd : Nat} {Be : Int} {Q : Nat} (J : Jo f p m l S I H sd Be Q) {a : Nat} (ha : a < 2 * S ∧ a % S = 0) (w : World) (hT : Tab w) :
    Calls Tryz.prog 31 #[.int .i64 f, U a] w fun en w' => ∃ s, en = .returned (.tuple #[U (patO l sd Be S I Q (ono s)), .int .i64 0]) ∧ Below w.heap.size w w' := by
  have HJO : Hid (Jo f p m l S I H sd Be Q) := J
  have HA : Hid (a < 2 * S ∧ a % S = 0) := ha
  have TB : Hid (Tab w) := hT
  obtain ⟨s1, hs1⟩ : ∃ s1, s1 = decide (S ≤ a) := ⟨_, rfl⟩
  have HS1 : Hid (decide (S ≤ a) = s1) := hs1.symm
  clear J ha hT hs1
  go_enter Tryz.func31, Tryz.ntmps31
  go_wp2_with fail
  have hb0 := below1 w (.cells #[U a] 22)
  refine (operands1 HJO.out HA.out.1 (by go_simp) (TB.out.below hb0)).mono ?_
  rintro e9 v1 ⟨go, va, oa, rfl, hgo, hx, hva, hoa, hb1⟩
  have hbw := Below.on hb0 hb1
  obtain rfl := hoa.no HA.out.2 (by have := HJO.out.jq.jn.jm.pm.fm.pos; omega)
  rw [HS1.out] at hva
  obtain rfl := hva.no
  have Xo : Hid (B1s v1 go (VNo s1)) := hx
  clear hb0 hb1 hx hva hoa hgo
  obtain ⟨co0, fo0⟩ := Xo.out
  have hneo : go < v1.heap.size := World.block_lt_of_cell? v1 _ co0
  go_wp2_with fail
  clear co0 fo0 hneo
  refine (root_no HJO.out s1 _).mono ?_
  rintro e v2 ⟨rfl, hb2⟩
  obtain ⟨r, hr⟩ : ∃ r, r = patO l sd Be S I Q (ono s1) := ⟨_, rfl⟩
  rw [← hr]
  have HPR : Hid (r = patO l sd Be S I Q (ono s1)) := hr
  clear hr
  replace Xo : Hid (B1s v2 go (VNo s1)) := Xo.out.below hb2
  replace hbw := Below.on hbw hb2
  clear hb2
  go_wp2_with fail
  go_ret2
  exact ⟨s1, by rw [HPR.out]; rfl, hbw⟩
set_option maxRecDepth 20000 in
set_option maxHeartbeats 8000000 in
theorem soft_div_z {f p m l : Int} {S I H sd : Nat} {Be : Int} {Q : Nat} (J : Jo f p m l S I H sd Be Q) {a b : Nat} (ha : a < 2 * S ∧ a % S = 0) (hb : b < 2 * S ∧ b % S ≠ 0 ∧ b % S < I) (w : World) (hT : Tab w) :
    Calls Tryz.prog 27 #[.int .i64 f, U a, U b] w fun en w' => ∃ s, en = .returned (.tuple #[U (patO l sd Be S I Q (ono s)), .int .i64 0]) ∧ Below w.heap.size w w' := by
  have HJO : Hid (Jo f p m l S I H sd Be Q) := J
  have HA : Hid (a < 2 * S ∧ a % S = 0) := ha
  have HB : Hid (b < 2 * S ∧ b % S ≠ 0 ∧ b % S < I) := hb
  have TB : Hid (Tab w) := hT
  obtain ⟨s1, hs1⟩ : ∃ s1, s1 = decide (S ≤ a) := ⟨_, rfl⟩
  have HS1 : Hid (decide (S ≤ a) = s1) := hs1.symm
  clear J ha hb hT hs1
  go_enter Tryz.func27, Tryz.ntmps27
  go_wp2_with fail
  have hb0 := below1 w (.cells #[U a, U b] 22)
  refine (operands2 HJO.out HA.out.1 HB.out.1 ⟨by go_simp, by go_simp⟩ (TB.out.below hb0)).mono ?_
  rintro e9 v1 ⟨go, va, vb, oa, ob, rfl, hgo, hx, hva, hvb, hoa, hob, hb1⟩
  have hbw := Below.on hb0 hb1
  obtain rfl := hoa.no HA.out.2 (by have := HJO.out.jq.jn.jm.pm.fm.pos; omega)
  rw [HS1.out] at hva
  obtain rfl := hva.no
  obtain ⟨y, g, hv2, hy0, rfl⟩ := hob.fin HB.out.2.1 HB.out.2.2
  obtain ⟨s2, p2, m2, c2, rfl, hd2⟩ := hvb.fin
  have Xo : Hid (Box v1 go (VNo s1) (VFin s2 p2 m2 c2 g)) := hx
  clear hb0 hb1 hx hva hvb hoa hob hgo hv2 hy0 hd2
  obtain ⟨co0, co1, fo0, fo1⟩ := Xo.out
  have hneo := Xo.out.lt
  go_wp2_with fail
  clear co0 co1 fo0 fo1 hneo
  obtain ⟨W2, hW2⟩ : ∃ W1, W1 = v1.drew := ⟨_, rfl⟩
  have hbd : Below v1.heap.size v1 W2 := by rw [hW2]; exact bDrew1 (Below.refl _ _)
  replace Xo : Hid _ := Xo.out.below hbd
  replace hbw := Below.on hbw hbd
  clear hbd
  have HJ : Hid ((fun W' : World => W'.cell? ⟨go, 0, none⟩ = some (VNo s1) ∧ W'.cell? ⟨go, 1, none⟩ = some (VFin s2 p2 m2 c2 g)) W2) := ⟨Xo.out.c0, Xo.out.c1⟩
  refine wp_region_J (fun W' => W'.cell? ⟨go, 0, none⟩ = some (VNo s1) ∧ W'.cell? ⟨go, 1, none⟩ = some (VFin s2 p2 m2 c2 g)) (by kernel_rfl) ?_
  rw [← hW2]
  clear hW2
  refine wpJ_tk 0 (v := ?v1x0) rfl ?hy1x0 HJ.out ?_
  case hy1x0 => (intro W' hJ; obtain ⟨j0, j1⟩ := hJ; go_simp; first | done | with_reducible rfl)
  refine wpJ_tk 1 (v := ?v2x1) rfl ?hy2x1 HJ.out ?_
  case hy2x1 => (intro W' hJ; obtain ⟨j0, j1⟩ := hJ; go_simp; first | done | with_reducible rfl)
  refine wpJ_tk 2 (v := ?v3x2) rfl ?hy3x2 HJ.out ?_
  case hy3x2 => (intro W' hJ; obtain ⟨j0, j1⟩ := hJ; go_simp; first | done | with_reducible rfl)
  refine wpJ_tk 3 (v := ?v4x3) rfl ?hy4x3 HJ.out ?_
  case hy4x3 => (intro W' hJ; obtain ⟨j0, j1⟩ := hJ; go_simp; first | done | with_reducible rfl)
  refine wpJ_tk 4 (v := ?v5x4) rfl ?hy5x4 HJ.out ?_
  case hy5x4 => (intro W' hJ; obtain ⟨j0, j1⟩ := hJ; go_simp; first | done | with_reducible rfl)
  go_simp
  refine wpJ_tk 5 (v := ?v6x5) rfl ?hy6x5 HJ.out ?_
  case hy6x5 => (intro W' hJ; obtain ⟨j0, j1⟩ := hJ; go_simp; first | done | with_reducible rfl)
  refine wpJ_tk 6 (v := ?v7x6) rfl ?hy7x6 HJ.out ?_
  case hy7x6 => (intro W' hJ; obtain ⟨j0, j1⟩ := hJ; go_simp; first | done | with_reducible rfl)
  refine wpJ_one (i := 7) (by kernel_rfl) rfl (by kernel_rfl) (fun KJ hK => ?_)
  go_simp
  refine (quot_no_fin HJO.out s1 s2 p2 m2 c2 g _).mono ?_
  rintro e v2 ⟨rfl, hb2⟩
  obtain ⟨r, hr⟩ : ∃ r, r = patO l sd Be S I Q (ono (s1 != s2)) := ⟨_, rfl⟩
  rw [← hr]
  have HPR : Hid (r = patO l sd Be S I Q (ono (s1 != s2))) := hr
  clear hr
  replace Xo : Hid _ := Xo.out.below hb2
  replace hbw := Below.on hbw hb2
  clear hb2
  clear HJ
  have HJ : Hid ((fun W' : World => W'.cell? ⟨go, 0, none⟩ = some (VNo s1) ∧ W'.cell? ⟨go, 1, none⟩ = some (VFin s2 p2 m2 c2 g)) v2) := ⟨Xo.out.c0, Xo.out.c1⟩
  refine hK _ _ HJ.out ?_
  clear hK
  refine wpJ_tk 8 (v := ?v8x8) rfl ?hy8x8 HJ.out ?_
  case hy8x8 => (intro W' hJ; obtain ⟨j0, j1⟩ := hJ; go_simp; first | done | with_reducible rfl)
  refine wpJ_tk 9 (v := ?v9x9) rfl ?hy9x9 HJ.out ?_
  case hy9x9 => (intro W' hJ; obtain ⟨j0, j1⟩ := hJ; go_simp; first | done | with_reducible rfl)
  refine wpJ_done (by kernel_rfl) ?_ _
  clear HJ
  go_wp2_with fail
  go_ret2
  exact ⟨s1 != s2, by rw [HPR.out]; rfl, hbw⟩
theorem no_pat {l : Int} {sd : Nat} {Be : Int} {S I Q : Nat} (s : Bool) (hS : 0 < S) : patO l sd Be S I Q (ono s) < 2 * S ∧ patO l sd Be S I Q (ono s) % S = 0 := by
  rw [patO_no]
  cases s
  · exact ⟨by simp; omega, by simp⟩
  · exact ⟨by simp; omega, by simp⟩
theorem div_is {f p m l : Int} {S I H sd : Nat} {Be : Int} {Q : Nat} (J : Jo f p m l S I H sd Be Q) (hmd : m = (sd : Int) + 1) {a b : Nat} (ha : a < 2 * S ∧ a % S < I) (hb : b < 2 * S ∧ b % S ≠ 0 ∧ b % S < I) (w : World) (hT : Tab w) : Calls Tryz.prog 27 #[.int .i64 f, U a, U b] w fun en w' => ∃ r, en = .returned (.tuple #[U r, .int .i64 0]) ∧ DivR S I H l a b r ∧ Below w.heap.size w w' := by
  have hpos := J.jq.jn.jm.pm.fm.pos
  have hlt := J.jq.jn.jm.pm.fm.lt
  by_cases h0 : a % S = 0
  · refine (soft_div_z J ⟨ha.1, h0⟩ hb w hT).mono ?_
    rintro en w' ⟨s, h1, h2⟩
    exact ⟨_, h1, .inl ⟨h0, no_pat s (by omega)⟩, h2⟩
  · refine (soft_div_ff J hmd ⟨ha.1, h0, ha.2⟩ hb w hT).mono ?_
    rintro en w' ⟨x, e, y, g, r, Z, V, h1, h2, h3, h4, h5, h6, h7⟩
    exact ⟨r, h1, .inr ⟨h0, x, e, y, g, Z, V, h2, h3, h4, h5, h6⟩, h7⟩
theorem sqrt_is {f p m l : Int} {S I H sd : Nat} {Be : Int} {Q : Nat} (J : Jo f p m l S I H sd Be Q) (hmd : m = (sd : Int) + 1) {a : Nat} (ha : a < 2 * S ∧ a % S < I) (hs : 0 ≤ rkS S a) (w : World) (hT : Tab w) : Calls Tryz.prog 31 #[.int .i64 f, U a] w fun en w' => ∃ r, en = .returned (.tuple #[U r, .int .i64 0]) ∧ SqrR S I H l a r ∧ Below w.heap.size w w' := by
  have hpos := J.jq.jn.jm.pm.fm.pos
  have hlt := J.jq.jn.jm.pm.fm.lt
  by_cases h0 : a % S = 0
  · refine (soft_sqrt_z J ⟨ha.1, h0⟩ w hT).mono ?_
    rintro en w' ⟨s, h1, h2⟩
    exact ⟨_, h1, .inl ⟨h0, no_pat s (by omega)⟩, h2⟩
  · have haS : a < S := by
      unfold rkS at hs
      by_cases h : S ≤ a
      · rw [if_pos h] at hs; omega
      · omega
    refine (soft_sqrt_f J hmd ⟨haS, h0, ha.2⟩ w hT).mono ?_
    rintro en w' ⟨x, e, Z, V, h1, h2, h3, h4, h5⟩
    exact ⟨Z, h1, .inr ⟨h0, haS, x, e, V, h2, h3, h4⟩, h5⟩
theorem abs_is {f p m l : Int} {S I H sd : Nat} {Be : Int} {Q : Nat} (J : Jo f p m l S I H sd Be Q) {a : Nat} (ha : a < 2 * S ∧ a % S < I) (w : World) (hT : Tab w) : Calls Tryz.prog 30 #[.int .i64 f, U a] w fun en w' => en = .returned (.tuple #[U (a % S), .int .i64 0]) ∧ Below w.heap.size w w' := by
  have hlt := J.jq.jn.jm.pm.fm.lt
  by_cases h0 : a % S = 0
  · rw [h0]; exact soft_abs_z J ⟨ha.1, h0⟩ w hT
  · refine (soft_abs_f J ⟨ha.1, h0, ha.2⟩ w hT).mono ?_
    rintro en w' ⟨x, e, h1, h2, h3, h4⟩
    refine ⟨?_, h4⟩
    have hm : a % S % S = a % S := Nat.mod_eq_of_lt (by omega)
    rw [h1, patO_fin, rn_own J.jq.jn (b := a % S) (by omega) (by rw [hm]; exact h0) (by rw [hm]; exact ha.2) h2.fm.lo4 ?_]
    rw [dv_abs6, h2.v, svS_eq, svS_eq, hm, if_neg (by omega : ¬ S ≤ a % S), ← dv_abs6]
    congr 1
    split <;> omega
end Go.Proofs.YtaffhffefedggaaGreatDoor
