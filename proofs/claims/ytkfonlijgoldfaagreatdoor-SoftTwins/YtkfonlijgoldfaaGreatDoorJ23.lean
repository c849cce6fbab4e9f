import Derived.Test.YtkfonlijgoldfaaGreatDoorJ22
import Derived.Test.YtkfonlijgoldfaaGreatDoorJ16
import Derived.Test.YtkfonlijgoldfaaGreatDoorJ18
import Derived.Test.YtkfonlijgoldfaaGreatDoorBs4
import Derived.Test.YtkfonlijgoldfaaGreatDoorJ17
namespace Go.Proofs.YtkfonlijgoldfaaGreatDoor
open Go.RowKit Go.Shelf

theorem DN.abs {w : World} {s : Bool} {p : Option Addr} {m c : Nat} {e x : Int} (h : DN w s p m c e x) : DN w false p m c e (x.natAbs : Int) := by
  obtain ⟨xs, hx⟩ := h.zn.ex
  refine ⟨⟨⟨xs, hx⟩, (decide_eq_false (by omega)).symm⟩, ?_⟩
  rcases h.fm with ⟨h1, h2⟩ | ⟨h1, h2⟩
  · exact .inl ⟨by omega, h2⟩
  · exact .inr ⟨by omega, h2⟩
set_option maxRecDepth 20000 in
set_option maxHeartbeats 8000000 in
theorem unord2 {t1 t2 : TypeId} {x1 x2 : Value} (h1 : (∀ w, Sem.run Tryz.prog (Instr.typeAssert (.iface t1 x1) 45 63 true) w = .ok (.tuple #[.agg #[], .bool false]) w)) (h2 : (∀ w, Sem.run Tryz.prog (Instr.typeAssert (.iface t2 x2) 45 63 true) w = .ok (.tuple #[.agg #[], .bool false]) w)) {go : Nat} {w : World} (hx : Box w go (.iface t1 x1) (.iface t2 x2)) :
    Calls Tryz.prog 25 #[.slice (some ⟨go, 0, none⟩) 2 2] w fun en w' => en = .returned (.bool false) ∧ Below w.heap.size w w' := by
  have HX : Hid (Box w go (.iface t1 x1) (.iface t2 x2)) := hx
  clear hx
  go_enter Tryz.func25, Tryz.ntmps25
  go_wp2_with fail
  go_loopg [9] 2 (fun gk iv wr => ∃ k : Nat, k + gk = 2 ∧ iv = .int .i64 k ∧ Box wr go (.iface t1 x1) (.iface t2 x2) ∧ Below w.heap.size w wr)
  case atStart => exact ⟨0, by omega, rfl, HX.out, Below.refl _ _⟩
  case round =>
    obtain ⟨k, hkg, rfl, hx, hbw⟩ := hrel
    have HX1 : Hid (Box wr go (.iface t1 x1) (.iface t2 x2)) := hx
    cases gk with
    | zero =>
      obtain rfl : k = 2 := by omega
      clear hx
      go_wp2_with fail
      go_ret
      exact ⟨rfl, hbw⟩
    | succ gg =>
      obtain ⟨c0, c1, f0, f1⟩ := hx
      rcases Nat.eq_zero_or_pos k with hk0 | hk0
      · subst hk0
        go_wp2_with fail
        go_roundg gg
        case measure => omega
        case rel => exact ⟨1, by omega, by go_num, HX1.out.below (below1 _ _), Below.on hbw (below1 _ _)⟩
      · obtain rfl : k = 1 := by omega
        go_wp2_with fail
        go_roundg gg
        case measure => omega
        case rel => exact ⟨2, by omega, by go_num, HX1.out.below (below1 _ _), Below.on hbw (below1 _ _)⟩
set_option maxRecDepth 20000 in
set_option maxHeartbeats 8000000 in
theorem soft_cmp_ff {f p m l : Int} {S I H sd : Nat} {Be : Int} {Q : Nat} (J : Jo f p m l S I H sd Be Q) {a b : Nat} (ha : a < 2 * S ∧ a % S ≠ 0 ∧ a % S < I) (hb : b < 2 * S ∧ b % S ≠ 0 ∧ b % S < I) (w : World) (hT : Tab w) :
    Calls Tryz.prog 17 #[.int .i64 f, U a, U b] w fun en w' => en = .returned (.tuple #[.int .i64 (cmpI (rkS S a) (rkS S b)), .int .i64 0]) ∧ Below w.heap.size w w' := by
  have HJO : Hid (Jo f p m l S I H sd Be Q) := J
  have HA : Hid (a < 2 * S ∧ a % S ≠ 0 ∧ a % S < I) := ha
  have HB : Hid (b < 2 * S ∧ b % S ≠ 0 ∧ b % S < I) := hb
  have TB : Hid (Tab w) := hT
  obtain ⟨ra, hra⟩ : ∃ ra, ra = rkS S a := ⟨_, rfl⟩
  obtain ⟨rb, hrb⟩ : ∃ rb, rb = rkS S b := ⟨_, rfl⟩
  obtain ⟨rc, hrc⟩ : ∃ rc, rc = cmpI ra rb := ⟨_, rfl⟩
  rw [← hra, ← hrb, ← hrc]
  have HRA : Hid (ra = rkS S a ∧ rb = rkS S b ∧ rc = cmpI ra rb) := ⟨hra, hrb, hrc⟩
  clear J ha hb hT hra hrb hrc
  go_enter Tryz.func17, Tryz.ntmps17
  go_wp2_with fail
  have hb0 := below1 w (.cells #[U a, U b] 22)
  refine (operands2 HJO.out HA.out.1 HB.out.1 ⟨by go_simp, by go_simp⟩ (TB.out.below hb0)).mono ?_
  rintro e9 v1 ⟨go, va, vb, oa, ob, rfl, hgo, hx, hva, hvb, hoa, hob, hb1⟩
  have hbw := Below.on hb0 hb1
  obtain ⟨x, e, hv1, hx0, rfl⟩ := hoa.fin HA.out.2.1 HA.out.2.2
  obtain ⟨y, g, hv2, hy0, rfl⟩ := hob.fin HB.out.2.1 HB.out.2.2
  obtain ⟨s1, p1, m1, c1, rfl, hd1⟩ := hva.fin
  obtain ⟨s2, p2, m2, c2, rfl, hd2⟩ := hvb.fin
  have Xo : Hid (Box v1 go (VFin s1 p1 m1 c1 e) (VFin s2 p2 m2 c2 g)) := hx
  clear hb0 hb1 hx hva hvb hoa hob hgo hv1 hv2 hx0 hy0 hd1 hd2
  obtain ⟨co0, co1, fo0, fo1⟩ := Xo.out
  have hneo := Xo.out.lt
  go_wp2_with fail
  clear co0 co1 fo0 fo1 hneo
  refine (unord2 (fun w => ta_fin_nan _ w) (fun w => ta_fin_nan _ w) Xo.out).mono ?_
  rintro e v2 ⟨rfl, hb2⟩
  replace Xo : Hid _ := Xo.out.below hb2
  replace hbw := Below.on hbw hb2
  clear hb2
  go_wp2_with fail
  refine (rank_ok HJO.out.jq.jn.jm.pm.fm a HA.out.1 (Nat.le_of_lt HA.out.2.2) _).mono ?_
  rintro e v3 ⟨rfl, hb3⟩
  rw [show (if S ≤ a then -((a % S : Nat) : Int) else ((a % S : Nat) : Int)) = ra from HRA.out.1.symm]
  replace Xo : Hid _ := Xo.out.below hb3
  replace hbw := Below.on hbw hb3
  clear hb3
  go_wp2_with fail
  refine (rank_ok HJO.out.jq.jn.jm.pm.fm b HB.out.1 (Nat.le_of_lt HB.out.2.2) _).mono ?_
  rintro e v4 ⟨rfl, hb4⟩
  rw [show (if S ≤ b then -((b % S : Nat) : Int) else ((b % S : Nat) : Int)) = rb from HRA.out.2.1.symm]
  replace Xo : Hid _ := Xo.out.below hb4
  replace hbw := Below.on hbw hb4
  clear hb4
  go_wp2_with fail
  refine (ccmp ra rb _).mono ?_
  rintro e v5 ⟨rfl, hb5⟩
  rw [← HRA.out.2.2]
  replace Xo : Hid _ := Xo.out.below hb5
  replace hbw := Below.on hbw hb5
  clear hb5
  go_wp2_with fail
  go_ret2
  exact ⟨rfl, hbw⟩
set_option maxRecDepth 20000 in
set_option maxHeartbeats 8000000 in
theorem soft_abs_f {f p m l : Int} {S I H sd : Nat} {Be : Int} {Q : Nat} (J : Jo f p m l S I H sd Be Q) {a : Nat} (ha : a < 2 * S ∧ a % S ≠ 0 ∧ a % S < I) (w : World) (hT : Tab w) :
    Calls Tryz.prog 16 #[.int .i64 f, U a] w fun en w' => ∃ x e, en = .returned (.tuple #[U (patO l sd Be S I Q (ofin (x.natAbs : Int) e)), .int .i64 0]) ∧ VF S H l a x e ∧ x ≠ 0 ∧ Below w.heap.size w w' := by
  have HJO : Hid (Jo f p m l S I H sd Be Q) := J
  have HA : Hid (a < 2 * S ∧ a % S ≠ 0 ∧ a % S < I) := ha
  have TB : Hid (Tab w) := hT
  clear J ha hT
  go_enter Tryz.func16, Tryz.ntmps16
  go_wp2_with fail
  have hb0 := below1 w (.cells #[U a] 22)
  refine (operands1 HJO.out HA.out.1 (by go_simp) (TB.out.below hb0)).mono ?_
  rintro e9 v1 ⟨go, va, oa, rfl, hgo, hx, hva, hoa, hb1⟩
  have hbw := Below.on hb0 hb1
  obtain ⟨x, e, hv1, hx0, rfl⟩ := hoa.fin HA.out.2.1 HA.out.2.2
  obtain ⟨s1, p1, m1, c1, rfl, hd1⟩ := hva.fin
  have Xo : Hid (B1s v1 go (VFin s1 p1 m1 c1 e)) := hx
  have HV : Hid (VF S H l a x e ∧ x ≠ 0) := ⟨hv1, hx0⟩
  have D1 : Hid (DN v1 false p1 m1 c1 e (x.natAbs : Int)) := hd1.abs
  have ms := meth_signed_fin
  have ns := nila_signed_fin
  clear hb0 hb1 hx hva hoa hgo hv1 hx0 hd1
  obtain ⟨co0, fo0⟩ := Xo.out
  have hneo : go < v1.heap.size := World.block_lt_of_cell? v1 _ co0
  go_wp2_with fail
  clear co0 fo0 hneo
  refine (signed_fin false _).mono ?_
  rintro e v2 ⟨rfl, hb2⟩
  replace Xo : Hid (B1s v2 go (VFin s1 p1 m1 c1 e)) := Xo.out.below hb2
  replace D1 : Hid _ := D1.out.below hb2
  replace hbw := Below.on hbw hb2
  clear hb2
  clear ms ns
  have me := meth_pattern_fin
  go_wp2_with fail
  refine (pat_fin HJO.out.jq D1.out (TB.out.below hbw)).mono ?_
  rintro e v3 ⟨rfl, hb3⟩
  rw [← patO_fin l sd Be S I Q]
  obtain ⟨r, hr⟩ : ∃ r, r = patO l sd Be S I Q (ofin (x.natAbs : Int) e) := ⟨_, rfl⟩
  rw [← hr]
  have HPR : Hid (r = patO l sd Be S I Q (ofin (x.natAbs : Int) e)) := hr
  clear hr
  replace Xo : Hid (B1s v3 go (VFin s1 p1 m1 c1 e)) := Xo.out.below hb3
  replace D1 : Hid _ := D1.out.below hb3
  replace hbw := Below.on hbw hb3
  clear hb3
  go_wp2_with fail
  go_ret2
  exact ⟨x, e, by rw [HPR.out]; rfl, HV.out.1, HV.out.2, hbw⟩
end Go.Proofs.YtkfonlijgoldfaaGreatDoor

namespace Go.Proofs.YtkfonlijgoldfaaGreatDoor
open Go.RowKit Go.Shelf

theorem vf_lit9 {b q man : Nat} {zo eo : Int} (hb : b < 9218868437227405312) (hq : b / 4503599627370496 - 1 = q) (hm : b - q * 4503599627370496 = man) (hf : DFm zo eo) (hv : dv zo eo = dv (man : Int) (-1074 + (q : Int))) : VF 9223372036854775808 4503599627370496 (-1074) b zo eo := by
  have h1 : b % 9223372036854775808 = b := Nat.mod_eq_of_lt (by omega)
  obtain ⟨z1, e1, v1, v2⟩ := vf_ex (b := b) pm_64 (by omega)
  rw [h1, if_neg (by omega), hq, hm, ← hv] at v2
  obtain ⟨rfl, rfl⟩ := dv_inj v1.fm hf v2
  exact v1
theorem vf_one : VF 9223372036854775808 4503599627370496 (-1074) 4607182418800017408 1 0 := vf_lit9 (q := 1022) (man := 4503599627370496) (by decide) (by decide) (by decide) (.inr (by decide)) (by rw [dv_shift (z := 1) (e := 0) (f := -52) (by decide) (by decide)]; rfl)
theorem vf_two : VF 9223372036854775808 4503599627370496 (-1074) 4611686018427387904 1 1 := vf_lit9 (q := 1023) (man := 4503599627370496) (by decide) (by decide) (by decide) (.inr (by decide)) (by rw [dv_shift (z := 1) (e := 1) (f := -51) (by decide) (by decide)]; rfl)
theorem vf_three9 : VF 9223372036854775808 4503599627370496 (-1074) 4613937818241073152 3 0 := vf_lit9 (q := 1023) (man := 6755399441055744) (by decide) (by decide) (by decide) (.inr (by decide)) (by rw [dv_shift (z := 3) (e := 0) (f := -51) (by decide) (by decide)]; rfl)
theorem vf_four : VF 9223372036854775808 4503599627370496 (-1074) 4616189618054758400 1 2 := vf_lit9 (q := 1024) (man := 4503599627370496) (by decide) (by decide) (by decide) (.inr (by decide)) (by rw [dv_shift (z := 1) (e := 2) (f := -50) (by decide) (by decide)]; rfl)
theorem vf_mone : VF 9223372036854775808 4503599627370496 (-1074) 13830554455654793216 (-1) 0 := by
  have h := (xs_neg (b := 4607182418800017408) (by decide) vf_one).1
  rwa [show xsS 9223372036854775808 4607182418800017408 = 13830554455654793216 from by decide] at h
theorem vf_one32 : VF 2147483648 8388608 (-149) 1065353216 1 0 := by
  obtain ⟨z1, e1, v1, v2⟩ := vf_ex (b := 1065353216) pm_32 (by decide)
  rw [if_neg (by decide), show 1065353216 % 2147483648 / 8388608 - 1 = 126 from by decide, show 1065353216 % 2147483648 - 126 * 8388608 = 8388608 from by decide] at v2
  have h5 : dv 1 0 = dv ((8388608 : Nat) : Int) (-149 + ((126 : Nat) : Int)) := by rw [dv_shift (z := 1) (e := 0) (f := -23) (by decide) (by decide)]; rfl
  obtain ⟨rfl, rfl⟩ := dv_inj v1.fm (.inr (by decide)) (v2.trans h5.symm)
  exact v1
theorem opb_is {S I H : Nat} {l : Int} {b : Nat} {o : Opd} {x e : Int} (h : OpB S I H l b o) (h0 : b % S ≠ 0) (h1 : b % S < I) (hv : VF S H l b x e) : o = ofin x e := by
  obtain ⟨y, g, h2, _, h3⟩ := h.fin h0 h1
  obtain ⟨rfl, rfl⟩ := dv_inj hv.fm h2.fm (hv.v.trans h2.v.symm)
  exact h3
theorem sum_lit {x e y f z g : Int} (hf : DFm z g) (h0 : z ≠ 0) (hv : dv z g = dv x e + dv y f) : SumO (ofin x e) (ofin y f) (ofin z g) :=
  .inr (.inr (.inr (.inr (.inr (.inr ⟨⟨rfl, rfl⟩, .inr ⟨z, g, hf, h0, hv, rfl⟩⟩)))))
theorem mul_lit {x e y f z g : Int} (hf : DFm z g) (h0 : z ≠ 0) (hv : dv z g = dv (x * y) (e + f)) : MulO (ofin x e) (ofin y f) (ofin z g) :=
  .inr (.inr (.inr ⟨⟨rfl, rfl⟩, z, g, hf, h0, hv, rfl⟩))
theorem dv11 : dv 1 1 = dv 1 0 + dv 1 0 := by rw [← dv_add, dv_shift (z := 1) (e := 1) (f := 0) (by decide) (by decide)]; rfl
theorem dv12 : dv 1 2 = dv 1 1 + dv 1 1 := by rw [← dv_add, dv_shift (z := 1) (e := 2) (f := 1) (by decide) (by decide)]; rfl
theorem dv31 : dv 1 1 = dv 3 0 + dv (-1) 0 := by rw [← dv_add, dv_shift (z := 1) (e := 1) (f := 0) (by decide) (by decide)]; rfl
theorem aw_add (w : World) (hT : Tab w) : Calls Tryz.prog 6 #[.int .i64 64, .int .u64 4607182418800017408, .int .u64 4607182418800017408] w fun en w' => en = .returned (.tuple #[.int .u64 4611686018427387904, .int .i64 0]) ∧ Below w.heap.size w w' := by
  refine Calls.mono (soft_add jo_64 (by decide : 4607182418800017408 < 2 * 9223372036854775808) (by decide : 4607182418800017408 < 2 * 9223372036854775808) w hT) ?_
  rintro en w' ⟨oa, ob, c, rfl, ha, hb, hs, _, hbw⟩
  have qa := opb_is ha (by decide) (by decide) vf_one
  have qb := opb_is hb (by decide) (by decide) vf_one
  subst qa qb
  have qc := hs.uniq (sum_lit (.inr (by decide)) (by decide) dv11)
  subst qc
  exact ⟨by rw [patO_fin, show rnp (-1074) 52 1024 9223372036854775808 9218868437227405312 1 1 = 4611686018427387904 from by decide +kernel]; rfl, hbw⟩
theorem aw_mul (w : World) (hT : Tab w) : Calls Tryz.prog 7 #[.int .i64 64, .int .u64 4611686018427387904, .int .u64 4611686018427387904] w fun en w' => en = .returned (.tuple #[.int .u64 4616189618054758400, .int .i64 0]) ∧ Below w.heap.size w w' := by
  refine Calls.mono (soft_mul jo_64 (by decide : 4611686018427387904 < 2 * 9223372036854775808) (by decide : 4611686018427387904 < 2 * 9223372036854775808) w hT) ?_
  rintro en w' ⟨oa, ob, c, rfl, ha, hb, hs, _, hbw⟩
  have qa := opb_is ha (by decide) (by decide) vf_two
  have qb := opb_is hb (by decide) (by decide) vf_two
  subst qa qb
  have qc := hs.uniq (mul_lit (z := 1) (g := 2) (.inr (by decide)) (by decide) rfl)
  subst qc
  exact ⟨by rw [patO_fin, show rnp (-1074) 52 1024 9223372036854775808 9218868437227405312 1 2 = 4616189618054758400 from by decide +kernel]; rfl, hbw⟩
theorem aw_sub (w : World) (hT : Tab w) : Calls Tryz.prog 9 #[.int .i64 64, .int .u64 4613937818241073152, .int .u64 4607182418800017408] w fun en w' => en = .returned (.tuple #[.int .u64 4611686018427387904, .int .i64 0]) ∧ Below w.heap.size w w' := by
  refine Calls.mono (soft_sub jo_64 (by decide : 4613937818241073152 < 2 * 9223372036854775808) (by decide : 4607182418800017408 < 2 * 9223372036854775808) w hT) ?_
  rintro en w' ⟨oa, ob, c, rfl, ha, hb, hs, _, hbw⟩
  have qa := opb_is ha (by decide) (by decide) vf_three9
  have qb := opb_is hb (by decide) (by decide) vf_one
  subst qa qb
  rw [negO_fin] at hs
  have qc := hs.uniq (sum_lit (.inr (by decide)) (by decide) dv31)
  subst qc
  exact ⟨by rw [patO_fin, show rnp (-1074) 52 1024 9223372036854775808 9218868437227405312 1 1 = 4611686018427387904 from by decide +kernel]; rfl, hbw⟩
theorem aw_fma (w : World) (hT : Tab w) : Calls Tryz.prog 10 #[.int .i64 64, .int .u64 4607182418800017408, .int .u64 4611686018427387904, .int .u64 4611686018427387904] w fun en w' => en = .returned (.tuple #[.int .u64 4616189618054758400, .int .i64 0]) ∧ Below w.heap.size w w' := by
  refine Calls.mono (soft_fma jo_64 ⟨(by decide : 4607182418800017408 < 2 * 9223372036854775808), (by decide : 4611686018427387904 < 2 * 9223372036854775808), (by decide : 4611686018427387904 < 2 * 9223372036854775808)⟩ w hT) ?_
  rintro en w' ⟨oa, ob, oc, q, c, rfl, ha, hb, hc, hm, hs, hbw⟩
  have qa := opb_is ha (by decide) (by decide) vf_one
  have qb := opb_is hb (by decide) (by decide) vf_two
  have qd := opb_is hc (by decide) (by decide) vf_two
  subst qa qb qd
  have qq := hm.uniq (mul_lit (z := 1) (g := 1) (.inr (by decide)) (by decide) rfl)
  subst qq
  have qc := hs.uniq (sum_lit (.inr (by decide)) (by decide) dv12)
  subst qc
  exact ⟨by rw [patO_fin, show rnp (-1074) 52 1024 9223372036854775808 9218868437227405312 1 2 = 4616189618054758400 from by decide +kernel]; rfl, hbw⟩
theorem aw_neg (w : World) (hT : Tab w) : Calls Tryz.prog 8 #[.int .i64 64, .int .u64 4607182418800017408] w fun en w' => en = .returned (.tuple #[.int .u64 13830554455654793216, .int .i64 0]) ∧ Below w.heap.size w w' := by
  refine Calls.mono (soft_neg jo_64 (by decide : 4607182418800017408 < 2 * 9223372036854775808) w hT) ?_
  rintro en w' ⟨oa, rfl, ha, hbw⟩
  have qa := opb_is ha (by decide) (by decide) vf_one
  subst qa
  rw [negO_fin]
  exact ⟨by rw [patO_fin, show rnp (-1074) 52 1024 9223372036854775808 9218868437227405312 (-1) 0 = 13830554455654793216 from by decide +kernel]; rfl, hbw⟩
theorem aw_abs (w : World) (hT : Tab w) : Calls Tryz.prog 16 #[.int .i64 64, .int .u64 13830554455654793216] w fun en w' => en = .returned (.tuple #[.int .u64 4607182418800017408, .int .i64 0]) ∧ Below w.heap.size w w' := by
  refine Calls.mono (soft_abs_f jo_64 (a := 13830554455654793216) (by decide) w hT) ?_
  rintro en w' ⟨x, e, rfl, hv, _, hbw⟩
  obtain ⟨rfl, rfl⟩ := dv_inj vf_mone.fm hv.fm (vf_mone.v.trans hv.v.symm)
  exact ⟨by rw [patO_fin, show rnp (-1074) 52 1024 9223372036854775808 9218868437227405312 (((-1 : Int).natAbs : Nat) : Int) 0 = 4607182418800017408 from by decide +kernel]; rfl, hbw⟩
theorem aw_cmp (w : World) (hT : Tab w) : Calls Tryz.prog 17 #[.int .i64 64, .int .u64 4607182418800017408, .int .u64 4611686018427387904] w fun en w' => en = .returned (.tuple #[.int .i64 (-1), .int .i64 0]) ∧ Below w.heap.size w w' := by
  refine Calls.mono (soft_cmp_ff jo_64 (a := 4607182418800017408) (b := 4611686018427387904) (by decide) (by decide) w hT) ?_
  rintro en w' ⟨rfl, hbw⟩
  exact ⟨by rw [show cmpI (rkS 9223372036854775808 4607182418800017408) (rkS 9223372036854775808 4611686018427387904) = -1 from by decide], hbw⟩
theorem aw_div (w : World) (hT : Tab w) : Calls Tryz.prog 15 #[.int .i64 64, .int .u64 4616189618054758400, .int .u64 4611686018427387904] w fun en w' => en = .returned (.tuple #[.int .u64 4611686018427387904, .int .i64 0]) ∧ Below w.heap.size w w' := by
  refine Calls.mono (soft_div_ff jo_64 (by decide) (a := 4616189618054758400) (b := 4611686018427387904) (by decide) (by decide) w hT) ?_
  rintro en w' ⟨x, e, y, g, r, Z, V, rfl, hx, hy, h1, h2, h3, hbw⟩
  obtain ⟨rfl, rfl⟩ := dv_inj vf_four.fm hx.fm (vf_four.v.trans hx.v.symm)
  obtain ⟨rfl, rfl⟩ := dv_inj vf_two.fm hy.fm (vf_two.v.trans hy.v.symm)
  have r1 := rn_of jn_64 (n := 1) (e := 1) (by decide) (by decide)
  rw [show rnz (-1074) 52 1024 9218868437227405312 1 1 = 4611686018427387904 from by decide +kernel] at r1
  have hZ := h3.same (rise_mul (by decide)) h2 r1 (dv_nn _ _) (by
    show dv (((1 : Int).natAbs : Nat) : Int) (2 - 1) = (((1 : Int).natAbs : Nat) : Int) * dv ((1 : Nat) : Int) 1
    rw [show ((1 : Int).natAbs) = 1 from rfl, mul_dv]; rfl)
  have hr : r = Z := by
    have h4 : r = if decide ((1 : Int) < 0) = decide ((1 : Int) < 0) then Z else 9223372036854775808 + Z := h1
    rw [h4, if_pos rfl]
  subst hr
  subst hZ
  exact ⟨rfl, hbw⟩
theorem aw_sqrt (w : World) (hT : Tab w) : Calls Tryz.prog 14 #[.int .i64 64, .int .u64 4616189618054758400] w fun en w' => en = .returned (.tuple #[.int .u64 4611686018427387904, .int .i64 0]) ∧ Below w.heap.size w w' := by
  refine Calls.mono (soft_sqrt_f jo_64 (by decide) (a := 4616189618054758400) (by decide) w hT) ?_
  rintro en w' ⟨x, e, Z, V, rfl, hx, h2, h3, hbw⟩
  obtain ⟨rfl, rfl⟩ := dv_inj vf_four.fm hx.fm (vf_four.v.trans hx.v.symm)
  have r1 := rn_of jn_64 (n := 1) (e := 1) (by decide) (by decide)
  rw [show rnz (-1074) 52 1024 9218868437227405312 1 1 = 4611686018427387904 from by decide +kernel] at r1
  have hZ := h3.same rise_sq h2 r1 (dv_nn _ _) (by
    show (((1 : Int).natAbs : Nat) : Int) * ((2 ^ ((2 : Int) + 2 * 4194304).toNat : Nat) : Int) = dv ((1 : Nat) : Int) 1 * dv ((1 : Nat) : Int) 1
    unfold dv
    rw [show ((1 : Int).natAbs) = 1 from rfl, show ((1 : Nat) : Int) = 1 from rfl, Int.one_mul, Int.one_mul, ← Int.natCast_mul, ← Nat.pow_add, show ((2 : Int) + 2 * 4194304).toNat = ((1 : Int) + 4194304).toNat + ((1 : Int) + 4194304).toNat from by omega])
  subst hZ
  exact ⟨rfl, hbw⟩
theorem aw_add32 (w : World) (hT : Tab w) : Calls Tryz.prog 6 #[.int .i64 32, .int .u64 1065353216, .int .u64 1065353216] w fun en w' => en = .returned (.tuple #[.int .u64 1073741824, .int .i64 0]) ∧ Below w.heap.size w w' := by
  refine Calls.mono (soft_add jo_32 (by decide : 1065353216 < 2 * 2147483648) (by decide : 1065353216 < 2 * 2147483648) w hT) ?_
  rintro en w' ⟨oa, ob, c, rfl, ha, hb, hs, _, hbw⟩
  have qa := opb_is ha (by decide) (by decide) vf_one32
  have qb := opb_is hb (by decide) (by decide) vf_one32
  subst qa qb
  have qc := hs.uniq (sum_lit (.inr (by decide)) (by decide) dv11)
  subst qc
  exact ⟨by rw [patO_fin, show rnp (-149) 23 128 2147483648 2139095040 1 1 = 1073741824 from by decide +kernel]; rfl, hbw⟩
set_option maxRecDepth 20000 in
set_option maxHeartbeats 8000000 in
theorem awake9 (w : World) (hT : Tab w) :
    Calls Tryz.prog 5 #[] w fun en w' => en = .returned (.bool true) ∧ Below w.heap.size w w' := by
  have hbw : Below w.heap.size w w := Below.refl _ _
  have TB : Hid (Tab w) := hT
  clear hT
  go_enter Tryz.func5, Tryz.ntmps5
  go_wp2_with fail
  refine (aw_add _ (TB.out.below hbw)).mono ?_
  rintro e v1 ⟨rfl, hb1⟩
  replace hbw := Below.on hbw hb1
  clear hb1
  go_wp2_with fail
  refine (aw_mul _ (TB.out.below hbw)).mono ?_
  rintro e v2 ⟨rfl, hb2⟩
  replace hbw := Below.on hbw hb2
  clear hb2
  go_wp2_with fail
  refine (aw_div _ (TB.out.below hbw)).mono ?_
  rintro e v3 ⟨rfl, hb3⟩
  replace hbw := Below.on hbw hb3
  clear hb3
  go_wp2_with fail
  refine (aw_sqrt _ (TB.out.below hbw)).mono ?_
  rintro e v4 ⟨rfl, hb4⟩
  replace hbw := Below.on hbw hb4
  clear hb4
  go_wp2_with fail
  refine (aw_sub _ (TB.out.below hbw)).mono ?_
  rintro e v5 ⟨rfl, hb5⟩
  replace hbw := Below.on hbw hb5
  clear hb5
  go_wp2_with fail
  refine (aw_fma _ (TB.out.below hbw)).mono ?_
  rintro e v6 ⟨rfl, hb6⟩
  replace hbw := Below.on hbw hb6
  clear hb6
  go_wp2_with fail
  refine (aw_neg _ (TB.out.below hbw)).mono ?_
  rintro e v7 ⟨rfl, hb7⟩
  replace hbw := Below.on hbw hb7
  clear hb7
  go_wp2_with fail
  refine (aw_abs _ (TB.out.below hbw)).mono ?_
  rintro e v8 ⟨rfl, hb8⟩
  replace hbw := Below.on hbw hb8
  clear hb8
  go_wp2_with fail
  refine (aw_cmp _ (TB.out.below hbw)).mono ?_
  rintro e v9 ⟨rfl, hb9⟩
  replace hbw := Below.on hbw hb9
  clear hb9
  go_wp2_with fail
  refine (aw_add32 _ (TB.out.below hbw)).mono ?_
  rintro e v10 ⟨rfl, hb10⟩
  replace hbw := Below.on hbw hb10
  clear hb10
  go_wp2_with fail
  go_ret
  exact ⟨rfl, hbw⟩
end Go.Proofs.YtkfonlijgoldfaaGreatDoor

namespace Go.Proofs.YtkfonlijgoldfaaGreatDoor
open Go.RowKit Go.Shelf

def BadO (f : Int) (b : Nat) (er : Int) : Prop := ∀ w, Calls Tryz.prog 28 #[.int .i64 f, U b] w fun en w' => en = .returned (.tuple #[.nilIface, .int .i64 er]) ∧ Below w.heap.size w w'
def OpsE (f : Int) (a b : Nat) (er : Int) : Prop := ∀ (g : Nat) (w : World), w.cell? ⟨g, 0, none⟩ = some (U a) ∧ w.cell? ⟨g, 1, none⟩ = some (U b) → Tab w → Calls Tryz.prog 18 #[.int .i64 f, .slice (some ⟨g, 0, none⟩) 2 2] w fun en w' => en = .returned (.tuple #[.slice none 0 0, .int .i64 er]) ∧ Below w.heap.size w w'
set_option maxRecDepth 20000 in
set_option maxHeartbeats 8000000 in
theorem clsof_bad {f : Int} {b : Nat} {er : Int} (hB : Bad f b er) (he : er ≠ 0) (w : World) :
    Calls Tryz.prog 40 #[.int .i64 f, U b] w fun en w' => en = .returned (.tuple #[.int .i64 0, .int .i64 er]) ∧ Below w.heap.size w w' := by
  have hbw : Below w.heap.size w w := Below.refl _ _
  have HB : Hid (Bad f b er) := hB
  have e1 : (er == 0) = false := by simp [he]
  have e2 : (er != 0) = true := by simp [he]
  clear hB he
  go_enter Tryz.func40, Tryz.ntmps40
  go_wp2_with fail
  refine (HB.out _).mono ?_
  rintro e v1 ⟨rfl, hb1⟩
  replace hbw := Below.on hbw hb1
  clear hb1
  go_wp2_with fail
  go_ret2
  exact ⟨rfl, Below.on hbw (below1 _ _)⟩
set_option maxRecDepth 20000 in
set_option maxHeartbeats 8000000 in
theorem opof_bad {f : Int} {b : Nat} {er : Int} (hB : Bad f b er) (he : er ≠ 0) (w : World) :
    Calls Tryz.prog 28 #[.int .i64 f, U b] w fun en w' => en = .returned (.tuple #[.nilIface, .int .i64 er]) ∧ Below w.heap.size w w' := by
  have hbw : Below w.heap.size w w := Below.refl _ _
  have HB : Hid (Bad f b er ∧ er ≠ 0) := ⟨hB, he⟩
  have e1 : (er == 0) = false := by simp [he]
  have e2 : (er != 0) = true := by simp [he]
  clear hB he
  go_enter Tryz.func28, Tryz.ntmps28
  go_wp2_with fail
  refine (clsof_bad HB.out.1 HB.out.2 _).mono ?_
  rintro e v1 ⟨rfl, hb1⟩
  replace hbw := Below.on hbw hb1
  clear hb1
  go_wp2_with fail
  go_ret2
  exact ⟨rfl, hbw⟩
set_option maxRecDepth 20000 in
set_option maxHeartbeats 8000000 in
theorem operands_e1 {f : Int} {a b : Nat} {er : Int} (hB : BadO f a er) (he : er ≠ 0) : OpsE f a b er := by
  intro g w hg hT
  have HBO : Hid (BadO f a er) := hB
  have HCG : Hid (w.cell? ⟨g, 0, none⟩ = some (U a) ∧ w.cell? ⟨g, 1, none⟩ = some (U b) ∧ g < w.heap.size) := ⟨hg.1, hg.2, World.block_lt_of_cell? w _ hg.1⟩
  have TB : Hid (Tab w) := hT
  have e1 : (er == 0) = false := by simp [he]
  have e2 : (er != 0) = true := by simp [he]
  have HEE : Hid ((er == 0) = false ∧ (er != 0) = true) := ⟨e1, e2⟩
  clear hB he hg hT e1 e2
  go_enter Tryz.func18, Tryz.ntmps18
  go_wp2_with fail
  have mk : ∀ w : World, Sem.run Tryz.prog (Instr.makeSlice 41 (.int .i64 2) (.int .i64 2)) w = .ok (.slice (some ⟨w.heap.size, 0, none⟩) 2 2) (w.alloc (.cells #[.nilIface, .nilIface] 45)) := fun w => by kernel_rfl
  rw [mk]
  clear mk
  obtain ⟨W0, hW0⟩ : ∃ W0, W0 = w.alloc (.cells #[.nilIface, .nilIface] 45) := ⟨_, rfl⟩
  obtain ⟨go, hgo⟩ : ∃ go, go = w.heap.size := ⟨_, rfl⟩
  have HX : Hid (Box W0 go .nilIface .nilIface) := by rw [hW0, hgo]; exact ⟨by go_simp, by go_simp, by go_simp, by go_simp⟩
  have HB0 : Hid (Below w.heap.size w W0) := by rw [hW0]; exact below1 w _
  have HGO : Hid (w.heap.size ≤ go) := by rw [hgo]; exact Nat.le_refl _
  rw [← hW0, ← hgo]
  clear hW0 hgo
  go_wp2_with fail
  go_loopg [16] 2 (fun gk iv wr => gk = 2 ∧ iv = .int .i64 0 ∧ Below w.heap.size w wr)
  case atStart => exact ⟨rfl, rfl, HB0.out⟩
  case round =>
    obtain ⟨rfl, rfl, hbw⟩ := hrel
    have e0 : wr.cell? ⟨g, 0, none⟩ = some (U a) := (hbw.cell (p := ⟨g, 0, none⟩) HCG.out.2.2).trans HCG.out.1
    go_wp2_with fail
    refine (HBO.out wr).mono ?_
    rintro e9 v2 ⟨rfl, hb2⟩
    have hbv := Below.on hbw hb2
    have e1 := HEE.out.1
    have e2 := HEE.out.2
    clear hb2 hbw e0
    go_wp2_with fail
    go_ret2
    exact ⟨rfl, hbv⟩
set_option maxRecDepth 20000 in
set_option maxHeartbeats 8000000 in
theorem operands_e2 {f p m l : Int} {S I H sd : Nat} {Be : Int} {Q : Nat} (J : Jo f p m l S I H sd Be Q) {a b : Nat} {er : Int} (ha : a < 2 * S) (hB : BadO f b er) (he : er ≠ 0) : OpsE f a b er := by
  intro g w hg hT
  have HJO : Hid (Jo f p m l S I H sd Be Q) := J
  have HAB : Hid (a < 2 * S ∧ True) := ⟨ha, trivial⟩
  have HBO : Hid (BadO f b er) := hB
  have HCG : Hid (w.cell? ⟨g, 0, none⟩ = some (U a) ∧ w.cell? ⟨g, 1, none⟩ = some (U b) ∧ g < w.heap.size) := ⟨hg.1, hg.2, World.block_lt_of_cell? w _ hg.1⟩
  have TB : Hid (Tab w) := hT
  have e1 : (er == 0) = false := by simp [he]
  have e2 : (er != 0) = true := by simp [he]
  have HEE : Hid ((er == 0) = false ∧ (er != 0) = true) := ⟨e1, e2⟩
  clear J ha hB he hg hT e1 e2
  go_enter Tryz.func18, Tryz.ntmps18
  go_wp2_with fail
  have mk : ∀ w : World, Sem.run Tryz.prog (Instr.makeSlice 41 (.int .i64 2) (.int .i64 2)) w = .ok (.slice (some ⟨w.heap.size, 0, none⟩) 2 2) (w.alloc (.cells #[.nilIface, .nilIface] 45)) := fun w => by kernel_rfl
  rw [mk]
  clear mk
  obtain ⟨W0, hW0⟩ : ∃ W0, W0 = w.alloc (.cells #[.nilIface, .nilIface] 45) := ⟨_, rfl⟩
  obtain ⟨go, hgo⟩ : ∃ go, go = w.heap.size := ⟨_, rfl⟩
  have HX : Hid (Box W0 go .nilIface .nilIface) := by rw [hW0, hgo]; exact ⟨by go_simp, by go_simp, by go_simp, by go_simp⟩
  have HB0 : Hid (Below w.heap.size w W0) := by rw [hW0]; exact below1 w _
  have HGO : Hid (w.heap.size ≤ go) := by rw [hgo]; exact Nat.le_refl _
  rw [← hW0, ← hgo]
  clear hW0 hgo
  go_wp2_with fail
  go_loopg [16] 2 (fun gk iv wr => (gk = 2 ∧ iv = .int .i64 0 ∨ gk = 1 ∧ iv = .int .i64 1) ∧ ∃ v0 v1, Box wr go v0 v1 ∧ Below w.heap.size w wr)
  case atStart => exact ⟨.inl ⟨rfl, rfl⟩, _, _, HX.out, HB0.out⟩
  case round =>
    obtain ⟨hkg, v0, v1, hx, hbw⟩ := hrel
    have HX1 : Hid (Box wr go v0 v1) := hx
    have HBW : Hid (Below w.heap.size w wr) := hbw
    rcases hkg with ⟨rfl, rfl⟩ | ⟨rfl, rfl⟩
    · have e0 : wr.cell? ⟨g, 0, none⟩ = some (U a) := (hbw.cell (p := ⟨g, 0, none⟩) HCG.out.2.2).trans HCG.out.1
      clear hx hbw
      go_wp2_with fail
      refine (opof HJO.out a HAB.out.1 wr (TB.out.below HBW.out)).mono ?_
      rintro e9 v2 ⟨v, o, rfl, ho, hob, hb2⟩
      obtain ⟨vt, vx, rfl⟩ : ∃ t x, v = .iface t x := ho.iface
      have HX2 : Hid (Box v2 go v0 v1) := HX1.out.below hb2
      have HBV : Hid (Below w.heap.size w v2) := Below.on HBW.out hb2
      obtain ⟨c0, c1, f0, f1⟩ := HX2.out
      have hlt := HX2.out.lt
      clear ho hob hb2
      go_wp2_with fail
      go_roundg 1
      case measure => omega
      case rel => exact ⟨.inr ⟨rfl, by go_num⟩, .iface vt vx, v1, ⟨by go_simp, by go_simp, by go_simp, by go_simp⟩, bSet HBV.out _ _ _ HGO.out⟩
    · have e0 : wr.cell? ⟨g, 1, none⟩ = some (U b) := (hbw.cell (p := ⟨g, 1, none⟩) HCG.out.2.2).trans HCG.out.2.1
      clear hx
      go_wp2_with fail
      refine (HBO.out wr).mono ?_
      rintro e9 v2 ⟨rfl, hb2⟩
      have hbv := Below.on hbw hb2
      have e1 := HEE.out.1
      have e2 := HEE.out.2
      clear hb2 hbw e0
      go_wp2_with fail
      go_ret2
      exact ⟨rfl, hbv⟩
set_option maxRecDepth 20000 in
set_option maxHeartbeats 8000000 in
theorem soft_add_e {f : Int} {a b : Nat} {er : Int} (hB : OpsE f a b er) (he : er ≠ 0) (w : World) (hT : Tab w) :
    Calls Tryz.prog 6 #[.int .i64 f, U a, U b] w fun en w' => en = .returned (.tuple #[.int .u64 0, .int .i64 er]) ∧ Below w.heap.size w w' := by
  have HB : Hid (OpsE f a b er) := hB
  have TB : Hid (Tab w) := hT
  have e1 : (er == 0) = false := by simp [he]
  have e2 : (er != 0) = true := by simp [he]
  clear hB he hT
  go_enter Tryz.func6, Tryz.ntmps6
  go_wp2_with fail
  have hb0 := below1 w (.cells #[U a, U b] 22)
  refine (HB.out _ _ ⟨by go_simp, by go_simp⟩ (TB.out.below hb0)).mono ?_
  rintro e9 v1 ⟨rfl, hb1⟩
  have hbw := Below.on hb0 hb1
  clear hb0 hb1
  go_wp2_with fail
  go_ret2
  exact ⟨rfl, hbw⟩
set_option maxRecDepth 20000 in
set_option maxHeartbeats 8000000 in
theorem soft_mul_e {f : Int} {a b : Nat} {er : Int} (hB : OpsE f a b er) (he : er ≠ 0) (w : World) (hT : Tab w) :
    Calls Tryz.prog 7 #[.int .i64 f, U a, U b] w fun en w' => en = .returned (.tuple #[.int .u64 0, .int .i64 er]) ∧ Below w.heap.size w w' := by
  have HB : Hid (OpsE f a b er) := hB
  have TB : Hid (Tab w) := hT
  have e1 : (er == 0) = false := by simp [he]
  have e2 : (er != 0) = true := by simp [he]
  clear hB he hT
  go_enter Tryz.func7, Tryz.ntmps7
  go_wp2_with fail
  have hb0 := below1 w (.cells #[U a, U b] 22)
  refine (HB.out _ _ ⟨by go_simp, by go_simp⟩ (TB.out.below hb0)).mono ?_
  rintro e9 v1 ⟨rfl, hb1⟩
  have hbw := Below.on hb0 hb1
  clear hb0 hb1
  go_wp2_with fail
  go_ret2
  exact ⟨rfl, hbw⟩
end Go.Proofs.YtkfonlijgoldfaaGreatDoor

namespace Go.Proofs.YtkfonlijgoldfaaGreatDoor
open Go.RowKit Go.Shelf

theorem DFm.lo4 {z e : Int} (h : DFm z e) : -4194304 ≤ e := by rcases h with ⟨_, h⟩ | ⟨_, h, _⟩ <;> omega
theorem OpB.uniq {S I H : Nat} {l : Int} {b : Nat} {o o' : Opd} (h : OpB S I H l b o) (h' : OpB S I H l b o') (hI : 0 < I) : o = o' := by
  rcases h with ⟨h1, h2⟩ | ⟨h1, h2⟩ | ⟨h1, h2⟩ | ⟨h1, h3, x, e, h4, h5, h6⟩ <;> rcases h' with ⟨k1, k2⟩ | ⟨k1, k2⟩ | ⟨k1, k2⟩ | ⟨k1, k3, y, f, k4, k5, k6⟩
  all_goals first
    | (rw [h2, k2]; done)
    | omega
    | (obtain ⟨rfl, rfl⟩ := dv_inj h4.fm k4.fm (h4.v.trans k4.v.symm); rw [h6, k6])
theorem opb_ex {f p m l : Int} {S I H : Nat} (F : Pm f p m l S I H) (b : Nat) : ∃ o, OpB S I H l b o := by
  rcases Nat.lt_trichotomy (b % S) I with h | h | h
  · by_cases h0 : b % S = 0
    · exact ⟨_, .inr (.inr (.inl ⟨h0, rfl⟩))⟩
    · obtain ⟨x, e, hv, _⟩ := vf_ex F h
      refine ⟨ofin x e, .inr (.inr (.inr ⟨h0, h, x, e, hv, ?_, rfl⟩))⟩
      intro hx
      have h1 := hv.v
      rw [hx, dv_zero] at h1
      have h2 := dv_eq_zero h1.symm
      rw [svS_eq] at h2
      have h3 : 0 < vs H (b % S) := by
        have := vs_mono F.hp (show 0 < b % S by omega)
        rw [vs_zero] at this
        exact this
      split at h2 <;> omega
  · exact ⟨_, .inr (.inl ⟨h, rfl⟩)⟩
  · exact ⟨_, .inl ⟨h, rfl⟩⟩
theorem OpB.pat {f p m l : Int} {S I H sd : Nat} {Be : Int} {Q : Nat} (J : Jn f p m l S I H sd Be) {b : Nat} {o : Opd} (h : OpB S I H l b o) (hb : b < 2 * S) : (I < b % S ∧ o = onan ∧ patO l sd Be S I Q o = Q) ∨ (b % S ≤ I ∧ o.k ≠ 0 ∧ patO l sd Be S I Q o = b) := by
  have hlt := J.jm.pm.fm.lt
  rcases h with ⟨h1, h2⟩ | ⟨h1, h2⟩ | ⟨h1, h2⟩ | ⟨h1, h3, x, e, h4, h5, h6⟩
  · left; exact ⟨h1, h2, by rw [h2]; rfl⟩
  · right
    refine ⟨by omega, by rw [h2]; exact Nat.one_ne_zero, ?_⟩
    rw [h2, patO_inf]
    by_cases hS : S ≤ b
    · rw [decide_eq_true hS, if_pos rfl]; have h9 := (pat_eq hb).1; rw [if_pos hS] at h9; omega
    · rw [decide_eq_false hS, if_neg (by decide)]; have := Nat.mod_eq_of_lt (show b < S by omega); omega
  · right
    refine ⟨by omega, by rw [h2]; exact Nat.succ_ne_zero 1, ?_⟩
    rw [h2, patO_no]
    by_cases hS : S ≤ b
    · rw [decide_eq_true hS, if_pos rfl]; have h9 := (pat_eq hb).1; rw [if_pos hS] at h9; omega
    · rw [decide_eq_false hS, if_neg (by decide)]; have := Nat.mod_eq_of_lt (show b < S by omega); omega
  · right
    refine ⟨by omega, by rw [h6]; exact Nat.succ_ne_zero 2, ?_⟩
    rw [h6, patO_fin]
    exact rn_own J hb h1 h3 (h4.fm.lo4) h4.v
theorem xs_lt {S b : Nat} (h : b < 2 * S) : xsS S b < 2 * S ∧ xsS S b % S = b % S ∧ decide (S ≤ xsS S b) = !decide (S ≤ b) := by
  unfold xsS
  by_cases h1 : S ≤ b
  · rw [if_pos h1, decide_eq_true h1]
    refine ⟨by omega, ?_, decide_eq_false (by omega)⟩
    rw [Nat.mod_eq_sub_mod h1]
  · rw [if_neg h1, decide_eq_false h1]
    exact ⟨by omega, by rw [Nat.add_mod_right], decide_eq_true (by omega)⟩
theorem OpB.npat {f p m l : Int} {S I H sd : Nat} {Be : Int} {Q : Nat} (J : Jq f p m l S I H sd Be Q) {b : Nat} {o : Opd} (h : OpB S I H l b o) (hb : b < 2 * S) :
    (I < b % S ∧ o = onan ∧ patO l sd Be S I Q (negO o) = Q ∧ OpB S I H l Q (negO o)) ∨ (b % S ≤ I ∧ o.k ≠ 0 ∧ patO l sd Be S I Q (negO o) = xsS S b ∧ OpB S I H l (xsS S b) (negO o)) := by
  have hlt := J.jn.jm.pm.fm.lt
  obtain ⟨x1, x2, x3⟩ := xs_lt hb
  rcases h with ⟨h1, h2⟩ | ⟨h1, h2⟩ | ⟨h1, h2⟩ | ⟨h1, h3, x, e, h4, h5, h6⟩
  · left; rw [h2, negO_nan]; exact ⟨h1, rfl, rfl, .inl ⟨J.qb.2, rfl⟩⟩
  · right
    rw [h2, negO_inf]
    have ho : OpB S I H l (xsS S b) (oinf (!decide (S ≤ b))) := .inr (.inl ⟨by omega, by rw [x3]⟩)
    refine ⟨by omega, Nat.one_ne_zero, ?_, ho⟩
    rcases ho.pat (Q := Q) J.jn x1 with ⟨k1, _⟩ | ⟨_, _, k3⟩
    · omega
    · exact k3
  · right
    rw [h2, negO_no]
    have ho : OpB S I H l (xsS S b) (ono (!decide (S ≤ b))) := .inr (.inr (.inl ⟨by omega, by rw [x3]⟩))
    refine ⟨by omega, Nat.succ_ne_zero 1, ?_, ho⟩
    rcases ho.pat (Q := Q) J.jn x1 with ⟨k1, _⟩ | ⟨_, _, k3⟩
    · omega
    · exact k3
  · right
    rw [h6, negO_fin]
    have ho : OpB S I H l (xsS S b) (ofin (-x) e) := .inr (.inr (.inr ⟨by omega, by omega, -x, e, (xs_neg hb h4).1, by omega, rfl⟩))
    refine ⟨by omega, Nat.succ_ne_zero 2, ?_, ho⟩
    rcases ho.pat (Q := Q) J.jn x1 with ⟨k1, _⟩ | ⟨_, _, k3⟩
    · omega
    · exact k3
def GoodO (c : Opd) : Prop := c = onan ∨ (∃ s, c = oinf s) ∨ (∃ s, c = ono s) ∨ ∃ x e, c = ofin x e ∧ DFm x e ∧ x ≠ 0
theorem OpB.good {S I H : Nat} {l : Int} {b : Nat} {o : Opd} (h : OpB S I H l b o) : GoodO o := by
  rcases h with ⟨_, h2⟩ | ⟨_, h2⟩ | ⟨_, h2⟩ | ⟨_, _, x, e, h4, h5, h6⟩
  · exact .inl h2
  · exact .inr (.inl ⟨_, h2⟩)
  · exact .inr (.inr (.inl ⟨_, h2⟩))
  · exact .inr (.inr (.inr ⟨x, e, h6, h4.fm, h5⟩))
theorem MulO.good {a b c : Opd} (h : MulO a b c) : GoodO c := by
  rcases h with ⟨_, h2⟩ | ⟨_, h2⟩ | ⟨_, h2⟩ | ⟨_, z, g, h3, h4, _, h6⟩
  · exact .inl h2
  · exact .inr (.inl ⟨_, h2⟩)
  · exact .inr (.inr (.inl ⟨_, h2⟩))
  · exact .inr (.inr (.inr ⟨z, g, h6, h3, h4⟩))
theorem GoodO.npat {f p m l : Int} {S I H sd : Nat} {Be : Int} {Q : Nat} (J : Jq f p m l S I H sd Be Q) {c : Opd} (h : GoodO c) : (c = onan) ∨ (c.k ≠ 0 ∧ patO l sd Be S I Q c < 2 * S ∧ patO l sd Be S I Q c % S ≤ I ∧ patO l sd Be S I Q (negO c) = xsS S (patO l sd Be S I Q c)) := by
  have hlt := J.jn.jm.pm.fm.lt
  rcases h with rfl | ⟨s, rfl⟩ | ⟨s, rfl⟩ | ⟨x, e, rfl, hf, h0⟩
  · exact .inl rfl
  · right
    rw [negO_inf, patO_inf, patO_inf]
    unfold xsS
    cases s
    · refine ⟨Nat.one_ne_zero, ?_⟩
      simp
      rw [if_neg (by omega), Nat.mod_eq_of_lt hlt]; omega
    · refine ⟨Nat.one_ne_zero, ?_⟩
      simp
      rw [Nat.mod_eq_of_lt hlt]; omega
  · right
    rw [negO_no, patO_no, patO_no]
    unfold xsS
    cases s
    · refine ⟨Nat.succ_ne_zero 1, ?_⟩
      simp
      omega
    · refine ⟨Nat.succ_ne_zero 1, ?_⟩
      simp
      omega
  · right
    rw [negO_fin, patO_fin, patO_fin]
    obtain ⟨Z, z1, _, _, z4, z5, _⟩ := rnp_is J.jn x e hf.lo4
    exact ⟨Nat.succ_ne_zero 2, z4, by omega, rnp_neg J.jn h0 hf.lo4⟩
theorem neg_round {f p m l : Int} {S I H sd : Nat} {Be : Int} {Q : Nat} (J : Jq f p m l S I H sd Be Q) {c o : Opd} (h : GoodO c) (ho : OpB S I H l (patO l sd Be S I Q c) o) : patO l sd Be S I Q (negO o) = patO l sd Be S I Q (negO c) := by
  rcases h.npat J with rfl | ⟨h1, h2, h3, h4⟩
  · rw [patO_nan] at ho
    rcases ho.npat J J.qb.1 with ⟨_, _, k3, _⟩ | ⟨k1, _⟩
    · rw [k3]; rfl
    · have := J.qb.2; omega
  · rcases ho.npat J h2 with ⟨k1, _⟩ | ⟨_, _, k3, _⟩
    · omega
    · rw [k3, h4]
theorem MulO.neg {a b c : Opd} (h : MulO a b c) (hg : GoodO a) : MulO (negO a) b (negO c) := by
  rcases hg with rfl | ⟨s, rfl⟩ | ⟨s, rfl⟩ | ⟨x, e, rfl, hf, h0⟩
  · rcases h with ⟨h1, h2⟩ | ⟨h1, h2⟩ | ⟨h1, h2⟩ | ⟨h1, h2⟩
    · rw [h2]; exact .inl ⟨.inl rfl, rfl⟩
    · exfalso; rcases h1 with ⟨h, _⟩ | ⟨h, _⟩ <;> exact by cases h
    · exfalso; rcases h1 with ⟨h, _⟩ | ⟨h, _⟩ <;> exact by cases h
    · exact by cases h1.1
  · rcases h with ⟨h1, h2⟩ | ⟨h1, h2⟩ | ⟨h1, h2⟩ | ⟨h1, h2⟩
    · rw [h2]; exact .inl ⟨h1, rfl⟩
    · rw [h2, negO_inf, negO_inf]; exact .inr (.inl ⟨h1, by show oinf (!(s != b.s)) = oinf ((!s) != b.s); cases s <;> cases b.s <;> rfl⟩)
    · exfalso; rcases h1 with ⟨h, _⟩ | ⟨h, _⟩ <;> exact by cases h
    · exact by cases h1.1
  · rcases h with ⟨h1, h2⟩ | ⟨h1, h2⟩ | ⟨h1, h2⟩ | ⟨h1, h2⟩
    · rw [h2]; exact .inl ⟨h1, rfl⟩
    · exfalso; rcases h1 with ⟨h, _⟩ | ⟨h, _⟩ <;> exact by cases h
    · rw [h2, negO_no, negO_no]; exact .inr (.inr (.inl ⟨h1, by show ono (!(s != b.s)) = ono ((!s) != b.s); cases s <;> cases b.s <;> rfl⟩))
    · exact by cases h1.1
  · have hs : decide (-x < 0) = !decide (x < 0) := by
      rcases Int.lt_or_le x 0 with hx | hx
      · rw [decide_eq_true hx, decide_eq_false (by omega)]; rfl
      · rw [decide_eq_false (show ¬ x < 0 by omega), decide_eq_true (show -x < 0 by omega)]; rfl
    rcases h with ⟨h1, h2⟩ | ⟨h1, h2⟩ | ⟨h1, h2⟩ | ⟨h1, z, g, h3, h4, h5, h6⟩
    · rw [h2]; exact .inl ⟨h1, rfl⟩
    · rw [h2, negO_inf, negO_fin]; exact .inr (.inl ⟨h1, by show oinf (!(decide (x < 0) != b.s)) = oinf (decide (-x < 0) != b.s); rw [hs]; cases decide (x < 0) <;> cases b.s <;> rfl⟩)
    · rw [h2, negO_no, negO_fin]; exact .inr (.inr (.inl ⟨h1, by show ono (!(decide (x < 0) != b.s)) = ono (decide (-x < 0) != b.s); rw [hs]; cases decide (x < 0) <;> cases b.s <;> rfl⟩))
    · rw [h6, negO_fin, negO_fin]
      refine .inr (.inr (.inr ⟨h1, -z, g, h3.neg, by omega, ?_, rfl⟩))
      rw [dv_neg, h5]
      show _ = dv (-x * b.x) (e + b.e)
      rw [Int.neg_mul, dv_neg]
      rfl
theorem MulO.one {o c : Opd} (hg : GoodO o) (h : MulO (ofin 1 0) o c) : c = o := by
  rcases hg with rfl | ⟨s, rfl⟩ | ⟨s, rfl⟩ | ⟨x, e, rfl, hf, h0⟩
  · exact h.uniq (.inl ⟨.inr (.inl rfl), rfl⟩)
  · refine h.uniq (.inr (.inl ⟨.inr ⟨rfl, rfl⟩, ?_⟩))
    show oinf s = oinf (decide ((1 : Int) < 0) != s)
    cases s <;> rfl
  · refine h.uniq (.inr (.inr (.inl ⟨.inr ⟨rfl, rfl⟩, ?_⟩)))
    show ono s = ono (decide ((1 : Int) < 0) != s)
    cases s <;> rfl
  · refine h.uniq (mul_lit hf h0 ?_)
    rw [Int.one_mul, Int.zero_add]
theorem SumO.nought {q c : Opd} {s : Bool} (hg : GoodO q) (hs : ∀ t, q = ono t → t = s) (h : SumO q (ono s) c) : c = q := by
  rcases hg with rfl | ⟨t, rfl⟩ | ⟨t, rfl⟩ | ⟨x, e, rfl, hf, h0⟩
  · exact h.uniq (.inl ⟨.inl rfl, rfl⟩)
  · exact h.uniq (.inr (.inl ⟨⟨rfl, .inl rfl⟩, rfl⟩))
  · obtain rfl := hs t rfl
    refine h.uniq (.inr (.inr (.inr (.inl ⟨⟨rfl, rfl⟩, ?_⟩))))
    show ono t = ono (t && t)
    cases t <;> rfl
  · exact h.uniq (.inr (.inr (.inr (.inr (.inr (.inl ⟨⟨rfl, rfl⟩, rfl⟩))))))
theorem MulO.sgn {S I H : Nat} {l : Int} {a b : Nat} {oa ob : Opd} {t : Bool} (ha : OpB S I H l a oa) (hb : OpB S I H l b ob) (ka : a < 2 * S) (kb : b < 2 * S) (h : MulO oa ob (ono t)) : t = (decide (S ≤ a) != decide (S ≤ b)) := by
  have hs : ∀ {a : Nat} {o : Opd}, OpB S I H l a o → a < 2 * S → o.k ≠ 0 → o.s = decide (S ≤ a) := by
    intro a o h ka h0
    rcases h with ⟨_, h2⟩ | ⟨_, h2⟩ | ⟨_, h2⟩ | ⟨h1, h3, x, e, h4, h5, h6⟩
    · rw [h2] at h0; exact absurd rfl h0
    · rw [h2]; rfl
    · rw [h2]; rfl
    · rw [h6]
      show decide (x < 0) = _
      have h7 := h4.v
      rw [svS_eq] at h7
      have h8 := dv_nn (vs H (a % S)) l
      by_cases hS : S ≤ a
      · rw [if_pos hS, dv_neg] at h7
        rw [decide_eq_true hS]
        refine decide_eq_true ?_
        rcases dv3 x e with ⟨q1, q2⟩ | ⟨q1, q2⟩ | ⟨q1, q2⟩ <;> omega
      · rw [if_neg hS] at h7
        rw [decide_eq_false hS]
        refine decide_eq_false ?_
        rcases dv3 x e with ⟨q1, q2⟩ | ⟨q1, q2⟩ | ⟨q1, q2⟩ <;> omega
  rcases h with ⟨_, h2⟩ | ⟨_, h2⟩ | ⟨h1, h2⟩ | ⟨_, z, g, _, _, _, h6⟩
  · exact by cases congrArg Opd.k h2
  · exact by cases congrArg Opd.k h2
  · have h3 : t = (oa.s != ob.s) := congrArg Opd.s h2
    rw [h3, hs ha ka (by omega), hs hb kb (by omega)]
  · exact by cases congrArg Opd.k h6
theorem top_bit {n k : Nat} (h : n < 2 ^ (k + 1)) : n.testBit k = decide (2 ^ k ≤ n) := by
  rw [Nat.testBit_eq_decide_div_mod_eq]
  have hp := Nat.two_pow_pos k
  rw [Nat.pow_succ] at h
  by_cases h1 : 2 ^ k ≤ n
  · rw [show n / 2 ^ k = 1 from by rw [Nat.div_eq_of_lt_le] <;> omega, decide_eq_true h1]; rfl
  · rw [Nat.div_eq_of_lt (by omega), decide_eq_false h1]; rfl
theorem sign_zero {a b S k : Nat} (hS : S = 2 ^ k) (hk : k < 64) (ha : a < 2 * S) (hb : b < 2 * S) : ∃ X : Nat, bits BinOp.xor IntKind.u64 (a : Int) (b : Int) = (X : Int) ∧ bits BinOp.and IntKind.u64 (S : Int) (X : Int) = ((if decide (S ≤ a) = decide (S ≤ b) then 0 else S : Nat) : Int) := by
  have h1 : S ≤ 9223372036854775808 := by rw [hS]; exact Nat.le_trans (Nat.pow_le_pow_right (by decide) (by omega : k ≤ 63)) (by decide)
  have ha2 : a < 2 ^ (k + 1) := by rw [Nat.pow_succ, ← hS]; omega
  have hb2 : b < 2 ^ (k + 1) := by rw [Nat.pow_succ, ← hS]; omega
  have hx2 := Nat.xor_lt_two_pow ha2 hb2
  have hx3 : a ^^^ b < 2 * S := by rw [Nat.pow_succ, ← hS] at hx2; omega
  refine ⟨a ^^^ b, ?_, ?_⟩
  · show IntKind.u64.wrap ((BitVec.ofInt 64 (a : Int) ^^^ BitVec.ofInt 64 (b : Int)).toNat : Int) = _
    rw [BitVec.ofInt_natCast, BitVec.ofInt_natCast, BitVec.toNat_xor, BitVec.toNat_ofNat, BitVec.toNat_ofNat, Nat.mod_eq_of_lt (by omega), Nat.mod_eq_of_lt (by omega), IntKind.wrap_u64]
    omega
  · rw [bits_and_u64_nat S (a ^^^ b) (by omega) (by omega), Nat.and_comm, ← bits_and_u64_nat (a ^^^ b) S (by omega) (by omega), sign_and (a ^^^ b) S k hS hk hx3]
    have h4 := Nat.testBit_xor a b k
    rw [top_bit hx2, top_bit ha2, top_bit hb2, ← hS] at h4
    congr 1
    by_cases h5 : S ≤ a ^^^ b
    · rw [if_pos h5, if_neg]
      rw [decide_eq_true h5] at h4
      intro h6
      rw [h6] at h4
      cases decide (S ≤ b) <;> simp at h4
    · rw [if_neg h5, if_pos]
      rw [decide_eq_false h5] at h4
      revert h4
      cases decide (S ≤ a) <;> cases decide (S ≤ b) <;> simp
end Go.Proofs.YtkfonlijgoldfaaGreatDoor

namespace Go.Proofs.YtkfonlijgoldfaaGreatDoor
open Go.RowKit Go.Shelf

theorem add_is {f p m l : Int} {S I H sd : Nat} {Be : Int} {Q : Nat} (J : Jo f p m l S I H sd Be Q) {a : Nat} {b : Nat} {oa : Opd} {ob : Opd} (ha : a < 2 * S) (hb : b < 2 * S) (ka : OpB S I H l a oa) (kb : OpB S I H l b ob) (w : World) (hT : Tab w) : Calls Tryz.prog 6 #[.int .i64 f, U a, U b] w fun en w' => ∃ c, en = .returned (.tuple #[U (patO l sd Be S I Q c), .int .i64 0]) ∧ SumO oa ob c ∧ Below w.heap.size w w' := by
  have hI : 0 < I := by have := J.jq.jn.jm.pm.fm.pos; omega
  refine (soft_add J ha hb w hT).mono ?_
  rintro en w' ⟨oa', ob', c, rfl, h1, h2, hs, _, hbw⟩
  obtain rfl := h1.uniq ka hI
  obtain rfl := h2.uniq kb hI
  exact ⟨c, rfl, hs, hbw⟩
theorem mul_is {f p m l : Int} {S I H sd : Nat} {Be : Int} {Q : Nat} (J : Jo f p m l S I H sd Be Q) {a : Nat} {b : Nat} {oa : Opd} {ob : Opd} (ha : a < 2 * S) (hb : b < 2 * S) (ka : OpB S I H l a oa) (kb : OpB S I H l b ob) (w : World) (hT : Tab w) : Calls Tryz.prog 7 #[.int .i64 f, U a, U b] w fun en w' => ∃ c, en = .returned (.tuple #[U (patO l sd Be S I Q c), .int .i64 0]) ∧ MulO oa ob c ∧ Below w.heap.size w w' := by
  have hI : 0 < I := by have := J.jq.jn.jm.pm.fm.pos; omega
  refine (soft_mul J ha hb w hT).mono ?_
  rintro en w' ⟨oa', ob', c, rfl, h1, h2, hs, _, hbw⟩
  obtain rfl := h1.uniq ka hI
  obtain rfl := h2.uniq kb hI
  exact ⟨c, rfl, hs, hbw⟩
theorem sub_is {f p m l : Int} {S I H sd : Nat} {Be : Int} {Q : Nat} (J : Jo f p m l S I H sd Be Q) {a : Nat} {b : Nat} {oa : Opd} {ob : Opd} (ha : a < 2 * S) (hb : b < 2 * S) (ka : OpB S I H l a oa) (kb : OpB S I H l b ob) (w : World) (hT : Tab w) : Calls Tryz.prog 9 #[.int .i64 f, U a, U b] w fun en w' => ∃ c, en = .returned (.tuple #[U (patO l sd Be S I Q c), .int .i64 0]) ∧ SumO oa (negO ob) c ∧ Below w.heap.size w w' := by
  have hI : 0 < I := by have := J.jq.jn.jm.pm.fm.pos; omega
  refine (soft_sub J ha hb w hT).mono ?_
  rintro en w' ⟨oa', ob', c, rfl, h1, h2, hs, _, hbw⟩
  obtain rfl := h1.uniq ka hI
  obtain rfl := h2.uniq kb hI
  exact ⟨c, rfl, hs, hbw⟩
theorem neg_is {f p m l : Int} {S I H sd : Nat} {Be : Int} {Q : Nat} (J : Jo f p m l S I H sd Be Q) {a : Nat} {oa : Opd} (ha : a < 2 * S) (ka : OpB S I H l a oa) (w : World) (hT : Tab w) : Calls Tryz.prog 8 #[.int .i64 f, U a] w fun en w' => ∃ c, en = .returned (.tuple #[U (patO l sd Be S I Q c), .int .i64 0]) ∧ c = negO oa ∧ Below w.heap.size w w' := by
  have hI : 0 < I := by have := J.jq.jn.jm.pm.fm.pos; omega
  refine (soft_neg J ha w hT).mono ?_
  rintro en w' ⟨oa', rfl, h1, hbw⟩
  obtain rfl := h1.uniq ka hI
  exact ⟨_, rfl, rfl, hbw⟩
theorem fma_is {f p m l : Int} {S I H sd : Nat} {Be : Int} {Q : Nat} (J : Jo f p m l S I H sd Be Q) {a : Nat} {b : Nat} {d : Nat} {oa : Opd} {ob : Opd} {od : Opd} (ha : a < 2 * S) (hb : b < 2 * S) (hd : d < 2 * S) (ka : OpB S I H l a oa) (kb : OpB S I H l b ob) (kd : OpB S I H l d od) (w : World) (hT : Tab w) : Calls Tryz.prog 10 #[.int .i64 f, U a, U b, U d] w fun en w' => ∃ q c, en = .returned (.tuple #[U (patO l sd Be S I Q c), .int .i64 0]) ∧ MulO oa ob q ∧ SumO q od c ∧ Below w.heap.size w w' := by
  have hI : 0 < I := by have := J.jq.jn.jm.pm.fm.pos; omega
  refine (soft_fma J ⟨ha, hb, hd⟩ w hT).mono ?_
  rintro en w' ⟨oa', ob', od', q, c, rfl, h1, h2, h3, hm, hs, hbw⟩
  obtain rfl := h1.uniq ka hI
  obtain rfl := h2.uniq kb hI
  obtain rfl := h3.uniq kd hI
  exact ⟨q, c, rfl, hm, hs, hbw⟩
theorem OpB.nn {f p m l : Int} {S I H sd : Nat} {Be : Int} {Q : Nat} (J : Jq f p m l S I H sd Be Q) {b : Nat} {o : Opd} (h : OpB S I H l b o) (hb : b < 2 * S) : patO l sd Be S I Q (negO o) < 2 * S ∧ OpB S I H l (patO l sd Be S I Q (negO o)) (negO o) := by
  rcases h.npat J hb with ⟨_, _, h3, h4⟩ | ⟨_, _, h3, h4⟩
  · rw [h3]; exact ⟨J.qb.1, h4⟩
  · rw [h3]; exact ⟨(xs_lt hb).1, h4⟩
theorem GoodO.lt {f p m l : Int} {S I H sd : Nat} {Be : Int} {Q : Nat} (J : Jq f p m l S I H sd Be Q) {c : Opd} (h : GoodO c) : patO l sd Be S I Q c < 2 * S := by
  rcases h.npat J with rfl | ⟨_, h2, _⟩
  · exact J.qb.1
  · exact h2
theorem opb_zero {f p m l : Int} {S I H : Nat} (F : Pm f p m l S I H) (t u : Bool) : OpB S I H l (if t = u then 0 else S) (ono (t != u)) ∧ (if t = u then 0 else S) < 2 * S := by
  have h1 := F.fm.lt
  have h2 := F.fm.pos
  cases t <;> cases u
  · exact ⟨.inr (.inr (.inl ⟨Nat.zero_mod _, by show ono false = ono (decide (S ≤ 0)); rw [decide_eq_false (by omega)]⟩)), by show 0 < _; omega⟩
  · exact ⟨.inr (.inr (.inl ⟨Nat.mod_self _, by show ono true = ono (decide (S ≤ S)); rw [decide_eq_true (by omega)]⟩)), by show S < _; omega⟩
  · exact ⟨.inr (.inr (.inl ⟨Nat.mod_self _, by show ono true = ono (decide (S ≤ S)); rw [decide_eq_true (by omega)]⟩)), by show S < _; omega⟩
  · exact ⟨.inr (.inr (.inl ⟨Nat.zero_mod _, by show ono false = ono (decide (S ≤ 0)); rw [decide_eq_false (by omega)]⟩)), by show 0 < _; omega⟩
set_option maxRecDepth 20000 in
set_option maxHeartbeats 8000000 in
theorem twins_e1 (f : Int) (a b : Nat) (hE : OpsE f a b 1) (hF : OpsE f b a 1) (w : World) (hT : Tab w) :
    Calls Tryz.prog 3 #[.int .i64 f, U a, U b] w fun en w' => en = .returned (.bool true) ∧ Below w.heap.size w w' := by
  have hbw : Below w.heap.size w w := Below.refl _ _
  have TB : Hid (Tab w) := hT
  have HE : Hid (OpsE f a b 1 ∧ OpsE f b a 1) := ⟨hE, hF⟩
  clear hT hE hF
  go_enter Tryz.func3, Tryz.ntmps3
  go_wp2_with fail
  refine (awake9 _ (TB.out.below hbw)).mono ?_
  rintro e v1 ⟨rfl, hb1⟩
  replace hbw := Below.on hbw hb1
  clear hb1
  go_wp2_with fail
  refine (soft_add_e HE.out.1 (by decide) _ (TB.out.below hbw)).mono ?_
  rintro e v2 ⟨rfl, hb2⟩
  replace hbw := Below.on hbw hb2
  clear hb2
  go_wp2_with fail
  refine (soft_add_e HE.out.2 (by decide) _ (TB.out.below hbw)).mono ?_
  rintro e v3 ⟨rfl, hb3⟩
  replace hbw := Below.on hbw hb3
  clear hb3
  go_wp2_with fail
  refine (soft_mul_e HE.out.1 (by decide) _ (TB.out.below hbw)).mono ?_
  rintro e v4 ⟨rfl, hb4⟩
  replace hbw := Below.on hbw hb4
  clear hb4
  go_wp2_with fail
  refine (soft_mul_e HE.out.2 (by decide) _ (TB.out.below hbw)).mono ?_
  rintro e v5 ⟨rfl, hb5⟩
  replace hbw := Below.on hbw hb5
  clear hb5
  go_wp2_with fail
  go_ret
  exact ⟨rfl, hbw⟩
set_option maxRecDepth 20000 in
set_option maxHeartbeats 8000000 in
theorem twins_e2 (f : Int) (a b : Nat) (hE : OpsE f a b 2) (hF : OpsE f b a 2) (w : World) (hT : Tab w) :
    Calls Tryz.prog 3 #[.int .i64 f, U a, U b] w fun en w' => en = .returned (.bool true) ∧ Below w.heap.size w w' := by
  have hbw : Below w.heap.size w w := Below.refl _ _
  have TB : Hid (Tab w) := hT
  have HE : Hid (OpsE f a b 2 ∧ OpsE f b a 2) := ⟨hE, hF⟩
  clear hT hE hF
  go_enter Tryz.func3, Tryz.ntmps3
  go_wp2_with fail
  refine (awake9 _ (TB.out.below hbw)).mono ?_
  rintro e v1 ⟨rfl, hb1⟩
  replace hbw := Below.on hbw hb1
  clear hb1
  go_wp2_with fail
  refine (soft_add_e HE.out.1 (by decide) _ (TB.out.below hbw)).mono ?_
  rintro e v2 ⟨rfl, hb2⟩
  replace hbw := Below.on hbw hb2
  clear hb2
  go_wp2_with fail
  refine (soft_add_e HE.out.2 (by decide) _ (TB.out.below hbw)).mono ?_
  rintro e v3 ⟨rfl, hb3⟩
  replace hbw := Below.on hbw hb3
  clear hb3
  go_wp2_with fail
  refine (soft_mul_e HE.out.1 (by decide) _ (TB.out.below hbw)).mono ?_
  rintro e v4 ⟨rfl, hb4⟩
  replace hbw := Below.on hbw hb4
  clear hb4
  go_wp2_with fail
  refine (soft_mul_e HE.out.2 (by decide) _ (TB.out.below hbw)).mono ?_
  rintro e v5 ⟨rfl, hb5⟩
  replace hbw := Below.on hbw hb5
  clear hb5
  go_wp2_with fail
  go_ret
  exact ⟨rfl, hbw⟩
set_option maxRecDepth 20000 in
set_option maxHeartbeats 8000000 in
theorem twins_64 (a b : Nat) (ha : a < 2 * 9223372036854775808) (hb : b < 2 * 9223372036854775808) (w : World) (hT : Tab w) :
    Calls Tryz.prog 3 #[.int .i64 64, U a, U b] w fun en w' => en = .returned (.bool true) ∧ Below w.heap.size w w' := by
  have hbw : Below w.heap.size w w := Below.refl _ _
  have TB : Hid (Tab w) := hT
  obtain ⟨oa, ka⟩ := opb_ex pm_64 a
  obtain ⟨ob, kb⟩ := opb_ex pm_64 b
  obtain ⟨X, x1, x2⟩ := sign_zero (a := a) (b := b) (S := 9223372036854775808) (k := 63) (by decide) (by decide) ha hb
  obtain ⟨Z0, hZ0⟩ : ∃ Z0 : Nat, Z0 = (if decide (9223372036854775808 ≤ a) = decide (9223372036854775808 ≤ b) then 0 else 9223372036854775808) := ⟨_, rfl⟩
  rw [← hZ0] at x2
  have hz := opb_zero pm_64 (decide (9223372036854775808 ≤ a)) (decide (9223372036854775808 ≤ b))
  rw [← hZ0] at hz
  have HO : Hid (a < 2 * 9223372036854775808 ∧ b < 2 * 9223372036854775808 ∧ OpB 9223372036854775808 9218868437227405312 4503599627370496 (-1074) a oa ∧ OpB 9223372036854775808 9218868437227405312 4503599627370496 (-1074) b ob) := ⟨ha, hb, ka, kb⟩
  have HZ : Hid (OpB 9223372036854775808 9218868437227405312 4503599627370496 (-1074) Z0 (ono (decide (9223372036854775808 ≤ a) != decide (9223372036854775808 ≤ b))) ∧ Z0 < 2 * 9223372036854775808) := hz
  have HX : Hid (bits BinOp.xor IntKind.u64 (a : Int) (b : Int) = (X : Int) ∧ bits BinOp.and IntKind.u64 9223372036854775808 (X : Int) = (Z0 : Int)) := ⟨x1, x2⟩
  clear hT ha hb ka kb x1 x2 hZ0 hz
  go_enter Tryz.func3, Tryz.ntmps3
  go_wp2_with fail
  refine (awake9 _ (TB.out.below hbw)).mono ?_
  rintro e v1 ⟨rfl, hb1⟩
  replace hbw := Below.on hbw hb1
  clear hb1
  go_wp2_with fail
  refine (add_is jo_64 HO.out.1 HO.out.2.1 HO.out.2.2.1 HO.out.2.2.2 _ (TB.out.below hbw)).mono ?_
  rintro e9 v2 ⟨c1, rfl, hs, hb2⟩
  obtain ⟨P, hP⟩ : ∃ P, P = patO (-1074) 52 1024 9223372036854775808 9218868437227405312 9221120237041090561 c1 := ⟨_, rfl⟩
  rw [← hP]
  have HP : Hid (P = patO (-1074) 52 1024 9223372036854775808 9218868437227405312 9221120237041090561 c1 ∧ SumO oa ob c1) := ⟨hP, hs⟩
  clear hP hs
  replace hbw := Below.on hbw hb2
  clear hb2
  go_wp2_with fail
  refine (add_is jo_64 HO.out.2.1 HO.out.1 HO.out.2.2.2 HO.out.2.2.1 _ (TB.out.below hbw)).mono ?_
  rintro e9 v3 ⟨c, rfl, hs, hb3⟩
  have hcc := hs.comm.uniq HP.out.2
  rw [hcc, ← HP.out.1]
  clear hs hcc
  replace hbw := Below.on hbw hb3
  clear hb3
  go_wp2_with fail
  refine (mul_is jo_64 HO.out.1 HO.out.2.1 HO.out.2.2.1 HO.out.2.2.2 _ (TB.out.below hbw)).mono ?_
  rintro e9 v4 ⟨cm, rfl, hs, hb4⟩
  obtain ⟨M, hM⟩ : ∃ M, M = patO (-1074) 52 1024 9223372036854775808 9218868437227405312 9221120237041090561 cm := ⟨_, rfl⟩
  rw [← hM]
  have HM : Hid (M = patO (-1074) 52 1024 9223372036854775808 9218868437227405312 9221120237041090561 cm ∧ MulO oa ob cm) := ⟨hM, hs⟩
  clear hM hs
  replace hbw := Below.on hbw hb4
  clear hb4
  go_wp2_with fail
  refine (mul_is jo_64 HO.out.2.1 HO.out.1 HO.out.2.2.2 HO.out.2.2.1 _ (TB.out.below hbw)).mono ?_
  rintro e9 v5 ⟨c, rfl, hs, hb5⟩
  have hcc := hs.comm.uniq HM.out.2
  rw [hcc, ← HM.out.1]
  clear hs hcc
  replace hbw := Below.on hbw hb5
  clear hb5
  go_wp2_with fail
  refine (neg_is jo_64 HO.out.1 HO.out.2.2.1 _ (TB.out.below hbw)).mono ?_
  rintro e9 v6 ⟨c, rfl, hs, hb6⟩
  obtain ⟨NA, hNA⟩ : ∃ NA, NA = patO (-1074) 52 1024 9223372036854775808 9218868437227405312 9221120237041090561 (negO oa) := ⟨_, rfl⟩
  subst hs
  rw [← hNA]
  have HNA : Hid (NA < 2 * 9223372036854775808 ∧ OpB 9223372036854775808 9218868437227405312 4503599627370496 (-1074) NA (negO oa)) := by rw [hNA]; exact HO.out.2.2.1.nn jo_64.jq HO.out.1
  clear hNA
  replace hbw := Below.on hbw hb6
  clear hb6
  go_wp2_with fail
  refine (neg_is jo_64 HO.out.2.1 HO.out.2.2.2 _ (TB.out.below hbw)).mono ?_
  rintro e9 v7 ⟨c, rfl, hs, hb7⟩
  obtain ⟨NB, hNB⟩ : ∃ NB, NB = patO (-1074) 52 1024 9223372036854775808 9218868437227405312 9221120237041090561 (negO ob) := ⟨_, rfl⟩
  subst hs
  rw [← hNB]
  have HNB : Hid (NB < 2 * 9223372036854775808 ∧ OpB 9223372036854775808 9218868437227405312 4503599627370496 (-1074) NB (negO ob)) := by rw [hNB]; exact HO.out.2.2.2.nn jo_64.jq HO.out.2.1
  clear hNB
  replace hbw := Below.on hbw hb7
  clear hb7
  go_wp2_with fail
  obtain ⟨om, hom⟩ := opb_ex pm_64 M
  have HOM : Hid (M < 2 * 9223372036854775808 ∧ OpB 9223372036854775808 9218868437227405312 4503599627370496 (-1074) M om) := ⟨by rw [HM.out.1]; exact HM.out.2.good.lt jo_64.jq, hom⟩
  clear hom
  refine (neg_is jo_64 HOM.out.1 HOM.out.2 _ (TB.out.below hbw)).mono ?_
  rintro e9 v8 ⟨c, rfl, hs, hb8⟩
  subst hs
  obtain ⟨NP, hNP⟩ : ∃ NP, NP = patO (-1074) 52 1024 9223372036854775808 9218868437227405312 9221120237041090561 (negO cm) := ⟨_, rfl⟩
  have h9 : patO (-1074) 52 1024 9223372036854775808 9218868437227405312 9221120237041090561 (negO om) = NP := by rw [hNP]; exact neg_round jo_64.jq HM.out.2.good (by rw [← HM.out.1]; exact HOM.out.2)
  rw [h9]
  have HNP : Hid (NP = patO (-1074) 52 1024 9223372036854775808 9218868437227405312 9221120237041090561 (negO cm)) := hNP
  clear h9 hNP
  replace hbw := Below.on hbw hb8
  clear hb8
  go_wp2_with fail
  refine (mul_is jo_64 HNA.out.1 HO.out.2.1 HNA.out.2 HO.out.2.2.2 _ (TB.out.below hbw)).mono ?_
  rintro e9 v9 ⟨c, rfl, hs, hb9⟩
  have hcc := hs.uniq (HM.out.2.neg HO.out.2.2.1.good)
  rw [hcc, ← HNP.out]
  clear hs hcc
  replace hbw := Below.on hbw hb9
  clear hb9
  go_wp2_with fail
  refine (sub_is jo_64 HO.out.1 HO.out.2.1 HO.out.2.2.1 HO.out.2.2.2 _ (TB.out.below hbw)).mono ?_
  rintro e9 v10 ⟨c3, rfl, hs, hb10⟩
  obtain ⟨SS, hSS⟩ : ∃ SS, SS = patO (-1074) 52 1024 9223372036854775808 9218868437227405312 9221120237041090561 c3 := ⟨_, rfl⟩
  rw [← hSS]
  have HSS : Hid (SS = patO (-1074) 52 1024 9223372036854775808 9218868437227405312 9221120237041090561 c3 ∧ SumO oa (negO ob) c3) := ⟨hSS, hs⟩
  clear hSS hs
  replace hbw := Below.on hbw hb10
  clear hb10
  go_wp2_with fail
  refine (add_is jo_64 HO.out.1 HNB.out.1 HO.out.2.2.1 HNB.out.2 _ (TB.out.below hbw)).mono ?_
  rintro e9 v11 ⟨c, rfl, hs, hb11⟩
  have hcc := hs.uniq HSS.out.2
  rw [hcc, ← HSS.out.1]
  clear hs hcc
  replace hbw := Below.on hbw hb11
  clear hb11
  go_wp2_with fail
  refine (add_is jo_64 HO.out.1 HO.out.2.1 HO.out.2.2.1 HO.out.2.2.2 _ (TB.out.below hbw)).mono ?_
  rintro e9 v12 ⟨c, rfl, hs, hb12⟩
  have hcc := hs.uniq HP.out.2
  rw [hcc, ← HP.out.1]
  clear hs hcc
  replace hbw := Below.on hbw hb12
  clear hb12
  go_wp2_with fail
  have x1 := HX.out.1
  have x2 := HX.out.2
  refine (fma_is jo_64 (a := 4607182418800017408) (oa := ofin 1 0) (by decide) HO.out.1 HO.out.2.1 (.inr (.inr (.inr ⟨by decide, by decide, 1, 0, vf_one, by decide, rfl⟩))) HO.out.2.2.1 HO.out.2.2.2 _ (TB.out.below hbw)).mono ?_
  rintro e9 v13 ⟨q, c, rfl, hm, hs, hb13⟩
  have hqq := hm.one HO.out.2.2.1.good
  rw [hqq] at hs
  have hcc := hs.uniq HP.out.2
  rw [hcc, ← HP.out.1]
  clear hs hm hcc hqq
  replace hbw := Below.on hbw hb13
  clear hb13
  go_wp2_with fail
  clear x1 x2
  refine (fma_is jo_64 HO.out.1 HO.out.2.1 HZ.out.2 HO.out.2.2.1 HO.out.2.2.2 HZ.out.1 _ (TB.out.below hbw)).mono ?_
  rintro e9 v14 ⟨q, c, rfl, hm, hs, hb14⟩
  have hqq := hm.uniq HM.out.2
  rw [hqq] at hs
  have hcc := hs.nought HM.out.2.good (fun t ht => by have h9 := HM.out.2; rw [ht] at h9; exact h9.sgn HO.out.2.2.1 HO.out.2.2.2 HO.out.1 HO.out.2.1)
  rw [hcc, ← HM.out.1]
  clear hs hm hcc hqq
  replace hbw := Below.on hbw hb14
  clear hb14
  go_wp2_with fail
  go_ret
  exact ⟨rfl, hbw⟩
set_option maxRecDepth 20000 in
set_option maxHeartbeats 8000000 in
theorem twins_32 (a b : Nat) (ha : a < 2 * 2147483648) (hb : b < 2 * 2147483648) (w : World) (hT : Tab w) :
    Calls Tryz.prog 3 #[.int .i64 32, U a, U b] w fun en w' => en = .returned (.bool true) ∧ Below w.heap.size w w' := by
  have hbw : Below w.heap.size w w := Below.refl _ _
  have TB : Hid (Tab w) := hT
  obtain ⟨oa, ka⟩ := opb_ex pm_32 a
  obtain ⟨ob, kb⟩ := opb_ex pm_32 b
  obtain ⟨X, x1, x2⟩ := sign_zero (a := a) (b := b) (S := 2147483648) (k := 31) (by decide) (by decide) ha hb
  obtain ⟨Z0, hZ0⟩ : ∃ Z0 : Nat, Z0 = (if decide (2147483648 ≤ a) = decide (2147483648 ≤ b) then 0 else 2147483648) := ⟨_, rfl⟩
  rw [← hZ0] at x2
  have hz := opb_zero pm_32 (decide (2147483648 ≤ a)) (decide (2147483648 ≤ b))
  rw [← hZ0] at hz
  have HO : Hid (a < 2 * 2147483648 ∧ b < 2 * 2147483648 ∧ OpB 2147483648 2139095040 8388608 (-149) a oa ∧ OpB 2147483648 2139095040 8388608 (-149) b ob) := ⟨ha, hb, ka, kb⟩
  have HZ : Hid (OpB 2147483648 2139095040 8388608 (-149) Z0 (ono (decide (2147483648 ≤ a) != decide (2147483648 ≤ b))) ∧ Z0 < 2 * 2147483648) := hz
  have HX : Hid (bits BinOp.xor IntKind.u64 (a : Int) (b : Int) = (X : Int) ∧ bits BinOp.and IntKind.u64 2147483648 (X : Int) = (Z0 : Int)) := ⟨x1, x2⟩
  clear hT ha hb ka kb x1 x2 hZ0 hz
  go_enter Tryz.func3, Tryz.ntmps3
  go_wp2_with fail
  refine (awake9 _ (TB.out.below hbw)).mono ?_
  rintro e v1 ⟨rfl, hb1⟩
  replace hbw := Below.on hbw hb1
  clear hb1
  go_wp2_with fail
  refine (add_is jo_32 HO.out.1 HO.out.2.1 HO.out.2.2.1 HO.out.2.2.2 _ (TB.out.below hbw)).mono ?_
  rintro e9 v2 ⟨c1, rfl, hs, hb2⟩
  obtain ⟨P, hP⟩ : ∃ P, P = patO (-149) 23 128 2147483648 2139095040 2143289345 c1 := ⟨_, rfl⟩
  rw [← hP]
  have HP : Hid (P = patO (-149) 23 128 2147483648 2139095040 2143289345 c1 ∧ SumO oa ob c1) := ⟨hP, hs⟩
  clear hP hs
  replace hbw := Below.on hbw hb2
  clear hb2
  go_wp2_with fail
  refine (add_is jo_32 HO.out.2.1 HO.out.1 HO.out.2.2.2 HO.out.2.2.1 _ (TB.out.below hbw)).mono ?_
  rintro e9 v3 ⟨c, rfl, hs, hb3⟩
  have hcc := hs.comm.uniq HP.out.2
  rw [hcc, ← HP.out.1]
  clear hs hcc
  replace hbw := Below.on hbw hb3
  clear hb3
  go_wp2_with fail
  refine (mul_is jo_32 HO.out.1 HO.out.2.1 HO.out.2.2.1 HO.out.2.2.2 _ (TB.out.below hbw)).mono ?_
  rintro e9 v4 ⟨cm, rfl, hs, hb4⟩
  obtain ⟨M, hM⟩ : ∃ M, M = patO (-149) 23 128 2147483648 2139095040 2143289345 cm := ⟨_, rfl⟩
  rw [← hM]
  have HM : Hid (M = patO (-149) 23 128 2147483648 2139095040 2143289345 cm ∧ MulO oa ob cm) := ⟨hM, hs⟩
  clear hM hs
  replace hbw := Below.on hbw hb4
  clear hb4
  go_wp2_with fail
  refine (mul_is jo_32 HO.out.2.1 HO.out.1 HO.out.2.2.2 HO.out.2.2.1 _ (TB.out.below hbw)).mono ?_
  rintro e9 v5 ⟨c, rfl, hs, hb5⟩
  have hcc := hs.comm.uniq HM.out.2
  rw [hcc, ← HM.out.1]
  clear hs hcc
  replace hbw := Below.on hbw hb5
  clear hb5
  go_wp2_with fail
  refine (neg_is jo_32 HO.out.1 HO.out.2.2.1 _ (TB.out.below hbw)).mono ?_
  rintro e9 v6 ⟨c, rfl, hs, hb6⟩
  obtain ⟨NA, hNA⟩ : ∃ NA, NA = patO (-149) 23 128 2147483648 2139095040 2143289345 (negO oa) := ⟨_, rfl⟩
  subst hs
  rw [← hNA]
  have HNA : Hid (NA < 2 * 2147483648 ∧ OpB 2147483648 2139095040 8388608 (-149) NA (negO oa)) := by rw [hNA]; exact HO.out.2.2.1.nn jo_32.jq HO.out.1
  clear hNA
  replace hbw := Below.on hbw hb6
  clear hb6
  go_wp2_with fail
  refine (neg_is jo_32 HO.out.2.1 HO.out.2.2.2 _ (TB.out.below hbw)).mono ?_
  rintro e9 v7 ⟨c, rfl, hs, hb7⟩
  obtain ⟨NB, hNB⟩ : ∃ NB, NB = patO (-149) 23 128 2147483648 2139095040 2143289345 (negO ob) := ⟨_, rfl⟩
  subst hs
  rw [← hNB]
  have HNB : Hid (NB < 2 * 2147483648 ∧ OpB 2147483648 2139095040 8388608 (-149) NB (negO ob)) := by rw [hNB]; exact HO.out.2.2.2.nn jo_32.jq HO.out.2.1
  clear hNB
  replace hbw := Below.on hbw hb7
  clear hb7
  go_wp2_with fail
  obtain ⟨om, hom⟩ := opb_ex pm_32 M
  have HOM : Hid (M < 2 * 2147483648 ∧ OpB 2147483648 2139095040 8388608 (-149) M om) := ⟨by rw [HM.out.1]; exact HM.out.2.good.lt jo_32.jq, hom⟩
  clear hom
  refine (neg_is jo_32 HOM.out.1 HOM.out.2 _ (TB.out.below hbw)).mono ?_
  rintro e9 v8 ⟨c, rfl, hs, hb8⟩
  subst hs
  obtain ⟨NP, hNP⟩ : ∃ NP, NP = patO (-149) 23 128 2147483648 2139095040 2143289345 (negO cm) := ⟨_, rfl⟩
  have h9 : patO (-149) 23 128 2147483648 2139095040 2143289345 (negO om) = NP := by rw [hNP]; exact neg_round jo_32.jq HM.out.2.good (by rw [← HM.out.1]; exact HOM.out.2)
  rw [h9]
  have HNP : Hid (NP = patO (-149) 23 128 2147483648 2139095040 2143289345 (negO cm)) := hNP
  clear h9 hNP
  replace hbw := Below.on hbw hb8
  clear hb8
  go_wp2_with fail
  refine (mul_is jo_32 HNA.out.1 HO.out.2.1 HNA.out.2 HO.out.2.2.2 _ (TB.out.below hbw)).mono ?_
  rintro e9 v9 ⟨c, rfl, hs, hb9⟩
  have hcc := hs.uniq (HM.out.2.neg HO.out.2.2.1.good)
  rw [hcc, ← HNP.out]
  clear hs hcc
  replace hbw := Below.on hbw hb9
  clear hb9
  go_wp2_with fail
  refine (sub_is jo_32 HO.out.1 HO.out.2.1 HO.out.2.2.1 HO.out.2.2.2 _ (TB.out.below hbw)).mono ?_
  rintro e9 v10 ⟨c3, rfl, hs, hb10⟩
  obtain ⟨SS, hSS⟩ : ∃ SS, SS = patO (-149) 23 128 2147483648 2139095040 2143289345 c3 := ⟨_, rfl⟩
  rw [← hSS]
  have HSS : Hid (SS = patO (-149) 23 128 2147483648 2139095040 2143289345 c3 ∧ SumO oa (negO ob) c3) := ⟨hSS, hs⟩
  clear hSS hs
  replace hbw := Below.on hbw hb10
  clear hb10
  go_wp2_with fail
  refine (add_is jo_32 HO.out.1 HNB.out.1 HO.out.2.2.1 HNB.out.2 _ (TB.out.below hbw)).mono ?_
  rintro e9 v11 ⟨c, rfl, hs, hb11⟩
  have hcc := hs.uniq HSS.out.2
  rw [hcc, ← HSS.out.1]
  clear hs hcc
  replace hbw := Below.on hbw hb11
  clear hb11
  go_wp2_with fail
  refine (add_is jo_32 HO.out.1 HO.out.2.1 HO.out.2.2.1 HO.out.2.2.2 _ (TB.out.below hbw)).mono ?_
  rintro e9 v12 ⟨c, rfl, hs, hb12⟩
  have hcc := hs.uniq HP.out.2
  rw [hcc, ← HP.out.1]
  clear hs hcc
  replace hbw := Below.on hbw hb12
  clear hb12
  go_wp2_with fail
  have x1 := HX.out.1
  have x2 := HX.out.2
  refine (fma_is jo_32 (a := 1065353216) (oa := ofin 1 0) (by decide) HO.out.1 HO.out.2.1 (.inr (.inr (.inr ⟨by decide, by decide, 1, 0, vf_one32, by decide, rfl⟩))) HO.out.2.2.1 HO.out.2.2.2 _ (TB.out.below hbw)).mono ?_
  rintro e9 v13 ⟨q, c, rfl, hm, hs, hb13⟩
  have hqq := hm.one HO.out.2.2.1.good
  rw [hqq] at hs
  have hcc := hs.uniq HP.out.2
  rw [hcc, ← HP.out.1]
  clear hs hm hcc hqq
  replace hbw := Below.on hbw hb13
  clear hb13
  go_wp2_with fail
  clear x1 x2
  refine (fma_is jo_32 HO.out.1 HO.out.2.1 HZ.out.2 HO.out.2.2.1 HO.out.2.2.2 HZ.out.1 _ (TB.out.below hbw)).mono ?_
  rintro e9 v14 ⟨q, c, rfl, hm, hs, hb14⟩
  have hqq := hm.uniq HM.out.2
  rw [hqq] at hs
  have hcc := hs.nought HM.out.2.good (fun t ht => by have h9 := HM.out.2; rw [ht] at h9; exact h9.sgn HO.out.2.2.1 HO.out.2.2.2 HO.out.1 HO.out.2.1)
  rw [hcc, ← HM.out.1]
  clear hs hm hcc hqq
  replace hbw := Below.on hbw hb14
  clear hb14
  go_wp2_with fail
  go_ret
  exact ⟨rfl, hbw⟩
theorem softTwins_w (f : Int) (a b : Nat) (ha : a < B64) (hb : b < B64) (w : World) (hT : Tab w) : Calls Tryz.prog 3 #[.int .i64 f, U a, U b] w fun en w' => en = .returned (.bool true) ∧ Below w.heap.size w w' := by
  have hx : ∀ c : Nat, f ≠ 32 → f ≠ 64 → BadO f c 1 := fun c h1 h2 w => opof_bad (fun w => patternOf_x f h1 h2 c w) (by decide) w
  by_cases h1 : f = 32
  · subst h1
    have hbad : ∀ c : Nat, c < B64 → 2 * 2147483648 ≤ c → BadO 32 c 2 := fun c hc h w => opof_bad (fun w => fm_32.big c w hc h) (by decide) w
    by_cases h2 : a < 2 * 2147483648
    · by_cases h3 : b < 2 * 2147483648
      · exact twins_32 a b h2 h3 w hT
      · exact twins_e2 32 a b (operands_e2 jo_32 h2 (hbad b hb (by omega)) (by decide)) (operands_e1 (hbad b hb (by omega)) (by decide)) w hT
    · by_cases h3 : b < 2 * 2147483648
      · exact twins_e2 32 a b (operands_e1 (hbad a ha (by omega)) (by decide)) (operands_e2 jo_32 h3 (hbad a ha (by omega)) (by decide)) w hT
      · exact twins_e2 32 a b (operands_e1 (hbad a ha (by omega)) (by decide)) (operands_e1 (hbad b hb (by omega)) (by decide)) w hT
  · by_cases h2 : f = 64
    · subst h2
      rw [B64_eq] at ha hb
      exact twins_64 a b (by omega) (by omega) w hT
    · exact twins_e1 f a b (operands_e1 (hx a h1 h2) (by decide)) (operands_e1 (hx b h1 h2) (by decide)) w hT
end Go.Proofs.YtkfonlijgoldfaaGreatDoor

namespace Go.Proofs.YtkfonlijgoldfaaGreatDoor
open Go.RowKit Go.Shelf

set_option maxRecDepth 20000 in
set_option maxHeartbeats 8000000 in
theorem rcls_32_0 (s : Nat) (h0 : s = 0) (w : World) :
    Calls Tryz.prog 13 #[FV 2147483648 24 (-149) 104 2139095040 2143289345, U s] w fun en w' => en = .returned (.int .i64 0) ∧ Below w.heap.size w w' := by
  subst h0
  go_enter Tryz.func13, Tryz.ntmps13
  go_wp2_with fail
  go_ret
  exact ⟨rfl, bwAlloc w _⟩
set_option maxRecDepth 20000 in
set_option maxHeartbeats 8000000 in
theorem rcls_32_1 (s : Nat) (h0 : s ≠ 0) (h1 : s < 8388608) (w : World) :
    Calls Tryz.prog 13 #[FV 2147483648 24 (-149) 104 2139095040 2143289345, U s] w fun en w' => en = .returned (.int .i64 1) ∧ Below w.heap.size w w' := by
  have k0 : ((s : Int) == 0) = false := by simp; omega
  have k1 : decide ((s : Int) < 8388608) = true := by exact decide_eq_true (by omega)
  have m1 : ((1 : Int) <<< (23 : Nat)) = 8388608 := by decide
  clear h0 h1
  go_enter Tryz.func13, Tryz.ntmps13
  go_wp2_with fail
  go_ret
  exact ⟨rfl, bwAlloc w _⟩
set_option maxRecDepth 20000 in
set_option maxHeartbeats 8000000 in
theorem rcls_32_2 (s : Nat) (h1 : ¬ s < 8388608) (h2 : s < 2139095040) (w : World) :
    Calls Tryz.prog 13 #[FV 2147483648 24 (-149) 104 2139095040 2143289345, U s] w fun en w' => en = .returned (.int .i64 2) ∧ Below w.heap.size w w' := by
  have k0 : ((s : Int) == 0) = false := by simp; omega
  have k1 : decide ((s : Int) < 8388608) = false := by exact decide_eq_false (by omega)
  have k2 : decide ((s : Int) < 2139095040) = true := by exact decide_eq_true (by omega)
  have m1 : ((1 : Int) <<< (23 : Nat)) = 8388608 := by decide
  clear h1 h2
  go_enter Tryz.func13, Tryz.ntmps13
  go_wp2_with fail
  go_ret
  exact ⟨rfl, bwAlloc w _⟩
set_option maxRecDepth 20000 in
set_option maxHeartbeats 8000000 in
theorem rcls_64_0 (s : Nat) (h0 : s = 0) (w : World) :
    Calls Tryz.prog 13 #[FV 9223372036854775808 53 (-1074) 971 9218868437227405312 9221120237041090561, U s] w fun en w' => en = .returned (.int .i64 0) ∧ Below w.heap.size w w' := by
  subst h0
  go_enter Tryz.func13, Tryz.ntmps13
  go_wp2_with fail
  go_ret
  exact ⟨rfl, bwAlloc w _⟩
set_option maxRecDepth 20000 in
set_option maxHeartbeats 8000000 in
theorem rcls_64_1 (s : Nat) (h0 : s ≠ 0) (h1 : s < 4503599627370496) (w : World) :
    Calls Tryz.prog 13 #[FV 9223372036854775808 53 (-1074) 971 9218868437227405312 9221120237041090561, U s] w fun en w' => en = .returned (.int .i64 1) ∧ Below w.heap.size w w' := by
  have k0 : ((s : Int) == 0) = false := by simp; omega
  have k1 : decide ((s : Int) < 4503599627370496) = true := by exact decide_eq_true (by omega)
  have m1 : ((1 : Int) <<< (52 : Nat)) = 4503599627370496 := by decide
  clear h0 h1
  go_enter Tryz.func13, Tryz.ntmps13
  go_wp2_with fail
  go_ret
  exact ⟨rfl, bwAlloc w _⟩
set_option maxRecDepth 20000 in
set_option maxHeartbeats 8000000 in
theorem rcls_64_2 (s : Nat) (h1 : ¬ s < 4503599627370496) (h2 : s < 9218868437227405312) (w : World) :
    Calls Tryz.prog 13 #[FV 9223372036854775808 53 (-1074) 971 9218868437227405312 9221120237041090561, U s] w fun en w' => en = .returned (.int .i64 2) ∧ Below w.heap.size w w' := by
  have k0 : ((s : Int) == 0) = false := by simp; omega
  have k1 : decide ((s : Int) < 4503599627370496) = false := by exact decide_eq_false (by omega)
  have k2 : decide ((s : Int) < 9218868437227405312) = true := by exact decide_eq_true (by omega)
  have m1 : ((1 : Int) <<< (52 : Nat)) = 4503599627370496 := by decide
  clear h1 h2
  go_enter Tryz.func13, Tryz.ntmps13
  go_wp2_with fail
  go_ret
  exact ⟨rfl, bwAlloc w _⟩
end Go.Proofs.YtkfonlijgoldfaaGreatDoor

namespace Go.Proofs.YtkfonlijgoldfaaGreatDoor
open Go.RowKit Go.Shelf

end Go.Proofs.YtkfonlijgoldfaaGreatDoor

namespace Go.Proofs.YtkfonlijgoldfaaGreatDoor
open Go.RowKit Go.Shelf

end Go.Proofs.YtkfonlijgoldfaaGreatDoor

namespace Go.Proofs.YtkfonlijgoldfaaGreatDoor
open Go.RowKit Go.Shelf

end Go.Proofs.YtkfonlijgoldfaaGreatDoor

namespace Go.Proofs.YtkfonlijgoldfaaGreatDoor
open Go.RowKit Go.Shelf

end Go.Proofs.YtkfonlijgoldfaaGreatDoor

namespace Go.Proofs.YtkfonlijgoldfaaGreatDoor
open Go.RowKit Go.Shelf

theorem sq_dv (x : Nat) {e : Int} (he : -4194304 ≤ e) : dv (x : Int) e * dv (x : Int) e = ((x * x : Nat) : Int) * ((2 ^ (e + e + 2 * 4194304).toNat : Nat) : Int) := by
  unfold dv
  obtain ⟨k, hk⟩ : ∃ k, k = (e + 4194304).toNat := ⟨_, rfl⟩
  rw [← hk, show (e + e + 2 * 4194304).toNat = k + k from by omega, Nat.pow_add, ← Int.natCast_mul, ← Int.natCast_mul, ← Int.natCast_mul]
  congr 1
  rw [Nat.mul_mul_mul_comm]
theorem sq_at {z e zo eo X E M : Int} (hz : -2097152 ≤ e) (hE : -4194304 ≤ E) (hM : dv z e = M) (hv : dv zo eo = dv (z * z) (e + e)) :
    (M * M < X * ((2 ^ (E + 2 * 4194304).toNat : Nat) : Int) ↔ dv zo eo < dv X E) ∧ (X * ((2 ^ (E + 2 * 4194304).toNat : Nat) : Int) < M * M ↔ dv X E < dv zo eo) := by
  have h1 := dv_mul (z := z) (c := z) (e := e) (f := e) hz hz
  rw [hM, ← hv] at h1
  obtain ⟨o, ho⟩ : ∃ o : Nat, o = 4194304 := ⟨_, rfl⟩
  have h2 : X * ((2 ^ (E + 2 * 4194304).toNat : Nat) : Int) = dv X E * ((2 ^ 4194304 : Nat) : Int) := by
    unfold dv
    rw [show (E + 2 * 4194304).toNat = (E + 4194304).toNat + 4194304 from by omega, ← ho, Nat.pow_add, Int.natCast_mul, Int.mul_assoc]
  have h3 : (0 : Int) < ((2 ^ 4194304 : Nat) : Int) := by
    rw [← ho]
    have := Nat.pow_pos (n := o) (show 0 < 2 by omega)
    omega
  rw [h2, ← h1]
  generalize ((2 ^ 4194304 : Nat) : Int) = P at h3
  exact ⟨⟨fun h => Int.lt_of_mul_lt_mul_right h (Int.le_of_lt h3), fun h => Int.mul_lt_mul_of_pos_right h h3⟩, ⟨fun h => Int.lt_of_mul_lt_mul_right h (Int.le_of_lt h3), fun h => Int.mul_lt_mul_of_pos_right h h3⟩⟩
end Go.Proofs.YtkfonlijgoldfaaGreatDoor

namespace Go.Proofs.YtkfonlijgoldfaaGreatDoor
open Go.RowKit Go.Shelf

theorem rsq_hi {H m t B M2 : Nat} (hm : m ≤ 2 * H - 1) (hH : 1 ≤ H) (ht : 0 < t) (hman : H ≤ M2) (h1 : 2 * M2 * B ≤ (m * t) * (m * t) + B) :
    B ≤ m * t * t ∧ 4 * (2 * M2 * B) < (2 * (m * t) + t) * (2 * (m * t) + t) := by
  have h2 : (2 * H - 1) * B ≤ (m * t) * (m * t) := by
    have h3 : 2 * H * B ≤ 2 * M2 * B := Nat.mul_le_mul_right _ (by omega)
    rw [Nat.sub_mul, Nat.one_mul]; omega
  have h4 : B ≤ m * t * t := by
    rcases Nat.eq_zero_or_pos m with h0 | h0
    · subst h0
      rw [Nat.zero_mul, Nat.zero_mul] at h2
      rcases Nat.eq_zero_or_pos B with hB | hB
      · rw [hB]; exact Nat.zero_le _
      · have : 0 < (2 * H - 1) * B := Nat.mul_pos (by omega) hB
        omega
    · have h5 : (m * t) * (m * t) = m * (m * t * t) := by
        rw [Nat.mul_mul_mul_comm, Nat.mul_assoc m t t, ← Nat.mul_assoc m m, Nat.mul_assoc]
      have h6 : m * (m * t * t) ≤ (2 * H - 1) * (m * t * t) := Nat.mul_le_mul_right _ hm
      rw [h5] at h2
      exact Nat.le_of_mul_le_mul_left (Nat.le_trans h2 h6) (by omega)
  refine ⟨h4, ?_⟩
  have h7 : (2 * (m * t) + t) * (2 * (m * t) + t) = 4 * ((m * t) * (m * t)) + 4 * (m * t * t) + t * t := by
    generalize m * t = N
    rw [Nat.add_mul, Nat.mul_add, Nat.mul_add, Nat.mul_mul_mul_comm, Nat.mul_assoc 2 N t, Nat.mul_left_comm t 2 N, Nat.mul_comm t N]
    omega
  have h8 : 0 < t * t := Nat.mul_pos ht ht
  rw [h7]
  omega
theorem rsq_lo {H m t B M2 sd τ α : Nat} (hm : m ≤ 2 * H - 1) (h0 : 1 ≤ m) (hH : H = 2 ^ sd) (hsd : 1 ≤ sd) (ht : t = 2 ^ τ) (hB : B = 2 ^ α) (hman : H ≤ M2) (h1 : 2 * M2 * B ≤ (m * t) * (m * t) + B) (h2 : (m * t) * (m * t) ≤ 2 * M2 * B + B) :
    (2 * (m * t) - t) * (2 * (m * t) - t) < 4 * (2 * M2 * B) := by
  have hH2 : 2 ≤ H := by
    rw [hH, show sd = sd - 1 + 1 from by omega, Nat.pow_succ]
    have := Nat.two_pow_pos (sd - 1)
    omega
  have htp : 0 < t := by rw [ht]; exact Nat.two_pow_pos _
  have hle := (rsq_hi hm (by omega) htp hman h1).1
  -- four times B is below 4 m t t - t t
  have key : B < m * t * t ∧ 4 * B < 4 * (m * t * t) - t * t := by
    have h3 : B < m * t * t ∧ (2 * B ≤ t * t ∨ ∃ w, B = w * (t * t) ∧ w < m) := by
      rcases Nat.lt_or_ge α (τ + τ) with ha | ha
      · have h4 : 2 * B ≤ t * t := by
          rw [hB, ht, ← Nat.pow_add, Nat.mul_comm, ← Nat.pow_succ]
          exact Nat.pow_le_pow_right (by omega) ha
        have h5 : t * t ≤ m * t * t := by
          rw [Nat.mul_assoc]; exact Nat.le_mul_of_pos_left _ h0
        have h6 : 0 < B := by rw [hB]; exact Nat.two_pow_pos _
        exact ⟨by omega, .inl h4⟩
      · obtain ⟨k, hk⟩ : ∃ k, α = k + (τ + τ) := ⟨α - (τ + τ), by omega⟩
        have h4 : B = 2 ^ k * (t * t) := by rw [hB, hk, Nat.pow_add, Nat.pow_add, ht]
        have htt : 0 < t * t := Nat.mul_pos htp htp
        have h5 : 2 ^ k ≤ m := by
          rw [h4, Nat.mul_assoc m] at hle
          exact Nat.le_of_mul_le_mul_right hle htt
        have h6 : 2 ^ k ≠ m := by
          intro h7
          have h8 : (2 * H - 1) * B ≤ (m * t) * (m * t) := by
            have h3 : 2 * H * B ≤ 2 * M2 * B := Nat.mul_le_mul_right _ (by omega)
            rw [Nat.sub_mul, Nat.one_mul]; omega
          rw [h4, h7, Nat.mul_mul_mul_comm m t m t, ← Nat.mul_assoc] at h8
          have h9 := Nat.le_of_mul_le_mul_right h8 htt
          have h10 : 2 * H - 1 ≤ m := Nat.le_of_mul_le_mul_right h9 (by omega)
          have h11 : m = 2 * H - 1 := by omega
          rcases Nat.eq_zero_or_pos k with hk0 | hk0
          · rw [hk0, Nat.pow_zero] at h7; omega
          · rw [show k = k - 1 + 1 from by omega, Nat.pow_succ] at h7; omega
        refine ⟨?_, .inr ⟨2 ^ k, h4, by omega⟩⟩
        rw [h4, Nat.mul_assoc m]
        exact Nat.mul_lt_mul_of_pos_right (by omega) htt
    obtain ⟨h4, h5⟩ := h3
    have htt : 0 < t * t := Nat.mul_pos htp htp
    have h6 : t * t ≤ m * t * t := by rw [Nat.mul_assoc]; exact Nat.le_mul_of_pos_left _ h0
    refine ⟨by omega, ?_⟩
    rcases h5 with h7 | ⟨w, h7, h8⟩
    · omega
    · have h9 : (w + 1) * (t * t) ≤ m * (t * t) := Nat.mul_le_mul_right _ h8
      rw [Nat.add_mul, Nat.one_mul, ← h7, ← Nat.mul_assoc] at h9
      omega
  have h7 : (2 * (m * t) - t) * (2 * (m * t) - t) + 4 * (m * t * t) = 4 * ((m * t) * (m * t)) + t * t := by
    have hN : t ≤ m * t := Nat.le_mul_of_pos_left _ h0
    generalize m * t = N at hN ⊢
    obtain ⟨d, rfl⟩ : ∃ d, N = t + d := ⟨N - t, by omega⟩
    rw [show 2 * (t + d) - t = t + 2 * d from by omega]
    have e1 : (t + 2 * d) * (t + 2 * d) = t * t + 4 * (t * d) + 4 * (d * d) := by
      rw [Nat.add_mul, Nat.mul_add, Nat.mul_add, Nat.mul_left_comm t 2 d, Nat.mul_assoc 2 d t, Nat.mul_comm d t, Nat.mul_mul_mul_comm]
      omega
    have e2 : (t + d) * t = t * t + t * d := by rw [Nat.add_mul, Nat.mul_comm d t]
    have e3 : (t + d) * (t + d) = t * t + 2 * (t * d) + d * d := by
      rw [Nat.add_mul, Nat.mul_add, Nat.mul_add, Nat.mul_comm d t]
      omega
    rw [e1, e2, e3]
    omega
  have h8 : t * t ≤ m * t * t := by rw [Nat.mul_assoc]; exact Nat.le_mul_of_pos_left _ h0
  have h9 := key.2
  omega
theorem rsq_pow {H t B M2 sd τ α : Nat} (hH : H = 2 ^ sd) (hsd : 1 ≤ sd) (ht : t = 2 ^ τ) (hB : B = 2 ^ α) (hman : H ≤ M2) (h1 : 2 * M2 * B ≤ (H * t) * (H * t) + B) (h2 : (H * t) * (H * t) ≤ 2 * M2 * B + B) : 2 * M2 * B = (H * t) * (H * t) := by
  have hH2 : 2 ≤ H := by
    rw [hH, show sd = sd - 1 + 1 from by omega, Nat.pow_succ]
    have := Nat.two_pow_pos (sd - 1)
    omega
  have hp : (H * t) * (H * t) = 2 ^ (sd + τ + (sd + τ)) := by rw [hH, ht, ← Nat.pow_add, ← Nat.pow_add]
  have hBp : 0 < B := by rw [hB]; exact Nat.two_pow_pos _
  rw [hp] at h1 h2 ⊢
  generalize sd + τ + (sd + τ) = γ at *
  rcases Nat.lt_or_ge γ (α + 1) with hg | hg
  · exfalso
    have h3 : 2 ^ γ ≤ B := by rw [hB]; exact Nat.pow_le_pow_right (by omega) (by omega)
    have h4 : 4 * B ≤ 2 * M2 * B := Nat.mul_le_mul_right _ (by omega)
    omega
  · obtain ⟨k, hk⟩ : ∃ k, γ = k + 1 + α := ⟨γ - (α + 1), by omega⟩
    have h3 : 2 ^ γ = 2 * 2 ^ k * B := by rw [hk, Nat.pow_add, Nat.pow_succ, ← hB, Nat.mul_comm (2 ^ k) 2]
    rw [h3] at h1 h2 ⊢
    have h4 : 2 * M2 ≤ 2 * 2 ^ k + 1 := by
      refine Nat.le_of_mul_le_mul_right ?_ hBp
      rw [Nat.add_mul, Nat.one_mul]; exact h1
    have h5 : 2 * 2 ^ k ≤ 2 * M2 + 1 := by
      refine Nat.le_of_mul_le_mul_right ?_ hBp
      rw [Nat.add_mul, Nat.one_mul]; exact h2
    rw [show 2 * M2 = 2 * 2 ^ k from by omega]
end Go.Proofs.YtkfonlijgoldfaaGreatDoor

namespace Go.Proofs.YtkfonlijgoldfaaGreatDoor
open Go.RowKit Go.Shelf

theorem man_of {H s : Nat} (hH : 0 < H) : s - (s / H - 1) * H ≤ 2 * H - 1 ∧ (s ≠ 0 → 1 ≤ s - (s / H - 1) * H) ∧ (H ≤ s → H ≤ s - (s / H - 1) * H) := by
  have h1 := Nat.div_add_mod s H
  have h2 := Nat.mod_lt s hH
  rw [Nat.mul_comm] at h1
  rcases Nat.eq_zero_or_pos (s / H) with h3 | h3
  · rw [h3] at h1 ⊢
    rw [show 0 - 1 = 0 from rfl, Nat.zero_mul]
    refine ⟨by omega, fun h => by omega, fun h => by omega⟩
  · obtain ⟨k, hk⟩ : ∃ k, s / H = k + 1 := ⟨s / H - 1, by omega⟩
    rw [hk] at h1 ⊢
    rw [Nat.add_mul, Nat.one_mul] at h1
    rw [show k + 1 - 1 = k from rfl]
    refine ⟨by omega, fun h => by omega, fun h => by omega⟩
theorem hv_pred {H s : Nat} (hH : 0 < H) (h0 : s ≠ 0) : hv H (s - 1) + 2 ^ ((s - 1) / H - 1) = 2 * vs H s := by
  have h1 := vs_next hH (s - 1)
  rw [show s - 1 + 1 = s from by omega] at h1
  unfold hv
  omega
theorem ulp_pred {H s : Nat} (hH : 0 < H) (h0 : s ≠ 0) : 2 ^ ((s - 1) / H - 1) = 2 ^ (s / H - 1) ∨ (2 * 2 ^ ((s - 1) / H - 1) = 2 ^ (s / H - 1) ∧ s - (s / H - 1) * H = H) := by
  have h1 := Nat.div_add_mod s H
  have h2 := Nat.mod_lt s hH
  rw [Nat.mul_comm] at h1
  by_cases h3 : s % H = 0
  · have h4 : 1 ≤ s / H := by
      rcases Nat.eq_zero_or_pos (s / H) with h5 | h5
      · rw [h5] at h1; omega
      · exact h5
    obtain ⟨k, hk⟩ : ∃ k, s / H = k + 1 := ⟨s / H - 1, by omega⟩
    have h5 : (s - 1) / H = k := by
      rw [hk, Nat.add_mul, Nat.one_mul] at h1
      exact Nat.div_eq_of_lt_le (by omega) (by rw [Nat.add_mul, Nat.one_mul]; omega)
    rw [h5, hk, show k + 1 - 1 = k from rfl]
    rcases Nat.eq_zero_or_pos k with h6 | h6
    · left; rw [h6]
    · right
      refine ⟨by rw [Nat.mul_comm, ← Nat.pow_succ, show (k - 1).succ = k from by omega], ?_⟩
      rw [hk, Nat.add_mul, Nat.one_mul] at h1
      omega
  · left
    have h5 : (s - 1) / H = s / H := by
      refine Nat.div_eq_of_lt_le (by omega) ?_
      rw [Nat.add_mul, Nat.one_mul]; omega
    rw [h5]
theorem ulp_le {H s : Nat} : 2 ^ ((s - 1) / H - 1) ≤ 2 ^ (s / H - 1) := by
  refine Nat.pow_le_pow_right (by omega) ?_
  have : (s - 1) / H ≤ s / H := Nat.div_le_div_right (by omega)
  omega
theorem root_sq {f p m l : Int} {S I H sd : Nat} {Be : Int} (J : Jn f p m l S I H sd Be) {s q : Nat} (hs0 : s ≠ 0) (hsI : s < I) (hq : H ≤ q) (hqI : q < I)
    (hR : RNz H l I (dv ((vs H s * vs H s : Nat) : Int) (l + l)) q) {X E V : Int} {Z : Nat} (hX : 0 < X) (hE : -4194304 ≤ E) (hv9 : dv X E = dv (vs H q : Int) l)
    (hZ : RNz H l I V Z) (hM : Mk H l I (fun τ => τ * τ) ((X.natAbs : Int) * ((2 ^ (E + 2 * 4194304).toNat : Nat) : Int)) V) : Z = s := by
  have hp := J.jm.pm.hp
  have hlo := J.jm.pm.lo
  have hsl := J.jm.sl
  obtain ⟨k1, k2, _⟩ := man_of (s := s) hp
  obtain ⟨j1, _, j3⟩ := man_of (s := q) hp
  have k2' := k2 hs0
  have j3' := j3 hq
  have hNs : vs H s = (s - (s / H - 1) * H) * 2 ^ (s / H - 1) := rfl
  have hNq : vs H q = (q - (q / H - 1) * H) * 2 ^ (q / H - 1) := rfl
  obtain ⟨D, hD⟩ : ∃ D : Nat, D = 2 ^ (-l - 1).toNat := ⟨_, rfl⟩
  obtain ⟨c1, c2, _⟩ := hR.cell (by omega) hqI
  have sh : ∀ n : Nat, dv (n : Int) (l - 1) = dv ((n * D : Nat) : Int) (l + l) := by
    intro n
    rw [dv_shift (z := (n : Int)) (e := l - 1) (f := l + l) (by omega) (by omega), show l - 1 - (l + l) = -l - 1 from by omega, ← hD, Int.natCast_mul]
  rw [sh] at c1 c2
  have c1' : hv H (q - 1) * D ≤ vs H s * vs H s := Int.ofNat_le.mp ((dv_le_iff _).1 c1)
  have c2' : vs H s * vs H s ≤ hv H q * D := Int.ofNat_le.mp ((dv_le_iff _).1 c2)
  have hvq := hv_pred (s := q) hp (by omega)
  have huq := ulp_le (H := H) (s := q)
  have hvs := hv_pred (s := s) hp hs0
  have hus := ulp_pred (s := s) hp hs0
  obtain ⟨t', ht'⟩ : ∃ t', t' = 2 ^ ((s - 1) / H - 1) := ⟨_, rfl⟩
  have ht'p : 0 < t' := by rw [ht']; exact Nat.two_pow_pos _
  rw [← ht'] at hvs hus
  have hhs : hv H s = 2 * vs H s + 2 ^ (s / H - 1) := rfl
  have hhq : hv H q = 2 * vs H q + 2 ^ (q / H - 1) := rfl
  -- the bounds on the square
  obtain ⟨B, hB⟩ : ∃ B, B = 2 ^ (q / H - 1) * D := ⟨_, rfl⟩
  have hBα : B = 2 ^ (q / H - 1 + (-l - 1).toNat) := by rw [hB, hD, Nat.pow_add]
  have hP : vs H q * D = (q - (q / H - 1) * H) * B := by rw [hNq, hB, Nat.mul_assoc]
  have b1 : 2 * (q - (q / H - 1) * H) * B ≤ vs H s * vs H s + B := by
    have h5 : (2 * vs H q) * D ≤ hv H (q - 1) * D + B := by
      rw [hB, ← Nat.add_mul]
      exact Nat.mul_le_mul_right _ (by omega)
    rw [Nat.mul_assoc, hP, ← Nat.mul_assoc] at h5
    omega
  have b2 : vs H s * vs H s ≤ 2 * (q - (q / H - 1) * H) * B + B := by
    rw [hhq, Nat.add_mul, Nat.mul_assoc, hP, ← Nat.mul_assoc, ← hB] at c2'
    exact c2'
  have hsh2 : dv X E = dv ((4 * (2 * (q - (q / H - 1) * H) * B) : Nat) : Int) (l - 1 + (l - 1)) := by
    rw [hv9, dv_shift (z := (vs H q : Int)) (e := l) (f := l - 1 + (l - 1)) (by omega) (by omega), show (l - (l - 1 + (l - 1))).toNat = (-l - 1).toNat + 3 from by omega, Nat.pow_add, ← hD, show 2 ^ 3 = 8 from rfl]
    congr 1
    rw [← Int.natCast_mul, ← Nat.mul_assoc, hP, Nat.mul_assoc 2]
    congr 1
    omega
  have up : dv X E < dv ((hv H s : Int) * (hv H s : Int)) (l - 1 + (l - 1)) := by
    rw [hsh2, ← Int.natCast_mul]
    refine (dv_lt_iff _).2 (Int.ofNat_lt.2 ?_)
    rw [hhs]
    have h5 := (rsq_hi k1 (by omega) (Nat.two_pow_pos (s / H - 1)) j3' (by rw [← hNs]; exact b1)).2
    rw [← hNs] at h5
    exact h5
  have low : dv ((hv H (s - 1) : Int) * (hv H (s - 1) : Int)) (l - 1 + (l - 1)) < dv X E := by
    rw [hsh2, ← Int.natCast_mul]
    refine (dv_lt_iff _).2 (Int.ofNat_lt.2 ?_)
    rcases hus with h5 | ⟨h5, h6⟩
    · have h7 : hv H (s - 1) = 2 * vs H s - 2 ^ (s / H - 1) := by omega
      rw [h7]
      have h8 := rsq_lo (t := 2 ^ (s / H - 1)) k1 k2' J.jm.hs hsl.1 rfl hBα j3' (by rw [← hNs]; exact b1) (by rw [← hNs]; exact b2)
      rw [← hNs] at h8
      exact h8
    · have hN2 : vs H s = H * 2 ^ (s / H - 1) := by rw [hNs, h6]
      have h8 := rsq_pow (t := 2 ^ (s / H - 1)) J.jm.hs hsl.1 rfl hBα j3' (by rw [← hN2]; exact b1) (by rw [← hN2]; exact b2)
      rw [← hN2] at h8
      rw [h8]
      have h9 : hv H (s - 1) < 2 * vs H s := by omega
      have h10 : hv H (s - 1) * hv H (s - 1) < (2 * vs H s) * (2 * vs H s) := Nat.mul_lt_mul'' h9 h9
      have h11 : (2 * vs H s) * (2 * vs H s) = 4 * (vs H s * vs H s) := by rw [Nat.mul_mul_mul_comm]
      omega
  rw [show ((X.natAbs : Nat) : Int) = X from by omega] at hM
  have g1 := (sq_at (z := (hv H s : Int)) (e := l - 1) (X := X) (E := E) (by omega) hE rfl rfl).2.2 up
  have g2 := (sq_at (z := (hv H (s - 1) : Int)) (e := l - 1) (X := X) (E := E) (by omega) hE rfl rfl).1.2 low
  refine Nat.le_antisymm (Nat.le_of_not_lt fun h => ?_) (Nat.le_of_not_lt fun h => ?_)
  · rcases Int.lt_trichotomy V (dv (hv H s : Int) (l - 1)) with h5 | h5 | h5
    · have := hZ.lo s hsI h5; omega
    · have := hM.eq s hsI h5
      rw [this] at g1
      exact absurd g1 (Int.lt_irrefl _)
    · have := hM.gt s hsI h5
      exact absurd (Int.lt_trans g1 this) (Int.lt_irrefl _)
  · rcases Int.lt_trichotomy V (dv (hv H (s - 1) : Int) (l - 1)) with h5 | h5 | h5
    · have := hM.lt (s - 1) (by omega) h5
      exact absurd (Int.lt_trans g2 this) (Int.lt_irrefl _)
    · have := hM.eq (s - 1) (by omega) h5
      rw [this] at g2
      exact absurd g2 (Int.lt_irrefl _)
    · have := hZ.hi (s - 1) (by omega) h5; omega
end Go.Proofs.YtkfonlijgoldfaaGreatDoor

