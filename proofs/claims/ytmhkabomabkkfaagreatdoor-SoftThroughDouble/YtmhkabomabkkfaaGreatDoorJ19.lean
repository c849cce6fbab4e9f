import Derived.Test.YtmhkabomabkkfaaGreatDoorJ18
import Derived.Laws.Externs
import Derived.Deep.Draws
import Derived.Laws.FloatArith
import Derived.Test.YtmhkabomabkkfaaGreatDoorJ14
import Derived.Test.YtmhkabomabkkfaaGreatDoorJ15
import Derived.Test.YtmhkabomabkkfaaGreatDoorJ8
namespace Go.Proofs.YtmhkabomabkkfaaGreatDoor
open Go.RowKit Go.Shelf
set_option maxRecDepth 20000
set_option maxHeartbeats 0
theorem OpV.nf {w : World} {v : Value} {o : Opd} (h : OpV w v o) (hk : o.k ≠ 3) : ∃ t x, v = .iface t x ∧ (∀ w, Sem.run Tryz.prog (Instr.typeAssert (.iface t x) 66 122 true) w = .ok (.tuple #[.agg #[.bool false, .slice none 0 0, .int .i64 0], .bool false]) w) := by
  rcases h with ⟨rfl, _⟩ | ⟨s, rfl, _⟩ | ⟨s, rfl, _⟩ | ⟨s, p, m, c, e, x, _, _, _, rfl⟩
  · exact ⟨_, _, rfl, fun w => ta_nan_fin _ w⟩
  · exact ⟨_, _, rfl, fun w => ta_inf_fin _ w⟩
  · exact ⟨_, _, rfl, fun w => ta_no_fin _ w⟩
  · exact absurd rfl hk
theorem OpV.cf {w : World} {v : Value} {o : Opd} (h : OpV w v o) (hk : o.k = 3) : ∃ s p m c e, v = VFin s p m c e := by
  rcases h with ⟨_, rfl⟩ | ⟨s, _, rfl⟩ | ⟨s, _, rfl⟩ | ⟨s, p, m, c, e, x, rfl, _⟩
  · cases hk
  · cases hk
  · cases hk
  · exact ⟨_, _, _, _, _, rfl⟩
def invO (o : Opd) : Opd := if o.k = 1 then ono o.s else if o.k = 2 then oinf o.s else o
theorem invO_k (o : Opd) : ((invO o).k = 0 ↔ o.k = 0) ∧ ((invO o).k = 1 ↔ o.k = 2) ∧ ((invO o).k = 2 ↔ o.k = 1) ∧ ((invO o).k = 3 ↔ o.k = 3) ∧ (invO o).s = o.s := by
  unfold invO
  by_cases h1 : o.k = 1
  · rw [if_pos h1]; refine ⟨⟨fun h => ?_, fun h => ?_⟩, ⟨fun h => ?_, fun h => ?_⟩, ⟨fun _ => h1, fun _ => rfl⟩, ⟨fun h => ?_, fun h => ?_⟩, rfl⟩
    all_goals first | (cases h; done) | omega
  · rw [if_neg h1]
    by_cases h2 : o.k = 2
    · rw [if_pos h2]; refine ⟨⟨fun h => ?_, fun h => ?_⟩, ⟨fun _ => h2, fun _ => rfl⟩, ⟨fun h => ?_, fun h => ?_⟩, ⟨fun h => ?_, fun h => ?_⟩, rfl⟩
      all_goals first | (cases h; done) | omega
    · rw [if_neg h2]; refine ⟨Iff.rfl, ?_, ?_, Iff.rfl, rfl⟩ <;> omega
theorem inv_bd {K E : Nat} {o : Opd} (h : BdO K E o) : BdO K E (invO o) := by
  unfold invO
  split
  · exact fun q => by cases q
  · split
    · exact fun q => by cases q
    · exact h
theorem div_mul {a b c : Opd} (h : MulO a (invO b) c) (hn : ¬ (a.k = 3 ∧ b.k = 3)) : DivS a b c ∧ c.k ≠ 3 := by
  obtain ⟨k0, k1, k2, k3, ks⟩ := invO_k b
  rcases h with ⟨h, rfl⟩ | ⟨h, rfl⟩ | ⟨h, rfl⟩ | ⟨h, _⟩
  · exact ⟨.inl ⟨by omega, rfl⟩, by decide⟩
  · rw [ks]; exact ⟨.inr (.inl ⟨by omega, rfl⟩), fun q => by cases q⟩
  · rw [ks]; exact ⟨.inr (.inr ⟨by omega, rfl⟩), fun q => by cases q⟩
  · exact absurd ⟨h.1, k3.1 h.2⟩ hn
theorem OpB.k3 {S I H : Nat} {l : Int} {b : Nat} {o : Opd} (h : OpB S I H l b o) (hk : o.k = 3) : b % S ≠ 0 ∧ b % S < I := by
  rcases h with ⟨_, rfl⟩ | ⟨_, rfl⟩ | ⟨_, rfl⟩ | ⟨h0, h1, _⟩
  · cases hk
  · cases hk
  · cases hk
  · exact ⟨h0, h1⟩
theorem OpB.neg3 {S I H : Nat} {l : Int} {b : Nat} {o : Opd} (h : OpB S I H l b o) (hk : o.k = 3) (hs : S ≤ b) : o.s = true := by
  rcases h with ⟨_, rfl⟩ | ⟨_, rfl⟩ | ⟨_, rfl⟩ | ⟨h0, h1, x, e, hv, hx, rfl⟩
  · cases hk
  · cases hk
  · cases hk
  · have h9 := hv.v
    rw [svS_eq, if_pos hs] at h9
    have h8 := dv_nn (vs H (b % S)) l
    refine decide_eq_true ?_
    rcases dv3 x e with ⟨q1, q2⟩ | ⟨q1, q2⟩ | ⟨q1, q2⟩
    · exact q1
    · omega
    · exfalso
      rw [h9, dv_neg] at q2
      omega
def rootO (o : Opd) : Opd := if o.k = 2 then o else if o.k = 1 ∧ o.s = false then o else onan
theorem inv_nan (w : World) :
    Calls Tryz.prog 79 #[VNan] w fun en w' => en = .returned VNan ∧ Below w.heap.size w w' := by
  have hanan := ta_nan_nan
  have hainf := ta_nan_inf
  have hano := ta_nan_no
  have hafin := ta_nan_fin
  go_enter Tryz.func79, Tryz.ntmps79
  go_wp2_with fail
  go_ret
  exact ⟨rfl, Below.refl _ _⟩
theorem invs_ok {w : World} {v : Value} {o : Opd} (h : OpV w v o) :
    Calls Tryz.prog 79 #[v] w fun en w' => ∃ u, en = .returned u ∧ OpV w' u (invO o) ∧ Below w.heap.size w w' := by
  rcases h with ⟨rfl, rfl⟩ | ⟨s, rfl, rfl⟩ | ⟨s, rfl, rfl⟩ | ⟨s, p, m, c, e, x, rfl, d, n, rfl⟩
  · exact (inv_nan w).mono fun en w' ⟨h1, h2⟩ => ⟨_, h1, .inl ⟨rfl, rfl⟩, h2⟩
  · exact (inv_inf s w).mono fun en w' ⟨h1, h2⟩ => ⟨_, h1, .inr (.inr (.inl ⟨_, rfl, rfl⟩)), h2⟩
  · exact (inv_no s w).mono fun en w' ⟨h1, h2⟩ => ⟨_, h1, .inr (.inl ⟨_, rfl, rfl⟩), h2⟩
  · exact (inv_fin s p m c e w).mono fun en w' ⟨h1, h2⟩ => ⟨_, h1, .inr (.inr (.inr ⟨_, _, _, _, _, _, rfl, d.below h2, n, rfl⟩)), h2⟩
theorem quot_ff9 {f p m l : Int} {S I H sd : Nat} {Be : Int} {Q : Nat} (J : Jo f p m l S I H sd Be Q) {t1 : TypeId} {x1 : Value} (ta : (∀ w, Sem.run Tryz.prog (Instr.typeAssert (.iface t1 x1) 66 122 true) w = .ok (.tuple #[.agg #[.bool false, .slice none 0 0, .int .i64 0], .bool false]) w)) {t2 : TypeId} {x2 : Value} (tb : (∀ w, Sem.run Tryz.prog (Instr.typeAssert (.iface t2 x2) 66 122 true) w = .ok (.tuple #[.agg #[.bool false, .slice none 0 0, .int .i64 0], .bool false]) w)) {oa ob : Opd} {K E K' E' : Nat} {w : World} (ha : OpV w (.iface t1 x1) oa) (hb : OpV w (.iface t2 x2) ob) (ka : BdO K E oa) (kb : BdO K' E' ob) (hK : K + K' ≤ 524288) (hE : E + E' ≤ 524288) (hn : ¬ (oa.k = 3 ∧ ob.k = 3)) (hT : Tab w) :
    Calls Tryz.prog 42 #[.int .i64 f, .iface t1 x1, .iface t2 x2] w fun en w' => ∃ c, en = .returned (U (patO l sd Be S I Q c)) ∧ DivS oa ob c ∧ Below w.heap.size w w' := by
  have HJO : Hid (Jo f p m l S I H sd Be Q) := J
  have HA : Hid (OpV w (.iface t1 x1) oa) := ha
  have HB : Hid (OpV w (.iface t2 x2) ob) := hb
  have HK : Hid (BdO K E oa ∧ BdO K' E' ob ∧ K + K' ≤ 524288 ∧ E + E' ≤ 524288 ∧ ¬ (oa.k = 3 ∧ ob.k = 3)) := ⟨ka, kb, hK, hE, hn⟩
  have TB : Hid (Tab w) := hT
  clear J ha hb ka kb hK hE hn hT
  go_enter Tryz.func42, Tryz.ntmps42
  go_wp2_with fail
  have hbw := below2 w (.cells #[.bool false, .slice none 0 0, .int .i64 0] 122) (.cells #[.bool false, .slice none 0 0, .int .i64 0] 122)
  generalize (w.alloc (.cells #[.bool false, .slice none 0 0, .int .i64 0] 122)).alloc (.cells #[.bool false, .slice none 0 0, .int .i64 0] 122) = v0 at *
  clear ta tb
  refine (invs_ok (HB.out.below hbw)).mono ?_
  rintro e v1 ⟨u, rfl, hu, hb1⟩
  replace hbw := Below.on hbw hb1
  clear hb1
  have HU : Hid (OpV v1 u (invO ob)) := hu
  clear hu
  go_wp2_with fail
  refine (mul_ok (HA.out.below hbw) HU.out HK.out.1 (inv_bd HK.out.2.1) HK.out.2.2.1 HK.out.2.2.2.1 (TB.out.below hbw)).mono ?_
  rintro e v2 ⟨v, c, rfl, hv, hm, _, hb2⟩
  replace hbw := Below.on hbw hb2
  clear hb2
  obtain ⟨hd, h3⟩ := div_mul hm HK.out.2.2.2.2
  have HD : Hid (DivS oa ob c) := hd
  have HN3 : Hid (c.k ≠ 3) := h3
  clear hm hd h3
  rcases hv with ⟨rfl, rfl⟩ | ⟨s9, rfl, rfl⟩ | ⟨s9, rfl, rfl⟩ | ⟨_, _, _, _, _, _, _, _, _, rfl⟩
  · have me := meth_pattern_nan
    go_wp2_with fail
    refine (pat_nan HJO.out.jq _).mono ?_
    rintro e v9 ⟨rfl, hb9⟩
    obtain ⟨r, hr⟩ : ∃ r, r = patO l sd Be S I Q onan := ⟨_, rfl⟩
    rw [show Q = r from hr.symm]
    have HPR : Hid (r = patO l sd Be S I Q onan) := hr
    clear hr
    replace hbw := Below.on hbw hb9
    clear hb9
    go_wp2_with fail
    go_ret
    exact ⟨onan, by rw [HPR.out]; rfl, HD.out, hbw⟩
  · have me := meth_pattern_inf
    go_wp2_with fail
    refine (pat_inf HJO.out.jq s9 _).mono ?_
    rintro e v9 ⟨rfl, hb9⟩
    obtain ⟨r, hr⟩ : ∃ r, r = patO l sd Be S I Q (oinf s9) := ⟨_, rfl⟩
    rw [show (if s9 = true then S + I else I) = r from hr.symm]
    have HPR : Hid (r = patO l sd Be S I Q (oinf s9)) := hr
    clear hr
    replace hbw := Below.on hbw hb9
    clear hb9
    go_wp2_with fail
    go_ret
    exact ⟨(oinf s9), by rw [HPR.out]; rfl, HD.out, hbw⟩
  · have me := meth_pattern_no
    go_wp2_with fail
    refine (pat_no HJO.out.jq s9 _).mono ?_
    rintro e v9 ⟨rfl, hb9⟩
    obtain ⟨r, hr⟩ : ∃ r, r = patO l sd Be S I Q (ono s9) := ⟨_, rfl⟩
    rw [show (if s9 = true then S + 0 else 0) = r from hr.symm]
    have HPR : Hid (r = patO l sd Be S I Q (ono s9)) := hr
    clear hr
    replace hbw := Below.on hbw hb9
    clear hb9
    go_wp2_with fail
    go_ret
    exact ⟨(ono s9), by rw [HPR.out]; rfl, HD.out, hbw⟩
  · exact absurd rfl HN3.out
theorem quot_fn9 {f p m l : Int} {S I H sd : Nat} {Be : Int} {Q : Nat} (J : Jo f p m l S I H sd Be Q) {t1 : TypeId} {x1 : Value} (ta : (∀ w, Sem.run Tryz.prog (Instr.typeAssert (.iface t1 x1) 66 122 true) w = .ok (.tuple #[.agg #[.bool false, .slice none 0 0, .int .i64 0], .bool false]) w)) {s2 : Bool} {p2 : Option Addr} {m2 c2 : Nat} {e2 : Int} {oa ob : Opd} {K E K' E' : Nat} {w : World} (ha : OpV w (.iface t1 x1) oa) (hb : OpV w (VFin s2 p2 m2 c2 e2) ob) (ka : BdO K E oa) (kb : BdO K' E' ob) (hK : K + K' ≤ 524288) (hE : E + E' ≤ 524288) (hn : ¬ (oa.k = 3 ∧ ob.k = 3)) (hT : Tab w) :
    Calls Tryz.prog 42 #[.int .i64 f, .iface t1 x1, VFin s2 p2 m2 c2 e2] w fun en w' => ∃ c, en = .returned (U (patO l sd Be S I Q c)) ∧ DivS oa ob c ∧ Below w.heap.size w w' := by
  have HJO : Hid (Jo f p m l S I H sd Be Q) := J
  have HA : Hid (OpV w (.iface t1 x1) oa) := ha
  have HB : Hid (OpV w (VFin s2 p2 m2 c2 e2) ob) := hb
  have HK : Hid (BdO K E oa ∧ BdO K' E' ob ∧ K + K' ≤ 524288 ∧ E + E' ≤ 524288 ∧ ¬ (oa.k = 3 ∧ ob.k = 3)) := ⟨ka, kb, hK, hE, hn⟩
  have TB : Hid (Tab w) := hT
  clear J ha hb ka kb hK hE hn hT
  have tb := ta_fin_fin
  go_enter Tryz.func42, Tryz.ntmps42
  go_wp2_with fail
  have hbw := below2 w (.cells #[.bool false, .slice none 0 0, .int .i64 0] 122) (.cells #[.bool s2, .slice p2 m2 c2, .int .i64 e2] 122)
  generalize (w.alloc (.cells #[.bool false, .slice none 0 0, .int .i64 0] 122)).alloc (.cells #[.bool s2, .slice p2 m2 c2, .int .i64 e2] 122) = v0 at *
  clear ta tb
  refine (invs_ok (HB.out.below hbw)).mono ?_
  rintro e v1 ⟨u, rfl, hu, hb1⟩
  replace hbw := Below.on hbw hb1
  clear hb1
  have HU : Hid (OpV v1 u (invO ob)) := hu
  clear hu
  go_wp2_with fail
  refine (mul_ok (HA.out.below hbw) HU.out HK.out.1 (inv_bd HK.out.2.1) HK.out.2.2.1 HK.out.2.2.2.1 (TB.out.below hbw)).mono ?_
  rintro e v2 ⟨v, c, rfl, hv, hm, _, hb2⟩
  replace hbw := Below.on hbw hb2
  clear hb2
  obtain ⟨hd, h3⟩ := div_mul hm HK.out.2.2.2.2
  have HD : Hid (DivS oa ob c) := hd
  have HN3 : Hid (c.k ≠ 3) := h3
  clear hm hd h3
  rcases hv with ⟨rfl, rfl⟩ | ⟨s9, rfl, rfl⟩ | ⟨s9, rfl, rfl⟩ | ⟨_, _, _, _, _, _, _, _, _, rfl⟩
  · have me := meth_pattern_nan
    go_wp2_with fail
    refine (pat_nan HJO.out.jq _).mono ?_
    rintro e v9 ⟨rfl, hb9⟩
    obtain ⟨r, hr⟩ : ∃ r, r = patO l sd Be S I Q onan := ⟨_, rfl⟩
    rw [show Q = r from hr.symm]
    have HPR : Hid (r = patO l sd Be S I Q onan) := hr
    clear hr
    replace hbw := Below.on hbw hb9
    clear hb9
    go_wp2_with fail
    go_ret
    exact ⟨onan, by rw [HPR.out]; rfl, HD.out, hbw⟩
  · have me := meth_pattern_inf
    go_wp2_with fail
    refine (pat_inf HJO.out.jq s9 _).mono ?_
    rintro e v9 ⟨rfl, hb9⟩
    obtain ⟨r, hr⟩ : ∃ r, r = patO l sd Be S I Q (oinf s9) := ⟨_, rfl⟩
    rw [show (if s9 = true then S + I else I) = r from hr.symm]
    have HPR : Hid (r = patO l sd Be S I Q (oinf s9)) := hr
    clear hr
    replace hbw := Below.on hbw hb9
    clear hb9
    go_wp2_with fail
    go_ret
    exact ⟨(oinf s9), by rw [HPR.out]; rfl, HD.out, hbw⟩
  · have me := meth_pattern_no
    go_wp2_with fail
    refine (pat_no HJO.out.jq s9 _).mono ?_
    rintro e v9 ⟨rfl, hb9⟩
    obtain ⟨r, hr⟩ : ∃ r, r = patO l sd Be S I Q (ono s9) := ⟨_, rfl⟩
    rw [show (if s9 = true then S + 0 else 0) = r from hr.symm]
    have HPR : Hid (r = patO l sd Be S I Q (ono s9)) := hr
    clear hr
    replace hbw := Below.on hbw hb9
    clear hb9
    go_wp2_with fail
    go_ret
    exact ⟨(ono s9), by rw [HPR.out]; rfl, HD.out, hbw⟩
  · exact absurd rfl HN3.out
theorem quot_nf9 {f p m l : Int} {S I H sd : Nat} {Be : Int} {Q : Nat} (J : Jo f p m l S I H sd Be Q) {s1 : Bool} {p1 : Option Addr} {m1 c1 : Nat} {e1 : Int} {t2 : TypeId} {x2 : Value} (tb : (∀ w, Sem.run Tryz.prog (Instr.typeAssert (.iface t2 x2) 66 122 true) w = .ok (.tuple #[.agg #[.bool false, .slice none 0 0, .int .i64 0], .bool false]) w)) {oa ob : Opd} {K E K' E' : Nat} {w : World} (ha : OpV w (VFin s1 p1 m1 c1 e1) oa) (hb : OpV w (.iface t2 x2) ob) (ka : BdO K E oa) (kb : BdO K' E' ob) (hK : K + K' ≤ 524288) (hE : E + E' ≤ 524288) (hn : ¬ (oa.k = 3 ∧ ob.k = 3)) (hT : Tab w) :
    Calls Tryz.prog 42 #[.int .i64 f, VFin s1 p1 m1 c1 e1, .iface t2 x2] w fun en w' => ∃ c, en = .returned (U (patO l sd Be S I Q c)) ∧ DivS oa ob c ∧ Below w.heap.size w w' := by
  have HJO : Hid (Jo f p m l S I H sd Be Q) := J
  have HA : Hid (OpV w (VFin s1 p1 m1 c1 e1) oa) := ha
  have HB : Hid (OpV w (.iface t2 x2) ob) := hb
  have HK : Hid (BdO K E oa ∧ BdO K' E' ob ∧ K + K' ≤ 524288 ∧ E + E' ≤ 524288 ∧ ¬ (oa.k = 3 ∧ ob.k = 3)) := ⟨ka, kb, hK, hE, hn⟩
  have TB : Hid (Tab w) := hT
  clear J ha hb ka kb hK hE hn hT
  have ta := ta_fin_fin
  go_enter Tryz.func42, Tryz.ntmps42
  go_wp2_with fail
  have hbw := below2 w (.cells #[.bool s1, .slice p1 m1 c1, .int .i64 e1] 122) (.cells #[.bool false, .slice none 0 0, .int .i64 0] 122)
  generalize (w.alloc (.cells #[.bool s1, .slice p1 m1 c1, .int .i64 e1] 122)).alloc (.cells #[.bool false, .slice none 0 0, .int .i64 0] 122) = v0 at *
  clear ta tb
  refine (invs_ok (HB.out.below hbw)).mono ?_
  rintro e v1 ⟨u, rfl, hu, hb1⟩
  replace hbw := Below.on hbw hb1
  clear hb1
  have HU : Hid (OpV v1 u (invO ob)) := hu
  clear hu
  go_wp2_with fail
  refine (mul_ok (HA.out.below hbw) HU.out HK.out.1 (inv_bd HK.out.2.1) HK.out.2.2.1 HK.out.2.2.2.1 (TB.out.below hbw)).mono ?_
  rintro e v2 ⟨v, c, rfl, hv, hm, _, hb2⟩
  replace hbw := Below.on hbw hb2
  clear hb2
  obtain ⟨hd, h3⟩ := div_mul hm HK.out.2.2.2.2
  have HD : Hid (DivS oa ob c) := hd
  have HN3 : Hid (c.k ≠ 3) := h3
  clear hm hd h3
  rcases hv with ⟨rfl, rfl⟩ | ⟨s9, rfl, rfl⟩ | ⟨s9, rfl, rfl⟩ | ⟨_, _, _, _, _, _, _, _, _, rfl⟩
  · have me := meth_pattern_nan
    go_wp2_with fail
    refine (pat_nan HJO.out.jq _).mono ?_
    rintro e v9 ⟨rfl, hb9⟩
    obtain ⟨r, hr⟩ : ∃ r, r = patO l sd Be S I Q onan := ⟨_, rfl⟩
    rw [show Q = r from hr.symm]
    have HPR : Hid (r = patO l sd Be S I Q onan) := hr
    clear hr
    replace hbw := Below.on hbw hb9
    clear hb9
    go_wp2_with fail
    go_ret
    exact ⟨onan, by rw [HPR.out]; rfl, HD.out, hbw⟩
  · have me := meth_pattern_inf
    go_wp2_with fail
    refine (pat_inf HJO.out.jq s9 _).mono ?_
    rintro e v9 ⟨rfl, hb9⟩
    obtain ⟨r, hr⟩ : ∃ r, r = patO l sd Be S I Q (oinf s9) := ⟨_, rfl⟩
    rw [show (if s9 = true then S + I else I) = r from hr.symm]
    have HPR : Hid (r = patO l sd Be S I Q (oinf s9)) := hr
    clear hr
    replace hbw := Below.on hbw hb9
    clear hb9
    go_wp2_with fail
    go_ret
    exact ⟨(oinf s9), by rw [HPR.out]; rfl, HD.out, hbw⟩
  · have me := meth_pattern_no
    go_wp2_with fail
    refine (pat_no HJO.out.jq s9 _).mono ?_
    rintro e v9 ⟨rfl, hb9⟩
    obtain ⟨r, hr⟩ : ∃ r, r = patO l sd Be S I Q (ono s9) := ⟨_, rfl⟩
    rw [show (if s9 = true then S + 0 else 0) = r from hr.symm]
    have HPR : Hid (r = patO l sd Be S I Q (ono s9)) := hr
    clear hr
    replace hbw := Below.on hbw hb9
    clear hb9
    go_wp2_with fail
    go_ret
    exact ⟨(ono s9), by rw [HPR.out]; rfl, HD.out, hbw⟩
  · exact absurd rfl HN3.out
theorem quot_s9 {f p m l : Int} {S I H sd : Nat} {Be : Int} {Q : Nat} (J : Jo f p m l S I H sd Be Q) {va vb : Value} {oa ob : Opd} {K E K' E' : Nat} {w : World} (ha : OpV w va oa) (hb : OpV w vb ob) (ka : BdO K E oa) (kb : BdO K' E' ob) (hK : K + K' ≤ 524288) (hE : E + E' ≤ 524288) (hn : ¬ (oa.k = 3 ∧ ob.k = 3)) (hT : Tab w) :
    Calls Tryz.prog 42 #[.int .i64 f, va, vb] w fun en w' => ∃ c, en = .returned (U (patO l sd Be S I Q c)) ∧ DivS oa ob c ∧ Below w.heap.size w w' := by
  by_cases h1 : oa.k = 3
  · obtain ⟨s1, p1, m1, c1, e1, rfl⟩ := ha.cf h1
    obtain ⟨t2, x2, rfl, tb⟩ := hb.nf fun h => hn ⟨h1, h⟩
    exact quot_nf9 J tb ha hb ka kb hK hE hn hT
  · obtain ⟨t1, x1, rfl, ta⟩ := ha.nf h1
    by_cases h2 : ob.k = 3
    · obtain ⟨s2, p2, m2, c2, e2, rfl⟩ := hb.cf h2
      exact quot_fn9 J ta ha hb ka kb hK hE hn hT
    · obtain ⟨t2, x2, rfl, tb⟩ := hb.nf h2
      exact quot_ff9 J ta tb ha hb ka kb hK hE hn hT
theorem soft_div_s {f p m l : Int} {S I H sd : Nat} {Be : Int} {Q : Nat} (J : Jo f p m l S I H sd Be Q) {a b : Nat} (ha : a < 2 * S) (hb : b < 2 * S) (hn : ¬ ((a % S ≠ 0 ∧ a % S < I) ∧ (b % S ≠ 0 ∧ b % S < I))) (w : World) (hT : Tab w) :
    Calls Tryz.prog 12 #[.int .i64 f, U a, U b] w fun en w' => ∃ oa ob c, en = .returned (.tuple #[U (patO l sd Be S I Q c), .int .i64 0]) ∧ OpB S I H l a oa ∧ OpB S I H l b ob ∧ DivS oa ob c ∧ Below w.heap.size w w' := by
  have HJO : Hid (Jo f p m l S I H sd Be Q) := J
  have HAB : Hid (a < 2 * S ∧ b < 2 * S ∧ ¬ ((a % S ≠ 0 ∧ a % S < I) ∧ (b % S ≠ 0 ∧ b % S < I))) := ⟨ha, hb, hn⟩
  have TB : Hid (Tab w) := hT
  clear J ha hb hn hT
  go_enter Tryz.func12, Tryz.ntmps12
  go_wp2_with fail
  have hb0 := below1 w (.cells #[U a, U b] 22)
  refine (operands2 HJO.out HAB.out.1 HAB.out.2.1 ⟨by go_simp, by go_simp⟩ (TB.out.below hb0)).mono ?_
  rintro e9 v1 ⟨go, va, vb, oa, ob, rfl, hgo, hx, hva, hvb, hoa, hob, hb1⟩
  have hbw := Below.on hb0 hb1
  obtain ⟨ta, xa, rfl⟩ := hva.iface
  obtain ⟨tb, xb, rfl⟩ := hvb.iface
  have Xo : Hid (Box v1 go (.iface ta xa) (.iface tb xb)) := hx
  have HOA : Hid (OpB S I H l a oa ∧ OpB S I H l b ob) := ⟨hoa, hob⟩
  have VA : Hid (OpV v1 (.iface ta xa) oa) := hva
  have VB : Hid (OpV v1 (.iface tb xb) ob) := hvb
  clear hb0 hb1 hx hva hvb hoa hob hgo
  obtain ⟨co0, co1, fo0, fo1⟩ := Xo.out
  have hneo := Xo.out.lt
  go_wp2_with fail
  clear co0 co1 fo0 fo1 hneo
  obtain ⟨W2, hW2⟩ : ∃ W1, W1 = v1.drew := ⟨_, rfl⟩
  have hbd : Below v1.heap.size v1 W2 := by rw [hW2]; exact bDrew1 (Below.refl _ _)
  replace Xo : Hid _ := Xo.out.below hbd
  replace VA : Hid (OpV W2 (.iface ta xa) oa) := VA.out.below hbd
  replace VB : Hid (OpV W2 (.iface tb xb) ob) := VB.out.below hbd
  replace hbw := Below.on hbw hbd
  clear hbd
  have HJ : Hid ((fun W' : World => W'.cell? ⟨go, 0, none⟩ = some (.iface ta xa) ∧ W'.cell? ⟨go, 1, none⟩ = some (.iface tb xb)) W2) := ⟨Xo.out.c0, Xo.out.c1⟩
  refine wp_region_J (fun W' => W'.cell? ⟨go, 0, none⟩ = some (.iface ta xa) ∧ W'.cell? ⟨go, 1, none⟩ = some (.iface tb xb)) (by kernel_rfl) ?_
  rw [← hW2]
  clear hW2
  refine wpJ_tq 0 rfl HJ.out ?_
  refine wpJ_tq 1 rfl HJ.out ?_
  refine wpJ_tq 2 rfl HJ.out ?_
  refine wpJ_tq 3 rfl HJ.out ?_
  refine wpJ_tq 4 rfl HJ.out ?_
  go_simp
  refine wpJ_tq 5 rfl HJ.out ?_
  refine wpJ_tq 6 rfl HJ.out ?_
  refine wpJ_on 7 rfl fun KJ hK => ?_
  go_simp
  refine (quot_s9 HJO.out VA.out VB.out (HOA.out.1.bd HJO.out.jq.jn) (HOA.out.2.bd HJO.out.jq.jn) (by decide) (by decide) (fun h => HAB.out.2.2 ⟨OpB.k3 HOA.out.1 h.1, OpB.k3 HOA.out.2 h.2⟩) (TB.out.below hbw)).mono ?_
  rintro e9 v2 ⟨c, rfl, hd, hb2⟩
  have HD : Hid (DivS oa ob c) := hd
  clear hd
  obtain ⟨r, hr⟩ : ∃ r, r = patO l sd Be S I Q c := ⟨_, rfl⟩
  rw [← hr]
  have HPR : Hid (r = patO l sd Be S I Q c) := hr
  clear hr
  replace Xo : Hid _ := Xo.out.below hb2
  replace VA : Hid (OpV v2 (.iface ta xa) oa) := VA.out.below hb2
  replace VB : Hid (OpV v2 (.iface tb xb) ob) := VB.out.below hb2
  replace hbw := Below.on hbw hb2
  clear hb2
  clear HJ
  have HJ : Hid ((fun W' : World => W'.cell? ⟨go, 0, none⟩ = some (.iface ta xa) ∧ W'.cell? ⟨go, 1, none⟩ = some (.iface tb xb)) v2) := ⟨Xo.out.c0, Xo.out.c1⟩
  refine hK _ _ HJ.out ?_
  clear hK
  refine wpJ_tq 8 rfl HJ.out ?_
  refine wpJ_tq 9 rfl HJ.out ?_
  refine wpJ_done (by kernel_rfl) ?_ _
  clear HJ
  go_wp2_with fail
  go_ret2
  exact ⟨oa, ob, c, by rw [HPR.out]; rfl, HOA.out.1, HOA.out.2, HD.out, hbw⟩
theorem rt_nan {f p m l : Int} {S I H sd : Nat} {Be : Int} {Q : Nat} (J : Jo f p m l S I H sd Be Q) (w : World) :
    Calls Tryz.prog 55 #[.int .i64 f, VNan] w fun en w' => en = .returned (U (patO l sd Be S I Q onan)) ∧ Below w.heap.size w w' := by
  have HJO : Hid (Jo f p m l S I H sd Be Q) := J
  clear J
  have hanan := ta_nan_nan
  have hainf := ta_nan_inf
  have hano := ta_nan_no
  have hafin := ta_nan_fin
  go_enter Tryz.func55, Tryz.ntmps55
  go_wp2_with fail
  have hbw : Below w.heap.size w w := Below.refl _ _
  refine (pat_nan HJO.out.jq _).mono ?_
  rintro e v1 ⟨rfl, hb1⟩
  obtain ⟨r, hr⟩ : ∃ r, r = patO l sd Be S I Q onan := ⟨_, rfl⟩
  rw [show Q = r from hr.symm]
  have HPR : Hid (r = patO l sd Be S I Q onan) := hr
  clear hr
  replace hbw := Below.on hbw hb1
  clear hb1
  go_wp2_with fail
  go_ret
  exact ⟨by rw [HPR.out]; rfl, hbw⟩
theorem rt_infp {f p m l : Int} {S I H sd : Nat} {Be : Int} {Q : Nat} (J : Jo f p m l S I H sd Be Q) (w : World) :
    Calls Tryz.prog 55 #[.int .i64 f, VInf false] w fun en w' => en = .returned (U (patO l sd Be S I Q (oinf false))) ∧ Below w.heap.size w w' := by
  have HJO : Hid (Jo f p m l S I H sd Be Q) := J
  clear J
  have hanan := ta_inf_nan
  have hainf := ta_inf_inf
  have hano := ta_inf_no
  have hafin := ta_inf_fin
  go_enter Tryz.func55, Tryz.ntmps55
  go_wp2_with fail
  obtain ⟨W0, hW0⟩ : ∃ W0, W0 = (w.alloc (.cells #[.bool false] 116)) := ⟨_, rfl⟩
  have Xx : Hid (B1s W0 (w.heap.size) (.bool false)) := by rw [hW0]; exact ⟨by go_simp, by go_simp⟩
  have hb0 : Below w.heap.size w W0 := by rw [hW0]; exact below1 w _
  rw [← hW0]
  clear hW0
  have hbw : Below w.heap.size w w := Below.refl _ _
  obtain ⟨gx, hgx⟩ : ∃ g, g = w.heap.size := ⟨_, rfl⟩
  have HGx : Hid (w.heap.size ≤ gx) := by rw [hgx]; show _ ≤ _; omega
  rw [← hgx] at Xx
  try rw [← hgx]
  clear hgx
  replace hbw := Below.on hbw hb0
  clear hb0
  obtain ⟨cx0, fx0⟩ := Xx.out
  have hnex : gx < W0.heap.size := World.block_lt_of_cell? W0 _ cx0
  go_wp2_with fail
  clear cx0 fx0 hnex
  refine (pat_inf HJO.out.jq false _).mono ?_
  rintro e v1 ⟨rfl, hb1⟩
  obtain ⟨r, hr⟩ : ∃ r, r = patO l sd Be S I Q (oinf false) := ⟨_, rfl⟩
  rw [show (if false = true then S + I else I) = r from hr.symm]
  have HPR : Hid (r = patO l sd Be S I Q (oinf false)) := hr
  clear hr
  replace Xx : Hid (B1s v1 gx (.bool false)) := Xx.out.below hb1
  replace hbw := Below.on hbw hb1
  clear hb1
  go_wp2_with fail
  go_ret
  exact ⟨by rw [HPR.out]; rfl, hbw⟩
theorem rt_infn {f p m l : Int} {S I H sd : Nat} {Be : Int} {Q : Nat} (J : Jo f p m l S I H sd Be Q) (w : World) :
    Calls Tryz.prog 55 #[.int .i64 f, VInf true] w fun en w' => en = .returned (U (patO l sd Be S I Q onan)) ∧ Below w.heap.size w w' := by
  have HJO : Hid (Jo f p m l S I H sd Be Q) := J
  clear J
  have hanan := ta_inf_nan
  have hainf := ta_inf_inf
  have hano := ta_inf_no
  have hafin := ta_inf_fin
  go_enter Tryz.func55, Tryz.ntmps55
  go_wp2_with fail
  obtain ⟨W0, hW0⟩ : ∃ W0, W0 = (w.alloc (.cells #[.bool true] 116)) := ⟨_, rfl⟩
  have Xx : Hid (B1s W0 (w.heap.size) (.bool true)) := by rw [hW0]; exact ⟨by go_simp, by go_simp⟩
  have hb0 : Below w.heap.size w W0 := by rw [hW0]; exact below1 w _
  rw [← hW0]
  clear hW0
  have hbw : Below w.heap.size w w := Below.refl _ _
  obtain ⟨gx, hgx⟩ : ∃ g, g = w.heap.size := ⟨_, rfl⟩
  have HGx : Hid (w.heap.size ≤ gx) := by rw [hgx]; show _ ≤ _; omega
  rw [← hgx] at Xx
  try rw [← hgx]
  clear hgx
  replace hbw := Below.on hbw hb0
  clear hb0
  obtain ⟨cx0, fx0⟩ := Xx.out
  have hnex : gx < W0.heap.size := World.block_lt_of_cell? W0 _ cx0
  go_wp2_with fail
  clear cx0 fx0 hnex
  refine (pat_nan HJO.out.jq _).mono ?_
  rintro e v1 ⟨rfl, hb1⟩
  obtain ⟨r, hr⟩ : ∃ r, r = patO l sd Be S I Q onan := ⟨_, rfl⟩
  rw [show Q = r from hr.symm]
  have HPR : Hid (r = patO l sd Be S I Q onan) := hr
  clear hr
  replace Xx : Hid (B1s v1 gx (.bool true)) := Xx.out.below hb1
  replace hbw := Below.on hbw hb1
  clear hb1
  go_wp2_with fail
  go_ret
  exact ⟨by rw [HPR.out]; rfl, hbw⟩
theorem rt_no {f p m l : Int} {S I H sd : Nat} {Be : Int} {Q : Nat} (J : Jo f p m l S I H sd Be Q) (s1 : Bool) (w : World) :
    Calls Tryz.prog 55 #[.int .i64 f, VNo s1] w fun en w' => en = .returned (U (patO l sd Be S I Q (ono s1))) ∧ Below w.heap.size w w' := by
  have HJO : Hid (Jo f p m l S I H sd Be Q) := J
  clear J
  have hanan := ta_no_nan
  have hainf := ta_no_inf
  have hano := ta_no_no
  have hafin := ta_no_fin
  go_enter Tryz.func55, Tryz.ntmps55
  go_wp2_with fail
  obtain ⟨W0, hW0⟩ : ∃ W0, W0 = (w.alloc (.cells #[.bool s1] 119)) := ⟨_, rfl⟩
  have Xx : Hid (B1s W0 (w.heap.size) (.bool s1)) := by rw [hW0]; exact ⟨by go_simp, by go_simp⟩
  have hb0 : Below w.heap.size w W0 := by rw [hW0]; exact below1 w _
  rw [← hW0]
  clear hW0
  have hbw : Below w.heap.size w w := Below.refl _ _
  obtain ⟨gx, hgx⟩ : ∃ g, g = w.heap.size := ⟨_, rfl⟩
  have HGx : Hid (w.heap.size ≤ gx) := by rw [hgx]; show _ ≤ _; omega
  rw [← hgx] at Xx
  try rw [← hgx]
  clear hgx
  replace hbw := Below.on hbw hb0
  clear hb0
  obtain ⟨cx0, fx0⟩ := Xx.out
  have hnex : gx < W0.heap.size := World.block_lt_of_cell? W0 _ cx0
  go_wp2_with fail
  clear cx0 fx0 hnex
  refine (pat_no HJO.out.jq s1 _).mono ?_
  rintro e v1 ⟨rfl, hb1⟩
  obtain ⟨r, hr⟩ : ∃ r, r = patO l sd Be S I Q (ono s1) := ⟨_, rfl⟩
  rw [show (if s1 = true then S + 0 else 0) = r from hr.symm]
  have HPR : Hid (r = patO l sd Be S I Q (ono s1)) := hr
  clear hr
  replace Xx : Hid (B1s v1 gx (.bool s1)) := Xx.out.below hb1
  replace hbw := Below.on hbw hb1
  clear hb1
  go_wp2_with fail
  go_ret
  exact ⟨by rw [HPR.out]; rfl, hbw⟩
theorem rt_finn {f p m l : Int} {S I H sd : Nat} {Be : Int} {Q : Nat} (J : Jo f p m l S I H sd Be Q) (p1 : Option Addr) (m1 c1 : Nat) (e1 : Int) (w : World) :
    Calls Tryz.prog 55 #[.int .i64 f, VFin true p1 m1 c1 e1] w fun en w' => en = .returned (U (patO l sd Be S I Q onan)) ∧ Below w.heap.size w w' := by
  have HJO : Hid (Jo f p m l S I H sd Be Q) := J
  clear J
  have hanan := ta_fin_nan
  have hainf := ta_fin_inf
  have hano := ta_fin_no
  have hafin := ta_fin_fin
  go_enter Tryz.func55, Tryz.ntmps55
  go_wp2_with fail
  obtain ⟨W0, hW0⟩ : ∃ W0, W0 = (w.alloc (.cells #[.bool true, .slice p1 m1 c1, .int .i64 e1] 122)) := ⟨_, rfl⟩
  have Xx : Hid (B3q W0 (w.heap.size) (.bool true) (.slice p1 m1 c1) (.int .i64 e1)) := by rw [hW0]; exact ⟨by go_simp, by go_simp, by go_simp, by go_simp, by go_simp, by go_simp⟩
  have hb0 : Below w.heap.size w W0 := by rw [hW0]; exact below1 w _
  rw [← hW0]
  clear hW0
  have hbw : Below w.heap.size w w := Below.refl _ _
  obtain ⟨gx, hgx⟩ : ∃ g, g = w.heap.size := ⟨_, rfl⟩
  have HGx : Hid (w.heap.size ≤ gx) := by rw [hgx]; show _ ≤ _; omega
  rw [← hgx] at Xx
  try rw [← hgx]
  clear hgx
  replace hbw := Below.on hbw hb0
  clear hb0
  refine (below_fin _).mono ?_
  rintro e v3 ⟨rfl, hb3⟩
  replace Xx : Hid _ := Xx.out.below hb3
  replace hbw := Below.on hbw hb3
  clear hb3
  obtain ⟨cx0, cx1, cx2, fx0, fx1, fx2⟩ := Xx.out
  have hnex : gx < v3.heap.size := World.block_lt_of_cell? v3 _ cx0
  go_wp2_with fail
  clear cx0 cx1 cx2 fx0 fx1 fx2 hnex
  refine (pat_nan HJO.out.jq _).mono ?_
  rintro e v1 ⟨rfl, hb1⟩
  obtain ⟨r, hr⟩ : ∃ r, r = patO l sd Be S I Q onan := ⟨_, rfl⟩
  rw [show Q = r from hr.symm]
  have HPR : Hid (r = patO l sd Be S I Q onan) := hr
  clear hr
  replace Xx : Hid _ := Xx.out.below hb1
  replace hbw := Below.on hbw hb1
  clear hb1
  go_wp2_with fail
  go_ret
  exact ⟨by rw [HPR.out]; rfl, hbw⟩
theorem rt_ok {f p m l : Int} {S I H sd : Nat} {Be : Int} {Q : Nat} (J : Jo f p m l S I H sd Be Q) {v : Value} {o : Opd} {w : World} (h : OpV w v o) (hn : o.k = 3 → o.s = true) :
    Calls Tryz.prog 55 #[.int .i64 f, v] w fun en w' => en = .returned (U (patO l sd Be S I Q (rootO o))) ∧ Below w.heap.size w w' := by
  rcases h with ⟨rfl, rfl⟩ | ⟨s, rfl, rfl⟩ | ⟨s, rfl, rfl⟩ | ⟨s, p, m, c, e, x, rfl, d, n, rfl⟩
  · exact rt_nan J w
  · cases s
    · exact rt_infp J w
    · exact rt_infn J w
  · exact rt_no J s w
  · have hs := d.zn.sg
    have h9 : decide (x < 0) = true := hn rfl
    rw [h9] at hs
    subst hs
    exact rt_finn J p m c e w
theorem soft_sqrt_s {f p m l : Int} {S I H sd : Nat} {Be : Int} {Q : Nat} (J : Jo f p m l S I H sd Be Q) {a : Nat} (ha : a < 2 * S) (hn : a % S ≠ 0 → a % S < I → S ≤ a) (w : World) (hT : Tab w) :
    Calls Tryz.prog 16 #[.int .i64 f, U a] w fun en w' => ∃ oa, en = .returned (.tuple #[U (patO l sd Be S I Q (rootO oa)), .int .i64 0]) ∧ OpB S I H l a oa ∧ (oa.k = 3 → oa.s = true) ∧ Below w.heap.size w w' := by
  have HJO : Hid (Jo f p m l S I H sd Be Q) := J
  have HA : Hid (a < 2 * S ∧ (a % S ≠ 0 → a % S < I → S ≤ a)) := ⟨ha, hn⟩
  have TB : Hid (Tab w) := hT
  clear J ha hn hT
  go_enter Tryz.func16, Tryz.ntmps16
  go_wp2_with fail
  have hb0 := below1 w (.cells #[U a] 22)
  refine (operands1 HJO.out HA.out.1 (by go_simp) (TB.out.below hb0)).mono ?_
  rintro e9 v1 ⟨go, va, oa, rfl, hgo, hx, hva, hoa, hb1⟩
  have hbw := Below.on hb0 hb1
  obtain ⟨ta, xa, rfl⟩ := hva.iface
  have Xo : Hid (B1s v1 go (.iface ta xa)) := hx
  have HOA : Hid (OpB S I H l a oa ∧ (oa.k = 3 → oa.s = true)) := ⟨hoa, fun h => OpB.neg3 hoa h (HA.out.2 (hoa.k3 h).1 (hoa.k3 h).2)⟩
  have VA : Hid (OpV v1 (.iface ta xa) oa) := hva
  clear hb0 hb1 hx hva hoa hgo
  obtain ⟨co0, fo0⟩ := Xo.out
  have hneo : go < v1.heap.size := World.block_lt_of_cell? v1 _ co0
  go_wp2_with fail
  clear co0 fo0 hneo
  refine (rt_ok HJO.out VA.out HOA.out.2).mono ?_
  rintro e v2 ⟨rfl, hb2⟩
  obtain ⟨r, hr⟩ : ∃ r, r = patO l sd Be S I Q (rootO oa) := ⟨_, rfl⟩
  rw [← hr]
  have HPR : Hid (r = patO l sd Be S I Q (rootO oa)) := hr
  clear hr
  replace Xo : Hid (B1s v2 go (.iface ta xa)) := Xo.out.below hb2
  replace VA : Hid (OpV v2 (.iface ta xa) oa) := VA.out.below hb2
  replace hbw := Below.on hbw hb2
  clear hb2
  go_wp2_with fail
  go_ret2
  exact ⟨oa, by rw [HPR.out]; rfl, HOA.out.1, HOA.out.2, hbw⟩
def quP (S I Q r : Nat) : Nat := if I < r % S then Q else r
theorem hr9 {f p m l : Int} {S I H sd : Nat} {Be : Int} (J : Jn f p m l S I H sd Be) : ∀ x e : Int, -4194304 ≤ e → ∃ Z, RNz H l I (dv x.natAbs e) Z ∧ rnp l sd Be S I x e = (if x < 0 then S + Z else Z) := fun x e he => by
  obtain ⟨Z, _, h2, h3, _⟩ := rnp_is J x e he
  exact ⟨Z, h2, h3⟩
theorem SumO.good {a b c : Opd} (h : SumO a b c) (ha : GoodO a) (hb : GoodO b) : GoodO c := by
  rcases h with ⟨_, rfl⟩ | ⟨_, rfl⟩ | ⟨_, rfl⟩ | ⟨_, rfl⟩ | ⟨h, rfl⟩ | ⟨h, rfl⟩ | ⟨_, h⟩
  · exact .inl rfl
  · exact .inr (.inl ⟨_, rfl⟩)
  · exact .inr (.inl ⟨_, rfl⟩)
  · exact .inr (.inr (.inl ⟨_, rfl⟩))
  · rcases hb with rfl | ⟨s, rfl⟩ | ⟨s, rfl⟩ | ⟨x, e, rfl, h1, h2⟩
    · exact absurd h.2 (by decide)
    · exact absurd h.2 (by show ¬ (1 : Nat) = 3; decide)
    · exact absurd h.2 (by show ¬ (2 : Nat) = 3; decide)
    · exact .inr (.inr (.inr ⟨x, e, rfl, h1, h2⟩))
  · rcases ha with rfl | ⟨s, rfl⟩ | ⟨s, rfl⟩ | ⟨x, e, rfl, h1, h2⟩
    · exact absurd h.1 (by decide)
    · exact absurd h.1 (by show ¬ (1 : Nat) = 3; decide)
    · exact absurd h.1 (by show ¬ (2 : Nat) = 3; decide)
    · exact .inr (.inr (.inr ⟨x, e, rfl, h1, h2⟩))
  · rcases h with ⟨_, rfl⟩ | ⟨z, g, h1, h2, _, rfl⟩
    · exact .inr (.inr (.inl ⟨_, rfl⟩))
    · exact .inr (.inr (.inr ⟨z, g, rfl, h1, h2⟩))
theorem DivS.good {a b c : Opd} (h : DivS a b c) : GoodO c := by
  rcases h with ⟨_, rfl⟩ | ⟨_, rfl⟩ | ⟨_, rfl⟩
  · exact .inl rfl
  · exact .inr (.inl ⟨_, rfl⟩)
  · exact .inr (.inr (.inl ⟨_, rfl⟩))
theorem GoodO.neg {o : Opd} (h : GoodO o) : GoodO (negO o) := by
  rcases h with rfl | ⟨s, rfl⟩ | ⟨s, rfl⟩ | ⟨x, e, rfl, h1, h2⟩
  · exact .inl rfl
  · exact .inr (.inl ⟨_, rfl⟩)
  · exact .inr (.inr (.inl ⟨_, rfl⟩))
  · exact .inr (.inr (.inr ⟨-x, e, rfl, h1.neg, by omega⟩))
structure MaR (S I : Nat) (v : Option Nat) (r : Nat) : Prop where
  lt : r < 2 * S
  so : ∀ u, v = some u → r = u
  no : v = none → I < r % S
theorem MaR.pat {f p m l : Int} {S I H sd : Nat} {Be : Int} {Q : Nat} (J : Jq f p m l S I H sd Be Q) {v : Option Nat} {r : Nat} {c : Opd} (h : MaR S I v r) (hg : GoodO c) (k : (c = onan ∧ v = none) ∨ (c ≠ onan ∧ v = some (patO l sd Be S I Q c))) : patO l sd Be S I Q c = quP S I Q r := by
  unfold quP
  rcases k with ⟨rfl, hv⟩ | ⟨hn, hv⟩
  · rw [if_pos (h.no hv)]; rfl
  · have h1 := h.so _ hv
    rcases hg.npat J with h2 | ⟨_, _, h2, _⟩
    · exact absurd h2 hn
    · rw [h1, if_neg (by omega)]
theorem and_sg {b : Nat} (hb : b < B64) {sg : Bool} (hs : sg = decide (9223372036854775808 ≤ b)) : ∃ an : Int, bits BinOp.and IntKind.u64 (b : Int) 9223372036854775808 = an ∧ (an != 0) = sg ∧ (an == 0) = !sg := by
  refine ⟨_, rfl, ?_⟩
  have h : bits BinOp.and IntKind.u64 (b : Int) (9223372036854775808 : Int) = ((if 9223372036854775808 ≤ b then 9223372036854775808 else 0 : Nat) : Int) := sign_and b 9223372036854775808 63 (by decide) (by decide) (by rw [B64_eq] at hb; omega)
  rw [h, hs]
  by_cases h1 : 9223372036854775808 ≤ b
  · rw [if_pos h1, decide_eq_true h1]; decide
  · rw [if_neg h1, decide_eq_false h1]; decide
theorem narrow_c0 {b : Nat} (hb : b < B64) {sg : Bool} (hs : sg = decide (9223372036854775808 ≤ b)) (hc : clsN 4503599627370496 9218868437227405312 (b % 9223372036854775808) = 0) (w : World) (hT : Tab w) :
    Calls Tryz.prog 17 #[U b] w fun en w' => en = .returned (.tuple #[U (if sg then 2147483648 + 0 else 0), .int .i64 0]) ∧ Below w.heap.size w w' := by
  have hbw : Below w.heap.size w w := Below.refl _ _
  have TB : Hid (Tab w) := hT
  obtain ⟨an, ha, hn1, hn2⟩ := and_sg hb hs
  have HC : Hid (b < 2 * 9223372036854775808 ∧ clsN 4503599627370496 9218868437227405312 (b % 9223372036854775808) = 0) := ⟨by rw [B64_eq] at hb; omega, hc⟩
  obtain ⟨r, hr⟩ : ∃ r, r = (if sg then 2147483648 + 0 else 0) := ⟨_, rfl⟩
  rw [← hr]
  have HR : Hid ((if sg then 2147483648 + 0 else 0) = r) := hr.symm
  clear hT hc hb hr hs
  go_enter Tryz.func17, Tryz.ntmps17
  go_wp2_with fail
  refine (of_64 _).mono ?_
  rintro e v1 ⟨rfl, hb1⟩
  replace hbw := Below.on hbw hb1
  clear hb1
  go_wp2_with fail
  have Xg0 : Hid (B3q (v1.alloc (.cells #[.int .i64 64, .int .i64 53, .int .i64 (-1074)] 75)) v1.heap.size (.int .i64 64) (.int .i64 53) (.int .i64 (-1074))) := B3q.new v1 _ _ _ _
  have hbn : Below v1.heap.size v1 (v1.alloc (.cells #[.int .i64 64, .int .i64 53, .int .i64 (-1074)] 75)) := below1 v1 _
  generalize v1.alloc (.cells #[.int .i64 64, .int .i64 53, .int .i64 (-1074)] 75) = Wg at *
  have HGg : Hid (w.heap.size ≤ v1.heap.size) := hbw.size
  replace hbw := Below.on hbw hbn
  clear hbn
  generalize v1.heap.size = gg at *
  have Xg := Xg0
  clear Xg0
  refine (of_32 _).mono ?_
  rintro e v2 ⟨rfl, hb2⟩
  replace Xg : Hid _ := Xg.out.below hb2
  replace hbw := Below.on hbw hb2
  clear hb2
  obtain ⟨cg0, cg1, cg2, fg0, fg1, fg2⟩ := Xg.out
  have hneg : gg < v2.heap.size := World.block_lt_of_cell? v2 _ cg0
  go_wp2_with fail
  clear cg0 cg1 cg2 fg0 fg1 fg2 hneg
  have Xh0 : Hid (B3q (v2.alloc (.cells #[.int .i64 32, .int .i64 24, .int .i64 (-149)] 75)) v2.heap.size (.int .i64 32) (.int .i64 24) (.int .i64 (-149))) := B3q.new v2 _ _ _ _
  have hbn : Below v2.heap.size v2 (v2.alloc (.cells #[.int .i64 32, .int .i64 24, .int .i64 (-149)] 75)) := below1 v2 _
  generalize v2.alloc (.cells #[.int .i64 32, .int .i64 24, .int .i64 (-149)] 75) = Wh at *
  have HGh : Hid (w.heap.size ≤ v2.heap.size) := hbw.size
  replace Xg : Hid _ := Xg.out.below hbn
  replace hbw := Below.on hbw hbn
  clear hbn
  generalize v2.heap.size = gh at *
  have Xh := Xh0
  clear Xh0
  refine (sign_64 _).mono ?_
  rintro e v3 ⟨rfl, hb3⟩
  replace Xg : Hid _ := Xg.out.below hb3
  replace Xh : Hid _ := Xh.out.below hb3
  replace hbw := Below.on hbw hb3
  clear hb3
  go_wp2_with fail
  have hc := jn_64.cl b v3 HC.out.1
  rw [HC.out.2] at hc
  refine Calls.mono hc ?_
  clear hc
  rintro e9 v4 ⟨rfl, hb4⟩
  replace Xg : Hid _ := Xg.out.below hb4
  replace Xh : Hid _ := Xh.out.below hb4
  replace hbw := Below.on hbw hb4
  clear hb4
  obtain ⟨ch0, ch1, ch2, fh0, fh1, fh2⟩ := Xh.out
  have hneh : gh < v4.heap.size := World.block_lt_of_cell? v4 _ ch0
  go_wp2_with fail
  clear ch0 ch1 ch2 fh0 fh1 fh2 hneh
  refine Calls.mono (fm_32.sgn sg 0 v4 (by decide)) ?_
  rintro e9 v5 ⟨rfl, hb5⟩
  rw [HR.out]
  replace Xg : Hid _ := Xg.out.below hb5
  replace Xh : Hid _ := Xh.out.below hb5
  replace hbw := Below.on hbw hb5
  clear hb5
  go_wp2_with fail
  go_ret2
  exact ⟨rfl, hbw⟩
theorem narrow_c3 {b : Nat} (hb : b < B64) {sg : Bool} (hs : sg = decide (9223372036854775808 ≤ b)) (hc : clsN 4503599627370496 9218868437227405312 (b % 9223372036854775808) = 3) (w : World) (hT : Tab w) :
    Calls Tryz.prog 17 #[U b] w fun en w' => en = .returned (.tuple #[U (if sg then 2147483648 + 2139095040 else 2139095040), .int .i64 0]) ∧ Below w.heap.size w w' := by
  have hbw : Below w.heap.size w w := Below.refl _ _
  have TB : Hid (Tab w) := hT
  obtain ⟨an, ha, hn1, hn2⟩ := and_sg hb hs
  have HC : Hid (b < 2 * 9223372036854775808 ∧ clsN 4503599627370496 9218868437227405312 (b % 9223372036854775808) = 3) := ⟨by rw [B64_eq] at hb; omega, hc⟩
  obtain ⟨r, hr⟩ : ∃ r, r = (if sg then 2147483648 + 2139095040 else 2139095040) := ⟨_, rfl⟩
  rw [← hr]
  have HR : Hid ((if sg then 2147483648 + 2139095040 else 2139095040) = r) := hr.symm
  clear hT hc hb hr hs
  go_enter Tryz.func17, Tryz.ntmps17
  go_wp2_with fail
  refine (of_64 _).mono ?_
  rintro e v1 ⟨rfl, hb1⟩
  replace hbw := Below.on hbw hb1
  clear hb1
  go_wp2_with fail
  have Xg0 : Hid (B3q (v1.alloc (.cells #[.int .i64 64, .int .i64 53, .int .i64 (-1074)] 75)) v1.heap.size (.int .i64 64) (.int .i64 53) (.int .i64 (-1074))) := B3q.new v1 _ _ _ _
  have hbn : Below v1.heap.size v1 (v1.alloc (.cells #[.int .i64 64, .int .i64 53, .int .i64 (-1074)] 75)) := below1 v1 _
  generalize v1.alloc (.cells #[.int .i64 64, .int .i64 53, .int .i64 (-1074)] 75) = Wg at *
  have HGg : Hid (w.heap.size ≤ v1.heap.size) := hbw.size
  replace hbw := Below.on hbw hbn
  clear hbn
  generalize v1.heap.size = gg at *
  have Xg := Xg0
  clear Xg0
  refine (of_32 _).mono ?_
  rintro e v2 ⟨rfl, hb2⟩
  replace Xg : Hid _ := Xg.out.below hb2
  replace hbw := Below.on hbw hb2
  clear hb2
  obtain ⟨cg0, cg1, cg2, fg0, fg1, fg2⟩ := Xg.out
  have hneg : gg < v2.heap.size := World.block_lt_of_cell? v2 _ cg0
  go_wp2_with fail
  clear cg0 cg1 cg2 fg0 fg1 fg2 hneg
  have Xh0 : Hid (B3q (v2.alloc (.cells #[.int .i64 32, .int .i64 24, .int .i64 (-149)] 75)) v2.heap.size (.int .i64 32) (.int .i64 24) (.int .i64 (-149))) := B3q.new v2 _ _ _ _
  have hbn : Below v2.heap.size v2 (v2.alloc (.cells #[.int .i64 32, .int .i64 24, .int .i64 (-149)] 75)) := below1 v2 _
  generalize v2.alloc (.cells #[.int .i64 32, .int .i64 24, .int .i64 (-149)] 75) = Wh at *
  have HGh : Hid (w.heap.size ≤ v2.heap.size) := hbw.size
  replace Xg : Hid _ := Xg.out.below hbn
  replace hbw := Below.on hbw hbn
  clear hbn
  generalize v2.heap.size = gh at *
  have Xh := Xh0
  clear Xh0
  refine (sign_64 _).mono ?_
  rintro e v3 ⟨rfl, hb3⟩
  replace Xg : Hid _ := Xg.out.below hb3
  replace Xh : Hid _ := Xh.out.below hb3
  replace hbw := Below.on hbw hb3
  clear hb3
  go_wp2_with fail
  have hc := jn_64.cl b v3 HC.out.1
  rw [HC.out.2] at hc
  refine Calls.mono hc ?_
  clear hc
  rintro e9 v4 ⟨rfl, hb4⟩
  replace Xg : Hid _ := Xg.out.below hb4
  replace Xh : Hid _ := Xh.out.below hb4
  replace hbw := Below.on hbw hb4
  clear hb4
  obtain ⟨ch0, ch1, ch2, fh0, fh1, fh2⟩ := Xh.out
  have hneh : gh < v4.heap.size := World.block_lt_of_cell? v4 _ ch0
  go_wp2_with fail
  clear ch0 ch1 ch2 fh0 fh1 fh2 hneh
  obtain ⟨Wr, hWr⟩ : ∃ W1, W1 = v4.drew := ⟨_, rfl⟩
  have hbd : Below v4.heap.size v4 Wr := by rw [hWr]; exact bDrew1 (Below.refl _ _)
  replace Xg : Hid _ := Xg.out.below hbd
  replace Xh : Hid _ := Xh.out.below hbd
  replace hbw := Below.on hbw hbd
  clear hbd
  have HJ : Hid ((fun W' : World => W'.cell? ⟨gh, 0, none⟩ = some (.int .i64 32) ∧ W'.cell? ⟨gh, 1, none⟩ = some (.int .i64 24) ∧ W'.cell? ⟨gh, 2, none⟩ = some (.int .i64 (-149))) Wr) := ⟨Xh.out.c0, Xh.out.c1, Xh.out.c2⟩
  refine wp_region_J (fun W' => W'.cell? ⟨gh, 0, none⟩ = some (.int .i64 32) ∧ W'.cell? ⟨gh, 1, none⟩ = some (.int .i64 24) ∧ W'.cell? ⟨gh, 2, none⟩ = some (.int .i64 (-149))) (by kernel_rfl) ?_
  rw [← hWr]
  clear hWr
  refine wpJ_tq 0 rfl HJ.out ?_
  refine wpJ_tq 1 rfl HJ.out ?_
  refine wpJ_tq 2 rfl HJ.out ?_
  refine wpJ_on 3 rfl fun KJ hK => ?_
  go_simp
  refine (fm_32.inf _).mono ?_
  rintro e v5 ⟨rfl, hb5⟩
  replace Xg : Hid _ := Xg.out.below hb5
  replace Xh : Hid _ := Xh.out.below hb5
  replace hbw := Below.on hbw hb5
  clear hb5
  refine hK _ _ ⟨Xh.out.c0, Xh.out.c1, Xh.out.c2⟩ ?_
  clear hK
  refine wpJ_on 4 rfl fun KJ hK => ?_
  go_simp
  refine Calls.mono (fm_32.sgn sg 2139095040 v5 (by decide)) ?_
  rintro e9 v6 ⟨rfl, hb6⟩
  rw [HR.out]
  replace Xg : Hid _ := Xg.out.below hb6
  replace Xh : Hid _ := Xh.out.below hb6
  replace hbw := Below.on hbw hb6
  clear hb6
  clear HJ
  have HJ : Hid ((fun W' : World => W'.cell? ⟨gh, 0, none⟩ = some (.int .i64 32) ∧ W'.cell? ⟨gh, 1, none⟩ = some (.int .i64 24) ∧ W'.cell? ⟨gh, 2, none⟩ = some (.int .i64 (-149))) v6) := ⟨Xh.out.c0, Xh.out.c1, Xh.out.c2⟩
  refine hK _ _ HJ.out ?_
  clear hK
  refine wpJ_tq 5 rfl HJ.out ?_
  refine wpJ_tq 6 rfl HJ.out ?_
  refine wpJ_done (by kernel_rfl) ?_ _
  clear HJ
  go_wp2_with fail
  go_ret2
  exact ⟨rfl, hbw⟩
theorem narrow_c4 {b : Nat} (hb : b < B64) {sg : Bool} (hs : sg = decide (9223372036854775808 ≤ b)) (hc : clsN 4503599627370496 9218868437227405312 (b % 9223372036854775808) = 4) (w : World) (hT : Tab w) :
    Calls Tryz.prog 17 #[U b] w fun en w' => en = .returned (.tuple #[U 2143289345, .int .i64 0]) ∧ Below w.heap.size w w' := by
  have hbw : Below w.heap.size w w := Below.refl _ _
  have TB : Hid (Tab w) := hT
  obtain ⟨an, ha, hn1, hn2⟩ := and_sg hb hs
  have HC : Hid (b < 2 * 9223372036854775808 ∧ clsN 4503599627370496 9218868437227405312 (b % 9223372036854775808) = 4) := ⟨by rw [B64_eq] at hb; omega, hc⟩
  obtain ⟨r, hr⟩ : ∃ r, r = 2143289345 := ⟨_, rfl⟩
  rw [← hr]
  have HR : Hid (2143289345 = r) := hr.symm
  clear hT hc hb hr hs
  go_enter Tryz.func17, Tryz.ntmps17
  go_wp2_with fail
  refine (of_64 _).mono ?_
  rintro e v1 ⟨rfl, hb1⟩
  replace hbw := Below.on hbw hb1
  clear hb1
  go_wp2_with fail
  have Xg0 : Hid (B3q (v1.alloc (.cells #[.int .i64 64, .int .i64 53, .int .i64 (-1074)] 75)) v1.heap.size (.int .i64 64) (.int .i64 53) (.int .i64 (-1074))) := B3q.new v1 _ _ _ _
  have hbn : Below v1.heap.size v1 (v1.alloc (.cells #[.int .i64 64, .int .i64 53, .int .i64 (-1074)] 75)) := below1 v1 _
  generalize v1.alloc (.cells #[.int .i64 64, .int .i64 53, .int .i64 (-1074)] 75) = Wg at *
  have HGg : Hid (w.heap.size ≤ v1.heap.size) := hbw.size
  replace hbw := Below.on hbw hbn
  clear hbn
  generalize v1.heap.size = gg at *
  have Xg := Xg0
  clear Xg0
  refine (of_32 _).mono ?_
  rintro e v2 ⟨rfl, hb2⟩
  replace Xg : Hid _ := Xg.out.below hb2
  replace hbw := Below.on hbw hb2
  clear hb2
  obtain ⟨cg0, cg1, cg2, fg0, fg1, fg2⟩ := Xg.out
  have hneg : gg < v2.heap.size := World.block_lt_of_cell? v2 _ cg0
  go_wp2_with fail
  clear cg0 cg1 cg2 fg0 fg1 fg2 hneg
  have Xh0 : Hid (B3q (v2.alloc (.cells #[.int .i64 32, .int .i64 24, .int .i64 (-149)] 75)) v2.heap.size (.int .i64 32) (.int .i64 24) (.int .i64 (-149))) := B3q.new v2 _ _ _ _
  have hbn : Below v2.heap.size v2 (v2.alloc (.cells #[.int .i64 32, .int .i64 24, .int .i64 (-149)] 75)) := below1 v2 _
  generalize v2.alloc (.cells #[.int .i64 32, .int .i64 24, .int .i64 (-149)] 75) = Wh at *
  have HGh : Hid (w.heap.size ≤ v2.heap.size) := hbw.size
  replace Xg : Hid _ := Xg.out.below hbn
  replace hbw := Below.on hbw hbn
  clear hbn
  generalize v2.heap.size = gh at *
  have Xh := Xh0
  clear Xh0
  refine (sign_64 _).mono ?_
  rintro e v3 ⟨rfl, hb3⟩
  replace Xg : Hid _ := Xg.out.below hb3
  replace Xh : Hid _ := Xh.out.below hb3
  replace hbw := Below.on hbw hb3
  clear hb3
  go_wp2_with fail
  have hc := jn_64.cl b v3 HC.out.1
  rw [HC.out.2] at hc
  refine Calls.mono hc ?_
  clear hc
  rintro e9 v4 ⟨rfl, hb4⟩
  replace Xg : Hid _ := Xg.out.below hb4
  replace Xh : Hid _ := Xh.out.below hb4
  replace hbw := Below.on hbw hb4
  clear hb4
  obtain ⟨ch0, ch1, ch2, fh0, fh1, fh2⟩ := Xh.out
  have hneh : gh < v4.heap.size := World.block_lt_of_cell? v4 _ ch0
  go_wp2_with fail
  clear ch0 ch1 ch2 fh0 fh1 fh2 hneh
  refine (wquiet_32 _).mono ?_
  rintro e v5 ⟨rfl, hb5⟩
  replace Xg : Hid _ := Xg.out.below hb5
  replace Xh : Hid _ := Xh.out.below hb5
  replace hbw := Below.on hbw hb5
  clear hb5
  go_wp2_with fail
  rw [← HR.out]
  go_ret2
  exact ⟨rfl, hbw⟩
theorem narrow_c1 {b : Nat} (hb : b < B64) {sg : Bool} (hs : sg = decide (9223372036854775808 ≤ b)) (hc : clsN 4503599627370496 9218868437227405312 (b % 9223372036854775808) = 1) {zo eo : Int} (hv : VF 9223372036854775808 4503599627370496 (-1074) b zo eo) (hf : b % 9223372036854775808 < 9218868437227405312) (w : World) (hT : Tab w) :
    Calls Tryz.prog 17 #[U b] w fun en w' => en = .returned (.tuple #[U (rnp (-149) 23 128 2147483648 2139095040 zo eo), .int .i64 0]) ∧ Below w.heap.size w w' := by
  have hbw : Below w.heap.size w w := Below.refl _ _
  have TB : Hid (Tab w) := hT
  obtain ⟨an, ha, hn1, hn2⟩ := and_sg hb hs
  have HC : Hid (b < 2 * 9223372036854775808 ∧ clsN 4503599627370496 9218868437227405312 (b % 9223372036854775808) = 1) := ⟨by rw [B64_eq] at hb; omega, hc⟩
  obtain ⟨r, hr⟩ : ∃ r, r = (rnp (-149) 23 128 2147483648 2139095040 zo eo) := ⟨_, rfl⟩
  rw [← hr]
  have HR : Hid ((rnp (-149) 23 128 2147483648 2139095040 zo eo) = r) := hr.symm
  have HV : Hid (VF 9223372036854775808 4503599627370496 (-1074) b zo eo ∧ b % 9223372036854775808 < 9218868437227405312) := ⟨hv, hf⟩
  clear hv hf
  clear hT hc hb hr hs
  go_enter Tryz.func17, Tryz.ntmps17
  go_wp2_with fail
  refine (of_64 _).mono ?_
  rintro e v1 ⟨rfl, hb1⟩
  replace hbw := Below.on hbw hb1
  clear hb1
  go_wp2_with fail
  have Xg0 : Hid (B3q (v1.alloc (.cells #[.int .i64 64, .int .i64 53, .int .i64 (-1074)] 75)) v1.heap.size (.int .i64 64) (.int .i64 53) (.int .i64 (-1074))) := B3q.new v1 _ _ _ _
  have hbn : Below v1.heap.size v1 (v1.alloc (.cells #[.int .i64 64, .int .i64 53, .int .i64 (-1074)] 75)) := below1 v1 _
  generalize v1.alloc (.cells #[.int .i64 64, .int .i64 53, .int .i64 (-1074)] 75) = Wg at *
  have HGg : Hid (w.heap.size ≤ v1.heap.size) := hbw.size
  replace hbw := Below.on hbw hbn
  clear hbn
  generalize v1.heap.size = gg at *
  have Xg := Xg0
  clear Xg0
  refine (of_32 _).mono ?_
  rintro e v2 ⟨rfl, hb2⟩
  replace Xg : Hid _ := Xg.out.below hb2
  replace hbw := Below.on hbw hb2
  clear hb2
  obtain ⟨cg0, cg1, cg2, fg0, fg1, fg2⟩ := Xg.out
  have hneg : gg < v2.heap.size := World.block_lt_of_cell? v2 _ cg0
  go_wp2_with fail
  clear cg0 cg1 cg2 fg0 fg1 fg2 hneg
  have Xh0 : Hid (B3q (v2.alloc (.cells #[.int .i64 32, .int .i64 24, .int .i64 (-149)] 75)) v2.heap.size (.int .i64 32) (.int .i64 24) (.int .i64 (-149))) := B3q.new v2 _ _ _ _
  have hbn : Below v2.heap.size v2 (v2.alloc (.cells #[.int .i64 32, .int .i64 24, .int .i64 (-149)] 75)) := below1 v2 _
  generalize v2.alloc (.cells #[.int .i64 32, .int .i64 24, .int .i64 (-149)] 75) = Wh at *
  have HGh : Hid (w.heap.size ≤ v2.heap.size) := hbw.size
  replace Xg : Hid _ := Xg.out.below hbn
  replace hbw := Below.on hbw hbn
  clear hbn
  generalize v2.heap.size = gh at *
  have Xh := Xh0
  clear Xh0
  refine (sign_64 _).mono ?_
  rintro e v3 ⟨rfl, hb3⟩
  replace Xg : Hid _ := Xg.out.below hb3
  replace Xh : Hid _ := Xh.out.below hb3
  replace hbw := Below.on hbw hb3
  clear hb3
  go_wp2_with fail
  have hc := jn_64.cl b v3 HC.out.1
  rw [HC.out.2] at hc
  refine Calls.mono hc ?_
  clear hc
  rintro e9 v4 ⟨rfl, hb4⟩
  replace Xg : Hid _ := Xg.out.below hb4
  replace Xh : Hid _ := Xh.out.below hb4
  replace hbw := Below.on hbw hb4
  clear hb4
  obtain ⟨ch0, ch1, ch2, fh0, fh1, fh2⟩ := Xh.out
  have hneh : gh < v4.heap.size := World.block_lt_of_cell? v4 _ ch0
  go_wp2_with fail
  clear ch0 ch1 ch2 fh0 fh1 fh2 hneh
  refine Calls.mono (value_v pm_64 HC.out.1 HV.out.2 HV.out.1 _ (TB.out.below hbw)) ?_
  rintro e9 v5 ⟨v, rfl, hv, hb5⟩
  obtain ⟨s5, p5, m5, rfl, hd5⟩ := hv.dn HV.out.1.fm
  clear hv
  replace Xg : Hid _ := Xg.out.below hb5
  replace Xh : Hid _ := Xh.out.below hb5
  replace hbw := Below.on hbw hb5
  clear hb5
  have D5 : Hid (DN v5 s5 p5 m5 m5 eo zo) := hd5
  clear hd5
  obtain ⟨ch0, ch1, ch2, fh0, fh1, fh2⟩ := Xh.out
  have hneh : gh < v5.heap.size := World.block_lt_of_cell? v5 _ ch0
  go_wp2_with fail
  clear ch0 ch1 ch2 fh0 fh1 fh2 hneh
  have Xd0 : Hid (B3q (v5.alloc (.cells #[.bool s5, .slice p5 m5 m5, .int .i64 eo] 97)) v5.heap.size (.bool s5) (.slice p5 m5 m5) (.int .i64 eo)) := B3q.new v5 _ _ _ _
  have hbn : Below v5.heap.size v5 (v5.alloc (.cells #[.bool s5, .slice p5 m5 m5, .int .i64 eo] 97)) := below1 v5 _
  generalize v5.alloc (.cells #[.bool s5, .slice p5 m5 m5, .int .i64 eo] 97) = Wd at *
  have HGd : Hid (w.heap.size ≤ v5.heap.size) := hbw.size
  replace Xg : Hid _ := Xg.out.below hbn
  replace Xh : Hid _ := Xh.out.below hbn
  replace D5 : Hid _ := D5.out.below hbn
  replace hbw := Below.on hbw hbn
  clear hbn
  generalize v5.heap.size = gd at *
  have Xd := Xd0
  clear Xd0
  refine Calls.mono (nearest_ok (e := eo) jn_32 D5.out.zn (by rcases D5.out.fm with ⟨_, h2⟩ | ⟨_, h2, h3⟩ <;> omega) (TB.out.below hbw)) ?_
  rintro e9 v6 ⟨rfl, hb6⟩
  rw [HR.out]
  replace Xg : Hid _ := Xg.out.below hb6
  replace Xh : Hid _ := Xh.out.below hb6
  replace Xd : Hid _ := Xd.out.below hb6
  replace D5 : Hid _ := D5.out.below hb6
  replace hbw := Below.on hbw hb6
  clear hb6
  go_wp2_with fail
  go_ret2
  exact ⟨rfl, hbw⟩
theorem narrow_c2 {b : Nat} (hb : b < B64) {sg : Bool} (hs : sg = decide (9223372036854775808 ≤ b)) (hc : clsN 4503599627370496 9218868437227405312 (b % 9223372036854775808) = 2) {zo eo : Int} (hv : VF 9223372036854775808 4503599627370496 (-1074) b zo eo) (hf : b % 9223372036854775808 < 9218868437227405312) (w : World) (hT : Tab w) :
    Calls Tryz.prog 17 #[U b] w fun en w' => en = .returned (.tuple #[U (rnp (-149) 23 128 2147483648 2139095040 zo eo), .int .i64 0]) ∧ Below w.heap.size w w' := by
  have hbw : Below w.heap.size w w := Below.refl _ _
  have TB : Hid (Tab w) := hT
  obtain ⟨an, ha, hn1, hn2⟩ := and_sg hb hs
  have HC : Hid (b < 2 * 9223372036854775808 ∧ clsN 4503599627370496 9218868437227405312 (b % 9223372036854775808) = 2) := ⟨by rw [B64_eq] at hb; omega, hc⟩
  obtain ⟨r, hr⟩ : ∃ r, r = (rnp (-149) 23 128 2147483648 2139095040 zo eo) := ⟨_, rfl⟩
  rw [← hr]
  have HR : Hid ((rnp (-149) 23 128 2147483648 2139095040 zo eo) = r) := hr.symm
  have HV : Hid (VF 9223372036854775808 4503599627370496 (-1074) b zo eo ∧ b % 9223372036854775808 < 9218868437227405312) := ⟨hv, hf⟩
  clear hv hf
  clear hT hc hb hr hs
  go_enter Tryz.func17, Tryz.ntmps17
  go_wp2_with fail
  refine (of_64 _).mono ?_
  rintro e v1 ⟨rfl, hb1⟩
  replace hbw := Below.on hbw hb1
  clear hb1
  go_wp2_with fail
  have Xg0 : Hid (B3q (v1.alloc (.cells #[.int .i64 64, .int .i64 53, .int .i64 (-1074)] 75)) v1.heap.size (.int .i64 64) (.int .i64 53) (.int .i64 (-1074))) := B3q.new v1 _ _ _ _
  have hbn : Below v1.heap.size v1 (v1.alloc (.cells #[.int .i64 64, .int .i64 53, .int .i64 (-1074)] 75)) := below1 v1 _
  generalize v1.alloc (.cells #[.int .i64 64, .int .i64 53, .int .i64 (-1074)] 75) = Wg at *
  have HGg : Hid (w.heap.size ≤ v1.heap.size) := hbw.size
  replace hbw := Below.on hbw hbn
  clear hbn
  generalize v1.heap.size = gg at *
  have Xg := Xg0
  clear Xg0
  refine (of_32 _).mono ?_
  rintro e v2 ⟨rfl, hb2⟩
  replace Xg : Hid _ := Xg.out.below hb2
  replace hbw := Below.on hbw hb2
  clear hb2
  obtain ⟨cg0, cg1, cg2, fg0, fg1, fg2⟩ := Xg.out
  have hneg : gg < v2.heap.size := World.block_lt_of_cell? v2 _ cg0
  go_wp2_with fail
  clear cg0 cg1 cg2 fg0 fg1 fg2 hneg
  have Xh0 : Hid (B3q (v2.alloc (.cells #[.int .i64 32, .int .i64 24, .int .i64 (-149)] 75)) v2.heap.size (.int .i64 32) (.int .i64 24) (.int .i64 (-149))) := B3q.new v2 _ _ _ _
  have hbn : Below v2.heap.size v2 (v2.alloc (.cells #[.int .i64 32, .int .i64 24, .int .i64 (-149)] 75)) := below1 v2 _
  generalize v2.alloc (.cells #[.int .i64 32, .int .i64 24, .int .i64 (-149)] 75) = Wh at *
  have HGh : Hid (w.heap.size ≤ v2.heap.size) := hbw.size
  replace Xg : Hid _ := Xg.out.below hbn
  replace hbw := Below.on hbw hbn
  clear hbn
  generalize v2.heap.size = gh at *
  have Xh := Xh0
  clear Xh0
  refine (sign_64 _).mono ?_
  rintro e v3 ⟨rfl, hb3⟩
  replace Xg : Hid _ := Xg.out.below hb3
  replace Xh : Hid _ := Xh.out.below hb3
  replace hbw := Below.on hbw hb3
  clear hb3
  go_wp2_with fail
  have hc := jn_64.cl b v3 HC.out.1
  rw [HC.out.2] at hc
  refine Calls.mono hc ?_
  clear hc
  rintro e9 v4 ⟨rfl, hb4⟩
  replace Xg : Hid _ := Xg.out.below hb4
  replace Xh : Hid _ := Xh.out.below hb4
  replace hbw := Below.on hbw hb4
  clear hb4
  obtain ⟨ch0, ch1, ch2, fh0, fh1, fh2⟩ := Xh.out
  have hneh : gh < v4.heap.size := World.block_lt_of_cell? v4 _ ch0
  go_wp2_with fail
  clear ch0 ch1 ch2 fh0 fh1 fh2 hneh
  refine Calls.mono (value_v pm_64 HC.out.1 HV.out.2 HV.out.1 _ (TB.out.below hbw)) ?_
  rintro e9 v5 ⟨v, rfl, hv, hb5⟩
  obtain ⟨s5, p5, m5, rfl, hd5⟩ := hv.dn HV.out.1.fm
  clear hv
  replace Xg : Hid _ := Xg.out.below hb5
  replace Xh : Hid _ := Xh.out.below hb5
  replace hbw := Below.on hbw hb5
  clear hb5
  have D5 : Hid (DN v5 s5 p5 m5 m5 eo zo) := hd5
  clear hd5
  obtain ⟨ch0, ch1, ch2, fh0, fh1, fh2⟩ := Xh.out
  have hneh : gh < v5.heap.size := World.block_lt_of_cell? v5 _ ch0
  go_wp2_with fail
  clear ch0 ch1 ch2 fh0 fh1 fh2 hneh
  have Xd0 : Hid (B3q (v5.alloc (.cells #[.bool s5, .slice p5 m5 m5, .int .i64 eo] 97)) v5.heap.size (.bool s5) (.slice p5 m5 m5) (.int .i64 eo)) := B3q.new v5 _ _ _ _
  have hbn : Below v5.heap.size v5 (v5.alloc (.cells #[.bool s5, .slice p5 m5 m5, .int .i64 eo] 97)) := below1 v5 _
  generalize v5.alloc (.cells #[.bool s5, .slice p5 m5 m5, .int .i64 eo] 97) = Wd at *
  have HGd : Hid (w.heap.size ≤ v5.heap.size) := hbw.size
  replace Xg : Hid _ := Xg.out.below hbn
  replace Xh : Hid _ := Xh.out.below hbn
  replace D5 : Hid _ := D5.out.below hbn
  replace hbw := Below.on hbw hbn
  clear hbn
  generalize v5.heap.size = gd at *
  have Xd := Xd0
  clear Xd0
  refine Calls.mono (nearest_ok (e := eo) jn_32 D5.out.zn (by rcases D5.out.fm with ⟨_, h2⟩ | ⟨_, h2, h3⟩ <;> omega) (TB.out.below hbw)) ?_
  rintro e9 v6 ⟨rfl, hb6⟩
  rw [HR.out]
  replace Xg : Hid _ := Xg.out.below hb6
  replace Xh : Hid _ := Xh.out.below hb6
  replace Xd : Hid _ := Xd.out.below hb6
  replace D5 : Hid _ := D5.out.below hb6
  replace hbw := Below.on hbw hb6
  clear hb6
  go_wp2_with fail
  go_ret2
  exact ⟨rfl, hbw⟩
abbrev OpS (b : Nat) (o : Opd) : Prop := OpB 2147483648 2139095040 8388608 (-149) b o
abbrev OpD (b : Nat) (o : Opd) : Prop := OpB 9223372036854775808 9218868437227405312 4503599627370496 (-1074) b o
abbrev ptS (o : Opd) : Nat := patO (-149) 23 128 2147483648 2139095040 2143289345 o
abbrev ptD (o : Opd) : Nat := patO (-1074) 52 1024 9223372036854775808 9218868437227405312 9221120237041090561 o
def NarP (q p : Nat) : Prop := ∀ w, Tab w → Calls Tryz.prog 17 #[U q] w fun en w' => en = .returned (.tuple #[U p, .int .i64 0]) ∧ Below w.heap.size w w'
theorem cls9 {H I z : Nat} (hH : 0 < H) (hHI : H < I) : (z = 0 → clsN H I z = 0) ∧ (z ≠ 0 → z < H → clsN H I z = 1) ∧ (H ≤ z → z < I → clsN H I z = 2) ∧ (z = I → clsN H I z = 3) ∧ (I < z → clsN H I z = 4) := by
  unfold clsN
  refine ⟨fun h => by rw [if_pos h], fun h1 h2 => by rw [if_neg h1, if_pos h2], fun h1 h2 => by rw [if_neg (by omega), if_neg (by omega), if_pos h2], fun h => by rw [if_neg (by omega), if_neg (by omega), if_neg (by omega), if_pos h], fun h => by rw [if_neg (by omega), if_neg (by omega), if_neg (by omega), if_neg (by omega)]⟩
theorem opS_ex (b : Nat) : ∃ o, OpS b o := by
  rcases Nat.lt_trichotomy (b % 2147483648) 2139095040 with h | h | h
  · by_cases h0 : b % 2147483648 = 0
    · exact ⟨_, .inr (.inr (.inl ⟨h0, rfl⟩))⟩
    · obtain ⟨x, e, hv, _⟩ := vf_ex jn_32.jm.pm h
      refine ⟨_, .inr (.inr (.inr ⟨h0, h, x, e, hv, ?_, rfl⟩))⟩
      rintro rfl
      have h1 := hv.v
      rw [dv_zero] at h1
      have h2 := dv_eq_zero h1.symm
      have h3 := vs_mono (H := 8388608) (by decide) (show 0 < b % 2147483648 by omega)
      rw [svS_eq] at h2
      split at h2 <;> omega
  · exact ⟨_, .inr (.inl ⟨h, rfl⟩)⟩
  · exact ⟨_, .inl ⟨h, rfl⟩⟩
theorem wid_o {a : Nat} (ha : a < 4294967296) {o : Opd} (ho : OpS a o) : ∃ x, x < 18446744073709551616 ∧ OpD x o ∧ ∀ w, Tab w → Calls Tryz.prog 15 #[U a] w fun en w' => en = .returned (.tuple #[U x, .int .i64 0]) ∧ Below w.heap.size w w' := by
  rcases ho with ⟨h, rfl⟩ | ⟨h, rfl⟩ | ⟨h, rfl⟩ | ⟨h0, h, x, e, hv, hx, rfl⟩
  · exact ⟨9221120237041090561, by decide, .inl ⟨by decide, rfl⟩, fun w _ => widen_nan a ha w h⟩
  · refine ⟨if decide (2147483648 ≤ a) then 9223372036854775808 + 9218868437227405312 else 9218868437227405312, by split <;> omega, .inr (.inl ⟨by split <;> omega, ?_⟩), fun w _ => widen_inf a ha w h⟩
    by_cases k : 2147483648 ≤ a <;> simp [k]
  · obtain ⟨_, k2, _⟩ := wV_cls (z := a % 2147483648) (by omega)
    have k3 := k2 h
    refine ⟨if decide (2147483648 ≤ a) then 9223372036854775808 + wV (a % 2147483648) else wV (a % 2147483648), by rw [k3]; split <;> omega, .inr (.inr (.inl ⟨by rw [k3]; split <;> omega, ?_⟩)), fun w hT => widen_fin a ha w (by omega) hT⟩
    rw [k3]
    by_cases k : 2147483648 ≤ a <;> simp [k]
  · obtain ⟨k1, _, k3⟩ := wV_cls h
    have k4 := k3 h0
    have k5 := wV_vs h (K := 925) rfl
    obtain ⟨y, hy⟩ : ∃ y, y = if decide (2147483648 ≤ a) then 9223372036854775808 + wV (a % 2147483648) else wV (a % 2147483648) := ⟨_, rfl⟩
    have hm : y % 9223372036854775808 = wV (a % 2147483648) := by rw [hy]; split <;> omega
    have hs : 9223372036854775808 ≤ y ↔ 2147483648 ≤ a := by rw [hy]; by_cases k : 2147483648 ≤ a <;> simp [k] <;> omega
    refine ⟨y, by rw [hy]; split <;> omega, .inr (.inr (.inr ⟨by omega, by omega, x, e, ⟨hv.fm, ?_⟩, hx, rfl⟩)), fun w hT => by rw [hy]; exact widen_fin a ha w h hT⟩
    have h6 := dv_up (x := (vs 8388608 (a % 2147483648) : Int)) (e := -1074) 925 (by decide)
    rw [show (-1074 : Int) + ((925 : Nat) : Int) = -149 from rfl, ← Int.natCast_mul, ← k5] at h6
    rw [hv.v, svS_eq, svS_eq, hm]
    by_cases k : 2147483648 ≤ a
    · rw [if_pos k, if_pos (hs.2 k), dv_neg, dv_neg, h6]
    · rw [if_neg k, if_neg (fun q => k (hs.1 q)), h6]
theorem nar_q {q Z : Nat} (hq : q < 18446744073709551616) (hI : q % 9223372036854775808 ≤ 9218868437227405312) (hZ : RNz 8388608 (-149) 2139095040 (D9d (q % 9223372036854775808)) Z) : NarP q (if 9223372036854775808 ≤ q then 2147483648 + Z else Z) := by
  intro w hT
  obtain ⟨c0, c1, c2, c3, _⟩ := cls9 (H := 4503599627370496) (I := 9218868437227405312) (z := q % 9223372036854775808) (by decide) (by decide)
  have hdb : ∀ n m : Nat, (if decide (9223372036854775808 ≤ q) = true then n else m) = if 9223372036854775808 ≤ q then n else m := fun n m => by by_cases k : 9223372036854775808 ≤ q <;> simp [k]
  by_cases h0 : q % 9223372036854775808 = 0
  · have h1 : Z = 0 := by
      rw [h0] at hZ
      have h2 : RNz 8388608 (-149) 2139095040 (D9d 0) 0 := by
        have h3 := RNz.exact (H := 8388608) (l := -149) (I := 2139095040) (Z := 0) (by decide) (by decide) (by decide)
        have h4 : D9d 0 = dv ((vs 8388608 0 : Nat) : Int) (-149) := by
          show dv ((vs 4503599627370496 0 : Nat) : Int) (-1074) = _
          rw [vs_zero, vs_zero, show ((0 : Nat) : Int) = 0 from rfl, dv_zero, dv_zero]
        rw [h4]; exact h3
      exact hZ.uniq h2
    have := narrow_c0 hq rfl (c0 h0) w hT
    rw [hdb] at this
    rw [h1]; exact this
  · rcases Nat.lt_or_ge (q % 9223372036854775808) 9218868437227405312 with h | h
    · obtain ⟨zo, eo, hv, -⟩ := vf_ex jn_64.jm.pm h
      have he : -4194304 ≤ eo := by rcases hv.fm with ⟨_, h2⟩ | ⟨_, h2, h3⟩ <;> omega
      obtain ⟨Y, _, y2, y3, _⟩ := rnp_is jn_32 zo eo he
      have hab : dv (zo.natAbs : Int) eo = D9d (q % 9223372036854775808) := by
        rw [dv_abs9, hv.v, svS_eq]
        split
        · rw [dv_neg, Int.natAbs_neg, ← dv_abs9]; rfl
        · rw [← dv_abs9]; rfl
      rw [hab] at y2
      obtain rfl := y2.uniq hZ
      have hvv := hv.v
      rw [svS_eq] at hvv
      have hp := vs_mono (H := 4503599627370496) (by decide) (show 0 < q % 9223372036854775808 by omega)
      have hsg : zo < 0 ↔ 9223372036854775808 ≤ q := by
        have := dv_sign9 hvv
        by_cases k : 9223372036854775808 ≤ q
        · rw [if_pos k] at this; exact ⟨fun _ => k, fun _ => this.2 (by omega)⟩
        · rw [if_neg k] at this; exact ⟨fun x => absurd (this.1 x) (by omega), fun x => absurd x k⟩
      have hr : rnp (-149) 23 128 2147483648 2139095040 zo eo = if 9223372036854775808 ≤ q then 2147483648 + Y else Y := by
        rw [y3]
        by_cases k : 9223372036854775808 ≤ q
        · rw [if_pos k, if_pos (hsg.2 k)]
        · rw [if_neg k, if_neg (fun x => k (hsg.1 x))]
      rw [← hr]
      by_cases h1 : q % 9223372036854775808 < 4503599627370496
      · exact narrow_c1 hq rfl (c1 h0 h1) hv h w hT
      · exact narrow_c2 hq rfl (c2 (by omega) h) hv h w hT
    · have hi : q % 9223372036854775808 = 9218868437227405312 := by omega
      have h1 : Z = 2139095040 := by
        refine Nat.le_antisymm hZ.le (Nat.le_of_not_lt fun k => ?_)
        obtain ⟨y, N, j, y0, yI, _, _, _, hD, _, _⟩ := mid_dbl k
        have h2 := dv_lt (-1074) (Int.ofNat_lt.2 (vs_mono (H := 4503599627370496) (by decide) yI))
        have h3 := hZ.hi Z k (by rw [hi]; show M9s Z < D9d 9218868437227405312; rw [← hD]; exact h2)
        omega
      have := narrow_c3 hq rfl (c3 hi) w hT
      rw [hdb] at this
      rw [h1]; exact this
theorem nar_n : NarP 9221120237041090561 2143289345 := fun w hT => narrow_c4 (by decide) rfl (by decide) w hT
theorem nar_o {c : Opd} (hg : GoodO c) (ht : ∀ z h Z Y, c = ofin z h → RNz 8388608 (-149) 2139095040 (dv z.natAbs h) Z → RNz 4503599627370496 (-1074) 9218868437227405312 (dv z.natAbs h) Y → RNz 8388608 (-149) 2139095040 (D9d Y) Z) : NarP (ptD c) (ptS c) := by
  have e0 : RNz 8388608 (-149) 2139095040 (D9d 0) 0 := by
    have h3 := RNz.exact (H := 8388608) (l := -149) (I := 2139095040) (Z := 0) (by decide) (by decide) (by decide)
    have h4 : D9d 0 = dv ((vs 8388608 0 : Nat) : Int) (-149) := by
      show dv ((vs 4503599627370496 0 : Nat) : Int) (-1074) = _
      rw [vs_zero, vs_zero, show ((0 : Nat) : Int) = 0 from rfl, dv_zero, dv_zero]
    rw [h4]; exact h3
  have eI : RNz 8388608 (-149) 2139095040 (D9d 9218868437227405312) 2139095040 := by
    have hlt : ∀ z, z < 2139095040 → M9s z < D9d 9218868437227405312 := fun z hz => by
      obtain ⟨y, N, j, y0, yI, _, _, _, hD, _, _⟩ := mid_dbl hz
      rw [← hD]
      exact dv_lt (-1074) (Int.ofNat_lt.2 (vs_mono (H := 4503599627370496) (by decide) yI))
    refine ⟨Nat.le_refl _, fun z hz h => ?_, fun z hz _ => hz, fun z hz h => ?_⟩
    · have h1 : D9d 9218868437227405312 < M9s z := h
      have := hlt z hz; omega
    · have h1 : D9d 9218868437227405312 = M9s z := h
      have := hlt z hz; omega
  rcases hg with rfl | ⟨s, rfl⟩ | ⟨s, rfl⟩ | ⟨z, h, rfl, hf, h0⟩
  · exact nar_n
  · cases s
    · exact nar_q (q := 9218868437227405312) (by decide) (by decide) eI
    · exact nar_q (q := 9223372036854775808 + 9218868437227405312) (by decide) (by decide) eI
  · cases s
    · exact nar_q (q := 0) (by decide) (by decide) e0
    · exact nar_q (q := 9223372036854775808) (by decide) (by decide) e0
  · have he : -4194304 ≤ h := by rcases hf with ⟨_, h2⟩ | ⟨_, h2, h3⟩ <;> omega
    obtain ⟨Z, z1, z2, z3, z4, z5, z6, _⟩ := rnp_is jn_32 z h he
    obtain ⟨Y, y1, y2, y3, y4, y5, y6, _⟩ := rnp_is jn_64 z h he
    have h1 := ht z h Z Y rfl z2 y2
    have h2 : NarP _ _ := nar_q (q := ptD (ofin z h)) y4 (by rw [show ptD (ofin z h) % 9223372036854775808 = Y from y5]; exact y1) (by rw [show ptD (ofin z h) % 9223372036854775808 = Y from y5]; exact h1)
    have h3 : (if 9223372036854775808 ≤ ptD (ofin z h) then 2147483648 + Z else Z) = ptS (ofin z h) := by
      rw [show ptS (ofin z h) = if z < 0 then 2147483648 + Z else Z from z3]
      have h4 : (9223372036854775808 ≤ ptD (ofin z h)) ↔ z < 0 := by
        have : decide (9223372036854775808 ≤ ptD (ofin z h)) = decide (z < 0) := y6
        exact decide_eq_decide.1 this
      by_cases k : z < 0
      · rw [if_pos k, if_pos (h4.2 k)]
      · rw [if_neg k, if_neg (fun x => k (h4.1 x))]
    rw [h3] at h2; exact h2
theorem OpB.k4 {S I H : Nat} {l : Int} {b : Nat} {o : Opd} (h : OpB S I H l b o) (hk : o.k = 3) : b % S ≠ 0 ∧ b % S < I ∧ ∃ x e, VF S H l b x e ∧ x ≠ 0 ∧ o = ofin x e := by
  rcases h with ⟨_, rfl⟩ | ⟨_, rfl⟩ | ⟨_, rfl⟩ | ⟨h0, h1, h2⟩
  · cases hk
  · cases hk
  · cases hk
  · exact ⟨h0, h1, h2⟩
theorem ofin_inj {x e z h : Int} (k : ofin x e = ofin z h) : x = z ∧ e = h := ⟨congrArg Opd.x k, congrArg Opd.e k⟩
theorem nar_sum {a b : Nat} {oa ob c : Opd} (ha : a < 4294967296) (hb : b < 4294967296) (ka : OpS a oa) (kb : OpS b ob) (hs : SumO oa ob c ∨ SumO oa (negO ob) c) : NarP (ptD c) (ptS c) := by
  have hg : GoodO c := hs.elim (fun h => h.good ka.good kb.good) (fun h => h.good ka.good kb.good.neg)
  refine nar_o hg fun z h Z Y hc hZ hY => ?_
  have one : ∀ {d : Nat} {x e : Int}, d < 4294967296 → OpS d (ofin x e) → z.natAbs = x.natAbs → h = e → RNz 8388608 (-149) 2139095040 (D9d Y) Z := fun {d x e} hd kd hz he => by
    obtain ⟨q0, q1, x', e', hv, _, hx⟩ := kd.k4 rfl
    obtain ⟨rfl, rfl⟩ := ofin_inj hx
    rw [hz, he] at hZ hY
    exact fig_one ⟨hd, q0, q1⟩ hv hZ hY
  have two : ∀ {ob' : Opd}, (ob' = ob ∨ ob' = negO ob) → SumO oa ob' (ofin z h) → RNz 8388608 (-149) 2139095040 (D9d Y) Z := fun {ob'} hb' hs => by
    have hk : ob'.k = ob.k := by
      rcases hb' with rfl | rfl
      · rfl
      · rcases kb.good with rfl | ⟨s, rfl⟩ | ⟨s, rfl⟩ | ⟨x, e, rfl, _⟩ <;> rfl
    have hfin : ob.k = 3 → ∃ x e, ob = ofin x e ∧ (ob' = ofin x e ∨ ob' = ofin (-x) e) := fun k => by
      obtain ⟨_, _, x, e, _, _, rfl⟩ := kb.k4 k
      rcases hb' with rfl | rfl
      · exact ⟨x, e, rfl, .inl rfl⟩
      · exact ⟨x, e, rfl, .inr rfl⟩
    rcases hs with ⟨_, k⟩ | ⟨_, k⟩ | ⟨_, k⟩ | ⟨_, k⟩ | ⟨k1, k⟩ | ⟨k1, k⟩ | ⟨k1, k⟩
    · cases congrArg Opd.k k
    · cases congrArg Opd.k k
    · cases congrArg Opd.k k
    · cases congrArg Opd.k k
    · obtain ⟨x, e, rfl, hx⟩ := hfin (by omega)
      obtain ⟨e1, e2⟩ := ofin_inj k
      rcases hx with rfl | rfl
      · exact one hb kb (by rw [e1]; rfl) e2
      · exact one hb kb (by rw [e1]; exact Int.natAbs_neg x) e2
    · obtain ⟨_, _, x, e, _, _, rfl⟩ := ka.k4 k1.1
      obtain ⟨e1, e2⟩ := ofin_inj k
      exact one ha ka (by rw [e1]; rfl) e2
    · obtain ⟨q0, q1, x, e, hv, _, rfl⟩ := ka.k4 k1.1
      obtain ⟨y, g, rfl, hx⟩ := hfin (by omega)
      obtain ⟨p0, p1, y', g', hw, _, hy⟩ := kb.k4 rfl
      obtain ⟨rfl, rfl⟩ := ofin_inj hy
      rcases k with ⟨_, k⟩ | ⟨z', h', _, _, k, k'⟩
      · cases congrArg Opd.k k
      · obtain ⟨rfl, rfl⟩ := ofin_inj k'
        refine fig_sum ⟨ha, q0, q1⟩ ⟨hb, p0, p1⟩ hv hw ?_ hZ hY
        rcases hx with rfl | rfl
        · exact .inl k
        · right
          have k2 : dv z h = dv x e + dv (-y) g := k
          rw [dv_neg] at k2
          omega
  subst hc
  exact hs.elim (two (.inl rfl)) (two (.inr rfl))
theorem nar_mul {a b : Nat} {oa ob c : Opd} (ha : a < 4294967296) (hb : b < 4294967296) (ka : OpS a oa) (kb : OpS b ob) (hs : MulO oa ob c) : NarP (ptD c) (ptS c) := by
  refine nar_o hs.good fun z h Z Y hc hZ hY => ?_
  subst hc
  rcases hs with ⟨_, k⟩ | ⟨_, k⟩ | ⟨_, k⟩ | ⟨k1, z', h', _, _, k, k'⟩
  · cases congrArg Opd.k k
  · cases congrArg Opd.k k
  · cases congrArg Opd.k k
  · obtain ⟨rfl, rfl⟩ := ofin_inj k'
    obtain ⟨q0, q1, x, e, hv, _, rfl⟩ := ka.k4 k1.1
    obtain ⟨p0, p1, y, g, hw, _, rfl⟩ := kb.k4 k1.2
    exact fig_prod ⟨ha, q0, q1⟩ ⟨hb, p0, p1⟩ hv hw k hZ hY
theorem nar_sp {c : Opd} (hg : GoodO c) (hk : c.k ≠ 3) : NarP (ptD c) (ptS c) :=
  nar_o hg fun z h Z Y hc _ _ => absurd (by rw [hc]; rfl) hk
def DivP (l : Int) (sd : Nat) (Be : Int) (S I H Q a b r : Nat) : Prop :=
  (∃ x e y g Z V, a % S ≠ 0 ∧ a % S < I ∧ b % S ≠ 0 ∧ b % S < I ∧ VF S H l a x e ∧ VF S H l b y g ∧ SgB S (decide (x < 0)) (decide (y < 0)) r Z ∧ RNz H l I V Z ∧ Mk H l I (fun τ => (y.natAbs : Int) * τ) (dv (x.natAbs : Int) (e - g)) V) ∨
  ∃ oa ob c, r = patO l sd Be S I Q c ∧ OpB S I H l a oa ∧ OpB S I H l b ob ∧ ¬ (oa.k = 3 ∧ ob.k = 3) ∧ DivS oa ob c
def SqrP (l : Int) (sd : Nat) (Be : Int) (S I H Q a r : Nat) : Prop :=
  (∃ x e V, a < S ∧ a % S ≠ 0 ∧ a % S < I ∧ VF S H l a x e ∧ RNz H l I V r ∧ Mk H l I (fun τ => τ * τ) ((x.natAbs : Int) * ((2 ^ (e + 2 * 4194304).toNat : Nat) : Int)) V) ∨
  ∃ oa, r = patO l sd Be S I Q (rootO oa) ∧ OpB S I H l a oa ∧ (oa.k = 3 → oa.s = true)
theorem div_p {f p m l : Int} {S I H sd : Nat} {Be : Int} {Q : Nat} (J : Jo f p m l S I H sd Be Q) (hmd : m = (sd : Int) + 1) {a b : Nat} (ha : a < 2 * S) (hb : b < 2 * S) (w : World) (hT : Tab w) :
    Calls Tryz.prog 12 #[.int .i64 f, U a, U b] w fun en w' => ∃ r, en = .returned (.tuple #[U r, .int .i64 0]) ∧ DivP l sd Be S I H Q a b r ∧ Below w.heap.size w w' := by
  by_cases hn : (a % S ≠ 0 ∧ a % S < I) ∧ (b % S ≠ 0 ∧ b % S < I)
  · refine (soft_div_ff J hmd ⟨ha, hn.1⟩ ⟨hb, hn.2⟩ w hT).mono ?_
    rintro en w' ⟨x, e, y, g, r, Z, V, rfl, k1, k2, k3, k4, k5, hbw⟩
    exact ⟨r, rfl, .inl ⟨x, e, y, g, Z, V, hn.1.1, hn.1.2, hn.2.1, hn.2.2, k1, k2, k3, k4, k5⟩, hbw⟩
  · refine (soft_div_s J ha hb hn w hT).mono ?_
    rintro en w' ⟨oa, ob, c, rfl, h1, h2, hs, hbw⟩
    exact ⟨_, rfl, .inr ⟨oa, ob, c, rfl, h1, h2, fun k => hn ⟨h1.k3 k.1, h2.k3 k.2⟩, hs⟩, hbw⟩
theorem sqr_p {f p m l : Int} {S I H sd : Nat} {Be : Int} {Q : Nat} (J : Jo f p m l S I H sd Be Q) (hmd : m = (sd : Int) + 1) {a : Nat} (ha : a < 2 * S) (w : World) (hT : Tab w) :
    Calls Tryz.prog 16 #[.int .i64 f, U a] w fun en w' => ∃ r, en = .returned (.tuple #[U r, .int .i64 0]) ∧ SqrP l sd Be S I H Q a r ∧ Below w.heap.size w w' := by
  by_cases hn : a < S ∧ a % S ≠ 0 ∧ a % S < I
  · refine (soft_sqrt_f J hmd hn w hT).mono ?_
    rintro en w' ⟨x, e, Z, V, rfl, k1, k2, k3, hbw⟩
    exact ⟨Z, rfl, .inl ⟨x, e, V, hn.1, hn.2.1, hn.2.2, k1, k2, k3⟩, hbw⟩
  · refine (soft_sqrt_s J ha (fun h1 h2 => Nat.le_of_not_lt fun h3 => hn ⟨h3, h1, h2⟩) w hT).mono ?_
    rintro en w' ⟨oa, rfl, h1, h2, hbw⟩
    exact ⟨_, rfl, .inr ⟨oa, rfl, h1, h2⟩, hbw⟩
theorem fin_k {S I H : Nat} {l : Int} {b : Nat} {o : Opd} (h : OpB S I H l b o) (h0 : b % S ≠ 0) (h1 : b % S < I) : o.k = 3 := by
  obtain ⟨x, e, _, _, rfl⟩ := h.fin h0 h1
  rfl
theorem DivS.k3n {a b c : Opd} (h : DivS a b c) : c.k ≠ 3 := by
  rcases h with ⟨_, rfl⟩ | ⟨_, rfl⟩ | ⟨_, rfl⟩
  · decide
  · exact fun h => by cases h
  · exact fun h => by cases h
theorem DivS.uniq {a b c d : Opd} (h : DivS a b c) (k : DivS a b d) : c = d := by
  rcases h with ⟨h, rfl⟩ | ⟨h, rfl⟩ | ⟨h, rfl⟩ <;> rcases k with ⟨k, rfl⟩ | ⟨k, rfl⟩ | ⟨k, rfl⟩ <;> first | rfl | (exfalso; omega)
theorem vf_ne {a : Nat} {x e : Int} (va : VF 2147483648 8388608 (-149) a x e) (h0 : a % 2147483648 ≠ 0) : x ≠ 0 := by
  rintro rfl
  have h9 := va.v
  rw [dv_zero, svS_eq] at h9
  have h8 := dv_eq_zero h9.symm
  have h7 := vs_mono (H := 8388608) (by decide) (show 0 < a % 2147483648 by omega)
  split at h8 <;> omega
theorem nar_div {a b x y r q : Nat} {oa ob : Opd} (ha : a < 4294967296) (hb : b < 4294967296) (_hx : x < 18446744073709551616) (_hy : y < 18446744073709551616) (ka : OpS a oa) (kb : OpS b ob) (kx : OpD x oa) (ky : OpD y ob) (hr : DivP (-149) 23 128 2147483648 2139095040 8388608 2143289345 a b r) (hq : DivP (-1074) 52 1024 9223372036854775808 9218868437227405312 4503599627370496 9221120237041090561 x y q) : NarP q r := by
  rcases hr with ⟨x1, e1, y1, g1, Z, V, a0, a1, b0, b1, va, vb, sr, rZ, mZ⟩ | ⟨oa', ob', c, rfl, ka', kb', hn, hc⟩
  · obtain rfl := ka.uniq (.inr (.inr (.inr ⟨a0, a1, x1, e1, va, vf_ne va a0, rfl⟩))) (by decide)
    obtain rfl := kb.uniq (.inr (.inr (.inr ⟨b0, b1, y1, g1, vb, vf_ne vb b0, rfl⟩))) (by decide)
    · rcases hq with ⟨x2, e2, y2, g2, Y, W, p0, p1, q0, q1, vx, vy, sq, rY, mY⟩ | ⟨oa', ob', c, rfl, ka', kb', hn, hc⟩
      · obtain ⟨_, _, x', e', vx', _, hx'⟩ := kx.k4 rfl
        obtain ⟨_, _, y', g', vy', _, hy'⟩ := ky.k4 rfl
        obtain ⟨rfl, rfl⟩ := ofin_inj hx'
        obtain ⟨rfl, rfl⟩ := ofin_inj hy'
        obtain ⟨rfl, rfl⟩ := dv_inj vx.fm vx'.fm (vx.v.trans vx'.v.symm)
        obtain ⟨rfl, rfl⟩ := dv_inj vy.fm vy'.fm (vy.v.trans vy'.v.symm)
        have hf := fig_quo ⟨ha, a0, a1⟩ ⟨hb, b0, b1⟩ va vb rZ mZ rY mY
        have hle := rY.le
        have hq9 : q = if decide (x2 < 0) = decide (y2 < 0) then Y else 9223372036854775808 + Y := sq
        have hm : q % 9223372036854775808 = Y := by rw [hq9]; split <;> omega
        have h9 := nar_q (q := q) (Z := Z) (by rw [hq9]; split <;> omega) (by omega) (by rw [hm]; exact hf)
        have hr9 : r = if decide (x2 < 0) = decide (y2 < 0) then Z else 2147483648 + Z := sr
        have hrr : r = if 9223372036854775808 ≤ q then 2147483648 + Z else Z := by
          rw [hr9, hq9]
          by_cases k : decide (x2 < 0) = decide (y2 < 0)
          · rw [if_pos k, if_pos k, if_neg (by omega)]
          · rw [if_neg k, if_neg k, if_pos (by omega)]
        rw [hrr]; exact h9
      · exfalso
        obtain rfl := kx.uniq ka' (by decide)
        obtain rfl := ky.uniq kb' (by decide)
        exact hn ⟨rfl, rfl⟩
  · obtain rfl := ka.uniq ka' (by decide)
    obtain rfl := kb.uniq kb' (by decide)
    rcases hq with ⟨x2, e2, y2, g2, Y, W, p0, p1, q0, q1, vx, vy, sq, rY, mY⟩ | ⟨oa', ob', d, rfl, kx', ky', hn', hd⟩
    · exact absurd ⟨fin_k kx p0 p1, fin_k ky q0 q1⟩ hn
    · obtain rfl := kx.uniq kx' (by decide)
      obtain rfl := ky.uniq ky' (by decide)
      obtain rfl := hc.uniq hd
      exact nar_sp hc.good hc.k3n
theorem root_good {o : Opd} (hg : GoodO o) : GoodO (rootO o) ∧ (rootO o).k ≠ 3 := by
  unfold rootO
  by_cases h : o.k = 2
  · rw [if_pos h]; exact ⟨hg, by omega⟩
  · rw [if_neg h]
    by_cases h1 : o.k = 1 ∧ o.s = false
    · rw [if_pos h1]; exact ⟨hg, by omega⟩
    · rw [if_neg h1]; exact ⟨.inl rfl, by decide⟩
theorem nar_sqr {a x r q : Nat} {oa : Opd} (ha : a < 4294967296) (_hx : x < 18446744073709551616) (ka : OpS a oa) (kx : OpD x oa) (hr : SqrP (-149) 23 128 2147483648 2139095040 8388608 2143289345 a r) (hq : SqrP (-1074) 52 1024 9223372036854775808 9218868437227405312 4503599627370496 9221120237041090561 x q) : NarP q r := by
  rcases hr with ⟨x1, e1, V, aS, a0, a1, va, rZ, mZ⟩ | ⟨oa', rfl, ka', hn⟩
  · obtain ⟨x3, e3, v3, h3, e9⟩ := ka.fin a0 a1
    obtain ⟨rfl, rfl⟩ := dv_inj va.fm v3.fm (va.v.trans v3.v.symm)
    subst e9
    have hpos : ¬ x1 < 0 := fun h => by
      have h9 := dv_sign9 va.v
      rw [svS_eq, if_neg (by omega)] at h9
      have := h9.1 h
      omega
    rcases hq with ⟨x2, e2, W, xS, p0, p1, vx, rY, mY⟩ | ⟨oa', rfl, ka', hn⟩
    · obtain ⟨_, _, x', e', vx', _, hx'⟩ := kx.k4 rfl
      obtain ⟨rfl, rfl⟩ := ofin_inj hx'
      obtain ⟨rfl, rfl⟩ := dv_inj vx.fm vx'.fm (vx.v.trans vx'.v.symm)
      have hf := fig_root ⟨ha, a0, a1⟩ va rZ mZ rY mY
      have hle := rY.le
      have hm : q % 9223372036854775808 = q := by omega
      have h9 := nar_q (q := q) (Z := r) (by omega) (by omega) (by rw [hm]; exact hf)
      rw [if_neg (by omega)] at h9
      exact h9
    · exfalso
      obtain rfl := kx.uniq ka' (by decide)
      have := hn rfl
      exact hpos (of_decide_eq_true this)
  · obtain rfl := ka.uniq ka' (by decide)
    rcases hq with ⟨x2, e2, W, xS, p0, p1, vx, rY, mY⟩ | ⟨oa', rfl, kx', hn'⟩
    · exfalso
      have hk := fin_k kx p0 p1
      have hs := hn hk
      obtain ⟨_, _, x', e', vx', _, rfl⟩ := kx.k4 hk
      have h8 : x' < 0 := of_decide_eq_true hs
      have h9 := dv_sign9 vx'.v
      rw [svS_eq, if_neg (by omega)] at h9
      have := h9.1 h8
      omega
    · obtain rfl := kx.uniq kx' (by decide)
      obtain ⟨g1, g2⟩ := root_good ka.good
      exact nar_sp g1 g2
theorem softThrough_w {a b : Nat} (ha : a < 4294967296) (hb : b < 4294967296) (w : World) (hT : Tab w) :
    Calls Tryz.prog 4 #[.int .u32 a, .int .u32 b] w fun en w' => en = .returned (.bool true) ∧ Below w.heap.size w w' := by
  obtain ⟨oa, ka⟩ := opS_ex a
  obtain ⟨ob, kb⟩ := opS_ex b
  obtain ⟨x, hx, kx, cx⟩ := wid_o ha ka
  obtain ⟨y, hy, ky, cy⟩ := wid_o hb kb
  have hua : IntKind.u64.wrap (a : Int) = (a : Int) := by rw [IntKind.wrap_u64]; omega
  have hub : IntKind.u64.wrap (b : Int) = (b : Int) := by rw [IntKind.wrap_u64]; omega
  have HL : Hid (a < 4294967296 ∧ b < 4294967296 ∧ x < 18446744073709551616 ∧ y < 18446744073709551616) := ⟨ha, hb, hx, hy⟩
  have HO : Hid (OpS a oa ∧ OpS b ob ∧ OpD x oa ∧ OpD y ob) := ⟨ka, kb, kx, ky⟩
  have HC : Hid ((∀ w, Tab w → Calls Tryz.prog 15 #[U a] w fun en w' => en = .returned (.tuple #[U x, .int .i64 0]) ∧ Below w.heap.size w w') ∧ ∀ w, Tab w → Calls Tryz.prog 15 #[U b] w fun en w' => en = .returned (.tuple #[U y, .int .i64 0]) ∧ Below w.heap.size w w') := ⟨cx, cy⟩
  have TB : Hid (Tab w) := hT
  clear hT ha hb hx hy ka kb kx ky cx cy
  go_enter Tryz.func4, Tryz.ntmps4
  go_wp2_with fail
  have hbw : Below w.heap.size w w := Below.refl _ _
  refine (awake9 _ (TB.out.below hbw)).mono ?_
  rintro e v0 ⟨rfl, hb0⟩
  replace hbw := Below.on hbw hb0
  clear hb0
  go_wp2_with fail
  refine (HC.out.1 _ (TB.out.below hbw)).mono ?_
  rintro e v1 ⟨rfl, hb1⟩
  replace hbw := Below.on hbw hb1
  clear hb1
  go_wp2_with fail
  refine (HC.out.2 _ (TB.out.below hbw)).mono ?_
  rintro e v2 ⟨rfl, hb2⟩
  replace hbw := Below.on hbw hb2
  clear hb2
  go_wp2_with fail
  have HB0 : Hid (Below w.heap.size w v2) := hbw
  clear hbw
  go_loopg [9] 5 (fun gz iv wr => ∃ kd : Nat, kd + gz = 6 ∧ 1 ≤ kd ∧ iv = .int .i64 kd ∧ Below w.heap.size w wr)
  case atStart => exact ⟨1, rfl, by decide, rfl, HB0.out⟩
  case round =>
    obtain ⟨kd, hkg, hk1, rfl, hbw⟩ := hrel
    clear HB0
    cases gk with
    | zero =>
      obtain rfl : kd = 6 := by omega
      clear hkg hk1
      go_wp2_with fail
      go_ret
      exact ⟨rfl, hbw⟩
    | succ gg =>
      obtain rfl | rfl | rfl | rfl | rfl : kd = 1 ∨ kd = 2 ∨ kd = 3 ∨ kd = 4 ∨ kd = 5 := by omega
      · skip
        go_wp2_with fail
        refine (add_is jo_32 HL.out.1 HL.out.2.1 HO.out.1 HO.out.2.1 _ (TB.out.below hbw)).mono ?_
        rintro e9 v5 ⟨c, rfl, hs, hb5⟩
        have HS : Hid (SumO oa ob c) := hs
        clear hs
        replace hbw := Below.on hbw hb5
        clear hb5
        obtain ⟨p, hp⟩ : ∃ p, p = ptS c := ⟨_, rfl⟩
        rw [show patO (-149) 23 128 2147483648 2139095040 2143289345 c = p from hp.symm]
        have HPP : Hid (p = ptS c) := hp
        clear hp
        go_wp2_with fail
        refine (add_is jo_64 HL.out.2.2.1 HL.out.2.2.2 HO.out.2.2.1 HO.out.2.2.2 _ (TB.out.below hbw)).mono ?_
        rintro e9 v6 ⟨d, rfl, hs, hb6⟩
        obtain rfl := HS.out.uniq hs
        clear hs
        replace hbw := Below.on hbw hb6
        clear hb6
        obtain ⟨q, hq⟩ : ∃ q, q = ptD c := ⟨_, rfl⟩
        rw [show patO (-1074) 52 1024 9223372036854775808 9218868437227405312 9221120237041090561 c = q from hq.symm]
        have HP : Hid (NarP q p) := by rw [hq, HPP.out]; exact nar_sum HL.out.1 HL.out.2.1 HO.out.1 HO.out.2.1 (.inl HS.out)
        clear hq HPP HS
        go_wp2_with fail
        refine (HP.out _ (TB.out.below hbw)).mono ?_
        rintro e9 v9 ⟨rfl, hb9⟩
        replace hbw := Below.on hbw hb9
        clear hb9
        go_wp2_with fail
        go_roundg gg
        case measure => omega
        case rel => exact ⟨2, by omega, by decide, rfl, hbw⟩
      · skip
        go_wp2_with fail
        refine (sub_is jo_32 HL.out.1 HL.out.2.1 HO.out.1 HO.out.2.1 _ (TB.out.below hbw)).mono ?_
        rintro e9 v5 ⟨c, rfl, hs, hb5⟩
        have HS : Hid (SumO oa (negO ob) c) := hs
        clear hs
        replace hbw := Below.on hbw hb5
        clear hb5
        obtain ⟨p, hp⟩ : ∃ p, p = ptS c := ⟨_, rfl⟩
        rw [show patO (-149) 23 128 2147483648 2139095040 2143289345 c = p from hp.symm]
        have HPP : Hid (p = ptS c) := hp
        clear hp
        go_wp2_with fail
        refine (sub_is jo_64 HL.out.2.2.1 HL.out.2.2.2 HO.out.2.2.1 HO.out.2.2.2 _ (TB.out.below hbw)).mono ?_
        rintro e9 v6 ⟨d, rfl, hs, hb6⟩
        obtain rfl := HS.out.uniq hs
        clear hs
        replace hbw := Below.on hbw hb6
        clear hb6
        obtain ⟨q, hq⟩ : ∃ q, q = ptD c := ⟨_, rfl⟩
        rw [show patO (-1074) 52 1024 9223372036854775808 9218868437227405312 9221120237041090561 c = q from hq.symm]
        have HP : Hid (NarP q p) := by rw [hq, HPP.out]; exact nar_sum HL.out.1 HL.out.2.1 HO.out.1 HO.out.2.1 (.inr HS.out)
        clear hq HPP HS
        go_wp2_with fail
        refine (HP.out _ (TB.out.below hbw)).mono ?_
        rintro e9 v9 ⟨rfl, hb9⟩
        replace hbw := Below.on hbw hb9
        clear hb9
        go_wp2_with fail
        go_roundg gg
        case measure => omega
        case rel => exact ⟨3, by omega, by decide, rfl, hbw⟩
      · skip
        go_wp2_with fail
        refine (mul_is jo_32 HL.out.1 HL.out.2.1 HO.out.1 HO.out.2.1 _ (TB.out.below hbw)).mono ?_
        rintro e9 v5 ⟨c, rfl, hs, hb5⟩
        have HS : Hid (MulO oa ob c) := hs
        clear hs
        replace hbw := Below.on hbw hb5
        clear hb5
        obtain ⟨p, hp⟩ : ∃ p, p = ptS c := ⟨_, rfl⟩
        rw [show patO (-149) 23 128 2147483648 2139095040 2143289345 c = p from hp.symm]
        have HPP : Hid (p = ptS c) := hp
        clear hp
        go_wp2_with fail
        refine (mul_is jo_64 HL.out.2.2.1 HL.out.2.2.2 HO.out.2.2.1 HO.out.2.2.2 _ (TB.out.below hbw)).mono ?_
        rintro e9 v6 ⟨d, rfl, hs, hb6⟩
        obtain rfl := HS.out.uniq hs
        clear hs
        replace hbw := Below.on hbw hb6
        clear hb6
        obtain ⟨q, hq⟩ : ∃ q, q = ptD c := ⟨_, rfl⟩
        rw [show patO (-1074) 52 1024 9223372036854775808 9218868437227405312 9221120237041090561 c = q from hq.symm]
        have HP : Hid (NarP q p) := by rw [hq, HPP.out]; exact nar_mul HL.out.1 HL.out.2.1 HO.out.1 HO.out.2.1 HS.out
        clear hq HPP HS
        go_wp2_with fail
        refine (HP.out _ (TB.out.below hbw)).mono ?_
        rintro e9 v9 ⟨rfl, hb9⟩
        replace hbw := Below.on hbw hb9
        clear hb9
        go_wp2_with fail
        go_roundg gg
        case measure => omega
        case rel => exact ⟨4, by omega, by decide, rfl, hbw⟩
      · skip
        go_wp2_with fail
        refine (div_p jo_32 (by decide) HL.out.1 HL.out.2.1 _ (TB.out.below hbw)).mono ?_
        rintro e9 v5 ⟨p, rfl, hs, hb5⟩
        have HS : Hid (DivP (-149) 23 128 2147483648 2139095040 8388608 2143289345 a b p) := hs
        clear hs
        replace hbw := Below.on hbw hb5
        clear hb5
        go_wp2_with fail
        refine (div_p jo_64 (by decide) HL.out.2.2.1 HL.out.2.2.2 _ (TB.out.below hbw)).mono ?_
        rintro e9 v6 ⟨q, rfl, hs, hb6⟩
        have HP : Hid (NarP q p) := nar_div HL.out.1 HL.out.2.1 HL.out.2.2.1 HL.out.2.2.2 HO.out.1 HO.out.2.1 HO.out.2.2.1 HO.out.2.2.2 HS.out hs
        clear hs HS
        replace hbw := Below.on hbw hb6
        clear hb6
        go_wp2_with fail
        refine (HP.out _ (TB.out.below hbw)).mono ?_
        rintro e9 v9 ⟨rfl, hb9⟩
        replace hbw := Below.on hbw hb9
        clear hb9
        go_wp2_with fail
        go_roundg gg
        case measure => omega
        case rel => exact ⟨5, by omega, by decide, rfl, hbw⟩
      · skip
        go_wp2_with fail
        refine (sqr_p jo_32 (by decide) HL.out.1 _ (TB.out.below hbw)).mono ?_
        rintro e9 v5 ⟨p, rfl, hs, hb5⟩
        have HS : Hid (SqrP (-149) 23 128 2147483648 2139095040 8388608 2143289345 a p) := hs
        clear hs
        replace hbw := Below.on hbw hb5
        clear hb5
        go_wp2_with fail
        refine (sqr_p jo_64 (by decide) HL.out.2.2.1 _ (TB.out.below hbw)).mono ?_
        rintro e9 v6 ⟨q, rfl, hs, hb6⟩
        have HP : Hid (NarP q p) := nar_sqr HL.out.1 HL.out.2.2.1 HO.out.1 HO.out.2.2.1 HS.out hs
        clear hs HS
        replace hbw := Below.on hbw hb6
        clear hb6
        go_wp2_with fail
        refine (HP.out _ (TB.out.below hbw)).mono ?_
        rintro e9 v9 ⟨rfl, hb9⟩
        replace hbw := Below.on hbw hb9
        clear hb9
        go_wp2_with fail
        go_roundg gg
        case measure => omega
        case rel => exact ⟨6, by omega, by decide, rfl, hbw⟩
end Go.Proofs.YtmhkabomabkkfaaGreatDoor
