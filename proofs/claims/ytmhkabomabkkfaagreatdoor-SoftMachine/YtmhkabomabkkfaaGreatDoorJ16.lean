import Derived.Test.YtmhkabomabkkfaaGreatDoorJ15
import Derived.Test.YtmhkabomabkkfaaGreatDoorJ13
import Derived.Test.YtmhkabomabkkfaaGreatDoorJ14
import Derived.Test.YtmhkabomabkkfaaGreatDoorJ12
import Derived.Test.YtmhkabomabkkfaaGreatDoorJ11
namespace Go.Proofs.YtmhkabomabkkfaaGreatDoor
open Go.RowKit Go.Shelf
set_option maxRecDepth 20000
set_option maxHeartbeats 0
theorem mul_fin_fin {s t : Bool} {p q : Option Addr} {m c n d : Nat} {e f x y : Int} {w : World} (h : DN w s p m c e x) (k : DN w t q n d f y) {K E K' E' : Nat} (bx : DB x e K E) (by_ : DB y f K' E') (hK : K + K' ≤ 524288) (hE : E + E' ≤ 524288) (hx : x ≠ 0) (hy : y ≠ 0) (hT : Tab w) :
    Calls Tryz.prog 41 #[VFin s p m c e, VFin t q n d f] w fun en w' => ∃ v o, en = .returned v ∧ OpV w' v o ∧ MulO (ofin x e) (ofin y f) o ∧ (∃ z g, o = ofin z g ∧ DB z g (K + K') (E + E' + K + K')) ∧ Below w.heap.size w w' := by
  have hanan := ta_fin_nan
  have hainf := ta_fin_inf
  have hano := ta_fin_no
  have hafin := ta_fin_fin
  have me1 := meth_below_fin
  have hbw : Below w.heap.size w w := Below.refl _ _
  have A : Hid (DN w s p m c e x) := h
  have B : Hid (DN w t q n d f y) := k
  have BX : Hid (DB x e K E) := bx
  have BY : Hid (DB y f K' E') := by_
  have HK : Hid (K + K' ≤ 524288 ∧ E + E' ≤ 524288) := ⟨hK, hE⟩
  have HXY : Hid (x ≠ 0 ∧ y ≠ 0) := ⟨hx, hy⟩
  have TB : Hid (Tab w) := hT
  clear h k bx by_ hK hE hx hy hT
  go_enter Tryz.func41, Tryz.ntmps41
  go_wp2_with fail
  refine (below_fin _).mono ?_
  rintro e v1 ⟨rfl, hb1⟩
  replace hbw := Below.on hbw hb1
  clear hb1
  go_wp2_with fail
  refine (below_fin _).mono ?_
  rintro e v2 ⟨rfl, hb2⟩
  replace hbw := Below.on hbw hb2
  clear hb2
  go_wp2_with fail
  have hbw9 := Below.on hbw (below2 v2 (.cells #[.bool s, .slice p m c, .int .i64 e] 122) (.cells #[.bool t, .slice q n d, .int .i64 f] 122))
  clear hbw
  have hbw := hbw9
  clear hbw9
  refine (dmul_b (A.out.below hbw) (B.out.below hbw) BX.out BY.out HK.out.1 HK.out.2 (TB.out.below hbw)).mono ?_
  rintro e9 v3 ⟨v, zo, eo, rfl, hv, hdb, hdv, hb3⟩
  obtain ⟨s3, p3, m3, rfl, hd3⟩ := hv.dn hdb.fm
  clear hv
  replace hbw := Below.on hbw hb3
  clear hb3
  have D3 : Hid (DN v3 s3 p3 m3 m3 eo zo) := hd3
  have HB3 : Hid (DB zo eo (K + K') (E + E' + K + K') ∧ dv zo eo = dv (x * y) (e + f)) := ⟨hdb, hdv⟩
  clear hd3 hdb hdv
  go_wp2_with fail
  have HZ : Hid (zo ≠ 0) := by
    intro h9
    have h8 := HB3.out.2
    rw [h9, dv_zero] at h8
    have h7 := dv_eq_zero h8.symm
    rcases Int.mul_eq_zero.1 h7 with h6 | h6
    · exact HXY.out.1 h6
    · exact HXY.out.2 h6
  go_ret
  refine ⟨VFin s3 p3 m3 m3 eo, ofin zo eo, rfl, .inr (.inr (.inr ⟨s3, p3, m3, m3, eo, zo, rfl, by first | exact D3.out | exact D3.out.below (below1 _ _) | exact D3.out.below (below2 _ _ _), HZ.out, rfl⟩)), ?_, ⟨zo, eo, rfl, HB3.out.1⟩, by first | exact hbw | exact Below.on hbw (below1 _ _) | exact Below.on hbw (below2 _ _ _)⟩
  exact .inr (.inr (.inr ⟨⟨rfl, rfl⟩, zo, eo, HB3.out.1.fm, HZ.out, HB3.out.2, rfl⟩))
def BdO (K E : Nat) (o : Opd) : Prop := o.k = 3 → DB o.x o.e K E
theorem sum_ok {w : World} {va vb : Value} {oa ob : Opd} (ha : OpV w va oa) (hb : OpV w vb ob) {K E : Nat} (ka : BdO K E oa) (kb : BdO K E ob) (hK : K + 2 * E + 1 ≤ 524288) (hT : Tab w) :
    Calls Tryz.prog 39 #[va, vb] w fun en w' => ∃ v o, en = .returned v ∧ OpV w' v o ∧ SumO oa ob o ∧ BdO (K + 2 * E + 1) (K + 3 * E + 1) o ∧ Below w.heap.size w w' := by
  have wid : ∀ {x e : Int}, DB x e K E → DB x e (K + 2 * E + 1) (K + 3 * E + 1) := fun h => h.mono (by omega) (by omega)
  rcases ha with ⟨rfl, rfl⟩ | ⟨s1, rfl, rfl⟩ | ⟨s1, rfl, rfl⟩ | ⟨s1, p1, m1, c1, e1, x1, rfl, d1, n1, rfl⟩ <;> rcases hb with ⟨rfl, rfl⟩ | ⟨s2, rfl, rfl⟩ | ⟨s2, rfl, rfl⟩ | ⟨s2, p2, m2, c2, e2, x2, rfl, d2, n2, rfl⟩
  · exact (sum_nan_nan w).mono fun en w' ⟨h1, h2⟩ => ⟨_, onan, h1, .inl ⟨rfl, rfl⟩, .inl ⟨.inl rfl, rfl⟩, (fun h => by cases h), h2⟩
  · exact (sum_nan_inf s2 w).mono fun en w' ⟨h1, h2⟩ => ⟨_, onan, h1, .inl ⟨rfl, rfl⟩, .inl ⟨.inl rfl, rfl⟩, (fun h => by cases h), h2⟩
  · exact (sum_nan_no s2 w).mono fun en w' ⟨h1, h2⟩ => ⟨_, onan, h1, .inl ⟨rfl, rfl⟩, .inl ⟨.inl rfl, rfl⟩, (fun h => by cases h), h2⟩
  · exact (sum_nan_fin s2 p2 m2 c2 e2 w).mono fun en w' ⟨h1, h2⟩ => ⟨_, onan, h1, .inl ⟨rfl, rfl⟩, .inl ⟨.inl rfl, rfl⟩, (fun h => by cases h), h2⟩
  · exact (sum_inf_nan s1 w).mono fun en w' ⟨h1, h2⟩ => ⟨_, onan, h1, .inl ⟨rfl, rfl⟩, .inl ⟨.inr (.inl rfl), rfl⟩, (fun h => by cases h), h2⟩
  · refine (sum_inf_inf s1 s2 w).mono fun en w' ⟨h1, h2⟩ => ?_
    by_cases h : s1 = s2
    · rw [if_pos h] at h1
      exact ⟨_, oinf s1, h1, .inr (.inl ⟨s1, rfl, rfl⟩), .inr (.inl ⟨⟨rfl, .inr (.inr ⟨rfl, h⟩)⟩, rfl⟩), (fun h => by cases h), h2⟩
    · rw [if_neg h] at h1
      exact ⟨_, onan, h1, .inl ⟨rfl, rfl⟩, .inl ⟨.inr (.inr ⟨rfl, rfl, h⟩), rfl⟩, (fun h => by cases h), h2⟩
  · exact (sum_inf_no s1 s2 w).mono fun en w' ⟨h1, h2⟩ => ⟨_, oinf s1, h1, .inr (.inl ⟨s1, rfl, rfl⟩), .inr (.inl ⟨⟨rfl, .inl rfl⟩, rfl⟩), (fun h => by cases h), h2⟩
  · exact (sum_inf_fin s1 s2 p2 m2 c2 e2 w).mono fun en w' ⟨h1, h2⟩ => ⟨_, oinf s1, h1, .inr (.inl ⟨s1, rfl, rfl⟩), .inr (.inl ⟨⟨rfl, .inr (.inl rfl)⟩, rfl⟩), (fun h => by cases h), h2⟩
  · exact (sum_no_nan s1 w).mono fun en w' ⟨h1, h2⟩ => ⟨_, onan, h1, .inl ⟨rfl, rfl⟩, .inl ⟨.inr (.inl rfl), rfl⟩, (fun h => by cases h), h2⟩
  · exact (sum_no_inf s1 s2 w).mono fun en w' ⟨h1, h2⟩ => ⟨_, oinf s2, h1, .inr (.inl ⟨s2, rfl, rfl⟩), .inr (.inr (.inl ⟨⟨.inl rfl, rfl⟩, rfl⟩)), (fun h => by cases h), h2⟩
  · exact (sum_no_no s1 s2 w).mono fun en w' ⟨h1, h2⟩ => ⟨_, ono (s1 && s2), h1, .inr (.inr (.inl ⟨_, rfl, rfl⟩)), .inr (.inr (.inr (.inl ⟨⟨rfl, rfl⟩, rfl⟩))), (fun h => by cases h), h2⟩
  · exact (sum_no_fin s1 s2 p2 m2 c2 e2 w).mono fun en w' ⟨h1, h2⟩ => ⟨_, ofin x2 e2, h1, .inr (.inr (.inr ⟨s2, p2, m2, c2, e2, x2, rfl, d2.below h2, n2, rfl⟩)), .inr (.inr (.inr (.inr (.inl ⟨⟨rfl, rfl⟩, rfl⟩)))), (fun _ => wid (kb rfl)), h2⟩
  · exact (sum_fin_nan s1 p1 m1 c1 e1 w).mono fun en w' ⟨h1, h2⟩ => ⟨_, onan, h1, .inl ⟨rfl, rfl⟩, .inl ⟨.inr (.inl rfl), rfl⟩, (fun h => by cases h), h2⟩
  · exact (sum_fin_inf s1 s2 p1 m1 c1 e1 w).mono fun en w' ⟨h1, h2⟩ => ⟨_, oinf s2, h1, .inr (.inl ⟨s2, rfl, rfl⟩), .inr (.inr (.inl ⟨⟨.inr rfl, rfl⟩, rfl⟩)), (fun h => by cases h), h2⟩
  · exact (sum_fin_no s1 s2 p1 m1 c1 e1 w).mono fun en w' ⟨h1, h2⟩ => ⟨_, ofin x1 e1, h1, .inr (.inr (.inr ⟨s1, p1, m1, c1, e1, x1, rfl, d1.below h2, n1, rfl⟩)), .inr (.inr (.inr (.inr (.inr (.inl ⟨⟨rfl, rfl⟩, rfl⟩))))), (fun _ => wid (ka rfl)), h2⟩
  · refine (sum_fin_fin d1 d2 (ka rfl) (kb rfl) hK n1 n2 hT).mono fun en w' ⟨v, o, h1, h2, h3, h4, h5⟩ => ⟨v, o, h1, h2, h3, ?_, h5⟩
    rcases h4 with h | ⟨z, g, h, h6⟩
    · rw [h]; exact (fun h => by cases h)
    · rw [h]; exact fun _ => h6
theorem vf_db8 {f p m l : Int} {S I H sd : Nat} {Be : Int} (J : Jn f p m l S I H sd Be) {b : Nat} (hr : b % S < I) {zo eo : Int} (hv : VF S H l b zo eo) : DB zo eo 128 1430 := by
  have hp := J.jm.pm.hp
  have h9 := J.jm.pm.h9
  have hlo := J.jm.pm.lo
  have hbq := J.jm.bq _ hr
  have hbu := J.jm.bu
  have hsl := J.jm.sl
  obtain ⟨z1, e1, v1, v2⟩ := vf_ex J.jm.pm hr
  obtain ⟨rfl, rfl⟩ := dv_inj hv.fm v1.fm (hv.v.trans v1.v.symm)
  obtain ⟨q, hq⟩ : ∃ q, q = b % S / H - 1 := ⟨_, rfl⟩
  have hmn : b % S - q * H < 2 * H := by
    have e1 := Nat.div_add_mod (b % S) H
    have e2 := Nat.mod_lt (b % S) hp
    rw [Nat.mul_comm] at e1
    by_cases e3 : b % S / H = 0
    · rw [e3] at e1; omega
    · rw [hq, Nat.sub_mul]; omega
  rw [← hq] at v2 hbq
  obtain ⟨y, hy⟩ : ∃ y : Int, y = (if S ≤ b then -((b % S - q * H : Nat) : Int) else ((b % S - q * H : Nat) : Int)) := ⟨_, rfl⟩
  rw [← hy] at v2
  have hya : y.natAbs ≤ 2 ^ 53 := by
    have : (2 : Nat) ^ 53 = 9007199254740992 := by decide
    rw [hy, this]; split <;> omega
  by_cases h0 : y = 0
  · rw [h0, dv_zero] at v2
    have := dv_eq_zero v2
    rcases hv.fm with ⟨h1, h2⟩ | ⟨h1, _⟩
    · rw [h1, h2]; exact ⟨.inl ⟨rfl, rfl⟩, by decide, by decide, by decide⟩
    · omega
  · obtain ⟨za, ea, g1, g2, _, g4, g5, g6⟩ := form_ex (z := y) (e := l + (q : Int)) (L := 53) h0 (by omega) hya (by omega)
    obtain ⟨rfl, rfl⟩ := dv_inj hv.fm g1 (v2.trans g2.symm)
    have h128 : (2 : Nat) ^ 53 < 2 ^ 128 := by decide
    exact ⟨g1, by omega, by omega, by omega⟩
theorem OpB.bd {f p m l : Int} {S I H sd : Nat} {Be : Int} (J : Jn f p m l S I H sd Be) {b : Nat} {o : Opd} (h : OpB S I H l b o) : BdO 128 1430 o := by
  rcases h with ⟨_, rfl⟩ | ⟨_, rfl⟩ | ⟨_, rfl⟩ | ⟨_, h1, x, e, h2, _, rfl⟩
  · exact (fun h => by cases h)
  · exact (fun h => by cases h)
  · exact (fun h => by cases h)
  · exact fun _ => vf_db8 J h1 h2
theorem mul_ok {w : World} {va vb : Value} {oa ob : Opd} (ha : OpV w va oa) (hb : OpV w vb ob) {K E K' E' : Nat} (ka : BdO K E oa) (kb : BdO K' E' ob) (hK : K + K' ≤ 524288) (hE : E + E' ≤ 524288) (hT : Tab w) :
    Calls Tryz.prog 41 #[va, vb] w fun en w' => ∃ v o, en = .returned v ∧ OpV w' v o ∧ MulO oa ob o ∧ BdO (K + K') (E + E' + K + K') o ∧ Below w.heap.size w w' := by
  rcases ha with ⟨rfl, rfl⟩ | ⟨s1, rfl, rfl⟩ | ⟨s1, rfl, rfl⟩ | ⟨s1, p1, m1, c1, e1, x1, rfl, d1, n1, rfl⟩ <;> rcases hb with ⟨rfl, rfl⟩ | ⟨s2, rfl, rfl⟩ | ⟨s2, rfl, rfl⟩ | ⟨s2, p2, m2, c2, e2, x2, rfl, d2, n2, rfl⟩
  · refine (mul_nan_nan w).mono fun en w' ⟨h1, h2⟩ => ?_
    exact ⟨_, onan, h1, .inl ⟨rfl, rfl⟩, .inl ⟨.inl rfl, rfl⟩, (fun h => by cases h), h2⟩
  · refine (mul_nan_inf s2 w).mono fun en w' ⟨h1, h2⟩ => ?_
    exact ⟨_, onan, h1, .inl ⟨rfl, rfl⟩, .inl ⟨.inl rfl, rfl⟩, (fun h => by cases h), h2⟩
  · refine (mul_nan_no s2 w).mono fun en w' ⟨h1, h2⟩ => ?_
    exact ⟨_, onan, h1, .inl ⟨rfl, rfl⟩, .inl ⟨.inl rfl, rfl⟩, (fun h => by cases h), h2⟩
  · refine (mul_nan_fin s2 p2 m2 c2 e2 w).mono fun en w' ⟨h1, h2⟩ => ?_
    exact ⟨_, onan, h1, .inl ⟨rfl, rfl⟩, .inl ⟨.inl rfl, rfl⟩, (fun h => by cases h), h2⟩
  · refine (mul_inf_nan s1 w).mono fun en w' ⟨h1, h2⟩ => ?_
    exact ⟨_, onan, h1, .inl ⟨rfl, rfl⟩, .inl ⟨.inr (.inl rfl), rfl⟩, (fun h => by cases h), h2⟩
  · refine (mul_inf_inf s1 s2 w).mono fun en w' ⟨h1, h2⟩ => ?_
    exact ⟨_, oinf (s1 != s2), h1, .inr (.inl ⟨_, rfl, rfl⟩), .inr (.inl ⟨.inl ⟨rfl, .inl rfl⟩, rfl⟩), (fun h => by cases h), h2⟩
  · refine (mul_inf_no s1 s2 w).mono fun en w' ⟨h1, h2⟩ => ?_
    exact ⟨_, onan, h1, .inl ⟨rfl, rfl⟩, .inl ⟨.inr (.inr (.inl ⟨rfl, rfl⟩)), rfl⟩, (fun h => by cases h), h2⟩
  · refine (mul_inf_fin s1 s2 p2 m2 c2 e2 w).mono fun en w' ⟨h1, h2⟩ => ?_
    rw [show s2 = decide (x2 < 0) from d2.zn.sg] at h1
    exact ⟨_, oinf (s1 != decide (x2 < 0)), h1, .inr (.inl ⟨_, rfl, rfl⟩), .inr (.inl ⟨.inl ⟨rfl, .inr rfl⟩, rfl⟩), (fun h => by cases h), h2⟩
  · refine (mul_no_nan s1 w).mono fun en w' ⟨h1, h2⟩ => ?_
    exact ⟨_, onan, h1, .inl ⟨rfl, rfl⟩, .inl ⟨.inr (.inl rfl), rfl⟩, (fun h => by cases h), h2⟩
  · refine (mul_no_inf s1 s2 w).mono fun en w' ⟨h1, h2⟩ => ?_
    exact ⟨_, onan, h1, .inl ⟨rfl, rfl⟩, .inl ⟨.inr (.inr (.inr ⟨rfl, rfl⟩)), rfl⟩, (fun h => by cases h), h2⟩
  · refine (mul_no_no s1 s2 w).mono fun en w' ⟨h1, h2⟩ => ?_
    exact ⟨_, ono (s1 != s2), h1, .inr (.inr (.inl ⟨_, rfl, rfl⟩)), .inr (.inr (.inl ⟨.inl ⟨rfl, .inl rfl⟩, rfl⟩)), (fun h => by cases h), h2⟩
  · refine (mul_no_fin s1 s2 p2 m2 c2 e2 w).mono fun en w' ⟨h1, h2⟩ => ?_
    rw [show s2 = decide (x2 < 0) from d2.zn.sg] at h1
    exact ⟨_, ono (s1 != decide (x2 < 0)), h1, .inr (.inr (.inl ⟨_, rfl, rfl⟩)), .inr (.inr (.inl ⟨.inl ⟨rfl, .inr rfl⟩, rfl⟩)), (fun h => by cases h), h2⟩
  · refine (mul_fin_nan s1 p1 m1 c1 e1 w).mono fun en w' ⟨h1, h2⟩ => ?_
    exact ⟨_, onan, h1, .inl ⟨rfl, rfl⟩, .inl ⟨.inr (.inl rfl), rfl⟩, (fun h => by cases h), h2⟩
  · refine (mul_fin_inf s1 s2 p1 m1 c1 e1 w).mono fun en w' ⟨h1, h2⟩ => ?_
    rw [show s1 = decide (x1 < 0) from d1.zn.sg] at h1
    exact ⟨_, oinf (decide (x1 < 0) != s2), h1, .inr (.inl ⟨_, rfl, rfl⟩), .inr (.inl ⟨.inr ⟨rfl, rfl⟩, rfl⟩), (fun h => by cases h), h2⟩
  · refine (mul_fin_no s1 s2 p1 m1 c1 e1 w).mono fun en w' ⟨h1, h2⟩ => ?_
    rw [show s1 = decide (x1 < 0) from d1.zn.sg] at h1
    exact ⟨_, ono (decide (x1 < 0) != s2), h1, .inr (.inr (.inl ⟨_, rfl, rfl⟩)), .inr (.inr (.inl ⟨.inr ⟨rfl, rfl⟩, rfl⟩)), (fun h => by cases h), h2⟩
  · refine (mul_fin_fin d1 d2 (ka rfl) (kb rfl) hK hE n1 n2 hT).mono fun en w' ⟨v, o, h1, h2, h3, h4, h5⟩ => ⟨v, o, h1, h2, h3, ?_, h5⟩
    obtain ⟨z, g, h, h6⟩ := h4
    rw [h]; exact fun _ => h6
theorem opp_ok {w : World} {v : Value} {o : Opd} (h : OpV w v o) :
    Calls Tryz.prog 40 #[v] w fun en w' => ∃ u, en = .returned u ∧ OpV w' u (negO o) ∧ Below w.heap.size w w' := by
  rcases h with ⟨rfl, rfl⟩ | ⟨s, rfl, rfl⟩ | ⟨s, rfl, rfl⟩ | ⟨s, p, m, c, e, x, rfl, d, n, rfl⟩
  · exact (opp_nan w).mono fun en w' ⟨h1, h2⟩ => ⟨_, h1, .inl ⟨rfl, rfl⟩, h2⟩
  · exact (opp_inf s w).mono fun en w' ⟨h1, h2⟩ => ⟨_, h1, .inr (.inl ⟨_, rfl, rfl⟩), h2⟩
  · exact (opp_no s w).mono fun en w' ⟨h1, h2⟩ => ⟨_, h1, .inr (.inr (.inl ⟨_, rfl, rfl⟩)), h2⟩
  · refine (opp_fin w).mono fun en w' ⟨h1, h2⟩ => ⟨_, h1, .inr (.inr (.inr ⟨_, p, m, c, e, -x, rfl, ?_, by omega, rfl⟩)), h2⟩
    have hd := d.below h2
    obtain ⟨ys, hy⟩ := hd.zn.ex
    refine ⟨⟨⟨ys, by rw [Int.natAbs_neg]; exact hy⟩, ?_⟩, hd.fm.neg⟩
    rw [d.zn.sg]
    by_cases a : x < 0
    · rw [decide_eq_true a, decide_eq_false (by omega)]; rfl
    · rw [decide_eq_false a, decide_eq_true (by omega)]; rfl
theorem soft_add {f p m l : Int} {S I H sd : Nat} {Be : Int} {Q : Nat} (J : Jo f p m l S I H sd Be Q) {a b : Nat} (ha : a < 2 * S) (hb : b < 2 * S) (w : World) (hT : Tab w) :
    Calls Tryz.prog 9 #[.int .i64 f, U a, U b] w fun en w' => ∃ oa ob c, en = .returned (.tuple #[U (patO l sd Be S I Q c), .int .i64 0]) ∧ OpB S I H l a oa ∧ OpB S I H l b ob ∧ SumO oa ob c ∧ BdO (128 + 2 * 1430 + 1) (128 + 3 * 1430 + 1) c ∧ Below w.heap.size w w' := by
  have HJO : Hid (Jo f p m l S I H sd Be Q) := J
  have HAB : Hid (a < 2 * S ∧ b < 2 * S) := ⟨ha, hb⟩
  have TB : Hid (Tab w) := hT
  clear J ha hb hT
  go_enter Tryz.func9, Tryz.ntmps9
  go_wp2_with fail
  have hb0 := below1 w (.cells #[U a, U b] 22)
  refine (operands2 HJO.out HAB.out.1 HAB.out.2 ⟨by go_simp, by go_simp⟩ (TB.out.below hb0)).mono ?_
  rintro e9 v1 ⟨go, va, vb, oa, ob, rfl, hgo, hx, hva, hvb, hoa, hob, hb1⟩
  have hbw := Below.on hb0 hb1
  obtain ⟨ta, xa, rfl⟩ := hva.iface
  obtain ⟨tb, xb, rfl⟩ := hvb.iface
  have Xo : Hid (Box v1 go (.iface ta xa) (.iface tb xb)) := hx
  have HOA : Hid (OpB S I H l a oa ∧ OpB S I H l b ob) := ⟨hoa, hob⟩
  have VA : Hid (OpV v1 (.iface ta xa) oa) := hva
  have VB : Hid (OpV v1 (.iface tb xb) ob) := hvb
  clear hb0 hb1 hx hva hvb hoa hob hgo
  obtain ⟨co0, co1, fo0, fo1⟩ := Xo.out
  have hneo := Xo.out.lt
  go_wp2_with fail
  clear co0 co1 fo0 fo1 hneo
  obtain ⟨W2, hW2⟩ : ∃ W1, W1 = v1.drew := ⟨_, rfl⟩
  have hbd : Below v1.heap.size v1 W2 := by rw [hW2]; exact bDrew1 (Below.refl _ _)
  replace Xo : Hid _ := Xo.out.below hbd
  replace VA : Hid (OpV W2 (.iface ta xa) oa) := VA.out.below hbd
  replace VB : Hid (OpV W2 (.iface tb xb) ob) := VB.out.below hbd
  replace hbw := Below.on hbw hbd
  clear hbd
  have HJ : Hid ((fun W' : World => W'.cell? ⟨go, 0, none⟩ = some (.iface ta xa) ∧ W'.cell? ⟨go, 1, none⟩ = some (.iface tb xb)) W2) := ⟨Xo.out.c0, Xo.out.c1⟩
  refine wp_region_J (fun W' => W'.cell? ⟨go, 0, none⟩ = some (.iface ta xa) ∧ W'.cell? ⟨go, 1, none⟩ = some (.iface tb xb)) (by kernel_rfl) ?_
  rw [← hW2]
  clear hW2
  refine wpJ_tq 0 rfl HJ.out ?_
  refine wpJ_tq 1 rfl HJ.out ?_
  refine wpJ_tq 2 rfl HJ.out ?_
  refine wpJ_tq 3 rfl HJ.out ?_
  refine wpJ_tq 4 rfl HJ.out ?_
  go_simp
  refine wpJ_tq 5 rfl HJ.out ?_
  refine wpJ_tq 7 rfl HJ.out ?_
  refine wpJ_on 6 rfl fun KJ hK => ?_
  go_simp
  refine (sum_ok VA.out VB.out (HOA.out.1.bd HJO.out.jq.jn) (HOA.out.2.bd HJO.out.jq.jn) (by decide) (TB.out.below hbw)).mono ?_
  rintro e9 v2 ⟨v, c, rfl, hv, hs, hbd, hb2⟩
  replace Xo : Hid _ := Xo.out.below hb2
  replace VA : Hid (OpV v2 (.iface ta xa) oa) := VA.out.below hb2
  replace VB : Hid (OpV v2 (.iface tb xb) ob) := VB.out.below hb2
  replace hbw := Below.on hbw hb2
  clear hb2
  have VC : Hid (OpV v2 v c) := hv
  have HS : Hid (SumO oa ob c ∧ BdO (128 + 2 * 1430 + 1) (128 + 3 * 1430 + 1) c) := ⟨hs, hbd⟩
  clear hv hs hbd
  clear HJ
  have HJ : Hid ((fun W' : World => W'.cell? ⟨go, 0, none⟩ = some (.iface ta xa) ∧ W'.cell? ⟨go, 1, none⟩ = some (.iface tb xb)) v2) := ⟨Xo.out.c0, Xo.out.c1⟩
  refine hK _ _ HJ.out ?_
  clear hK
  have hvc := VC.out
  rcases hvc with ⟨rfl, rfl⟩ | ⟨s, rfl, rfl⟩ | ⟨s, rfl, rfl⟩ | ⟨s, pc, mc, cc, ec, xc, rfl, dc, nc, rfl⟩
  · have me := meth_pattern_nan
    clear VC
    refine wpJ_on 8 rfl fun KJ hK => ?_
    go_simp
    refine (pat_nan HJO.out.jq _).mono ?_
    rintro e v9 ⟨rfl, hb9⟩
    rw [← patO_nan l sd Be S I Q]
    obtain ⟨r, hr⟩ : ∃ r, r = patO l sd Be S I Q onan := ⟨_, rfl⟩
    rw [← hr]
    have HPR : Hid (patO l sd Be S I Q onan = r) := hr.symm
    clear hr
    replace Xo : Hid _ := Xo.out.below hb9
    replace VA : Hid (OpV v9 (.iface ta xa) oa) := VA.out.below hb9
    replace VB : Hid (OpV v9 (.iface tb xb) ob) := VB.out.below hb9
    replace hbw := Below.on hbw hb9
    clear hb9
    clear HJ
    have HJ : Hid ((fun W' : World => W'.cell? ⟨go, 0, none⟩ = some (.iface ta xa) ∧ W'.cell? ⟨go, 1, none⟩ = some (.iface tb xb)) v9) := ⟨Xo.out.c0, Xo.out.c1⟩
    refine hK _ _ HJ.out ?_
    clear hK
    refine wpJ_tq 9 rfl HJ.out ?_
    refine wpJ_tq 10 rfl HJ.out ?_
    refine wpJ_done (by kernel_rfl) ?_ _
    clear HJ
    go_wp2_with fail
    go_ret2
    exact ⟨oa, ob, onan, by rw [HPR.out]; rfl, HOA.out.1, HOA.out.2, HS.out.1, HS.out.2, hbw⟩
  · have me := meth_pattern_inf
    clear VC
    refine wpJ_on 8 rfl fun KJ hK => ?_
    go_simp
    refine (pat_inf HJO.out.jq s _).mono ?_
    rintro e v9 ⟨rfl, hb9⟩
    rw [← patO_inf l sd Be S I Q s]
    obtain ⟨r, hr⟩ : ∃ r, r = patO l sd Be S I Q (oinf s) := ⟨_, rfl⟩
    rw [← hr]
    have HPR : Hid (patO l sd Be S I Q (oinf s) = r) := hr.symm
    clear hr
    replace Xo : Hid _ := Xo.out.below hb9
    replace VA : Hid (OpV v9 (.iface ta xa) oa) := VA.out.below hb9
    replace VB : Hid (OpV v9 (.iface tb xb) ob) := VB.out.below hb9
    replace hbw := Below.on hbw hb9
    clear hb9
    clear HJ
    have HJ : Hid ((fun W' : World => W'.cell? ⟨go, 0, none⟩ = some (.iface ta xa) ∧ W'.cell? ⟨go, 1, none⟩ = some (.iface tb xb)) v9) := ⟨Xo.out.c0, Xo.out.c1⟩
    refine hK _ _ HJ.out ?_
    clear hK
    refine wpJ_tq 9 rfl HJ.out ?_
    refine wpJ_tq 10 rfl HJ.out ?_
    refine wpJ_done (by kernel_rfl) ?_ _
    clear HJ
    go_wp2_with fail
    go_ret2
    exact ⟨oa, ob, (oinf s), by rw [HPR.out]; rfl, HOA.out.1, HOA.out.2, HS.out.1, HS.out.2, hbw⟩
  · have me := meth_pattern_no
    clear VC
    refine wpJ_on 8 rfl fun KJ hK => ?_
    go_simp
    refine (pat_no HJO.out.jq s _).mono ?_
    rintro e v9 ⟨rfl, hb9⟩
    rw [Nat.add_zero, ← patO_no l sd Be S I Q s]
    obtain ⟨r, hr⟩ : ∃ r, r = patO l sd Be S I Q (ono s) := ⟨_, rfl⟩
    rw [← hr]
    have HPR : Hid (patO l sd Be S I Q (ono s) = r) := hr.symm
    clear hr
    replace Xo : Hid _ := Xo.out.below hb9
    replace VA : Hid (OpV v9 (.iface ta xa) oa) := VA.out.below hb9
    replace VB : Hid (OpV v9 (.iface tb xb) ob) := VB.out.below hb9
    replace hbw := Below.on hbw hb9
    clear hb9
    clear HJ
    have HJ : Hid ((fun W' : World => W'.cell? ⟨go, 0, none⟩ = some (.iface ta xa) ∧ W'.cell? ⟨go, 1, none⟩ = some (.iface tb xb)) v9) := ⟨Xo.out.c0, Xo.out.c1⟩
    refine hK _ _ HJ.out ?_
    clear hK
    refine wpJ_tq 9 rfl HJ.out ?_
    refine wpJ_tq 10 rfl HJ.out ?_
    refine wpJ_done (by kernel_rfl) ?_ _
    clear HJ
    go_wp2_with fail
    go_ret2
    exact ⟨oa, ob, (ono s), by rw [HPR.out]; rfl, HOA.out.1, HOA.out.2, HS.out.1, HS.out.2, hbw⟩
  · have me := meth_pattern_fin
    have DC : Hid (DN v2 s pc mc cc ec xc) := dc
    clear dc
    clear VC
    refine wpJ_on 8 rfl fun KJ hK => ?_
    go_simp
    refine (pat_fin HJO.out.jq (DC.out) (TB.out.below hbw)).mono ?_
    rintro e v9 ⟨rfl, hb9⟩
    rw [← patO_fin l sd Be S I Q xc ec]
    obtain ⟨r, hr⟩ : ∃ r, r = patO l sd Be S I Q (ofin xc ec) := ⟨_, rfl⟩
    rw [← hr]
    have HPR : Hid (patO l sd Be S I Q (ofin xc ec) = r) := hr.symm
    clear hr
    replace Xo : Hid _ := Xo.out.below hb9
    replace VA : Hid (OpV v9 (.iface ta xa) oa) := VA.out.below hb9
    replace VB : Hid (OpV v9 (.iface tb xb) ob) := VB.out.below hb9
    replace hbw := Below.on hbw hb9
    clear hb9
    clear HJ
    have HJ : Hid ((fun W' : World => W'.cell? ⟨go, 0, none⟩ = some (.iface ta xa) ∧ W'.cell? ⟨go, 1, none⟩ = some (.iface tb xb)) v9) := ⟨Xo.out.c0, Xo.out.c1⟩
    refine hK _ _ HJ.out ?_
    clear hK
    refine wpJ_tq 9 rfl HJ.out ?_
    refine wpJ_tq 10 rfl HJ.out ?_
    refine wpJ_done (by kernel_rfl) ?_ _
    clear HJ
    go_wp2_with fail
    go_ret2
    exact ⟨oa, ob, (ofin xc ec), by rw [HPR.out]; rfl, HOA.out.1, HOA.out.2, HS.out.1, HS.out.2, hbw⟩
theorem soft_mul {f p m l : Int} {S I H sd : Nat} {Be : Int} {Q : Nat} (J : Jo f p m l S I H sd Be Q) {a b : Nat} (ha : a < 2 * S) (hb : b < 2 * S) (w : World) (hT : Tab w) :
    Calls Tryz.prog 11 #[.int .i64 f, U a, U b] w fun en w' => ∃ oa ob c, en = .returned (.tuple #[U (patO l sd Be S I Q c), .int .i64 0]) ∧ OpB S I H l a oa ∧ OpB S I H l b ob ∧ MulO oa ob c ∧ BdO (128 + 128) (1430 + 1430 + 128 + 128) c ∧ Below w.heap.size w w' := by
  have HJO : Hid (Jo f p m l S I H sd Be Q) := J
  have HAB : Hid (a < 2 * S ∧ b < 2 * S) := ⟨ha, hb⟩
  have TB : Hid (Tab w) := hT
  clear J ha hb hT
  go_enter Tryz.func11, Tryz.ntmps11
  go_wp2_with fail
  have hb0 := below1 w (.cells #[U a, U b] 22)
  refine (operands2 HJO.out HAB.out.1 HAB.out.2 ⟨by go_simp, by go_simp⟩ (TB.out.below hb0)).mono ?_
  rintro e9 v1 ⟨go, va, vb, oa, ob, rfl, hgo, hx, hva, hvb, hoa, hob, hb1⟩
  have hbw := Below.on hb0 hb1
  obtain ⟨ta, xa, rfl⟩ := hva.iface
  obtain ⟨tb, xb, rfl⟩ := hvb.iface
  have Xo : Hid (Box v1 go (.iface ta xa) (.iface tb xb)) := hx
  have HOA : Hid (OpB S I H l a oa ∧ OpB S I H l b ob) := ⟨hoa, hob⟩
  have VA : Hid (OpV v1 (.iface ta xa) oa) := hva
  have VB : Hid (OpV v1 (.iface tb xb) ob) := hvb
  clear hb0 hb1 hx hva hvb hoa hob hgo
  obtain ⟨co0, co1, fo0, fo1⟩ := Xo.out
  have hneo := Xo.out.lt
  go_wp2_with fail
  clear co0 co1 fo0 fo1 hneo
  obtain ⟨W2, hW2⟩ : ∃ W1, W1 = v1.drew := ⟨_, rfl⟩
  have hbd : Below v1.heap.size v1 W2 := by rw [hW2]; exact bDrew1 (Below.refl _ _)
  replace Xo : Hid _ := Xo.out.below hbd
  replace VA : Hid (OpV W2 (.iface ta xa) oa) := VA.out.below hbd
  replace VB : Hid (OpV W2 (.iface tb xb) ob) := VB.out.below hbd
  replace hbw := Below.on hbw hbd
  clear hbd
  have HJ : Hid ((fun W' : World => W'.cell? ⟨go, 0, none⟩ = some (.iface ta xa) ∧ W'.cell? ⟨go, 1, none⟩ = some (.iface tb xb)) W2) := ⟨Xo.out.c0, Xo.out.c1⟩
  refine wp_region_J (fun W' => W'.cell? ⟨go, 0, none⟩ = some (.iface ta xa) ∧ W'.cell? ⟨go, 1, none⟩ = some (.iface tb xb)) (by kernel_rfl) ?_
  rw [← hW2]
  clear hW2
  refine wpJ_tq 0 rfl HJ.out ?_
  refine wpJ_tq 1 rfl HJ.out ?_
  refine wpJ_tq 2 rfl HJ.out ?_
  refine wpJ_tq 3 rfl HJ.out ?_
  refine wpJ_tq 4 rfl HJ.out ?_
  go_simp
  refine wpJ_tq 5 rfl HJ.out ?_
  refine wpJ_tq 7 rfl HJ.out ?_
  refine wpJ_on 6 rfl fun KJ hK => ?_
  go_simp
  refine (mul_ok VA.out VB.out (HOA.out.1.bd HJO.out.jq.jn) (HOA.out.2.bd HJO.out.jq.jn) (by decide) (by decide) (TB.out.below hbw)).mono ?_
  rintro e9 v2 ⟨v, c, rfl, hv, hs, hbd, hb2⟩
  replace Xo : Hid _ := Xo.out.below hb2
  replace VA : Hid (OpV v2 (.iface ta xa) oa) := VA.out.below hb2
  replace VB : Hid (OpV v2 (.iface tb xb) ob) := VB.out.below hb2
  replace hbw := Below.on hbw hb2
  clear hb2
  have VC : Hid (OpV v2 v c) := hv
  have HS : Hid (MulO oa ob c ∧ BdO (128 + 128) (1430 + 1430 + 128 + 128) c) := ⟨hs, hbd⟩
  clear hv hs hbd
  clear HJ
  have HJ : Hid ((fun W' : World => W'.cell? ⟨go, 0, none⟩ = some (.iface ta xa) ∧ W'.cell? ⟨go, 1, none⟩ = some (.iface tb xb)) v2) := ⟨Xo.out.c0, Xo.out.c1⟩
  refine hK _ _ HJ.out ?_
  clear hK
  have hvc := VC.out
  rcases hvc with ⟨rfl, rfl⟩ | ⟨s, rfl, rfl⟩ | ⟨s, rfl, rfl⟩ | ⟨s, pc, mc, cc, ec, xc, rfl, dc, nc, rfl⟩
  · have me := meth_pattern_nan
    clear VC
    refine wpJ_on 8 rfl fun KJ hK => ?_
    go_simp
    refine (pat_nan HJO.out.jq _).mono ?_
    rintro e v9 ⟨rfl, hb9⟩
    rw [← patO_nan l sd Be S I Q]
    obtain ⟨r, hr⟩ : ∃ r, r = patO l sd Be S I Q onan := ⟨_, rfl⟩
    rw [← hr]
    have HPR : Hid (patO l sd Be S I Q onan = r) := hr.symm
    clear hr
    replace Xo : Hid _ := Xo.out.below hb9
    replace VA : Hid (OpV v9 (.iface ta xa) oa) := VA.out.below hb9
    replace VB : Hid (OpV v9 (.iface tb xb) ob) := VB.out.below hb9
    replace hbw := Below.on hbw hb9
    clear hb9
    clear HJ
    have HJ : Hid ((fun W' : World => W'.cell? ⟨go, 0, none⟩ = some (.iface ta xa) ∧ W'.cell? ⟨go, 1, none⟩ = some (.iface tb xb)) v9) := ⟨Xo.out.c0, Xo.out.c1⟩
    refine hK _ _ HJ.out ?_
    clear hK
    refine wpJ_tq 9 rfl HJ.out ?_
    refine wpJ_tq 10 rfl HJ.out ?_
    refine wpJ_done (by kernel_rfl) ?_ _
    clear HJ
    go_wp2_with fail
    go_ret2
    exact ⟨oa, ob, onan, by rw [HPR.out]; rfl, HOA.out.1, HOA.out.2, HS.out.1, HS.out.2, hbw⟩
  · have me := meth_pattern_inf
    clear VC
    refine wpJ_on 8 rfl fun KJ hK => ?_
    go_simp
    refine (pat_inf HJO.out.jq s _).mono ?_
    rintro e v9 ⟨rfl, hb9⟩
    rw [← patO_inf l sd Be S I Q s]
    obtain ⟨r, hr⟩ : ∃ r, r = patO l sd Be S I Q (oinf s) := ⟨_, rfl⟩
    rw [← hr]
    have HPR : Hid (patO l sd Be S I Q (oinf s) = r) := hr.symm
    clear hr
    replace Xo : Hid _ := Xo.out.below hb9
    replace VA : Hid (OpV v9 (.iface ta xa) oa) := VA.out.below hb9
    replace VB : Hid (OpV v9 (.iface tb xb) ob) := VB.out.below hb9
    replace hbw := Below.on hbw hb9
    clear hb9
    clear HJ
    have HJ : Hid ((fun W' : World => W'.cell? ⟨go, 0, none⟩ = some (.iface ta xa) ∧ W'.cell? ⟨go, 1, none⟩ = some (.iface tb xb)) v9) := ⟨Xo.out.c0, Xo.out.c1⟩
    refine hK _ _ HJ.out ?_
    clear hK
    refine wpJ_tq 9 rfl HJ.out ?_
    refine wpJ_tq 10 rfl HJ.out ?_
    refine wpJ_done (by kernel_rfl) ?_ _
    clear HJ
    go_wp2_with fail
    go_ret2
    exact ⟨oa, ob, (oinf s), by rw [HPR.out]; rfl, HOA.out.1, HOA.out.2, HS.out.1, HS.out.2, hbw⟩
  · have me := meth_pattern_no
    clear VC
    refine wpJ_on 8 rfl fun KJ hK => ?_
    go_simp
    refine (pat_no HJO.out.jq s _).mono ?_
    rintro e v9 ⟨rfl, hb9⟩
    rw [Nat.add_zero, ← patO_no l sd Be S I Q s]
    obtain ⟨r, hr⟩ : ∃ r, r = patO l sd Be S I Q (ono s) := ⟨_, rfl⟩
    rw [← hr]
    have HPR : Hid (patO l sd Be S I Q (ono s) = r) := hr.symm
    clear hr
    replace Xo : Hid _ := Xo.out.below hb9
    replace VA : Hid (OpV v9 (.iface ta xa) oa) := VA.out.below hb9
    replace VB : Hid (OpV v9 (.iface tb xb) ob) := VB.out.below hb9
    replace hbw := Below.on hbw hb9
    clear hb9
    clear HJ
    have HJ : Hid ((fun W' : World => W'.cell? ⟨go, 0, none⟩ = some (.iface ta xa) ∧ W'.cell? ⟨go, 1, none⟩ = some (.iface tb xb)) v9) := ⟨Xo.out.c0, Xo.out.c1⟩
    refine hK _ _ HJ.out ?_
    clear hK
    refine wpJ_tq 9 rfl HJ.out ?_
    refine wpJ_tq 10 rfl HJ.out ?_
    refine wpJ_done (by kernel_rfl) ?_ _
    clear HJ
    go_wp2_with fail
    go_ret2
    exact ⟨oa, ob, (ono s), by rw [HPR.out]; rfl, HOA.out.1, HOA.out.2, HS.out.1, HS.out.2, hbw⟩
  · have me := meth_pattern_fin
    have DC : Hid (DN v2 s pc mc cc ec xc) := dc
    clear dc
    clear VC
    refine wpJ_on 8 rfl fun KJ hK => ?_
    go_simp
    refine (pat_fin HJO.out.jq (DC.out) (TB.out.below hbw)).mono ?_
    rintro e v9 ⟨rfl, hb9⟩
    rw [← patO_fin l sd Be S I Q xc ec]
    obtain ⟨r, hr⟩ : ∃ r, r = patO l sd Be S I Q (ofin xc ec) := ⟨_, rfl⟩
    rw [← hr]
    have HPR : Hid (patO l sd Be S I Q (ofin xc ec) = r) := hr.symm
    clear hr
    replace Xo : Hid _ := Xo.out.below hb9
    replace VA : Hid (OpV v9 (.iface ta xa) oa) := VA.out.below hb9
    replace VB : Hid (OpV v9 (.iface tb xb) ob) := VB.out.below hb9
    replace hbw := Below.on hbw hb9
    clear hb9
    clear HJ
    have HJ : Hid ((fun W' : World => W'.cell? ⟨go, 0, none⟩ = some (.iface ta xa) ∧ W'.cell? ⟨go, 1, none⟩ = some (.iface tb xb)) v9) := ⟨Xo.out.c0, Xo.out.c1⟩
    refine hK _ _ HJ.out ?_
    clear hK
    refine wpJ_tq 9 rfl HJ.out ?_
    refine wpJ_tq 10 rfl HJ.out ?_
    refine wpJ_done (by kernel_rfl) ?_ _
    clear HJ
    go_wp2_with fail
    go_ret2
    exact ⟨oa, ob, (ofin xc ec), by rw [HPR.out]; rfl, HOA.out.1, HOA.out.2, HS.out.1, HS.out.2, hbw⟩
theorem BdO.neg {K E : Nat} {o : Opd} (h : BdO K E o) : BdO K E (negO o) := by
  intro hk
  unfold negO at hk ⊢
  by_cases h0 : o.k = 0
  · rw [if_pos h0] at hk; exact by cases hk
  · rw [if_neg h0] at hk ⊢
    by_cases h3 : o.k = 3
    · rw [if_pos h3]; exact (h h3).neg
    · rw [if_neg h3] at hk; exact absurd hk h3
theorem soft_sub {f p m l : Int} {S I H sd : Nat} {Be : Int} {Q : Nat} (J : Jo f p m l S I H sd Be Q) {a b : Nat} (ha : a < 2 * S) (hb : b < 2 * S) (w : World) (hT : Tab w) :
    Calls Tryz.prog 10 #[.int .i64 f, U a, U b] w fun en w' => ∃ oa ob c, en = .returned (.tuple #[U (patO l sd Be S I Q c), .int .i64 0]) ∧ OpB S I H l a oa ∧ OpB S I H l b ob ∧ SumO oa (negO ob) c ∧ BdO (128 + 2 * 1430 + 1) (128 + 3 * 1430 + 1) c ∧ Below w.heap.size w w' := by
  have HJO : Hid (Jo f p m l S I H sd Be Q) := J
  have HAB : Hid (a < 2 * S ∧ b < 2 * S) := ⟨ha, hb⟩
  have TB : Hid (Tab w) := hT
  clear J ha hb hT
  go_enter Tryz.func10, Tryz.ntmps10
  go_wp2_with fail
  have hb0 := below1 w (.cells #[U a, U b] 22)
  refine (operands2 HJO.out HAB.out.1 HAB.out.2 ⟨by go_simp, by go_simp⟩ (TB.out.below hb0)).mono ?_
  rintro e9 v1 ⟨go, va, vb, oa, ob, rfl, hgo, hx, hva, hvb, hoa, hob, hb1⟩
  have hbw := Below.on hb0 hb1
  obtain ⟨ta, xa, rfl⟩ := hva.iface
  obtain ⟨tb, xb, rfl⟩ := hvb.iface
  have Xo : Hid (Box v1 go (.iface ta xa) (.iface tb xb)) := hx
  have HOA : Hid (OpB S I H l a oa ∧ OpB S I H l b ob) := ⟨hoa, hob⟩
  have VA : Hid (OpV v1 (.iface ta xa) oa) := hva
  have VB : Hid (OpV v1 (.iface tb xb) ob) := hvb
  clear hb0 hb1 hx hva hvb hoa hob hgo
  obtain ⟨co0, co1, fo0, fo1⟩ := Xo.out
  have hneo := Xo.out.lt
  go_wp2_with fail
  clear co0 co1 fo0 fo1 hneo
  obtain ⟨W2, hW2⟩ : ∃ W1, W1 = v1.drew := ⟨_, rfl⟩
  have hbd : Below v1.heap.size v1 W2 := by rw [hW2]; exact bDrew1 (Below.refl _ _)
  replace Xo : Hid _ := Xo.out.below hbd
  replace VA : Hid (OpV W2 (.iface ta xa) oa) := VA.out.below hbd
  replace VB : Hid (OpV W2 (.iface tb xb) ob) := VB.out.below hbd
  replace hbw := Below.on hbw hbd
  clear hbd
  have HJ : Hid ((fun W' : World => W'.cell? ⟨go, 0, none⟩ = some (.iface ta xa) ∧ W'.cell? ⟨go, 1, none⟩ = some (.iface tb xb)) W2) := ⟨Xo.out.c0, Xo.out.c1⟩
  refine wp_region_J (fun W' => W'.cell? ⟨go, 0, none⟩ = some (.iface ta xa) ∧ W'.cell? ⟨go, 1, none⟩ = some (.iface tb xb)) (by kernel_rfl) ?_
  rw [← hW2]
  clear hW2
  refine wpJ_tq 0 rfl HJ.out ?_
  refine wpJ_tq 1 rfl HJ.out ?_
  refine wpJ_tq 2 rfl HJ.out ?_
  refine wpJ_tq 3 rfl HJ.out ?_
  refine wpJ_tq 4 rfl HJ.out ?_
  go_simp
  refine wpJ_tq 5 rfl HJ.out ?_
  refine wpJ_tq 8 rfl HJ.out ?_
  refine wpJ_on 6 rfl fun KJ hK => ?_
  go_simp
  refine (opp_ok VB.out).mono ?_
  rintro e9 v3 ⟨u, rfl, hu, hb3⟩
  obtain ⟨tu, xu, rfl⟩ := hu.iface
  replace Xo : Hid _ := Xo.out.below hb3
  replace VA : Hid (OpV v3 (.iface ta xa) oa) := VA.out.below hb3
  replace VB : Hid (OpV v3 (.iface tb xb) ob) := VB.out.below hb3
  replace hbw := Below.on hbw hb3
  clear hb3
  have VU : Hid (OpV v3 (.iface tu xu) (negO ob)) := hu
  clear hu
  refine hK _ _ ⟨Xo.out.c0, Xo.out.c1⟩ ?_
  clear hK
  refine wpJ_on 7 rfl fun KJ hK => ?_
  go_simp
  refine (sum_ok VA.out VU.out (HOA.out.1.bd HJO.out.jq.jn) (HOA.out.2.bd HJO.out.jq.jn).neg (by decide) (TB.out.below hbw)).mono ?_
  rintro e9 v2 ⟨v, c, rfl, hv, hs, hbd, hb2⟩
  replace Xo : Hid _ := Xo.out.below hb2
  replace VA : Hid (OpV v2 (.iface ta xa) oa) := VA.out.below hb2
  replace VB : Hid (OpV v2 (.iface tb xb) ob) := VB.out.below hb2
  replace VU : Hid (OpV v2 (.iface tu xu) (negO ob)) := VU.out.below hb2
  replace hbw := Below.on hbw hb2
  clear hb2
  have VC : Hid (OpV v2 v c) := hv
  have HS : Hid (SumO oa (negO ob) c ∧ BdO (128 + 2 * 1430 + 1) (128 + 3 * 1430 + 1) c) := ⟨hs, hbd⟩
  clear hv hs hbd
  clear HJ
  have HJ : Hid ((fun W' : World => W'.cell? ⟨go, 0, none⟩ = some (.iface ta xa) ∧ W'.cell? ⟨go, 1, none⟩ = some (.iface tb xb)) v2) := ⟨Xo.out.c0, Xo.out.c1⟩
  refine hK _ _ HJ.out ?_
  clear hK
  have hvc := VC.out
  rcases hvc with ⟨rfl, rfl⟩ | ⟨s, rfl, rfl⟩ | ⟨s, rfl, rfl⟩ | ⟨s, pc, mc, cc, ec, xc, rfl, dc, nc, rfl⟩
  · have me := meth_pattern_nan
    clear VC
    refine wpJ_on 9 rfl fun KJ hK => ?_
    go_simp
    refine (pat_nan HJO.out.jq _).mono ?_
    rintro e v9 ⟨rfl, hb9⟩
    rw [← patO_nan l sd Be S I Q]
    obtain ⟨r, hr⟩ : ∃ r, r = patO l sd Be S I Q onan := ⟨_, rfl⟩
    rw [← hr]
    have HPR : Hid (patO l sd Be S I Q onan = r) := hr.symm
    clear hr
    replace Xo : Hid _ := Xo.out.below hb9
    replace VA : Hid (OpV v9 (.iface ta xa) oa) := VA.out.below hb9
    replace VB : Hid (OpV v9 (.iface tb xb) ob) := VB.out.below hb9
    replace VU : Hid (OpV v9 (.iface tu xu) (negO ob)) := VU.out.below hb9
    replace hbw := Below.on hbw hb9
    clear hb9
    clear HJ
    have HJ : Hid ((fun W' : World => W'.cell? ⟨go, 0, none⟩ = some (.iface ta xa) ∧ W'.cell? ⟨go, 1, none⟩ = some (.iface tb xb)) v9) := ⟨Xo.out.c0, Xo.out.c1⟩
    refine hK _ _ HJ.out ?_
    clear hK
    refine wpJ_tq 10 rfl HJ.out ?_
    refine wpJ_tq 11 rfl HJ.out ?_
    refine wpJ_done (by kernel_rfl) ?_ _
    clear HJ
    go_wp2_with fail
    go_ret2
    exact ⟨oa, ob, onan, by rw [HPR.out]; rfl, HOA.out.1, HOA.out.2, HS.out.1, HS.out.2, hbw⟩
  · have me := meth_pattern_inf
    clear VC
    refine wpJ_on 9 rfl fun KJ hK => ?_
    go_simp
    refine (pat_inf HJO.out.jq s _).mono ?_
    rintro e v9 ⟨rfl, hb9⟩
    rw [← patO_inf l sd Be S I Q s]
    obtain ⟨r, hr⟩ : ∃ r, r = patO l sd Be S I Q (oinf s) := ⟨_, rfl⟩
    rw [← hr]
    have HPR : Hid (patO l sd Be S I Q (oinf s) = r) := hr.symm
    clear hr
    replace Xo : Hid _ := Xo.out.below hb9
    replace VA : Hid (OpV v9 (.iface ta xa) oa) := VA.out.below hb9
    replace VB : Hid (OpV v9 (.iface tb xb) ob) := VB.out.below hb9
    replace VU : Hid (OpV v9 (.iface tu xu) (negO ob)) := VU.out.below hb9
    replace hbw := Below.on hbw hb9
    clear hb9
    clear HJ
    have HJ : Hid ((fun W' : World => W'.cell? ⟨go, 0, none⟩ = some (.iface ta xa) ∧ W'.cell? ⟨go, 1, none⟩ = some (.iface tb xb)) v9) := ⟨Xo.out.c0, Xo.out.c1⟩
    refine hK _ _ HJ.out ?_
    clear hK
    refine wpJ_tq 10 rfl HJ.out ?_
    refine wpJ_tq 11 rfl HJ.out ?_
    refine wpJ_done (by kernel_rfl) ?_ _
    clear HJ
    go_wp2_with fail
    go_ret2
    exact ⟨oa, ob, (oinf s), by rw [HPR.out]; rfl, HOA.out.1, HOA.out.2, HS.out.1, HS.out.2, hbw⟩
  · have me := meth_pattern_no
    clear VC
    refine wpJ_on 9 rfl fun KJ hK => ?_
    go_simp
    refine (pat_no HJO.out.jq s _).mono ?_
    rintro e v9 ⟨rfl, hb9⟩
    rw [Nat.add_zero, ← patO_no l sd Be S I Q s]
    obtain ⟨r, hr⟩ : ∃ r, r = patO l sd Be S I Q (ono s) := ⟨_, rfl⟩
    rw [← hr]
    have HPR : Hid (patO l sd Be S I Q (ono s) = r) := hr.symm
    clear hr
    replace Xo : Hid _ := Xo.out.below hb9
    replace VA : Hid (OpV v9 (.iface ta xa) oa) := VA.out.below hb9
    replace VB : Hid (OpV v9 (.iface tb xb) ob) := VB.out.below hb9
    replace VU : Hid (OpV v9 (.iface tu xu) (negO ob)) := VU.out.below hb9
    replace hbw := Below.on hbw hb9
    clear hb9
    clear HJ
    have HJ : Hid ((fun W' : World => W'.cell? ⟨go, 0, none⟩ = some (.iface ta xa) ∧ W'.cell? ⟨go, 1, none⟩ = some (.iface tb xb)) v9) := ⟨Xo.out.c0, Xo.out.c1⟩
    refine hK _ _ HJ.out ?_
    clear hK
    refine wpJ_tq 10 rfl HJ.out ?_
    refine wpJ_tq 11 rfl HJ.out ?_
    refine wpJ_done (by kernel_rfl) ?_ _
    clear HJ
    go_wp2_with fail
    go_ret2
    exact ⟨oa, ob, (ono s), by rw [HPR.out]; rfl, HOA.out.1, HOA.out.2, HS.out.1, HS.out.2, hbw⟩
  · have me := meth_pattern_fin
    have DC : Hid (DN v2 s pc mc cc ec xc) := dc
    clear dc
    clear VC
    refine wpJ_on 9 rfl fun KJ hK => ?_
    go_simp
    refine (pat_fin HJO.out.jq (DC.out) (TB.out.below hbw)).mono ?_
    rintro e v9 ⟨rfl, hb9⟩
    rw [← patO_fin l sd Be S I Q xc ec]
    obtain ⟨r, hr⟩ : ∃ r, r = patO l sd Be S I Q (ofin xc ec) := ⟨_, rfl⟩
    rw [← hr]
    have HPR : Hid (patO l sd Be S I Q (ofin xc ec) = r) := hr.symm
    clear hr
    replace Xo : Hid _ := Xo.out.below hb9
    replace VA : Hid (OpV v9 (.iface ta xa) oa) := VA.out.below hb9
    replace VB : Hid (OpV v9 (.iface tb xb) ob) := VB.out.below hb9
    replace VU : Hid (OpV v9 (.iface tu xu) (negO ob)) := VU.out.below hb9
    replace hbw := Below.on hbw hb9
    clear hb9
    clear HJ
    have HJ : Hid ((fun W' : World => W'.cell? ⟨go, 0, none⟩ = some (.iface ta xa) ∧ W'.cell? ⟨go, 1, none⟩ = some (.iface tb xb)) v9) := ⟨Xo.out.c0, Xo.out.c1⟩
    refine hK _ _ HJ.out ?_
    clear hK
    refine wpJ_tq 10 rfl HJ.out ?_
    refine wpJ_tq 11 rfl HJ.out ?_
    refine wpJ_done (by kernel_rfl) ?_ _
    clear HJ
    go_wp2_with fail
    go_ret2
    exact ⟨oa, ob, (ofin xc ec), by rw [HPR.out]; rfl, HOA.out.1, HOA.out.2, HS.out.1, HS.out.2, hbw⟩
def Ops1 (S I H : Nat) (l : Int) (w : World) (a0 : Nat) (en : Ending) (w' : World) : Prop :=
  ∃ go u0 o0, en = .returned (.tuple #[.slice (some ⟨go, 0, none⟩) 1 1, .int .i64 0]) ∧ w.heap.size ≤ go ∧ B1s w' go u0 ∧ OpV w' u0 o0 ∧ OpB S I H l a0 o0 ∧ Below w.heap.size w w'
theorem operands1 {f p m l : Int} {S I H sd : Nat} {Be : Int} {Q : Nat} (J : Jo f p m l S I H sd Be Q) {g a0 : Nat} (hab : a0 < 2 * S) {w : World} (hg : w.cell? ⟨g, 0, none⟩ = some (U a0)) (hT : Tab w) :
    Calls Tryz.prog 38 #[.int .i64 f, .slice (some ⟨g, 0, none⟩) 1 1] w fun en w' => Ops1 S I H l w a0 en w' := by
  have HJO : Hid (Jo f p m l S I H sd Be Q) := J
  have HAB : Hid (a0 < 2 * S) := hab
  have HCG : Hid ((w.cell? ⟨g, 0, none⟩ = some (U a0)) ∧ g < w.heap.size) := ⟨hg, World.block_lt_of_cell? w _ hg⟩
  have TB : Hid (Tab w) := hT
  clear J hab hg hT
  go_enter Tryz.func38, Tryz.ntmps38
  go_wp2_with fail
  have mk : ∀ w : World, Sem.run Tryz.prog (Instr.makeSlice 62 (.int .i64 1) (.int .i64 1)) w = .ok (.slice (some ⟨w.heap.size, 0, none⟩) 1 1) (w.alloc (.cells #[.nilIface] 66)) := fun w => by kernel_rfl
  rw [mk]
  clear mk
  obtain ⟨W0, hW0⟩ : ∃ W0, W0 = w.alloc (.cells #[.nilIface] 66) := ⟨_, rfl⟩
  obtain ⟨go, hgo⟩ : ∃ go, go = w.heap.size := ⟨_, rfl⟩
  have HX : Hid (B1s W0 go .nilIface) := by rw [hW0, hgo]; exact ⟨by go_simp, by go_simp⟩
  have HB0 : Hid (Below w.heap.size w W0) := by rw [hW0]; exact below1 w _
  have HGO : Hid (w.heap.size ≤ go) := by rw [hgo]; exact Nat.le_refl _
  rw [← hW0, ← hgo]
  clear hW0 hgo
  go_wp2_with fail
  go_loopg [16] 1 (fun gk iv wr => ∃ k : Nat, k + gk = 1 ∧ iv = .int .i64 k ∧ ∃ v0, B1s wr go (v0) ∧ (0 < k → ∃ o, OpO (go + 1) wr v0 o ∧ OpB S I H l a0 o) ∧ Below w.heap.size w wr)
  case atStart => exact ⟨0, by omega, rfl, _, HX.out, fun h => by omega, HB0.out⟩
  case round =>
    obtain ⟨k, hkg, rfl, v0, hx, h0, hbw⟩ := hrel
    cases gk with
    | zero =>
      obtain rfl : k = 1 := by omega
      obtain ⟨o0, q0, r0⟩ := h0 (by omega)
      have HQ : Hid ((OpV wr v0 o0) ∧ (OpB S I H l a0 o0) ∧ B1s wr go (v0)) := ⟨q0.v, r0, hx⟩
      clear h0 q0 r0 hx
      go_wp2_with fail
      go_ret2
      exact ⟨go, v0, o0, rfl, HGO.out, HQ.out.2.2, HQ.out.1, HQ.out.2.1, hbw⟩
    | succ gg =>
      have HX1 : Hid (B1s wr go (v0)) := hx
      have HBW : Hid (Below w.heap.size w wr) := hbw
      have H0k : Hid (0 < k → ∃ o, OpO (go + 1) wr v0 o ∧ OpB S I H l a0 o) := h0
      · obtain rfl : k = 0 := by omega
        have e0 : wr.cell? ⟨g, 0, none⟩ = some (U a0) := (hbw.cell (p := ⟨g, 0, none⟩) HCG.out.2).trans HCG.out.1
        clear h0 hx hbw
        go_wp2_with fail
        refine (opof HJO.out a0 HAB.out wr (TB.out.below HBW.out)).mono ?_
        rintro e9 w2 ⟨v, o, rfl, ho, hob, hb2⟩
        obtain ⟨vt, vx, rfl⟩ : ∃ t x, v = .iface t x := ho.iface
        have HO : Hid (OpO (go + 1) w2 (.iface vt vx) o ∧ OpB S I H l a0 o) := ⟨ho.mono HX1.out.lt, hob⟩
        have HX2 : Hid (B1s w2 go (v0)) := HX1.out.below hb2
        have HBV : Hid (Below w.heap.size w w2) := Below.on HBW.out hb2
        obtain ⟨c0, f0⟩ := HX2.out
        have hlt := HX2.out.lt
        clear ho hob hb2
        go_wp2_with fail
        go_roundg gg
        case measure => omega
        case rel =>
          exact ⟨1, by omega, by go_num, .iface vt vx, ⟨by go_simp, by go_simp⟩, fun _ => ⟨o, HO.out.1.set _ _ _ (by omega), HO.out.2⟩, bSet HBV.out _ _ _ HGO.out⟩
def Ops3 (S I H : Nat) (l : Int) (w : World) (a0 a1 a2 : Nat) (en : Ending) (w' : World) : Prop :=
  ∃ go u0 u1 u2 o0 o1 o2, en = .returned (.tuple #[.slice (some ⟨go, 0, none⟩) 3 3, .int .i64 0]) ∧ w.heap.size ≤ go ∧ B3q w' go u0 u1 u2 ∧ OpV w' u0 o0 ∧ OpV w' u1 o1 ∧ OpV w' u2 o2 ∧ OpB S I H l a0 o0 ∧ OpB S I H l a1 o1 ∧ OpB S I H l a2 o2 ∧ Below w.heap.size w w'
theorem operands3 {f p m l : Int} {S I H sd : Nat} {Be : Int} {Q : Nat} (J : Jo f p m l S I H sd Be Q) {g a0 a1 a2 : Nat} (hab : a0 < 2 * S ∧ a1 < 2 * S ∧ a2 < 2 * S) {w : World} (hg : w.cell? ⟨g, 0, none⟩ = some (U a0) ∧ w.cell? ⟨g, 1, none⟩ = some (U a1) ∧ w.cell? ⟨g, 2, none⟩ = some (U a2)) (hT : Tab w) :
    Calls Tryz.prog 38 #[.int .i64 f, .slice (some ⟨g, 0, none⟩) 3 3] w fun en w' => Ops3 S I H l w a0 a1 a2 en w' := by
  have HJO : Hid (Jo f p m l S I H sd Be Q) := J
  have HAB : Hid (a0 < 2 * S ∧ a1 < 2 * S ∧ a2 < 2 * S) := hab
  have HCG : Hid ((w.cell? ⟨g, 0, none⟩ = some (U a0) ∧ w.cell? ⟨g, 1, none⟩ = some (U a1) ∧ w.cell? ⟨g, 2, none⟩ = some (U a2)) ∧ g < w.heap.size) := ⟨hg, World.block_lt_of_cell? w _ hg.1⟩
  have TB : Hid (Tab w) := hT
  clear J hab hg hT
  go_enter Tryz.func38, Tryz.ntmps38
  go_wp2_with fail
  have mk : ∀ w : World, Sem.run Tryz.prog (Instr.makeSlice 62 (.int .i64 3) (.int .i64 3)) w = .ok (.slice (some ⟨w.heap.size, 0, none⟩) 3 3) (w.alloc (.cells #[.nilIface, .nilIface, .nilIface] 66)) := fun w => by kernel_rfl
  rw [mk]
  clear mk
  obtain ⟨W0, hW0⟩ : ∃ W0, W0 = w.alloc (.cells #[.nilIface, .nilIface, .nilIface] 66) := ⟨_, rfl⟩
  obtain ⟨go, hgo⟩ : ∃ go, go = w.heap.size := ⟨_, rfl⟩
  have HX : Hid (B3q W0 go .nilIface .nilIface .nilIface) := by rw [hW0, hgo]; exact ⟨by go_simp, by go_simp, by go_simp, by go_simp, by go_simp, by go_simp⟩
  have HB0 : Hid (Below w.heap.size w W0) := by rw [hW0]; exact below1 w _
  have HGO : Hid (w.heap.size ≤ go) := by rw [hgo]; exact Nat.le_refl _
  rw [← hW0, ← hgo]
  clear hW0 hgo
  go_wp2_with fail
  go_loopg [16] 3 (fun gk iv wr => ∃ k : Nat, k + gk = 3 ∧ iv = .int .i64 k ∧ ∃ v0 v1 v2, B3q wr go (v0) (v1) (v2) ∧ (0 < k → ∃ o, OpO (go + 1) wr v0 o ∧ OpB S I H l a0 o) ∧ (1 < k → ∃ o, OpO (go + 1) wr v1 o ∧ OpB S I H l a1 o) ∧ (2 < k → ∃ o, OpO (go + 1) wr v2 o ∧ OpB S I H l a2 o) ∧ Below w.heap.size w wr)
  case atStart => exact ⟨0, by omega, rfl, _, _, _, HX.out, fun h => by omega, fun h => by omega, fun h => by omega, HB0.out⟩
  case round =>
    obtain ⟨k, hkg, rfl, v0, v1, v2, hx, h0, h1, h2, hbw⟩ := hrel
    cases gk with
    | zero =>
      obtain rfl : k = 3 := by omega
      obtain ⟨o0, q0, r0⟩ := h0 (by omega)
      obtain ⟨o1, q1, r1⟩ := h1 (by omega)
      obtain ⟨o2, q2, r2⟩ := h2 (by omega)
      have HQ : Hid ((OpV wr v0 o0 ∧ OpV wr v1 o1 ∧ OpV wr v2 o2) ∧ (OpB S I H l a0 o0 ∧ OpB S I H l a1 o1 ∧ OpB S I H l a2 o2) ∧ B3q wr go (v0) (v1) (v2)) := ⟨⟨q0.v, q1.v, q2.v⟩, ⟨r0, r1, r2⟩, hx⟩
      clear h0 q0 r0 h1 q1 r1 h2 q2 r2 hx
      go_wp2_with fail
      go_ret2
      exact ⟨go, v0, v1, v2, o0, o1, o2, rfl, HGO.out, HQ.out.2.2, HQ.out.1.1, HQ.out.1.2.1, HQ.out.1.2.2, HQ.out.2.1.1, HQ.out.2.1.2.1, HQ.out.2.1.2.2, hbw⟩
    | succ gg =>
      have HX1 : Hid (B3q wr go (v0) (v1) (v2)) := hx
      have HBW : Hid (Below w.heap.size w wr) := hbw
      have H0k : Hid (0 < k → ∃ o, OpO (go + 1) wr v0 o ∧ OpB S I H l a0 o) := h0
      have H1k : Hid (1 < k → ∃ o, OpO (go + 1) wr v1 o ∧ OpB S I H l a1 o) := h1
      have H2k : Hid (2 < k → ∃ o, OpO (go + 1) wr v2 o ∧ OpB S I H l a2 o) := h2
      by_cases hk0 : k = 0
      · obtain rfl : k = 0 := hk0
        have e0 : wr.cell? ⟨g, 0, none⟩ = some (U a0) := (hbw.cell (p := ⟨g, 0, none⟩) HCG.out.2).trans HCG.out.1.1
        clear h0 h1 h2 hx hbw
        go_wp2_with fail
        refine (opof HJO.out a0 HAB.out.1 wr (TB.out.below HBW.out)).mono ?_
        rintro e9 w2 ⟨v, o, rfl, ho, hob, hb2⟩
        obtain ⟨vt, vx, rfl⟩ : ∃ t x, v = .iface t x := ho.iface
        have HO : Hid (OpO (go + 1) w2 (.iface vt vx) o ∧ OpB S I H l a0 o) := ⟨ho.mono HX1.out.lt, hob⟩
        have HX2 : Hid (B3q w2 go (v0) (v1) (v2)) := HX1.out.below hb2
        have HBV : Hid (Below w.heap.size w w2) := Below.on HBW.out hb2
        obtain ⟨c0, c1, c2, f0, f1, f2⟩ := HX2.out
        have hlt := HX2.out.lt
        clear ho hob hb2
        go_wp2_with fail
        go_roundg gg
        case measure => omega
        case rel =>
          exact ⟨1, by omega, by go_num, .iface vt vx, v1, v2, ⟨by go_simp, by go_simp, by go_simp, by go_simp, by go_simp, by go_simp⟩, fun _ => ⟨o, HO.out.1.set _ _ _ (by omega), HO.out.2⟩, fun h => by omega, fun h => by omega, bSet HBV.out _ _ _ HGO.out⟩
      by_cases hk1 : k = 1
      · obtain rfl : k = 1 := hk1
        have e0 : wr.cell? ⟨g, 1, none⟩ = some (U a1) := (hbw.cell (p := ⟨g, 1, none⟩) HCG.out.2).trans HCG.out.1.2.1
        clear h0 h1 h2 hx hbw
        go_wp2_with fail
        refine (opof HJO.out a1 HAB.out.2.1 wr (TB.out.below HBW.out)).mono ?_
        rintro e9 w2 ⟨v, o, rfl, ho, hob, hb2⟩
        obtain ⟨vt, vx, rfl⟩ : ∃ t x, v = .iface t x := ho.iface
        have HO : Hid (OpO (go + 1) w2 (.iface vt vx) o ∧ OpB S I H l a1 o) := ⟨ho.mono HX1.out.lt, hob⟩
        have HX2 : Hid (B3q w2 go (v0) (v1) (v2)) := HX1.out.below hb2
        have HBV : Hid (Below w.heap.size w w2) := Below.on HBW.out hb2
        have HP0 : Hid (∃ o, OpO (go + 1) w2 v0 o ∧ OpB S I H l a0 o) := by obtain ⟨o9, q1, q2⟩ := H0k.out (by omega); exact ⟨o9, q1.below hb2, q2⟩
        obtain ⟨c0, c1, c2, f0, f1, f2⟩ := HX2.out
        have hlt := HX2.out.lt
        clear ho hob hb2
        go_wp2_with fail
        go_roundg gg
        case measure => omega
        case rel =>
          obtain ⟨o0, q0, r0⟩ := HP0.out
          exact ⟨2, by omega, by go_num, v0, .iface vt vx, v2, ⟨by go_simp, by go_simp, by go_simp, by go_simp, by go_simp, by go_simp⟩, fun _ => ⟨o0, q0.set _ _ _ (by omega), r0⟩, fun _ => ⟨o, HO.out.1.set _ _ _ (by omega), HO.out.2⟩, fun h => by omega, bSet HBV.out _ _ _ HGO.out⟩
      · obtain rfl : k = 2 := by omega
        have e0 : wr.cell? ⟨g, 2, none⟩ = some (U a2) := (hbw.cell (p := ⟨g, 2, none⟩) HCG.out.2).trans HCG.out.1.2.2
        clear h0 h1 h2 hx hbw
        go_wp2_with fail
        refine (opof HJO.out a2 HAB.out.2.2 wr (TB.out.below HBW.out)).mono ?_
        rintro e9 w2 ⟨v, o, rfl, ho, hob, hb2⟩
        obtain ⟨vt, vx, rfl⟩ : ∃ t x, v = .iface t x := ho.iface
        have HO : Hid (OpO (go + 1) w2 (.iface vt vx) o ∧ OpB S I H l a2 o) := ⟨ho.mono HX1.out.lt, hob⟩
        have HX2 : Hid (B3q w2 go (v0) (v1) (v2)) := HX1.out.below hb2
        have HBV : Hid (Below w.heap.size w w2) := Below.on HBW.out hb2
        have HP0 : Hid (∃ o, OpO (go + 1) w2 v0 o ∧ OpB S I H l a0 o) := by obtain ⟨o9, q1, q2⟩ := H0k.out (by omega); exact ⟨o9, q1.below hb2, q2⟩
        have HP1 : Hid (∃ o, OpO (go + 1) w2 v1 o ∧ OpB S I H l a1 o) := by obtain ⟨o9, q1, q2⟩ := H1k.out (by omega); exact ⟨o9, q1.below hb2, q2⟩
        obtain ⟨c0, c1, c2, f0, f1, f2⟩ := HX2.out
        have hlt := HX2.out.lt
        clear ho hob hb2
        go_wp2_with fail
        go_roundg gg
        case measure => omega
        case rel =>
          obtain ⟨o0, q0, r0⟩ := HP0.out
          obtain ⟨o1, q1, r1⟩ := HP1.out
          exact ⟨3, by omega, by go_num, v0, v1, .iface vt vx, ⟨by go_simp, by go_simp, by go_simp, by go_simp, by go_simp, by go_simp⟩, fun _ => ⟨o0, q0.set _ _ _ (by omega), r0⟩, fun _ => ⟨o1, q1.set _ _ _ (by omega), r1⟩, fun _ => ⟨o, HO.out.1.set _ _ _ (by omega), HO.out.2⟩, bSet HBV.out _ _ _ HGO.out⟩
theorem BdO.mono {K E K' E' : Nat} {o : Opd} (h : BdO K E o) (hK : K ≤ K') (hE : E ≤ E') : BdO K' E' o := fun hk => (h hk).mono hK hE
theorem soft_neg {f p m l : Int} {S I H sd : Nat} {Be : Int} {Q : Nat} (J : Jo f p m l S I H sd Be Q) {a0 : Nat} (hab : a0 < 2 * S) (w : World) (hT : Tab w) :
    Calls Tryz.prog 35 #[.int .i64 f, U a0] w fun en w' => ∃ o0, en = .returned (.tuple #[U (patO l sd Be S I Q (negO o0)), .int .i64 0]) ∧ OpB S I H l a0 o0 ∧ Below w.heap.size w w' := by
  have HJO : Hid (Jo f p m l S I H sd Be Q) := J
  have HAB : Hid (a0 < 2 * S) := hab
  have TB : Hid (Tab w) := hT
  clear J hab hT
  go_enter Tryz.func35, Tryz.ntmps35
  go_wp2_with fail
  have hb0 := below1 w (.cells #[U a0] 22)
  refine (operands1 HJO.out HAB.out (by go_simp) (TB.out.below hb0)).mono ?_
  rintro e9 v1 ⟨go, u0, o0, rfl, hgo, hx, hv0, ho0, hb1⟩
  have hbw := Below.on hb0 hb1
  obtain ⟨t0, x0, rfl⟩ := hv0.iface
  have Xo : Hid (B1s v1 go (.iface t0 x0)) := hx
  have B0 : Hid (OpB S I H l a0 o0) := ho0
  have V0 : Hid (OpV v1 (.iface t0 x0) o0) := hv0
  clear hb0 hb1 hx hgo hv0 ho0
  obtain ⟨co0, fo0⟩ := Xo.out
  have hneo : go < v1.heap.size := World.block_lt_of_cell? v1 _ co0
  go_wp2_with fail
  clear co0 fo0 hneo
  refine (opp_ok V0.out).mono ?_
  rintro e9 w2 ⟨u, rfl, hu, hb2⟩
  obtain ⟨c, hc⟩ : ∃ c, c = negO o0 := ⟨_, rfl⟩
  rw [← hc] at hu
  have HC : Hid (c = negO o0) := hc
  clear hc
  replace Xo : Hid (B1s w2 go (.iface t0 x0)) := Xo.out.below hb2
  replace V0 : Hid (OpV w2 (.iface t0 x0) o0) := V0.out.below hb2
  replace hbw := Below.on hbw hb2
  clear hb2
  have VC : Hid (OpV w2 u c) := hu
  clear hu
  have hvc := VC.out
  rcases hvc with ⟨rfl, rfl⟩ | ⟨s, rfl, rfl⟩ | ⟨s, rfl, rfl⟩ | ⟨s, pc, mc, cc, ec, xc, rfl, dc, nc, rfl⟩
  · have me := meth_pattern_nan
    clear VC
    go_wp2_with fail
    refine (pat_nan HJO.out.jq _).mono ?_
    rintro e v9 ⟨rfl, hb9⟩
    rw [← patO_nan l sd Be S I Q]
    obtain ⟨r, hr⟩ : ∃ r, r = patO l sd Be S I Q onan := ⟨_, rfl⟩
    rw [← hr]
    have HPR : Hid (patO l sd Be S I Q onan = r) := hr.symm
    clear hr
    replace Xo : Hid (B1s v9 go (.iface t0 x0)) := Xo.out.below hb9
    replace V0 : Hid (OpV v9 (.iface t0 x0) o0) := V0.out.below hb9
    replace hbw := Below.on hbw hb9
    clear hb9
    go_wp2_with fail
    go_ret2
    exact ⟨o0, by rw [← HC.out, HPR.out]; rfl, B0.out, hbw⟩
  · have me := meth_pattern_inf
    clear VC
    go_wp2_with fail
    refine (pat_inf HJO.out.jq s _).mono ?_
    rintro e v9 ⟨rfl, hb9⟩
    rw [← patO_inf l sd Be S I Q s]
    obtain ⟨r, hr⟩ : ∃ r, r = patO l sd Be S I Q (oinf s) := ⟨_, rfl⟩
    rw [← hr]
    have HPR : Hid (patO l sd Be S I Q (oinf s) = r) := hr.symm
    clear hr
    replace Xo : Hid (B1s v9 go (.iface t0 x0)) := Xo.out.below hb9
    replace V0 : Hid (OpV v9 (.iface t0 x0) o0) := V0.out.below hb9
    replace hbw := Below.on hbw hb9
    clear hb9
    go_wp2_with fail
    go_ret2
    exact ⟨o0, by rw [← HC.out, HPR.out]; rfl, B0.out, hbw⟩
  · have me := meth_pattern_no
    clear VC
    go_wp2_with fail
    refine (pat_no HJO.out.jq s _).mono ?_
    rintro e v9 ⟨rfl, hb9⟩
    rw [Nat.add_zero, ← patO_no l sd Be S I Q s]
    obtain ⟨r, hr⟩ : ∃ r, r = patO l sd Be S I Q (ono s) := ⟨_, rfl⟩
    rw [← hr]
    have HPR : Hid (patO l sd Be S I Q (ono s) = r) := hr.symm
    clear hr
    replace Xo : Hid (B1s v9 go (.iface t0 x0)) := Xo.out.below hb9
    replace V0 : Hid (OpV v9 (.iface t0 x0) o0) := V0.out.below hb9
    replace hbw := Below.on hbw hb9
    clear hb9
    go_wp2_with fail
    go_ret2
    exact ⟨o0, by rw [← HC.out, HPR.out]; rfl, B0.out, hbw⟩
  · have me := meth_pattern_fin
    have DC : Hid (DN w2 s pc mc cc ec xc) := dc
    clear dc
    clear VC
    go_wp2_with fail
    refine (pat_fin HJO.out.jq (DC.out) (TB.out.below hbw)).mono ?_
    rintro e v9 ⟨rfl, hb9⟩
    rw [← patO_fin l sd Be S I Q xc ec]
    obtain ⟨r, hr⟩ : ∃ r, r = patO l sd Be S I Q (ofin xc ec) := ⟨_, rfl⟩
    rw [← hr]
    have HPR : Hid (patO l sd Be S I Q (ofin xc ec) = r) := hr.symm
    clear hr
    replace Xo : Hid (B1s v9 go (.iface t0 x0)) := Xo.out.below hb9
    replace V0 : Hid (OpV v9 (.iface t0 x0) o0) := V0.out.below hb9
    replace hbw := Below.on hbw hb9
    clear hb9
    go_wp2_with fail
    go_ret2
    exact ⟨o0, by rw [← HC.out, HPR.out]; rfl, B0.out, hbw⟩
theorem soft_fma {f p m l : Int} {S I H sd : Nat} {Be : Int} {Q : Nat} (J : Jo f p m l S I H sd Be Q) {a0 a1 a2 : Nat} (hab : a0 < 2 * S ∧ a1 < 2 * S ∧ a2 < 2 * S) (w : World) (hT : Tab w) :
    Calls Tryz.prog 28 #[.int .i64 f, U a0, U a1, U a2] w fun en w' => ∃ o0 o1 o2 q c, en = .returned (.tuple #[U (patO l sd Be S I Q c), .int .i64 0]) ∧ OpB S I H l a0 o0 ∧ OpB S I H l a1 o1 ∧ OpB S I H l a2 o2 ∧ MulO o0 o1 q ∧ SumO q o2 c ∧ Below w.heap.size w w' := by
  have HJO : Hid (Jo f p m l S I H sd Be Q) := J
  have HAB : Hid (a0 < 2 * S ∧ a1 < 2 * S ∧ a2 < 2 * S) := hab
  have TB : Hid (Tab w) := hT
  clear J hab hT
  go_enter Tryz.func28, Tryz.ntmps28
  go_wp2_with fail
  have hb0 := below1 w (.cells #[U a0, U a1, U a2] 22)
  refine (operands3 HJO.out HAB.out ⟨by go_simp, by go_simp, by go_simp⟩ (TB.out.below hb0)).mono ?_
  rintro e9 v1 ⟨go, u0, u1, u2, o0, o1, o2, rfl, hgo, hx, hv0, hv1, hv2, ho0, ho1, ho2, hb1⟩
  have hbw := Below.on hb0 hb1
  obtain ⟨t0, x0, rfl⟩ := hv0.iface
  obtain ⟨t1, x1, rfl⟩ := hv1.iface
  obtain ⟨t2, x2, rfl⟩ := hv2.iface
  have Xo : Hid (B3q v1 go (.iface t0 x0) (.iface t1 x1) (.iface t2 x2)) := hx
  have B0 : Hid (OpB S I H l a0 o0) := ho0
  have B1 : Hid (OpB S I H l a1 o1) := ho1
  have B2 : Hid (OpB S I H l a2 o2) := ho2
  have V0 : Hid (OpV v1 (.iface t0 x0) o0) := hv0
  have V1 : Hid (OpV v1 (.iface t1 x1) o1) := hv1
  have V2 : Hid (OpV v1 (.iface t2 x2) o2) := hv2
  clear hb0 hb1 hx hgo hv0 ho0 hv1 ho1 hv2 ho2
  obtain ⟨co0, co1, co2, fo0, fo1, fo2⟩ := Xo.out
  have hneo : go < v1.heap.size := World.block_lt_of_cell? v1 _ co0
  go_wp2_with fail
  clear co0 co1 co2 fo0 fo1 fo2 hneo
  obtain ⟨Wr, hWr⟩ : ∃ W1, W1 = v1.drew := ⟨_, rfl⟩
  have hbd : Below v1.heap.size v1 Wr := by rw [hWr]; exact bDrew1 (Below.refl _ _)
  replace Xo : Hid _ := Xo.out.below hbd
  replace V0 : Hid (OpV Wr (.iface t0 x0) o0) := V0.out.below hbd
  replace V1 : Hid (OpV Wr (.iface t1 x1) o1) := V1.out.below hbd
  replace V2 : Hid (OpV Wr (.iface t2 x2) o2) := V2.out.below hbd
  replace hbw := Below.on hbw hbd
  clear hbd
  have HJ : Hid ((fun W' : World => W'.cell? ⟨go, 0, none⟩ = some (.iface t0 x0) ∧ W'.cell? ⟨go, 1, none⟩ = some (.iface t1 x1) ∧ W'.cell? ⟨go, 2, none⟩ = some (.iface t2 x2)) Wr) := ⟨Xo.out.c0, Xo.out.c1, Xo.out.c2⟩
  refine wp_region_J (fun W' => W'.cell? ⟨go, 0, none⟩ = some (.iface t0 x0) ∧ W'.cell? ⟨go, 1, none⟩ = some (.iface t1 x1) ∧ W'.cell? ⟨go, 2, none⟩ = some (.iface t2 x2)) (by kernel_rfl) ?_
  rw [← hWr]
  clear hWr
  refine wpJ_tq 0 rfl HJ.out ?_
  refine wpJ_tq 1 rfl HJ.out ?_
  refine wpJ_tq 2 rfl HJ.out ?_
  refine wpJ_tq 3 rfl HJ.out ?_
  refine wpJ_tq 4 rfl HJ.out ?_
  go_simp
  refine wpJ_tq 5 rfl HJ.out ?_
  refine wpJ_tq 7 rfl HJ.out ?_
  refine wpJ_tq 8 rfl HJ.out ?_
  refine wpJ_tq 9 rfl HJ.out ?_
  refine wpJ_tq 11 rfl HJ.out ?_
  refine wpJ_on 6 rfl fun KJ hK => ?_
  go_simp
  refine (mul_ok V0.out V1.out (B0.out.bd HJO.out.jq.jn) (B1.out.bd HJO.out.jq.jn) (by decide) (by decide) (TB.out.below hbw)).mono ?_
  rintro e9 w2 ⟨v, q, rfl, hv, hs, hbd, hb2⟩
  obtain ⟨tq, xq, rfl⟩ := hv.iface
  replace Xo : Hid _ := Xo.out.below hb2
  replace V0 : Hid (OpV w2 (.iface t0 x0) o0) := V0.out.below hb2
  replace V1 : Hid (OpV w2 (.iface t1 x1) o1) := V1.out.below hb2
  replace V2 : Hid (OpV w2 (.iface t2 x2) o2) := V2.out.below hb2
  replace hbw := Below.on hbw hb2
  clear hb2
  have VQ : Hid (OpV w2 (.iface tq xq) q) := hv
  have HM : Hid (MulO o0 o1 q ∧ BdO (128 + 128) (1430 + 1430 + 128 + 128) q) := ⟨hs, hbd⟩
  clear hv hs hbd
  refine hK _ _ ⟨Xo.out.c0, Xo.out.c1, Xo.out.c2⟩ ?_
  clear hK
  refine wpJ_on 10 rfl fun KJ hK => ?_
  go_simp
  refine (sum_ok VQ.out V2.out HM.out.2 ((B2.out.bd HJO.out.jq.jn).mono (by decide) (by decide)) (by decide) (TB.out.below hbw)).mono ?_
  rintro e9 w3 ⟨v, c, rfl, hv, hs, hbd, hb3⟩
  replace Xo : Hid _ := Xo.out.below hb3
  replace V0 : Hid (OpV w3 (.iface t0 x0) o0) := V0.out.below hb3
  replace V1 : Hid (OpV w3 (.iface t1 x1) o1) := V1.out.below hb3
  replace V2 : Hid (OpV w3 (.iface t2 x2) o2) := V2.out.below hb3
  replace VQ : Hid (OpV w3 (.iface tq xq) q) := VQ.out.below hb3
  replace hbw := Below.on hbw hb3
  clear hb3
  have VC : Hid (OpV w3 v c) := hv
  have HS : Hid (SumO q o2 c) := hs
  clear hv hs hbd
  clear HJ
  have HJ : Hid ((fun W' : World => W'.cell? ⟨go, 0, none⟩ = some (.iface t0 x0) ∧ W'.cell? ⟨go, 1, none⟩ = some (.iface t1 x1) ∧ W'.cell? ⟨go, 2, none⟩ = some (.iface t2 x2)) w3) := ⟨Xo.out.c0, Xo.out.c1, Xo.out.c2⟩
  refine hK _ _ HJ.out ?_
  clear hK
  have hvc := VC.out
  rcases hvc with ⟨rfl, rfl⟩ | ⟨s, rfl, rfl⟩ | ⟨s, rfl, rfl⟩ | ⟨s, pc, mc, cc, ec, xc, rfl, dc, nc, rfl⟩
  · have me := meth_pattern_nan
    clear VC
    refine wpJ_on 12 rfl fun KJ hK => ?_
    go_simp
    refine (pat_nan HJO.out.jq _).mono ?_
    rintro e v9 ⟨rfl, hb9⟩
    rw [← patO_nan l sd Be S I Q]
    obtain ⟨r, hr⟩ : ∃ r, r = patO l sd Be S I Q onan := ⟨_, rfl⟩
    rw [← hr]
    have HPR : Hid (patO l sd Be S I Q onan = r) := hr.symm
    clear hr
    replace Xo : Hid _ := Xo.out.below hb9
    replace V0 : Hid (OpV v9 (.iface t0 x0) o0) := V0.out.below hb9
    replace V1 : Hid (OpV v9 (.iface t1 x1) o1) := V1.out.below hb9
    replace V2 : Hid (OpV v9 (.iface t2 x2) o2) := V2.out.below hb9
    replace VQ : Hid (OpV v9 (.iface tq xq) q) := VQ.out.below hb9
    replace hbw := Below.on hbw hb9
    clear hb9
    clear HJ
    have HJ : Hid ((fun W' : World => W'.cell? ⟨go, 0, none⟩ = some (.iface t0 x0) ∧ W'.cell? ⟨go, 1, none⟩ = some (.iface t1 x1) ∧ W'.cell? ⟨go, 2, none⟩ = some (.iface t2 x2)) v9) := ⟨Xo.out.c0, Xo.out.c1, Xo.out.c2⟩
    refine hK _ _ HJ.out ?_
    clear hK
    refine wpJ_tq 13 rfl HJ.out ?_
    refine wpJ_tq 14 rfl HJ.out ?_
    refine wpJ_done (by kernel_rfl) ?_ _
    clear HJ
    go_wp2_with fail
    go_ret2
    exact ⟨o0, o1, o2, q, onan, by rw [HPR.out]; rfl, B0.out, B1.out, B2.out, HM.out.1, HS.out, hbw⟩
  · have me := meth_pattern_inf
    clear VC
    refine wpJ_on 12 rfl fun KJ hK => ?_
    go_simp
    refine (pat_inf HJO.out.jq s _).mono ?_
    rintro e v9 ⟨rfl, hb9⟩
    rw [← patO_inf l sd Be S I Q s]
    obtain ⟨r, hr⟩ : ∃ r, r = patO l sd Be S I Q (oinf s) := ⟨_, rfl⟩
    rw [← hr]
    have HPR : Hid (patO l sd Be S I Q (oinf s) = r) := hr.symm
    clear hr
    replace Xo : Hid _ := Xo.out.below hb9
    replace V0 : Hid (OpV v9 (.iface t0 x0) o0) := V0.out.below hb9
    replace V1 : Hid (OpV v9 (.iface t1 x1) o1) := V1.out.below hb9
    replace V2 : Hid (OpV v9 (.iface t2 x2) o2) := V2.out.below hb9
    replace VQ : Hid (OpV v9 (.iface tq xq) q) := VQ.out.below hb9
    replace hbw := Below.on hbw hb9
    clear hb9
    clear HJ
    have HJ : Hid ((fun W' : World => W'.cell? ⟨go, 0, none⟩ = some (.iface t0 x0) ∧ W'.cell? ⟨go, 1, none⟩ = some (.iface t1 x1) ∧ W'.cell? ⟨go, 2, none⟩ = some (.iface t2 x2)) v9) := ⟨Xo.out.c0, Xo.out.c1, Xo.out.c2⟩
    refine hK _ _ HJ.out ?_
    clear hK
    refine wpJ_tq 13 rfl HJ.out ?_
    refine wpJ_tq 14 rfl HJ.out ?_
    refine wpJ_done (by kernel_rfl) ?_ _
    clear HJ
    go_wp2_with fail
    go_ret2
    exact ⟨o0, o1, o2, q, (oinf s), by rw [HPR.out]; rfl, B0.out, B1.out, B2.out, HM.out.1, HS.out, hbw⟩
  · have me := meth_pattern_no
    clear VC
    refine wpJ_on 12 rfl fun KJ hK => ?_
    go_simp
    refine (pat_no HJO.out.jq s _).mono ?_
    rintro e v9 ⟨rfl, hb9⟩
    rw [Nat.add_zero, ← patO_no l sd Be S I Q s]
    obtain ⟨r, hr⟩ : ∃ r, r = patO l sd Be S I Q (ono s) := ⟨_, rfl⟩
    rw [← hr]
    have HPR : Hid (patO l sd Be S I Q (ono s) = r) := hr.symm
    clear hr
    replace Xo : Hid _ := Xo.out.below hb9
    replace V0 : Hid (OpV v9 (.iface t0 x0) o0) := V0.out.below hb9
    replace V1 : Hid (OpV v9 (.iface t1 x1) o1) := V1.out.below hb9
    replace V2 : Hid (OpV v9 (.iface t2 x2) o2) := V2.out.below hb9
    replace VQ : Hid (OpV v9 (.iface tq xq) q) := VQ.out.below hb9
    replace hbw := Below.on hbw hb9
    clear hb9
    clear HJ
    have HJ : Hid ((fun W' : World => W'.cell? ⟨go, 0, none⟩ = some (.iface t0 x0) ∧ W'.cell? ⟨go, 1, none⟩ = some (.iface t1 x1) ∧ W'.cell? ⟨go, 2, none⟩ = some (.iface t2 x2)) v9) := ⟨Xo.out.c0, Xo.out.c1, Xo.out.c2⟩
    refine hK _ _ HJ.out ?_
    clear hK
    refine wpJ_tq 13 rfl HJ.out ?_
    refine wpJ_tq 14 rfl HJ.out ?_
    refine wpJ_done (by kernel_rfl) ?_ _
    clear HJ
    go_wp2_with fail
    go_ret2
    exact ⟨o0, o1, o2, q, (ono s), by rw [HPR.out]; rfl, B0.out, B1.out, B2.out, HM.out.1, HS.out, hbw⟩
  · have me := meth_pattern_fin
    have DC : Hid (DN w3 s pc mc cc ec xc) := dc
    clear dc
    clear VC
    refine wpJ_on 12 rfl fun KJ hK => ?_
    go_simp
    refine (pat_fin HJO.out.jq (DC.out) (TB.out.below hbw)).mono ?_
    rintro e v9 ⟨rfl, hb9⟩
    rw [← patO_fin l sd Be S I Q xc ec]
    obtain ⟨r, hr⟩ : ∃ r, r = patO l sd Be S I Q (ofin xc ec) := ⟨_, rfl⟩
    rw [← hr]
    have HPR : Hid (patO l sd Be S I Q (ofin xc ec) = r) := hr.symm
    clear hr
    replace Xo : Hid _ := Xo.out.below hb9
    replace V0 : Hid (OpV v9 (.iface t0 x0) o0) := V0.out.below hb9
    replace V1 : Hid (OpV v9 (.iface t1 x1) o1) := V1.out.below hb9
    replace V2 : Hid (OpV v9 (.iface t2 x2) o2) := V2.out.below hb9
    replace VQ : Hid (OpV v9 (.iface tq xq) q) := VQ.out.below hb9
    replace hbw := Below.on hbw hb9
    clear hb9
    clear HJ
    have HJ : Hid ((fun W' : World => W'.cell? ⟨go, 0, none⟩ = some (.iface t0 x0) ∧ W'.cell? ⟨go, 1, none⟩ = some (.iface t1 x1) ∧ W'.cell? ⟨go, 2, none⟩ = some (.iface t2 x2)) v9) := ⟨Xo.out.c0, Xo.out.c1, Xo.out.c2⟩
    refine hK _ _ HJ.out ?_
    clear hK
    refine wpJ_tq 13 rfl HJ.out ?_
    refine wpJ_tq 14 rfl HJ.out ?_
    refine wpJ_done (by kernel_rfl) ?_ _
    clear HJ
    go_wp2_with fail
    go_ret2
    exact ⟨o0, o1, o2, q, (ofin xc ec), by rw [HPR.out]; rfl, B0.out, B1.out, B2.out, HM.out.1, HS.out, hbw⟩
structure Mk (H : Nat) (l : Int) (I : Nat) (g : Int → Int) (A V : Int) : Prop where
  lt : ∀ z, z < I → V < dv (hv H z : Int) (l - 1) → A < g (dv (hv H z : Int) (l - 1))
  gt : ∀ z, z < I → dv (hv H z : Int) (l - 1) < V → g (dv (hv H z : Int) (l - 1)) < A
  eq : ∀ z, z < I → V = dv (hv H z : Int) (l - 1) → A = g (dv (hv H z : Int) (l - 1))
def Rise (g : Int → Int) : Prop := ∀ a b, 0 ≤ a → a < b → g a < g b
theorem Rise.le {g : Int → Int} (h : Rise g) {a b : Int} (ha : 0 ≤ a) (hab : a ≤ b) : g a ≤ g b := by
  rcases Int.lt_or_eq_of_le hab with h1 | h1
  · exact Int.le_of_lt (h a b ha h1)
  · rw [h1]; exact Int.le_refl _
theorem Rise.of {g : Int → Int} (h : Rise g) {a b : Int} (hb : 0 ≤ b) (hg : g a ≤ g b) : a ≤ b := by
  refine Int.not_lt.1 fun h1 => ?_
  have := h b a hb h1
  omega
theorem rise_mul {B : Int} (h : 0 < B) : Rise fun t => B * t := fun _ _ _ hab => Int.mul_lt_mul_of_pos_left hab h
theorem rise_sq : Rise fun t => t * t := fun a b ha hab => by
  have h1 : a * a ≤ a * b := Int.mul_le_mul_of_nonneg_left (by omega) ha
  have h2 : a * b < b * b := Int.mul_lt_mul_of_pos_right hab (by omega)
  show a * a < b * b
  omega
theorem dv_nn (n : Nat) (e : Int) : 0 ≤ dv (n : Int) e := by
  have := dv_le e (show (0 : Int) ≤ (n : Int) by omega)
  rwa [dv_zero] at this
theorem Mk.low {H : Nat} {l : Int} {I : Nat} {g : Int → Int} {A V T : Int} {Z Y : Nat} (h : Mk H l I g A V) (hg : Rise g) (hZ : RNz H l I V Z) (hY : RNz H l I T Y) (_hT : 0 ≤ T) (hA : g T ≤ A) : Y ≤ Z := by
  refine Nat.le_of_not_lt fun hlt => ?_
  have hZI : Z < I := Nat.lt_of_lt_of_le hlt hY.le
  have h0 := dv_nn (hv H Z) (l - 1)
  have h1 : dv (hv H Z : Int) (l - 1) ≤ T := Int.not_lt.1 fun h2 => by have := hY.lo Z hZI h2; omega
  have h2 : V ≤ dv (hv H Z : Int) (l - 1) := Int.not_lt.1 fun h2 => by have := hZ.hi Z hZI h2; omega
  have h3 := hg.le h0 h1
  rcases Int.lt_or_eq_of_le h2 with h4 | h4
  · have := h.lt Z hZI h4; omega
  · have h5 := h.eq Z hZI h4
    have h6 : T ≤ dv (hv H Z : Int) (l - 1) := hg.of h0 (by omega)
    have h7 : V = T := by omega
    rw [h7] at hZ
    have := hZ.uniq hY
    omega
theorem Mk.high {H : Nat} {l : Int} {I : Nat} {g : Int → Int} {A V T : Int} {Z Y : Nat} (h : Mk H l I g A V) (hg : Rise g) (hZ : RNz H l I V Z) (hY : RNz H l I T Y) (hT : 0 ≤ T) (hA : A ≤ g T) : Z ≤ Y := by
  refine Nat.le_of_not_lt fun hlt => ?_
  have hYI : Y < I := Nat.lt_of_lt_of_le hlt hZ.le
  have h0 := dv_nn (hv H Y) (l - 1)
  have h1 : T ≤ dv (hv H Y : Int) (l - 1) := Int.not_lt.1 fun h2 => by have := hY.hi Y hYI h2; omega
  have h2 : dv (hv H Y : Int) (l - 1) ≤ V := Int.not_lt.1 fun h2 => by have := hZ.lo Y hYI h2; omega
  have h3 := hg.le hT h1
  rcases Int.lt_or_eq_of_le h2 with h4 | h4
  · have := h.gt Y hYI h4; omega
  · have h5 := h.eq Y hYI h4.symm
    have h6 : dv (hv H Y : Int) (l - 1) ≤ T := hg.of hT (by omega)
    have h7 : V = T := by omega
    rw [h7] at hZ
    have := hZ.uniq hY
    omega
theorem Mk.same {H : Nat} {l : Int} {I : Nat} {g : Int → Int} {A V T : Int} {Z Y : Nat} (h : Mk H l I g A V) (hg : Rise g) (hZ : RNz H l I V Z) (hY : RNz H l I T Y) (hT : 0 ≤ T) (hA : A = g T) : Z = Y :=
  Nat.le_antisymm (h.high hg hZ hY hT (by omega)) (h.low hg hZ hY hT (by omega))
theorem Mk.cell {H : Nat} {l : Int} {I : Nat} {g : Int → Int} {A V : Int} {Z : Nat} (h : Mk H l I g A V) (hZ : RNz H l I V Z) (h0 : Z ≠ 0) (h1 : Z < I) :
    g (dv (hv H (Z - 1) : Int) (l - 1)) ≤ A ∧ A ≤ g (dv (hv H Z : Int) (l - 1)) ∧ (Z % 2 = 1 → g (dv (hv H (Z - 1) : Int) (l - 1)) < A ∧ A < g (dv (hv H Z : Int) (l - 1))) := by
  obtain ⟨c1, c2, c3⟩ := hZ.cell h0 h1
  refine ⟨?_, ?_, fun ho => ⟨h.gt _ (by omega) (c3 ho).1, h.lt _ h1 (c3 ho).2⟩⟩
  · rcases Int.lt_or_eq_of_le c1 with h2 | h2
    · exact Int.le_of_lt (h.gt _ (by omega) h2)
    · have := h.eq _ (by omega) h2.symm; omega
  · rcases Int.lt_or_eq_of_le c2 with h2 | h2
    · exact Int.le_of_lt (h.lt _ h1 h2)
    · have := h.eq _ h1 h2; omega
theorem dv_exp_le {k : Nat} {a b : Int} (h : a ≤ b) (ha : -4194304 ≤ a) : dv (k : Int) a ≤ dv (k : Int) b := by
  obtain ⟨j, hj⟩ : ∃ j : Nat, b = a + j := ⟨(b - a).toNat, by omega⟩
  rw [hj, dv_up j ha]
  apply dv_le
  have h1 : 1 ≤ 2 ^ j := Nat.pow_pos (by omega)
  have h2 : k * 1 ≤ k * 2 ^ j := Nat.mul_le_mul_left k h1
  rw [← Int.natCast_mul]
  omega
theorem mk_of {H : Nat} {l : Int} {I : Nat} {g : Int → Int} (hg : Rise g) (hH : 0 < H) (hl : -4194303 ≤ l) {A e : Int} {F k : Nat} (he : -4194304 ≤ e) (hF : 2 * H ≤ F) (hk : k = 0 ∧ A = g (dv ((2 * F : Nat) : Int) e) ∨ k = 1 ∧ g (dv ((2 * F : Nat) : Int) e) < A ∧ A < g (dv ((2 * F + 2 : Nat) : Int) e)) :
    Mk H l I g A (dv ((2 * F + k : Nat) : Int) e) := by
  have hFA : g (dv ((2 * F : Nat) : Int) e) ≤ A := by rcases hk with ⟨_, h⟩ | ⟨_, h, _⟩ <;> omega
  have hFV : dv ((2 * F : Nat) : Int) e ≤ dv ((2 * F + k : Nat) : Int) e := dv_le e (by omega)
  have hk2 : k < 2 := by rcases hk with ⟨h, _⟩ | ⟨h, _, _⟩ <;> omega
  have hVU : dv ((2 * F + k : Nat) : Int) e < dv ((2 * F + 2 : Nat) : Int) e := dv_lt e (by omega)
  have hF0 := dv_nn (2 * F) e
  have hAU : A < g (dv ((2 * F + 2 : Nat) : Int) e) := by
    rcases hk with ⟨_, h⟩ | ⟨_, _, h⟩
    · rw [h]; exact hg _ _ hF0 (Int.lt_of_le_of_lt hFV hVU)
    · exact h
  -- the point half way is below the floor, or a whole number of units
  have key : ∀ z, (dv (hv H z : Int) (l - 1) < dv ((2 * F : Nat) : Int) e) ∨ ∃ c : Nat, dv (hv H z : Int) (l - 1) = dv ((2 * c : Nat) : Int) e := fun z => by
    rw [← mid_dv z hl]
    obtain ⟨q, hq⟩ : ∃ q, q = z / H - 1 := ⟨_, rfl⟩
    rw [← hq]
    have hmn : z - q * H < 2 * H := by
      have e1 := Nat.div_add_mod z H
      have e2 := Nat.mod_lt z hH
      rw [Nat.mul_comm] at e1
      by_cases e3 : z / H = 0
      · rw [e3] at e1; omega
      · rw [hq, Nat.sub_mul]; omega
    rcases Int.lt_or_le e (l + (q : Int) - 1) with h1 | h1
    · right
      obtain ⟨j, hj⟩ : ∃ j : Nat, l + (q : Int) - 1 = e + ((j + 1 : Nat) : Int) := ⟨(l + (q : Int) - 1 - e - 1).toNat, by omega⟩
      refine ⟨(2 * (z - q * H) + 1) * 2 ^ j, ?_⟩
      rw [hj, dv_up (j + 1) he, ← Int.natCast_mul]
      congr 2
      rw [Nat.pow_succ, Nat.mul_comm 2 ((2 * (z - q * H) + 1) * 2 ^ j), Nat.mul_assoc]
    · left
      refine Int.lt_of_le_of_lt (dv_exp_le h1 (by omega)) (dv_lt e ?_)
      omega
  have up : ∀ c : Nat, F < c → dv ((2 * F + 2 : Nat) : Int) e ≤ dv ((2 * c : Nat) : Int) e := fun c h => dv_le e (by omega)
  have dn : ∀ c : Nat, c < F → dv ((2 * c : Nat) : Int) e < dv ((2 * F : Nat) : Int) e := fun c h => dv_lt e (by omega)
  refine ⟨fun z hz hlt => ?_, fun z hz hgt => ?_, fun z hz heq => ?_⟩
  · rcases key z with h1 | ⟨c, h1⟩
    · omega
    · rw [h1] at hlt ⊢
      rcases Nat.lt_trichotomy c F with h2 | h2 | h2
      · have := dn c h2; omega
      · rw [h2] at hlt; omega
      · exact Int.lt_of_lt_of_le hAU (hg.le (dv_nn _ _) (up c h2))
  · rcases key z with h1 | ⟨c, h1⟩
    · exact Int.lt_of_lt_of_le (hg _ _ (dv_nn _ _) h1) hFA
    · rw [h1] at hgt ⊢
      rcases Nat.lt_trichotomy c F with h2 | h2 | h2
      · exact Int.lt_of_lt_of_le (hg _ _ (dv_nn _ _) (dn c h2)) hFA
      · rcases hk with ⟨h3, _⟩ | ⟨_, h3, _⟩
        · rw [h2, h3] at hgt; exact absurd hgt (Int.lt_irrefl _)
        · rw [h2]; exact h3
      · have := up c h2; omega
  · rcases key z with h1 | ⟨c, h1⟩
    · omega
    · rw [h1] at heq ⊢
      rcases Nat.lt_trichotomy c F with h2 | h2 | h2
      · have := dn c h2; omega
      · rcases hk with ⟨_, h3⟩ | ⟨h3, _, _⟩
        · rw [h2]; exact h3
        · rw [h2, h3] at heq
          have := dv_lt e (show ((2 * F : Nat) : Int) < ((2 * F + 1 : Nat) : Int) by omega)
          omega
      · have := up c h2; omega
theorem mk_quo {H : Nat} {l : Int} {I : Nat} (hH : 0 < H) (hl : -4194303 ≤ l) {e d : Int} {x y k F r m : Nat} (hd : d = e - (k : Int) - 1) (he : -4194304 ≤ d) (hF : 2 * H ≤ F) (hq : x * 2 ^ k = F * y + r) (hr : r < y) (hm : m = 2 * F + (if r = 0 then 0 else 1)) :
    Mk H l I (fun t => (y : Int) * t) (dv (x : Int) e) (dv (m : Int) d) := by
  have e1 : ∀ n : Nat, (y : Int) * dv (n : Int) d = dv ((n * y : Nat) : Int) d := fun n => by
    unfold dv
    rw [Int.natCast_mul, ← Int.mul_assoc, Int.mul_comm (y : Int)]
  have e2 : dv (x : Int) e = dv ((2 * (F * y + r) : Nat) : Int) d := by
    have h1 := dv_up (x := (x : Int)) (e := d) (k + 1) he
    rw [show d + ((k + 1 : Nat) : Int) = e from by omega] at h1
    rw [h1, ← Int.natCast_mul, ← hq]
    congr 2
    rw [Nat.pow_succ, ← Nat.mul_assoc, Nat.mul_comm]
  rw [hm]
  refine mk_of (rise_mul (by omega)) hH hl he hF ?_
  rw [e2, e1, e1]
  by_cases h0 : r = 0
  · left
    rw [if_pos h0]
    refine ⟨rfl, ?_⟩
    congr 2
    rw [h0, Nat.mul_assoc]; omega
  · right
    rw [if_neg h0]
    have h2 : 2 * F * y = 2 * (F * y) := Nat.mul_assoc _ _ _
    have h3 : (2 * F + 2) * y = 2 * (F * y) + 2 * y := by rw [Nat.add_mul, h2]
    exact ⟨rfl, dv_lt d (by omega), dv_lt d (by omega)⟩
theorem mk_root {H : Nat} {l : Int} {I : Nat} (hH : 0 < H) (hl : -4194303 ≤ l) {e d : Int} {x k F r m : Nat} (hd : 2 * (d + 1) = e - (k : Int)) (he : -4194304 ≤ d) (hF : 2 * H ≤ F) (hq : x * 2 ^ k = F * F + r) (hr : r ≤ 2 * F) (hm : m = 2 * F + (if r = 0 then 0 else 1)) :
    Mk H l I (fun t => t * t) ((x : Int) * ((2 ^ (e + 2 * 4194304).toNat : Nat) : Int)) (dv (m : Int) d) := by
  obtain ⟨P, hP⟩ : ∃ P, P = (d + 4194304).toNat := ⟨_, rfl⟩
  obtain ⟨W, hW⟩ : ∃ W : Nat, W = 2 ^ P := ⟨_, rfl⟩
  have hWp : 0 < W := by rw [hW]; exact Nat.pow_pos (by omega)
  have e1 : ∀ n : Nat, dv (n : Int) d * dv (n : Int) d = ((n * n * (W * W) : Nat) : Int) := fun n => by
    unfold dv
    rw [← hP, ← hW, ← Int.natCast_mul, ← Int.natCast_mul]
    congr 1
    rw [Nat.mul_mul_mul_comm]
  have e2 : (x : Int) * ((2 ^ (e + 2 * 4194304).toNat : Nat) : Int) = ((4 * (F * F + r) * (W * W) : Nat) : Int) := by
    rw [← Int.natCast_mul, ← hq, show (e + 2 * 4194304).toNat = k + (2 + (P + P)) from by omega, hW]
    congr 1
    rw [Nat.pow_add 2 k, Nat.pow_add 2 2, Nat.pow_add 2 P P]
    have : (2 : Nat) ^ 2 = 4 := rfl
    rw [this, Nat.mul_comm 4 (x * 2 ^ k), Nat.mul_assoc, Nat.mul_assoc]
  rw [hm]
  refine mk_of rise_sq hH hl he hF ?_
  show _ ∧ _ = dv _ d * dv _ d ∨ _ ∧ dv _ d * dv _ d < _ ∧ _ < dv _ d * dv _ d
  rw [e2, e1, e1]
  have hWW : 0 < W * W := Nat.mul_pos hWp hWp
  have h2 : 2 * F * (2 * F) = 4 * (F * F) := by rw [Nat.mul_mul_mul_comm]
  have h3 : (2 * F + 2) * (2 * F + 2) = 4 * (F * F) + 8 * F + 4 := by rw [Nat.add_mul, Nat.mul_add, h2]; omega
  by_cases h0 : r = 0
  · left
    rw [if_pos h0, h2, h0]
    exact ⟨rfl, rfl⟩
  · right
    rw [if_neg h0, h2, h3]
    exact ⟨rfl, Int.ofNat_lt.2 (Nat.mul_lt_mul_of_pos_right (by omega) hWW), Int.ofNat_lt.2 (Nat.mul_lt_mul_of_pos_right (by omega) hWW)⟩
theorem newton_ge {x s r : Nat} (_hs : 0 < s) (hr : r * r ≤ x) : r ≤ (s + x / s) / 2 := by
  rw [Nat.le_div_iff_mul_le (by decide)]
  by_cases h : 2 * r ≤ s
  · have h3 : 0 ≤ x / s := Nat.zero_le _
    generalize x / s = e at *
    omega
  · have h1 : (2 * r - s) * s ≤ x := by
      refine Nat.le_trans ?_ hr
      obtain ⟨t, ht⟩ : ∃ t, 2 * r = s + t := ⟨2 * r - s, by omega⟩
      rw [ht, Nat.add_sub_cancel_left]
      rcases Nat.le_total s r with hsr | hsr
      · obtain ⟨u, hu⟩ : ∃ u, r = s + u := ⟨r - s, by omega⟩
        subst hu
        obtain rfl : t = s + 2 * u := by omega
        rw [Nat.add_mul, Nat.mul_add, Nat.add_mul, Nat.add_mul s u u]
        have : 2 * u * s = s * u + u * s := by rw [Nat.mul_comm s u, Nat.mul_assoc]; omega
        omega
      · obtain ⟨u, hu⟩ : ∃ u, s = r + u := ⟨s - r, by omega⟩
        subst hu
        obtain ⟨t', ht'⟩ : ∃ t', r = t' + u := ⟨r - u, by omega⟩
        subst ht'
        obtain rfl : t = t' := by omega
        have e : t * (t + u + u) + u * u = (t + u) * (t + u) := by rw [Nat.mul_add, Nat.mul_add, Nat.add_mul, Nat.mul_add, Nat.mul_add, Nat.mul_comm u t]; omega
        omega
    have h2 : 2 * r - s ≤ x / s := (Nat.le_div_iff_mul_le _hs).2 h1
    generalize x / s = e at *
    omega
structure NewR (x s : Nat) : Prop where
  pos : 0 < s
  le : s ≤ 4294967296
  lt : x < (s + 1) * (s + 1)
theorem NewR.step {x s : Nat} (h : NewR x s) (h0 : x ≠ 0) (hlt : (s + x / s) / 2 < s) : NewR x ((s + x / s) / 2) := by
  have h1 := h.le
  have hx : x < ((s + x / s) / 2 + 1) * ((s + x / s) / 2 + 1) := by
    rcases Nat.lt_or_ge x (((s + x / s) / 2 + 1) * ((s + x / s) / 2 + 1)) with e | e
    · exact e
    · have := newton_ge h.pos e; omega
  refine ⟨?_, by omega, hx⟩
  rcases Nat.eq_zero_or_pos ((s + x / s) / 2) with e | e
  · rw [e] at hx; omega
  · exact e
theorem NewR.done {x s : Nat} (h : NewR x s) (hge : s ≤ (s + x / s) / 2) : s * s ≤ x ∧ x ≤ s * s + 2 * s := by
  have h1 : s ≤ x / s := by omega
  have h2 := (Nat.le_div_iff_mul_le h.pos).1 h1
  have h3 := h.lt
  rw [Nat.add_mul, Nat.mul_add] at h3
  exact ⟨h2, by omega⟩
theorem NewR.start {x k L : Nat} (hL : L = bitsN x) (hk : k = (L + 1) / 2) (hb : L ≤ 64) : NewR x (2 ^ k) := by
  refine ⟨Nat.two_pow_pos k, ?_, ?_⟩
  · exact Nat.le_trans (Nat.pow_le_pow_right (by decide) (show k ≤ 32 by omega)) (by decide)
  · have h1 := bitsN_lt x
    rw [← hL] at h1
    have h2 : (2:Nat) ^ L ≤ 2 ^ (k + k) := Nat.pow_le_pow_right (by decide) (by omega)
    rw [Nat.pow_add] at h2
    rw [Nat.add_mul, Nat.mul_add]; omega

theorem newton_words {x s : Nat} (h : NewR x s) (hxb : x < B64) : ∃ q t n2 : Nat, IntKind.u64.wrap ((x : Int) / (s : Int)) = (q : Int) ∧ IntKind.u64.wrap ((s : Int) + (q : Int)) = (t : Int) ∧ (t : Int).tdiv 2 = (n2 : Int) ∧ IntKind.u64.wrap (n2 : Int) = (n2 : Int) ∧ n2 = (s + x / s) / 2 ∧ n2 < B64 := by
  have h1 := h.lt; have h2 := h.le; have h3 := h.pos
  have hq : x / s ≤ s + 2 := by
    refine Nat.lt_succ_iff.1 (Nat.div_lt_of_lt_mul ?_)
    rw [Nat.mul_succ, Nat.mul_add]
    rw [Nat.add_mul, Nat.mul_add] at h1
    omega
  rw [B64_eq] at *
  refine ⟨x / s, s + x / s, (s + x / s) / 2, u_quo x s (by rw [B64_eq]; exact hxb), ?_, ?_, ?_, rfl, ?_⟩ <;> generalize x / s = e at *
  · exact wrap_mod _ _ (by omega)
  · rw [Int.tdiv_eq_ediv_of_nonneg (by omega)]; omega
  · exact wrap_mod _ _ (by omega)
  · omega

structure RootTo (w : World) (a : Nat) (v1 v2 : Value) (w' : World) : Prop where
  val : ∃ s p m zs p' m' zs', s * s ≤ a ∧ a ≤ s * s + 2 * s ∧ v1 = .slice p m m ∧ Own w.heap.size w' p m zs ∧ Nf B64 zs s ∧ m ≤ 8192 ∧ v2 = .slice p' m' m' ∧ Own w.heap.size w' p' m' zs' ∧ Nf B64 zs' (a - s * s) ∧ m' ≤ 8192
  bel : Below w.heap.size w w'
  ap : Ap2 v1 v2

theorem wordroot_any {g off c x : Nat} {w : World} (h : At w (some ⟨g, off, none⟩) 1 c [x]) (h0 : x ≠ 0) :
    Calls Tryz.prog 148 #[.slice (some ⟨g, off, none⟩) 1 c] w fun e w' => ∃ v1 v2, e = .returned (.tuple #[v1, v2]) ∧ RootTo w x v1 v2 w' := by
  have hxb : x < B64 := h.dig.head
  have hcx : w.cell? ⟨g, off, none⟩ = some (U x) := h.cellAt 0 (by omega)
  have cap := h.cap
  obtain ⟨L, hL⟩ : ∃ L, L = bitsN x := ⟨_, rfl⟩
  have hLb : L ≤ 64 := by rw [hL]; exact bits64 hxb
  obtain ⟨k, hk⟩ : ∃ k, k = (L + 1) / 2 := ⟨_, rfl⟩
  have HN : Hid (NewR x (2 ^ k)) := NewR.start hL hk hLb
  have hkt : ((L : Int) + 1).tdiv 2 = (k : Int) := by rw [Int.tdiv_eq_ediv_of_nonneg (by omega)]; omega
  have hk32 : k ≤ 32 := by omega
  have HL : Hid (L = bitsN x) := hL
  clear hL hk
  obtain ⟨s0, hs0⟩ : ∃ s0, s0 = 2 ^ k := ⟨_, rfl⟩
  have HN0 : Hid (NewR x s0) := by rw [hs0]; exact HN.out
  have hw0 : IntKind.u64.wrap (2 ^ k) = (s0 : Int) := by
    rw [int_pow, ← hs0]
    have h1 := HN0.out.le
    exact wrap_mod _ _ (by omega)
  have hp0 : ¬ (s0 : Int) = 0 := by have := HN0.out.pos; omega
  obtain ⟨q0, t0, n0, e1, e2, e3, e4, e5, e6⟩ := newton_words HN0.out hxb
  have HE5 : Hid (n0 = (s0 + x / s0) / 2) := e5
  clear hs0 HN e5
  go_enter Tryz.func148, Tryz.ntmps148
  go_wp2_with fail
  refine (len_any x w hxb).mono ?_
  rintro e w' ⟨rfl, hw⟩
  obtain rfl := hw.symm
  clear hw
  rw [← HL.out]
  go_wp2_with fail
  clear hw0 hp0 e1 e2 e3 e4
  go_loopg [5, 6] s0 (fun gk sv nv wr => sv = U gk ∧ ∃ n2 : Nat, nv = U n2 ∧ Hid (n2 = (gk + x / gk) / 2) ∧ Hid (NewR x gk) ∧ wr = w)
  case atStart => exact ⟨rfl, n0, rfl, HE5, HN0, rfl⟩
  case round =>
    obtain ⟨rfl, n2, rfl, HE, HR, hwr⟩ := hrel
    obtain rfl := hwr.symm
    clear hwr
    by_cases hlt : n2 < gk
    · have HR2 : Hid (NewR x n2) := by rw [HE.out]; exact HR.out.step h0 (by rw [← HE.out]; exact hlt)
      obtain ⟨q2, t2, n3, f1, f2, f3, f4, f5, f6⟩ := newton_words HR2.out hxb
      have HF5 : Hid (n3 = (n2 + x / n2) / 2) := f5
      have hp2 : ¬ (n2 : Int) = 0 := by have := HR2.out.pos; omega
      have hlt' : (n2 : Int) < (gk : Int) := by omega
      clear f5
      go_wp2_with fail
      go_roundg n2
      case measure => omega
      case rel => exact ⟨rfl, n3, rfl, HF5, HR2, rfl⟩
    · have hlt' : ¬ (n2 : Int) < (gk : Int) := by omega
      have hd := HR.out.done (by rw [← HE.out]; omega)
      have HD : Hid (gk * gk ≤ x ∧ x ≤ gk * gk + 2 * gk) := hd
      have hgb := HR.out.le
      obtain ⟨sq, hsq⟩ : ∃ sq, sq = gk * gk := ⟨_, rfl⟩
      have g1 : IntKind.u64.wrap ((gk : Int) * (gk : Int)) = (sq : Int) := by
        have e : ((gk : Int) * (gk : Int)) = ((gk * gk : Nat) : Int) := by simp
        rw [e, ← hsq]
        refine wrap_mod _ _ ?_
        rw [B64_eq] at hxb
        omega
      obtain ⟨re, hre⟩ : ∃ re, re = x - sq := ⟨_, rfl⟩
      have g2 : IntKind.u64.wrap ((x : Int) - (sq : Int)) = (re : Int) := wrap_mod _ _ (by rw [B64_eq] at hxb; omega)
      have hreb : re < B64 := by omega
      have HRE : Hid (re = x - gk * gk) := by rw [← hsq]; exact hre
      have hgk : gk < B64 := by rw [B64_eq]; omega
      clear hd hsq hre hlt
      go_wp2_with fail
      refine (word_any gk w hgk).mono ?_
      rintro e w1 ⟨p1, m1, z1, rfl, ho1, hn1, hm1, hb1⟩
      have N1 : Hid (Nf B64 z1 gk) := hn1
      clear hn1
      go_wp2_with fail
      refine (word_any re w1 hreb).mono ?_
      rintro e w2 ⟨p2, m2, z2, rfl, ho2, hn2, hm2, hb2⟩
      have N2 : Hid (Nf B64 z2 re) := hn2
      clear hn2
      go_wp2_with fail
      go_ret2
      refine ⟨_, _, rfl, ⟨gk, p1, m1, z1, p2, m2, z2, HD.out.1, HD.out.2, rfl, ho1.below hb2, N1.out, by omega, rfl, ho2.mono hb1.size, ?_, by omega⟩, Below.on hb1 hb2, ap_own ho1 ho2⟩
      rw [← HRE.out]; exact N2.out
end Go.Proofs.YtmhkabomabkkfaaGreatDoor
namespace Go.Proofs.YtmhkabomabkkfaaGreatDoor
set_option maxRecDepth 20000
set_option maxHeartbeats 0
structure RootC (a h P d o last : Nat) : Prop where
  id : a + d * d = (P * h + d) * (P * h + d) + (P * o + last)
  dP : d ≤ P
  big : (P * h) * (P * h) ≤ a
  lf : P * o + last < 2 * (P * h)
  dd : d * d ≤ 2 * (P * h)
  hh : 6 ≤ h
  pp : 1 ≤ P
theorem root_core {a h l P next last d o : Nat} (ha : a = (h * h + l) * (P * P) + (P * next + last)) (hl : l ≤ 2 * h) (hn : next < P) (hla : last < P) (hd : P * l + next = d * (2 * h) + o) (ho : o < 2 * h) (hP : P ≤ 2 * h) (h6 : 6 ≤ h) : RootC a h P d o last := by
  have hdP : d ≤ P := by
    have h1 : d * (2 * h) < (P + 1) * (2 * h) := by
      have h2 : P * l ≤ P * (2 * h) := Nat.mul_le_mul_left _ hl
      rw [Nat.add_mul, Nat.one_mul]; omega
    have := Nat.lt_of_mul_lt_mul_right h1
    omega
  have hid : a + d * d = (P * h + d) * (P * h + d) + (P * o + last) := by
    have h1 : P * (P * l + next) = P * (d * (2 * h) + o) := by rw [hd]
    rw [Nat.mul_add, Nat.mul_add] at h1
    have h2 : (h * h + l) * (P * P) = (P * h) * (P * h) + P * (P * l) := by
      rw [Nat.add_mul]
      have e1 : h * h * (P * P) = P * h * (P * h) := by rw [Nat.mul_mul_mul_comm, Nat.mul_comm h P]
      have e2 : l * (P * P) = P * (P * l) := by rw [Nat.mul_comm, Nat.mul_assoc]
      omega
    have h3 : (P * h + d) * (P * h + d) = (P * h) * (P * h) + P * (d * (2 * h)) + d * d := by
      have e1 : P * (d * (2 * h)) = P * h * d + d * (P * h) := by
        rw [Nat.mul_comm 2 h, ← Nat.mul_assoc d h 2, ← Nat.mul_assoc P (d * h) 2, Nat.mul_comm d (P * h), Nat.mul_comm d h, ← Nat.mul_assoc P h d]; omega
      rw [Nat.add_mul, Nat.mul_add, Nat.mul_add]; omega
    omega
  refine ⟨hid, hdP, ?_, ?_, ?_, h6, by omega⟩
  · have e1 : h * h * (P * P) = P * h * (P * h) := by rw [Nat.mul_mul_mul_comm, Nat.mul_comm h P]
    rw [ha, Nat.add_mul]; omega
  · have h1 : P * (o + 1) ≤ P * (2 * h) := Nat.mul_le_mul_left _ ho
    rw [Nat.mul_add, Nat.mul_one, Nat.mul_left_comm] at h1
    omega
  · have h1 : d * d ≤ P * P := Nat.mul_le_mul hdP hdP
    have h2 : P * P ≤ P * (2 * h) := Nat.mul_le_mul_left _ hP
    rw [Nat.mul_left_comm] at h2
    omega
theorem RootC.le {a h P d o last : Nat} (c : RootC a h P d o last) : 6 * (P * h) ≤ a ∧ P ≤ P * h ∧ h ≤ P * h := by
  have h1 : P * 6 ≤ P * h := Nat.mul_le_mul_left _ c.hh
  have h2 : 1 * h ≤ P * h := Nat.mul_le_mul_right _ c.pp
  have h3 : 6 * (P * h) ≤ (P * h) * (P * h) := Nat.mul_le_mul_right _ (by have := c.pp; omega)
  have := c.big
  exact ⟨by omega, by omega, by omega⟩
theorem RootC.fin {a h P d o last : Nat} (c : RootC a h P d o last) :
    (P * o + last < d * d → 1 ≤ P * h + d ∧ d * d ≤ P * o + last + 2 * (P * h + d) - 1) ∧
    (let S := if P * o + last < d * d then P * h + d - 1 else P * h + d
     let T := if P * o + last < d * d then P * o + last + 2 * (P * h + d) - 1 - d * d else P * o + last - d * d
     S * S ≤ a ∧ a ≤ S * S + 2 * S ∧ T = a - S * S) := by
  have h1 := c.id; have h2 := c.lf; have h3 := c.dd
  have hl := c.le
  refine ⟨fun hlt => ?_, ?_⟩
  · have hd1 : 1 ≤ d := by
      rcases Nat.eq_zero_or_pos d with e | e
      · subst e; simp at hlt
      · exact e
    exact ⟨by omega, by omega⟩
  · by_cases hlt : P * o + last < d * d
    · have hd1 : 1 ≤ d := by
        rcases Nat.eq_zero_or_pos d with e | e
        · subst e; simp at hlt
        · exact e
      simp only [if_pos hlt]
      generalize P * o + last = lf at *
      obtain ⟨S, hS⟩ : ∃ S, P * h + d = S + 1 := ⟨P * h + d - 1, by omega⟩
      rw [hS] at h1 ⊢
      have e1 : (S + 1) * (S + 1) = S * S + 2 * S + 1 := by rw [Nat.add_mul, Nat.mul_add]; omega
      rw [Nat.add_sub_cancel]
      rw [e1] at h1
      have h4 : d * d ≤ 2 * (S + 1) := by omega
      generalize d * d = dd at *
      generalize S * S = ss at *
      exact ⟨by omega, by omega, by omega⟩
    · simp only [if_neg hlt]
      generalize P * o + last = lf at *
      have h4 : lf ≤ 2 * (P * h + d) := by omega
      generalize P * h + d = S at *
      generalize d * d = dd at *
      generalize S * S = ss at *
      exact ⟨by omega, by omega, by omega⟩
theorem half_big {a n k h : Nat} (hn : n = bitsN a) (hk : k = n / 4) (hn65 : 65 ≤ n) (hh : a / 2 ^ (2 * k) ≤ h * h + 2 * h) : 2 ^ k ≤ 2 * h ∧ 6 ≤ h := by
  have ha : a ≠ 0 := by intro e; subst e; rw [bitsN_zero] at hn; omega
  have h1 := bitsN_le a ha
  rw [← hn] at h1
  have h2 : 2 ^ (2 * k - 1) ≤ a / 2 ^ (2 * k) := by
    rw [Nat.le_div_iff_mul_le (Nat.two_pow_pos _), ← Nat.pow_add]
    exact Nat.le_trans (Nat.pow_le_pow_right (by decide) (by omega)) h1
  have h3 : 2 ^ (k - 1) ≤ h := by
    rcases Nat.lt_or_ge h (2 ^ (k - 1)) with e | e
    · exfalso
      have e1 : (h + 1) * (h + 1) ≤ 2 ^ (k - 1) * 2 ^ (k - 1) := Nat.mul_le_mul e e
      rw [← Nat.pow_add] at e1
      have e2 : (2:Nat) ^ (k - 1 + (k - 1)) ≤ 2 ^ (2 * k - 1) := Nat.pow_le_pow_right (by decide) (by omega)
      have e3 : (h + 1) * (h + 1) = h * h + 2 * h + 1 := by rw [Nat.add_mul, Nat.mul_add]; omega
      omega
    · exact e
  have h4 : (2:Nat) ^ 3 ≤ 2 ^ (k - 1) := Nat.pow_le_pow_right (by decide) (by omega)
  have h5 : (2:Nat) ^ k = 2 * 2 ^ (k - 1) := by rw [← Nat.pow_succ', show (k - 1).succ = k by omega]
  exact ⟨by omega, by omega⟩
theorem split_low (a k : Nat) : a = a / 2 ^ (2 * k) * (2 ^ k * 2 ^ k) + (2 ^ k * (a % 2 ^ (2 * k) / 2 ^ k) + a % 2 ^ (2 * k) % 2 ^ k) := by
  have h1 := Nat.div_add_mod a (2 ^ (2 * k))
  have h2 := Nat.div_add_mod (a % 2 ^ (2 * k)) (2 ^ k)
  rw [h2, ← Nat.pow_add, show k + k = 2 * k by omega, Nat.mul_comm]; omega
end Go.Proofs.YtmhkabomabkkfaaGreatDoor
