import Derived.Test.YtmhkabomabkkfaaGreatDoorJ17
import Derived.Test.YtmhkabomabkkfaaGreatDoorJ12
import Derived.Test.YtmhkabomabkkfaaGreatDoorJ14
namespace Go.Proofs.YtmhkabomabkkfaaGreatDoor
open Go.RowKit Go.Shelf
set_option maxRecDepth 20000
set_option maxHeartbeats 0
theorem OpB.fin {S I H : Nat} {l : Int} {b : Nat} {o : Opd} (h : OpB S I H l b o) (h0 : b % S ≠ 0) (h1 : b % S < I) : ∃ x e, VF S H l b x e ∧ x ≠ 0 ∧ o = ofin x e := by
  rcases h with ⟨h2, _⟩ | ⟨h2, _⟩ | ⟨h2, _⟩ | ⟨_, _, h2⟩
  · omega
  · omega
  · omega
  · exact h2
theorem OpV.fin {w : World} {v : Value} {x e : Int} (h : OpV w v (ofin x e)) : ∃ s p m c, v = VFin s p m c e ∧ DN w s p m c e x := by
  rcases h with ⟨_, h2⟩ | ⟨s, _, h2⟩ | ⟨s, _, h2⟩ | ⟨s, p, m, c, e', x', h1, h2, _, h4⟩
  · exact by cases congrArg Opd.k h2
  · exact by cases congrArg Opd.k h2
  · exact by cases congrArg Opd.k h2
  · have e1 : x = x' := congrArg Opd.x h4
    have e2 : e = e' := congrArg Opd.e h4
    rw [e1, e2]; exact ⟨s, p, m, c, h1, h2⟩
theorem soft_div_ff {f p m l : Int} {S I H sd : Nat} {Be : Int} {Q : Nat} (J : Jo f p m l S I H sd Be Q) (hmd : m = (sd : Int) + 1) {a b : Nat} (ha : a < 2 * S ∧ a % S ≠ 0 ∧ a % S < I) (hb : b < 2 * S ∧ b % S ≠ 0 ∧ b % S < I) (w : World) (hT : Tab w) :
    Calls Tryz.prog 12 #[.int .i64 f, U a, U b] w fun en w' => ∃ x e y g r Z V, en = .returned (.tuple #[U r, .int .i64 0]) ∧ VF S H l a x e ∧ VF S H l b y g ∧ SgB S (decide (x < 0)) (decide (y < 0)) r Z ∧ RNz H l I V Z ∧ Mk H l I (fun τ => (y.natAbs : Int) * τ) (dv (x.natAbs : Int) (e - g)) V ∧ Below w.heap.size w w' := by
  have HJO : Hid (Jo f p m l S I H sd Be Q ∧ m = (sd : Int) + 1) := ⟨J, hmd⟩
  have HA : Hid (a < 2 * S ∧ a % S ≠ 0 ∧ a % S < I) := ha
  have HB : Hid (b < 2 * S ∧ b % S ≠ 0 ∧ b % S < I) := hb
  have TB : Hid (Tab w) := hT
  clear J hmd ha hb hT
  go_enter Tryz.func12, Tryz.ntmps12
  go_wp2_with fail
  have hb0 := below1 w (.cells #[U a, U b] 22)
  refine (operands2 HJO.out.1 HA.out.1 HB.out.1 ⟨by go_simp, by go_simp⟩ (TB.out.below hb0)).mono ?_
  rintro e9 v1 ⟨go, va, vb, oa, ob, rfl, hgo, hx, hva, hvb, hoa, hob, hb1⟩
  have hbw := Below.on hb0 hb1
  obtain ⟨x, e, hv1, hx0, rfl⟩ := hoa.fin HA.out.2.1 HA.out.2.2
  obtain ⟨y, g, hv2, hy0, rfl⟩ := hob.fin HB.out.2.1 HB.out.2.2
  obtain ⟨s1, p1, m1, c1, rfl, hd1⟩ := hva.fin
  obtain ⟨s2, p2, m2, c2, rfl, hd2⟩ := hvb.fin
  have Xo : Hid (Box v1 go (VFin s1 p1 m1 c1 e) (VFin s2 p2 m2 c2 g)) := hx
  have HV : Hid (VF S H l a x e ∧ VF S H l b y g ∧ x ≠ 0 ∧ y ≠ 0) := ⟨hv1, hv2, hx0, hy0⟩
  have D1 : Hid (DN v1 s1 p1 m1 c1 e x) := hd1
  have D2 : Hid (DN v1 s2 p2 m2 c2 g y) := hd2
  clear hb0 hb1 hx hva hvb hoa hob hgo hv1 hv2 hx0 hy0 hd1 hd2
  obtain ⟨co0, co1, fo0, fo1⟩ := Xo.out
  have hneo := Xo.out.lt
  go_wp2_with fail
  clear co0 co1 fo0 fo1 hneo
  obtain ⟨W2, hW2⟩ : ∃ W1, W1 = v1.drew := ⟨_, rfl⟩
  have hbd : Below v1.heap.size v1 W2 := by rw [hW2]; exact bDrew1 (Below.refl _ _)
  replace Xo : Hid _ := Xo.out.below hbd
  replace D1 : Hid _ := D1.out.below hbd
  replace D2 : Hid _ := D2.out.below hbd
  replace hbw := Below.on hbw hbd
  clear hbd
  have HJ : Hid ((fun W' : World => W'.cell? ⟨go, 0, none⟩ = some (VFin s1 p1 m1 c1 e) ∧ W'.cell? ⟨go, 1, none⟩ = some (VFin s2 p2 m2 c2 g)) W2) := ⟨Xo.out.c0, Xo.out.c1⟩
  refine wp_region_J (fun W' => W'.cell? ⟨go, 0, none⟩ = some (VFin s1 p1 m1 c1 e) ∧ W'.cell? ⟨go, 1, none⟩ = some (VFin s2 p2 m2 c2 g)) (by kernel_rfl) ?_
  rw [← hW2]
  clear hW2
  refine wpJ_tq 0 rfl HJ.out ?_
  refine wpJ_tq 1 rfl HJ.out ?_
  refine wpJ_tq 2 rfl HJ.out ?_
  refine wpJ_tq 3 rfl HJ.out ?_
  refine wpJ_tq 4 rfl HJ.out ?_
  go_simp
  refine wpJ_tq 5 rfl HJ.out ?_
  refine wpJ_tq 6 rfl HJ.out ?_
  refine wpJ_on 7 rfl fun KJ hK => ?_
  go_simp
  refine (quot_ff HJO.out.1 HJO.out.2 D1.out D2.out (len_db D1.out (vf_db8 HJO.out.1.jq.jn HA.out.2.2 HV.out.1) (by decide)) (len_db D2.out (vf_db8 HJO.out.1.jq.jn HB.out.2.2 HV.out.2.1) (by decide)) HV.out.2.2.1 HV.out.2.2.2 (TB.out.below hbw)).mono ?_
  rintro e9 v2 ⟨r, Z, V, rfl, k1, k2, k3, hb2⟩
  rw [D1.out.zn.sg, D2.out.zn.sg] at k1
  have HQ : Hid (SgB S (decide (x < 0)) (decide (y < 0)) r Z ∧ RNz H l I V Z ∧ Mk H l I (fun τ => (y.natAbs : Int) * τ) (dv (x.natAbs : Int) (e - g)) V) := ⟨k1, k2, k3⟩
  clear k1 k2 k3
  replace Xo : Hid _ := Xo.out.below hb2
  replace D1 : Hid _ := D1.out.below hb2
  replace D2 : Hid _ := D2.out.below hb2
  replace hbw := Below.on hbw hb2
  clear hb2
  clear HJ
  have HJ : Hid ((fun W' : World => W'.cell? ⟨go, 0, none⟩ = some (VFin s1 p1 m1 c1 e) ∧ W'.cell? ⟨go, 1, none⟩ = some (VFin s2 p2 m2 c2 g)) v2) := ⟨Xo.out.c0, Xo.out.c1⟩
  refine hK _ _ HJ.out ?_
  clear hK
  refine wpJ_tq 8 rfl HJ.out ?_
  refine wpJ_tq 9 rfl HJ.out ?_
  refine wpJ_done (by kernel_rfl) ?_ _
  clear HJ
  go_wp2_with fail
  go_ret2
  exact ⟨x, e, y, g, r, Z, V, rfl, HV.out.1, HV.out.2.1, HQ.out.1, HQ.out.2.1, HQ.out.2.2, hbw⟩
theorem soft_sqrt_f {f p m l : Int} {S I H sd : Nat} {Be : Int} {Q : Nat} (J : Jo f p m l S I H sd Be Q) (hmd : m = (sd : Int) + 1) {a : Nat} (ha : a < S ∧ a % S ≠ 0 ∧ a % S < I) (w : World) (hT : Tab w) :
    Calls Tryz.prog 16 #[.int .i64 f, U a] w fun en w' => ∃ x e Z V, en = .returned (.tuple #[U Z, .int .i64 0]) ∧ VF S H l a x e ∧ RNz H l I V Z ∧ Mk H l I (fun τ => τ * τ) ((x.natAbs : Int) * ((2 ^ (e + 2 * 4194304).toNat : Nat) : Int)) V ∧ Below w.heap.size w w' := by
  have HJO : Hid (Jo f p m l S I H sd Be Q ∧ m = (sd : Int) + 1) := ⟨J, hmd⟩
  have HA : Hid (a < S ∧ a % S ≠ 0 ∧ a % S < I ∧ a < 2 * S) := ⟨ha.1, ha.2.1, ha.2.2, by omega⟩
  have TB : Hid (Tab w) := hT
  clear J hmd ha hT
  go_enter Tryz.func16, Tryz.ntmps16
  go_wp2_with fail
  have hb0 := below1 w (.cells #[U a] 22)
  refine (operands1 HJO.out.1 HA.out.2.2.2 (by go_simp) (TB.out.below hb0)).mono ?_
  rintro e9 v1 ⟨go, va, oa, rfl, hgo, hx, hva, hoa, hb1⟩
  have hbw := Below.on hb0 hb1
  obtain ⟨x, e, hv1, hx0, rfl⟩ := hoa.fin HA.out.2.1 HA.out.2.2.1
  obtain ⟨s1, p1, m1, c1, rfl, hd1⟩ := hva.fin
  have hxp : x > 0 := by
    have h9 := hv1.v
    rw [svS_eq, if_neg (by have := HA.out.1; omega)] at h9
    have h8 := dv_nn (vs H (a % S)) l
    rw [← h9] at h8
    rcases dv3 x e with ⟨q1, q2⟩ | ⟨q1, q2⟩ | ⟨q1, q2⟩ <;> omega
  have Xo : Hid (B1s v1 go (VFin s1 p1 m1 c1 e)) := hx
  have HV : Hid (VF S H l a x e ∧ x > 0) := ⟨hv1, hxp⟩
  have D1 : Hid (DN v1 s1 p1 m1 c1 e x) := hd1
  clear hb0 hb1 hx hva hoa hgo hv1 hx0 hd1 hxp
  obtain ⟨co0, fo0⟩ := Xo.out
  have hneo : go < v1.heap.size := World.block_lt_of_cell? v1 _ co0
  go_wp2_with fail
  clear co0 fo0 hneo
  refine (root_f HJO.out.1 HJO.out.2 D1.out (len_db D1.out (vf_db8 HJO.out.1.jq.jn HA.out.2.2.1 HV.out.1) (by decide)) HV.out.2 (TB.out.below hbw)).mono ?_
  rintro e9 v2 ⟨Z, V, rfl, k2, k3, hb2⟩
  have HQ : Hid (RNz H l I V Z ∧ Mk H l I (fun τ => τ * τ) ((x.natAbs : Int) * ((2 ^ (e + 2 * 4194304).toNat : Nat) : Int)) V) := ⟨k2, k3⟩
  clear k2 k3
  replace Xo : Hid (B1s v2 go (VFin s1 p1 m1 c1 e)) := Xo.out.below hb2
  replace D1 : Hid _ := D1.out.below hb2
  replace hbw := Below.on hbw hb2
  clear hb2
  go_wp2_with fail
  go_ret2
  exact ⟨x, e, Z, V, rfl, HV.out.1, HQ.out.1, HQ.out.2, hbw⟩
theorem DN.abs {w : World} {s : Bool} {p : Option Addr} {m c : Nat} {e x : Int} (h : DN w s p m c e x) : DN w false p m c e (x.natAbs : Int) := by
  obtain ⟨xs, hx⟩ := h.zn.ex
  refine ⟨⟨⟨xs, hx⟩, (decide_eq_false (by omega)).symm⟩, ?_⟩
  rcases h.fm with ⟨h1, h2⟩ | ⟨h1, h2⟩
  · exact .inl ⟨by omega, h2⟩
  · exact .inr ⟨by omega, h2⟩
theorem unord2 {t1 t2 : TypeId} {x1 x2 : Value} (h1 : (∀ w, Sem.run Tryz.prog (Instr.typeAssert (.iface t1 x1) 66 118 true) w = .ok (.tuple #[.agg #[], .bool false]) w)) (h2 : (∀ w, Sem.run Tryz.prog (Instr.typeAssert (.iface t2 x2) 66 118 true) w = .ok (.tuple #[.agg #[], .bool false]) w)) {go : Nat} {w : World} (hx : Box w go (.iface t1 x1) (.iface t2 x2)) :
    Calls Tryz.prog 44 #[.slice (some ⟨go, 0, none⟩) 2 2] w fun en w' => en = .returned (.bool false) ∧ Below w.heap.size w w' := by
  have HX : Hid (Box w go (.iface t1 x1) (.iface t2 x2)) := hx
  clear hx
  go_enter Tryz.func44, Tryz.ntmps44
  go_wp2_with fail
  go_loopg [9] 2 (fun gk iv wr => ∃ k : Nat, k + gk = 2 ∧ iv = .int .i64 k ∧ Box wr go (.iface t1 x1) (.iface t2 x2) ∧ Below w.heap.size w wr)
  case atStart => exact ⟨0, by omega, rfl, HX.out, Below.refl _ _⟩
  case round =>
    obtain ⟨k, hkg, rfl, hx, hbw⟩ := hrel
    have HX1 : Hid (Box wr go (.iface t1 x1) (.iface t2 x2)) := hx
    cases gk with
    | zero =>
      obtain rfl : k = 2 := by omega
      clear hx
      go_wp2_with fail
      go_ret
      exact ⟨rfl, hbw⟩
    | succ gg =>
      obtain ⟨c0, c1, f0, f1⟩ := hx
      rcases Nat.eq_zero_or_pos k with hk0 | hk0
      · subst hk0
        go_wp2_with fail
        go_roundg gg
        case measure => omega
        case rel => exact ⟨1, by omega, by go_num, HX1.out.below (below1 _ _), Below.on hbw (below1 _ _)⟩
      · obtain rfl : k = 1 := by omega
        go_wp2_with fail
        go_roundg gg
        case measure => omega
        case rel => exact ⟨2, by omega, by go_num, HX1.out.below (below1 _ _), Below.on hbw (below1 _ _)⟩
theorem soft_cmp_ff {f p m l : Int} {S I H sd : Nat} {Be : Int} {Q : Nat} (J : Jo f p m l S I H sd Be Q) {a b : Nat} (ha : a < 2 * S ∧ a % S ≠ 0 ∧ a % S < I) (hb : b < 2 * S ∧ b % S ≠ 0 ∧ b % S < I) (w : World) (hT : Tab w) :
    Calls Tryz.prog 14 #[.int .i64 f, U a, U b] w fun en w' => en = .returned (.tuple #[.int .i64 (cmpI (rkS S a) (rkS S b)), .int .i64 0]) ∧ Below w.heap.size w w' := by
  have HJO : Hid (Jo f p m l S I H sd Be Q) := J
  have HA : Hid (a < 2 * S ∧ a % S ≠ 0 ∧ a % S < I) := ha
  have HB : Hid (b < 2 * S ∧ b % S ≠ 0 ∧ b % S < I) := hb
  have TB : Hid (Tab w) := hT
  obtain ⟨ra, hra⟩ : ∃ ra, ra = rkS S a := ⟨_, rfl⟩
  obtain ⟨rb, hrb⟩ : ∃ rb, rb = rkS S b := ⟨_, rfl⟩
  obtain ⟨rc, hrc⟩ : ∃ rc, rc = cmpI ra rb := ⟨_, rfl⟩
  rw [← hra, ← hrb, ← hrc]
  have HRA : Hid (ra = rkS S a ∧ rb = rkS S b ∧ rc = cmpI ra rb) := ⟨hra, hrb, hrc⟩
  clear J ha hb hT hra hrb hrc
  go_enter Tryz.func14, Tryz.ntmps14
  go_wp2_with fail
  have hb0 := below1 w (.cells #[U a, U b] 22)
  refine (operands2 HJO.out HA.out.1 HB.out.1 ⟨by go_simp, by go_simp⟩ (TB.out.below hb0)).mono ?_
  rintro e9 v1 ⟨go, va, vb, oa, ob, rfl, hgo, hx, hva, hvb, hoa, hob, hb1⟩
  have hbw := Below.on hb0 hb1
  obtain ⟨x, e, hv1, hx0, rfl⟩ := hoa.fin HA.out.2.1 HA.out.2.2
  obtain ⟨y, g, hv2, hy0, rfl⟩ := hob.fin HB.out.2.1 HB.out.2.2
  obtain ⟨s1, p1, m1, c1, rfl, hd1⟩ := hva.fin
  obtain ⟨s2, p2, m2, c2, rfl, hd2⟩ := hvb.fin
  have Xo : Hid (Box v1 go (VFin s1 p1 m1 c1 e) (VFin s2 p2 m2 c2 g)) := hx
  clear hb0 hb1 hx hva hvb hoa hob hgo hv1 hv2 hx0 hy0 hd1 hd2
  obtain ⟨co0, co1, fo0, fo1⟩ := Xo.out
  have hneo := Xo.out.lt
  go_wp2_with fail
  clear co0 co1 fo0 fo1 hneo
  refine (unord2 (fun w => ta_fin_nan _ w) (fun w => ta_fin_nan _ w) Xo.out).mono ?_
  rintro e v2 ⟨rfl, hb2⟩
  replace Xo : Hid _ := Xo.out.below hb2
  replace hbw := Below.on hbw hb2
  clear hb2
  go_wp2_with fail
  refine (rank_ok HJO.out.jq.jn.jm.pm.fm a HA.out.1 (Nat.le_of_lt HA.out.2.2) _).mono ?_
  rintro e v3 ⟨rfl, hb3⟩
  rw [show (if S ≤ a then -((a % S : Nat) : Int) else ((a % S : Nat) : Int)) = ra from HRA.out.1.symm]
  replace Xo : Hid _ := Xo.out.below hb3
  replace hbw := Below.on hbw hb3
  clear hb3
  go_wp2_with fail
  refine (rank_ok HJO.out.jq.jn.jm.pm.fm b HB.out.1 (Nat.le_of_lt HB.out.2.2) _).mono ?_
  rintro e v4 ⟨rfl, hb4⟩
  rw [show (if S ≤ b then -((b % S : Nat) : Int) else ((b % S : Nat) : Int)) = rb from HRA.out.2.1.symm]
  replace Xo : Hid _ := Xo.out.below hb4
  replace hbw := Below.on hbw hb4
  clear hb4
  go_wp2_with fail
  refine (ccmp ra rb _).mono ?_
  rintro e v5 ⟨rfl, hb5⟩
  rw [← HRA.out.2.2]
  replace Xo : Hid _ := Xo.out.below hb5
  replace hbw := Below.on hbw hb5
  clear hb5
  go_wp2_with fail
  go_ret2
  exact ⟨rfl, hbw⟩
theorem soft_abs_f {f p m l : Int} {S I H sd : Nat} {Be : Int} {Q : Nat} (J : Jo f p m l S I H sd Be Q) {a : Nat} (ha : a < 2 * S ∧ a % S ≠ 0 ∧ a % S < I) (w : World) (hT : Tab w) :
    Calls Tryz.prog 37 #[.int .i64 f, U a] w fun en w' => ∃ x e, en = .returned (.tuple #[U (patO l sd Be S I Q (ofin (x.natAbs : Int) e)), .int .i64 0]) ∧ VF S H l a x e ∧ x ≠ 0 ∧ Below w.heap.size w w' := by
  have HJO : Hid (Jo f p m l S I H sd Be Q) := J
  have HA : Hid (a < 2 * S ∧ a % S ≠ 0 ∧ a % S < I) := ha
  have TB : Hid (Tab w) := hT
  clear J ha hT
  go_enter Tryz.func37, Tryz.ntmps37
  go_wp2_with fail
  have hb0 := below1 w (.cells #[U a] 22)
  refine (operands1 HJO.out HA.out.1 (by go_simp) (TB.out.below hb0)).mono ?_
  rintro e9 v1 ⟨go, va, oa, rfl, hgo, hx, hva, hoa, hb1⟩
  have hbw := Below.on hb0 hb1
  obtain ⟨x, e, hv1, hx0, rfl⟩ := hoa.fin HA.out.2.1 HA.out.2.2
  obtain ⟨s1, p1, m1, c1, rfl, hd1⟩ := hva.fin
  have Xo : Hid (B1s v1 go (VFin s1 p1 m1 c1 e)) := hx
  have HV : Hid (VF S H l a x e ∧ x ≠ 0) := ⟨hv1, hx0⟩
  have D1 : Hid (DN v1 false p1 m1 c1 e (x.natAbs : Int)) := hd1.abs
  have ms := meth_signed_fin
  have ns := nila_signed_fin
  clear hb0 hb1 hx hva hoa hgo hv1 hx0 hd1
  obtain ⟨co0, fo0⟩ := Xo.out
  have hneo : go < v1.heap.size := World.block_lt_of_cell? v1 _ co0
  go_wp2_with fail
  clear co0 fo0 hneo
  refine (signed_fin false _).mono ?_
  rintro e v2 ⟨rfl, hb2⟩
  replace Xo : Hid (B1s v2 go (VFin s1 p1 m1 c1 e)) := Xo.out.below hb2
  replace D1 : Hid _ := D1.out.below hb2
  replace hbw := Below.on hbw hb2
  clear hb2
  clear ms ns
  have me := meth_pattern_fin
  go_wp2_with fail
  refine (pat_fin HJO.out.jq D1.out (TB.out.below hbw)).mono ?_
  rintro e v3 ⟨rfl, hb3⟩
  rw [← patO_fin l sd Be S I Q]
  obtain ⟨r, hr⟩ : ∃ r, r = patO l sd Be S I Q (ofin (x.natAbs : Int) e) := ⟨_, rfl⟩
  rw [← hr]
  have HPR : Hid (r = patO l sd Be S I Q (ofin (x.natAbs : Int) e)) := hr
  clear hr
  replace Xo : Hid (B1s v3 go (VFin s1 p1 m1 c1 e)) := Xo.out.below hb3
  replace D1 : Hid _ := D1.out.below hb3
  replace hbw := Below.on hbw hb3
  clear hb3
  go_wp2_with fail
  go_ret2
  exact ⟨x, e, by rw [HPR.out]; rfl, HV.out.1, HV.out.2, hbw⟩
theorem vf_lit9 {b q man : Nat} {zo eo : Int} (hb : b < 9218868437227405312) (hq : b / 4503599627370496 - 1 = q) (hm : b - q * 4503599627370496 = man) (hf : DFm zo eo) (hv : dv zo eo = dv (man : Int) (-1074 + (q : Int))) : VF 9223372036854775808 4503599627370496 (-1074) b zo eo := by
  have h1 : b % 9223372036854775808 = b := Nat.mod_eq_of_lt (by omega)
  obtain ⟨z1, e1, v1, v2⟩ := vf_ex (b := b) pm_64 (by omega)
  rw [h1, if_neg (by omega), hq, hm, ← hv] at v2
  obtain ⟨rfl, rfl⟩ := dv_inj v1.fm hf v2
  exact v1
theorem vf_one : VF 9223372036854775808 4503599627370496 (-1074) 4607182418800017408 1 0 := vf_lit9 (q := 1022) (man := 4503599627370496) (by decide) (by decide) (by decide) (.inr (by decide)) (by rw [dv_shift (z := 1) (e := 0) (f := -52) (by decide) (by decide)]; rfl)
theorem vf_two : VF 9223372036854775808 4503599627370496 (-1074) 4611686018427387904 1 1 := vf_lit9 (q := 1023) (man := 4503599627370496) (by decide) (by decide) (by decide) (.inr (by decide)) (by rw [dv_shift (z := 1) (e := 1) (f := -51) (by decide) (by decide)]; rfl)
theorem vf_three9 : VF 9223372036854775808 4503599627370496 (-1074) 4613937818241073152 3 0 := vf_lit9 (q := 1023) (man := 6755399441055744) (by decide) (by decide) (by decide) (.inr (by decide)) (by rw [dv_shift (z := 3) (e := 0) (f := -51) (by decide) (by decide)]; rfl)
theorem vf_four : VF 9223372036854775808 4503599627370496 (-1074) 4616189618054758400 1 2 := vf_lit9 (q := 1024) (man := 4503599627370496) (by decide) (by decide) (by decide) (.inr (by decide)) (by rw [dv_shift (z := 1) (e := 2) (f := -50) (by decide) (by decide)]; rfl)
theorem vf_mone : VF 9223372036854775808 4503599627370496 (-1074) 13830554455654793216 (-1) 0 := by
  have h := (xs_neg (b := 4607182418800017408) (by decide) vf_one).1
  rwa [show xsS 9223372036854775808 4607182418800017408 = 13830554455654793216 from by decide] at h
theorem vf_one32 : VF 2147483648 8388608 (-149) 1065353216 1 0 := by
  obtain ⟨z1, e1, v1, v2⟩ := vf_ex (b := 1065353216) pm_32 (by decide)
  rw [if_neg (by decide), show 1065353216 % 2147483648 / 8388608 - 1 = 126 from by decide, show 1065353216 % 2147483648 - 126 * 8388608 = 8388608 from by decide] at v2
  have h5 : dv 1 0 = dv ((8388608 : Nat) : Int) (-149 + ((126 : Nat) : Int)) := by rw [dv_shift (z := 1) (e := 0) (f := -23) (by decide) (by decide)]; rfl
  obtain ⟨rfl, rfl⟩ := dv_inj v1.fm (.inr (by decide)) (v2.trans h5.symm)
  exact v1
theorem opb_is {S I H : Nat} {l : Int} {b : Nat} {o : Opd} {x e : Int} (h : OpB S I H l b o) (h0 : b % S ≠ 0) (h1 : b % S < I) (hv : VF S H l b x e) : o = ofin x e := by
  obtain ⟨y, g, h2, _, h3⟩ := h.fin h0 h1
  obtain ⟨rfl, rfl⟩ := dv_inj hv.fm h2.fm (hv.v.trans h2.v.symm)
  exact h3
theorem sum_lit {x e y f z g : Int} (hf : DFm z g) (h0 : z ≠ 0) (hv : dv z g = dv x e + dv y f) : SumO (ofin x e) (ofin y f) (ofin z g) :=
  .inr (.inr (.inr (.inr (.inr (.inr ⟨⟨rfl, rfl⟩, .inr ⟨z, g, hf, h0, hv, rfl⟩⟩)))))
theorem mul_lit {x e y f z g : Int} (hf : DFm z g) (h0 : z ≠ 0) (hv : dv z g = dv (x * y) (e + f)) : MulO (ofin x e) (ofin y f) (ofin z g) :=
  .inr (.inr (.inr ⟨⟨rfl, rfl⟩, z, g, hf, h0, hv, rfl⟩))
theorem dv11 : dv 1 1 = dv 1 0 + dv 1 0 := by rw [← dv_add, dv_shift (z := 1) (e := 1) (f := 0) (by decide) (by decide)]; rfl
theorem dv12 : dv 1 2 = dv 1 1 + dv 1 1 := by rw [← dv_add, dv_shift (z := 1) (e := 2) (f := 1) (by decide) (by decide)]; rfl
theorem dv31 : dv 1 1 = dv 3 0 + dv (-1) 0 := by rw [← dv_add, dv_shift (z := 1) (e := 1) (f := 0) (by decide) (by decide)]; rfl
theorem aw_add (w : World) (hT : Tab w) : Calls Tryz.prog 9 #[.int .i64 64, .int .u64 4607182418800017408, .int .u64 4607182418800017408] w fun en w' => en = .returned (.tuple #[.int .u64 4611686018427387904, .int .i64 0]) ∧ Below w.heap.size w w' := by
  refine Calls.mono (soft_add jo_64 (by decide : 4607182418800017408 < 2 * 9223372036854775808) (by decide : 4607182418800017408 < 2 * 9223372036854775808) w hT) ?_
  rintro en w' ⟨oa, ob, c, rfl, ha, hb, hs, _, hbw⟩
  have qa := opb_is ha (by decide) (by decide) vf_one
  have qb := opb_is hb (by decide) (by decide) vf_one
  subst qa qb
  have qc := hs.uniq (sum_lit (.inr (by decide)) (by decide) dv11)
  subst qc
  exact ⟨by rw [patO_fin, show rnp (-1074) 52 1024 9223372036854775808 9218868437227405312 1 1 = 4611686018427387904 from by decide +kernel]; rfl, hbw⟩
theorem aw_mul (w : World) (hT : Tab w) : Calls Tryz.prog 11 #[.int .i64 64, .int .u64 4611686018427387904, .int .u64 4611686018427387904] w fun en w' => en = .returned (.tuple #[.int .u64 4616189618054758400, .int .i64 0]) ∧ Below w.heap.size w w' := by
  refine Calls.mono (soft_mul jo_64 (by decide : 4611686018427387904 < 2 * 9223372036854775808) (by decide : 4611686018427387904 < 2 * 9223372036854775808) w hT) ?_
  rintro en w' ⟨oa, ob, c, rfl, ha, hb, hs, _, hbw⟩
  have qa := opb_is ha (by decide) (by decide) vf_two
  have qb := opb_is hb (by decide) (by decide) vf_two
  subst qa qb
  have qc := hs.uniq (mul_lit (z := 1) (g := 2) (.inr (by decide)) (by decide) rfl)
  subst qc
  exact ⟨by rw [patO_fin, show rnp (-1074) 52 1024 9223372036854775808 9218868437227405312 1 2 = 4616189618054758400 from by decide +kernel]; rfl, hbw⟩
theorem aw_sub (w : World) (hT : Tab w) : Calls Tryz.prog 10 #[.int .i64 64, .int .u64 4613937818241073152, .int .u64 4607182418800017408] w fun en w' => en = .returned (.tuple #[.int .u64 4611686018427387904, .int .i64 0]) ∧ Below w.heap.size w w' := by
  refine Calls.mono (soft_sub jo_64 (by decide : 4613937818241073152 < 2 * 9223372036854775808) (by decide : 4607182418800017408 < 2 * 9223372036854775808) w hT) ?_
  rintro en w' ⟨oa, ob, c, rfl, ha, hb, hs, _, hbw⟩
  have qa := opb_is ha (by decide) (by decide) vf_three9
  have qb := opb_is hb (by decide) (by decide) vf_one
  subst qa qb
  rw [negO_fin] at hs
  have qc := hs.uniq (sum_lit (.inr (by decide)) (by decide) dv31)
  subst qc
  exact ⟨by rw [patO_fin, show rnp (-1074) 52 1024 9223372036854775808 9218868437227405312 1 1 = 4611686018427387904 from by decide +kernel]; rfl, hbw⟩
theorem aw_fma (w : World) (hT : Tab w) : Calls Tryz.prog 28 #[.int .i64 64, .int .u64 4607182418800017408, .int .u64 4611686018427387904, .int .u64 4611686018427387904] w fun en w' => en = .returned (.tuple #[.int .u64 4616189618054758400, .int .i64 0]) ∧ Below w.heap.size w w' := by
  refine Calls.mono (soft_fma jo_64 ⟨(by decide : 4607182418800017408 < 2 * 9223372036854775808), (by decide : 4611686018427387904 < 2 * 9223372036854775808), (by decide : 4611686018427387904 < 2 * 9223372036854775808)⟩ w hT) ?_
  rintro en w' ⟨oa, ob, oc, q, c, rfl, ha, hb, hc, hm, hs, hbw⟩
  have qa := opb_is ha (by decide) (by decide) vf_one
  have qb := opb_is hb (by decide) (by decide) vf_two
  have qd := opb_is hc (by decide) (by decide) vf_two
  subst qa qb qd
  have qq := hm.uniq (mul_lit (z := 1) (g := 1) (.inr (by decide)) (by decide) rfl)
  subst qq
  have qc := hs.uniq (sum_lit (.inr (by decide)) (by decide) dv12)
  subst qc
  exact ⟨by rw [patO_fin, show rnp (-1074) 52 1024 9223372036854775808 9218868437227405312 1 2 = 4616189618054758400 from by decide +kernel]; rfl, hbw⟩
theorem aw_neg (w : World) (hT : Tab w) : Calls Tryz.prog 35 #[.int .i64 64, .int .u64 4607182418800017408] w fun en w' => en = .returned (.tuple #[.int .u64 13830554455654793216, .int .i64 0]) ∧ Below w.heap.size w w' := by
  refine Calls.mono (soft_neg jo_64 (by decide : 4607182418800017408 < 2 * 9223372036854775808) w hT) ?_
  rintro en w' ⟨oa, rfl, ha, hbw⟩
  have qa := opb_is ha (by decide) (by decide) vf_one
  subst qa
  rw [negO_fin]
  exact ⟨by rw [patO_fin, show rnp (-1074) 52 1024 9223372036854775808 9218868437227405312 (-1) 0 = 13830554455654793216 from by decide +kernel]; rfl, hbw⟩
theorem aw_abs (w : World) (hT : Tab w) : Calls Tryz.prog 37 #[.int .i64 64, .int .u64 13830554455654793216] w fun en w' => en = .returned (.tuple #[.int .u64 4607182418800017408, .int .i64 0]) ∧ Below w.heap.size w w' := by
  refine Calls.mono (soft_abs_f jo_64 (a := 13830554455654793216) (by decide) w hT) ?_
  rintro en w' ⟨x, e, rfl, hv, _, hbw⟩
  obtain ⟨rfl, rfl⟩ := dv_inj vf_mone.fm hv.fm (vf_mone.v.trans hv.v.symm)
  exact ⟨by rw [patO_fin, show rnp (-1074) 52 1024 9223372036854775808 9218868437227405312 (((-1 : Int).natAbs : Nat) : Int) 0 = 4607182418800017408 from by decide +kernel]; rfl, hbw⟩
theorem aw_cmp (w : World) (hT : Tab w) : Calls Tryz.prog 14 #[.int .i64 64, .int .u64 4607182418800017408, .int .u64 4611686018427387904] w fun en w' => en = .returned (.tuple #[.int .i64 (-1), .int .i64 0]) ∧ Below w.heap.size w w' := by
  refine Calls.mono (soft_cmp_ff jo_64 (a := 4607182418800017408) (b := 4611686018427387904) (by decide) (by decide) w hT) ?_
  rintro en w' ⟨rfl, hbw⟩
  exact ⟨by rw [show cmpI (rkS 9223372036854775808 4607182418800017408) (rkS 9223372036854775808 4611686018427387904) = -1 from by decide], hbw⟩
theorem aw_div (w : World) (hT : Tab w) : Calls Tryz.prog 12 #[.int .i64 64, .int .u64 4616189618054758400, .int .u64 4611686018427387904] w fun en w' => en = .returned (.tuple #[.int .u64 4611686018427387904, .int .i64 0]) ∧ Below w.heap.size w w' := by
  refine Calls.mono (soft_div_ff jo_64 (by decide) (a := 4616189618054758400) (b := 4611686018427387904) (by decide) (by decide) w hT) ?_
  rintro en w' ⟨x, e, y, g, r, Z, V, rfl, hx, hy, h1, h2, h3, hbw⟩
  obtain ⟨rfl, rfl⟩ := dv_inj vf_four.fm hx.fm (vf_four.v.trans hx.v.symm)
  obtain ⟨rfl, rfl⟩ := dv_inj vf_two.fm hy.fm (vf_two.v.trans hy.v.symm)
  have r1 := rn_of jn_64 (n := 1) (e := 1) (by decide) (by decide)
  rw [show rnz (-1074) 52 1024 9218868437227405312 1 1 = 4611686018427387904 from by decide +kernel] at r1
  have hZ := h3.same (rise_mul (by decide)) h2 r1 (dv_nn _ _) (by
    show dv (((1 : Int).natAbs : Nat) : Int) (2 - 1) = (((1 : Int).natAbs : Nat) : Int) * dv ((1 : Nat) : Int) 1
    rw [show ((1 : Int).natAbs) = 1 from rfl, mul_dv]; rfl)
  have hr : r = Z := by
    have h4 : r = if decide ((1 : Int) < 0) = decide ((1 : Int) < 0) then Z else 9223372036854775808 + Z := h1
    rw [h4, if_pos rfl]
  subst hr
  subst hZ
  exact ⟨rfl, hbw⟩
theorem aw_sqrt (w : World) (hT : Tab w) : Calls Tryz.prog 16 #[.int .i64 64, .int .u64 4616189618054758400] w fun en w' => en = .returned (.tuple #[.int .u64 4611686018427387904, .int .i64 0]) ∧ Below w.heap.size w w' := by
  refine Calls.mono (soft_sqrt_f jo_64 (by decide) (a := 4616189618054758400) (by decide) w hT) ?_
  rintro en w' ⟨x, e, Z, V, rfl, hx, h2, h3, hbw⟩
  obtain ⟨rfl, rfl⟩ := dv_inj vf_four.fm hx.fm (vf_four.v.trans hx.v.symm)
  have r1 := rn_of jn_64 (n := 1) (e := 1) (by decide) (by decide)
  rw [show rnz (-1074) 52 1024 9218868437227405312 1 1 = 4611686018427387904 from by decide +kernel] at r1
  have hZ := h3.same rise_sq h2 r1 (dv_nn _ _) (by
    show (((1 : Int).natAbs : Nat) : Int) * ((2 ^ ((2 : Int) + 2 * 4194304).toNat : Nat) : Int) = dv ((1 : Nat) : Int) 1 * dv ((1 : Nat) : Int) 1
    unfold dv
    rw [show ((1 : Int).natAbs) = 1 from rfl, show ((1 : Nat) : Int) = 1 from rfl, Int.one_mul, Int.one_mul, ← Int.natCast_mul, ← Nat.pow_add, show ((2 : Int) + 2 * 4194304).toNat = ((1 : Int) + 4194304).toNat + ((1 : Int) + 4194304).toNat from by omega])
  subst hZ
  exact ⟨rfl, hbw⟩
theorem aw_add32 (w : World) (hT : Tab w) : Calls Tryz.prog 9 #[.int .i64 32, .int .u64 1065353216, .int .u64 1065353216] w fun en w' => en = .returned (.tuple #[.int .u64 1073741824, .int .i64 0]) ∧ Below w.heap.size w w' := by
  refine Calls.mono (soft_add jo_32 (by decide : 1065353216 < 2 * 2147483648) (by decide : 1065353216 < 2 * 2147483648) w hT) ?_
  rintro en w' ⟨oa, ob, c, rfl, ha, hb, hs, _, hbw⟩
  have qa := opb_is ha (by decide) (by decide) vf_one32
  have qb := opb_is hb (by decide) (by decide) vf_one32
  subst qa qb
  have qc := hs.uniq (sum_lit (.inr (by decide)) (by decide) dv11)
  subst qc
  exact ⟨by rw [patO_fin, show rnp (-149) 23 128 2147483648 2139095040 1 1 = 1073741824 from by decide +kernel]; rfl, hbw⟩
theorem awake9 (w : World) (hT : Tab w) :
    Calls Tryz.prog 7 #[] w fun en w' => en = .returned (.bool true) ∧ Below w.heap.size w w' := by
  have hbw : Below w.heap.size w w := Below.refl _ _
  have TB : Hid (Tab w) := hT
  clear hT
  go_enter Tryz.func7, Tryz.ntmps7
  go_wp2_with fail
  refine (aw_add _ (TB.out.below hbw)).mono ?_
  rintro e v1 ⟨rfl, hb1⟩
  replace hbw := Below.on hbw hb1
  clear hb1
  go_wp2_with fail
  refine (aw_mul _ (TB.out.below hbw)).mono ?_
  rintro e v2 ⟨rfl, hb2⟩
  replace hbw := Below.on hbw hb2
  clear hb2
  go_wp2_with fail
  refine (aw_div _ (TB.out.below hbw)).mono ?_
  rintro e v3 ⟨rfl, hb3⟩
  replace hbw := Below.on hbw hb3
  clear hb3
  go_wp2_with fail
  refine (aw_sqrt _ (TB.out.below hbw)).mono ?_
  rintro e v4 ⟨rfl, hb4⟩
  replace hbw := Below.on hbw hb4
  clear hb4
  go_wp2_with fail
  refine (aw_sub _ (TB.out.below hbw)).mono ?_
  rintro e v5 ⟨rfl, hb5⟩
  replace hbw := Below.on hbw hb5
  clear hb5
  go_wp2_with fail
  refine (aw_fma _ (TB.out.below hbw)).mono ?_
  rintro e v6 ⟨rfl, hb6⟩
  replace hbw := Below.on hbw hb6
  clear hb6
  go_wp2_with fail
  refine (aw_neg _ (TB.out.below hbw)).mono ?_
  rintro e v7 ⟨rfl, hb7⟩
  replace hbw := Below.on hbw hb7
  clear hb7
  go_wp2_with fail
  refine (aw_abs _ (TB.out.below hbw)).mono ?_
  rintro e v8 ⟨rfl, hb8⟩
  replace hbw := Below.on hbw hb8
  clear hb8
  go_wp2_with fail
  refine (aw_cmp _ (TB.out.below hbw)).mono ?_
  rintro e v9 ⟨rfl, hb9⟩
  replace hbw := Below.on hbw hb9
  clear hb9
  go_wp2_with fail
  refine (aw_add32 _ (TB.out.below hbw)).mono ?_
  rintro e v10 ⟨rfl, hb10⟩
  replace hbw := Below.on hbw hb10
  clear hb10
  go_wp2_with fail
  go_ret
  exact ⟨rfl, hbw⟩
theorem DFm.lo4 {z e : Int} (h : DFm z e) : -4194304 ≤ e := by rcases h with ⟨_, h⟩ | ⟨_, h, _⟩ <;> omega
theorem OpB.uniq {S I H : Nat} {l : Int} {b : Nat} {o o' : Opd} (h : OpB S I H l b o) (h' : OpB S I H l b o') (hI : 0 < I) : o = o' := by
  rcases h with ⟨h1, h2⟩ | ⟨h1, h2⟩ | ⟨h1, h2⟩ | ⟨h1, h3, x, e, h4, h5, h6⟩ <;> rcases h' with ⟨k1, k2⟩ | ⟨k1, k2⟩ | ⟨k1, k2⟩ | ⟨k1, k3, y, f, k4, k5, k6⟩
  all_goals first
    | (rw [h2, k2]; done)
    | omega
    | (obtain ⟨rfl, rfl⟩ := dv_inj h4.fm k4.fm (h4.v.trans k4.v.symm); rw [h6, k6])
theorem OpB.pat {f p m l : Int} {S I H sd : Nat} {Be : Int} {Q : Nat} (J : Jn f p m l S I H sd Be) {b : Nat} {o : Opd} (h : OpB S I H l b o) (hb : b < 2 * S) : (I < b % S ∧ o = onan ∧ patO l sd Be S I Q o = Q) ∨ (b % S ≤ I ∧ o.k ≠ 0 ∧ patO l sd Be S I Q o = b) := by
  have hlt := J.jm.pm.fm.lt
  rcases h with ⟨h1, h2⟩ | ⟨h1, h2⟩ | ⟨h1, h2⟩ | ⟨h1, h3, x, e, h4, h5, h6⟩
  · left; exact ⟨h1, h2, by rw [h2]; rfl⟩
  · right
    refine ⟨by omega, by rw [h2]; exact Nat.one_ne_zero, ?_⟩
    rw [h2, patO_inf]
    by_cases hS : S ≤ b
    · rw [decide_eq_true hS, if_pos rfl]; have h9 := (pat_eq hb).1; rw [if_pos hS] at h9; omega
    · rw [decide_eq_false hS, if_neg (by decide)]; have := Nat.mod_eq_of_lt (show b < S by omega); omega
  · right
    refine ⟨by omega, by rw [h2]; exact Nat.succ_ne_zero 1, ?_⟩
    rw [h2, patO_no]
    by_cases hS : S ≤ b
    · rw [decide_eq_true hS, if_pos rfl]; have h9 := (pat_eq hb).1; rw [if_pos hS] at h9; omega
    · rw [decide_eq_false hS, if_neg (by decide)]; have := Nat.mod_eq_of_lt (show b < S by omega); omega
  · right
    refine ⟨by omega, by rw [h6]; exact Nat.succ_ne_zero 2, ?_⟩
    rw [h6, patO_fin]
    exact rn_own J hb h1 h3 (h4.fm.lo4) h4.v
theorem xs_lt {S b : Nat} (h : b < 2 * S) : xsS S b < 2 * S ∧ xsS S b % S = b % S ∧ decide (S ≤ xsS S b) = !decide (S ≤ b) := by
  unfold xsS
  by_cases h1 : S ≤ b
  · rw [if_pos h1, decide_eq_true h1]
    refine ⟨by omega, ?_, decide_eq_false (by omega)⟩
    rw [Nat.mod_eq_sub_mod h1]
  · rw [if_neg h1, decide_eq_false h1]
    exact ⟨by omega, by rw [Nat.add_mod_right], decide_eq_true (by omega)⟩
theorem OpB.npat {f p m l : Int} {S I H sd : Nat} {Be : Int} {Q : Nat} (J : Jq f p m l S I H sd Be Q) {b : Nat} {o : Opd} (h : OpB S I H l b o) (hb : b < 2 * S) :
    (I < b % S ∧ o = onan ∧ patO l sd Be S I Q (negO o) = Q ∧ OpB S I H l Q (negO o)) ∨ (b % S ≤ I ∧ o.k ≠ 0 ∧ patO l sd Be S I Q (negO o) = xsS S b ∧ OpB S I H l (xsS S b) (negO o)) := by
  have hlt := J.jn.jm.pm.fm.lt
  obtain ⟨x1, x2, x3⟩ := xs_lt hb
  rcases h with ⟨h1, h2⟩ | ⟨h1, h2⟩ | ⟨h1, h2⟩ | ⟨h1, h3, x, e, h4, h5, h6⟩
  · left; rw [h2, negO_nan]; exact ⟨h1, rfl, rfl, .inl ⟨J.qb.2, rfl⟩⟩
  · right
    rw [h2, negO_inf]
    have ho : OpB S I H l (xsS S b) (oinf (!decide (S ≤ b))) := .inr (.inl ⟨by omega, by rw [x3]⟩)
    refine ⟨by omega, Nat.one_ne_zero, ?_, ho⟩
    rcases ho.pat (Q := Q) J.jn x1 with ⟨k1, _⟩ | ⟨_, _, k3⟩
    · omega
    · exact k3
  · right
    rw [h2, negO_no]
    have ho : OpB S I H l (xsS S b) (ono (!decide (S ≤ b))) := .inr (.inr (.inl ⟨by omega, by rw [x3]⟩))
    refine ⟨by omega, Nat.succ_ne_zero 1, ?_, ho⟩
    rcases ho.pat (Q := Q) J.jn x1 with ⟨k1, _⟩ | ⟨_, _, k3⟩
    · omega
    · exact k3
  · right
    rw [h6, negO_fin]
    have ho : OpB S I H l (xsS S b) (ofin (-x) e) := .inr (.inr (.inr ⟨by omega, by omega, -x, e, (xs_neg hb h4).1, by omega, rfl⟩))
    refine ⟨by omega, Nat.succ_ne_zero 2, ?_, ho⟩
    rcases ho.pat (Q := Q) J.jn x1 with ⟨k1, _⟩ | ⟨_, _, k3⟩
    · omega
    · exact k3
def GoodO (c : Opd) : Prop := c = onan ∨ (∃ s, c = oinf s) ∨ (∃ s, c = ono s) ∨ ∃ x e, c = ofin x e ∧ DFm x e ∧ x ≠ 0
theorem OpB.good {S I H : Nat} {l : Int} {b : Nat} {o : Opd} (h : OpB S I H l b o) : GoodO o := by
  rcases h with ⟨_, h2⟩ | ⟨_, h2⟩ | ⟨_, h2⟩ | ⟨_, _, x, e, h4, h5, h6⟩
  · exact .inl h2
  · exact .inr (.inl ⟨_, h2⟩)
  · exact .inr (.inr (.inl ⟨_, h2⟩))
  · exact .inr (.inr (.inr ⟨x, e, h6, h4.fm, h5⟩))
theorem MulO.good {a b c : Opd} (h : MulO a b c) : GoodO c := by
  rcases h with ⟨_, h2⟩ | ⟨_, h2⟩ | ⟨_, h2⟩ | ⟨_, z, g, h3, h4, _, h6⟩
  · exact .inl h2
  · exact .inr (.inl ⟨_, h2⟩)
  · exact .inr (.inr (.inl ⟨_, h2⟩))
  · exact .inr (.inr (.inr ⟨z, g, h6, h3, h4⟩))
theorem GoodO.npat {f p m l : Int} {S I H sd : Nat} {Be : Int} {Q : Nat} (J : Jq f p m l S I H sd Be Q) {c : Opd} (h : GoodO c) : (c = onan) ∨ (c.k ≠ 0 ∧ patO l sd Be S I Q c < 2 * S ∧ patO l sd Be S I Q c % S ≤ I ∧ patO l sd Be S I Q (negO c) = xsS S (patO l sd Be S I Q c)) := by
  have hlt := J.jn.jm.pm.fm.lt
  rcases h with rfl | ⟨s, rfl⟩ | ⟨s, rfl⟩ | ⟨x, e, rfl, hf, h0⟩
  · exact .inl rfl
  · right
    rw [negO_inf, patO_inf, patO_inf]
    unfold xsS
    cases s
    · refine ⟨Nat.one_ne_zero, ?_⟩
      simp
      rw [if_neg (by omega), Nat.mod_eq_of_lt hlt]; omega
    · refine ⟨Nat.one_ne_zero, ?_⟩
      simp
      rw [Nat.mod_eq_of_lt hlt]; omega
  · right
    rw [negO_no, patO_no, patO_no]
    unfold xsS
    cases s
    · refine ⟨Nat.succ_ne_zero 1, ?_⟩
      simp
      omega
    · refine ⟨Nat.succ_ne_zero 1, ?_⟩
      simp
      omega
  · right
    rw [negO_fin, patO_fin, patO_fin]
    obtain ⟨Z, z1, _, _, z4, z5, _⟩ := rnp_is J.jn x e hf.lo4
    exact ⟨Nat.succ_ne_zero 2, z4, by omega, rnp_neg J.jn h0 hf.lo4⟩
theorem MulO.neg {a b c : Opd} (h : MulO a b c) (hg : GoodO a) : MulO (negO a) b (negO c) := by
  rcases hg with rfl | ⟨s, rfl⟩ | ⟨s, rfl⟩ | ⟨x, e, rfl, hf, h0⟩
  · rcases h with ⟨h1, h2⟩ | ⟨h1, h2⟩ | ⟨h1, h2⟩ | ⟨h1, h2⟩
    · rw [h2]; exact .inl ⟨.inl rfl, rfl⟩
    · exfalso; rcases h1 with ⟨h, _⟩ | ⟨h, _⟩ <;> exact by cases h
    · exfalso; rcases h1 with ⟨h, _⟩ | ⟨h, _⟩ <;> exact by cases h
    · exact by cases h1.1
  · rcases h with ⟨h1, h2⟩ | ⟨h1, h2⟩ | ⟨h1, h2⟩ | ⟨h1, h2⟩
    · rw [h2]; exact .inl ⟨h1, rfl⟩
    · rw [h2, negO_inf, negO_inf]; exact .inr (.inl ⟨h1, by show oinf (!(s != b.s)) = oinf ((!s) != b.s); cases s <;> cases b.s <;> rfl⟩)
    · exfalso; rcases h1 with ⟨h, _⟩ | ⟨h, _⟩ <;> exact by cases h
    · exact by cases h1.1
  · rcases h with ⟨h1, h2⟩ | ⟨h1, h2⟩ | ⟨h1, h2⟩ | ⟨h1, h2⟩
    · rw [h2]; exact .inl ⟨h1, rfl⟩
    · exfalso; rcases h1 with ⟨h, _⟩ | ⟨h, _⟩ <;> exact by cases h
    · rw [h2, negO_no, negO_no]; exact .inr (.inr (.inl ⟨h1, by show ono (!(s != b.s)) = ono ((!s) != b.s); cases s <;> cases b.s <;> rfl⟩))
    · exact by cases h1.1
  · have hs : decide (-x < 0) = !decide (x < 0) := by
      rcases Int.lt_or_le x 0 with hx | hx
      · rw [decide_eq_true hx, decide_eq_false (by omega)]; rfl
      · rw [decide_eq_false (show ¬ x < 0 by omega), decide_eq_true (show -x < 0 by omega)]; rfl
    rcases h with ⟨h1, h2⟩ | ⟨h1, h2⟩ | ⟨h1, h2⟩ | ⟨h1, z, g, h3, h4, h5, h6⟩
    · rw [h2]; exact .inl ⟨h1, rfl⟩
    · rw [h2, negO_inf, negO_fin]; exact .inr (.inl ⟨h1, by show oinf (!(decide (x < 0) != b.s)) = oinf (decide (-x < 0) != b.s); rw [hs]; cases decide (x < 0) <;> cases b.s <;> rfl⟩)
    · rw [h2, negO_no, negO_fin]; exact .inr (.inr (.inl ⟨h1, by show ono (!(decide (x < 0) != b.s)) = ono (decide (-x < 0) != b.s); rw [hs]; cases decide (x < 0) <;> cases b.s <;> rfl⟩))
    · rw [h6, negO_fin, negO_fin]
      refine .inr (.inr (.inr ⟨h1, -z, g, h3.neg, by omega, ?_, rfl⟩))
      rw [dv_neg, h5]
      show _ = dv (-x * b.x) (e + b.e)
      rw [Int.neg_mul, dv_neg]
      rfl
theorem MulO.one {o c : Opd} (hg : GoodO o) (h : MulO (ofin 1 0) o c) : c = o := by
  rcases hg with rfl | ⟨s, rfl⟩ | ⟨s, rfl⟩ | ⟨x, e, rfl, hf, h0⟩
  · exact h.uniq (.inl ⟨.inr (.inl rfl), rfl⟩)
  · refine h.uniq (.inr (.inl ⟨.inr ⟨rfl, rfl⟩, ?_⟩))
    show oinf s = oinf (decide ((1 : Int) < 0) != s)
    cases s <;> rfl
  · refine h.uniq (.inr (.inr (.inl ⟨.inr ⟨rfl, rfl⟩, ?_⟩)))
    show ono s = ono (decide ((1 : Int) < 0) != s)
    cases s <;> rfl
  · refine h.uniq (mul_lit hf h0 ?_)
    rw [Int.one_mul, Int.zero_add]
theorem SumO.nought {q c : Opd} {s : Bool} (hg : GoodO q) (hs : ∀ t, q = ono t → t = s) (h : SumO q (ono s) c) : c = q := by
  rcases hg with rfl | ⟨t, rfl⟩ | ⟨t, rfl⟩ | ⟨x, e, rfl, hf, h0⟩
  · exact h.uniq (.inl ⟨.inl rfl, rfl⟩)
  · exact h.uniq (.inr (.inl ⟨⟨rfl, .inl rfl⟩, rfl⟩))
  · obtain rfl := hs t rfl
    refine h.uniq (.inr (.inr (.inr (.inl ⟨⟨rfl, rfl⟩, ?_⟩))))
    show ono t = ono (t && t)
    cases t <;> rfl
  · exact h.uniq (.inr (.inr (.inr (.inr (.inr (.inl ⟨⟨rfl, rfl⟩, rfl⟩))))))
theorem MulO.sgn {S I H : Nat} {l : Int} {a b : Nat} {oa ob : Opd} {t : Bool} (ha : OpB S I H l a oa) (hb : OpB S I H l b ob) (ka : a < 2 * S) (kb : b < 2 * S) (h : MulO oa ob (ono t)) : t = (decide (S ≤ a) != decide (S ≤ b)) := by
  have hs : ∀ {a : Nat} {o : Opd}, OpB S I H l a o → a < 2 * S → o.k ≠ 0 → o.s = decide (S ≤ a) := by
    intro a o h ka h0
    rcases h with ⟨_, h2⟩ | ⟨_, h2⟩ | ⟨_, h2⟩ | ⟨h1, h3, x, e, h4, h5, h6⟩
    · rw [h2] at h0; exact absurd rfl h0
    · rw [h2]; rfl
    · rw [h2]; rfl
    · rw [h6]
      show decide (x < 0) = _
      have h7 := h4.v
      rw [svS_eq] at h7
      have h8 := dv_nn (vs H (a % S)) l
      by_cases hS : S ≤ a
      · rw [if_pos hS, dv_neg] at h7
        rw [decide_eq_true hS]
        refine decide_eq_true ?_
        rcases dv3 x e with ⟨q1, q2⟩ | ⟨q1, q2⟩ | ⟨q1, q2⟩ <;> omega
      · rw [if_neg hS] at h7
        rw [decide_eq_false hS]
        refine decide_eq_false ?_
        rcases dv3 x e with ⟨q1, q2⟩ | ⟨q1, q2⟩ | ⟨q1, q2⟩ <;> omega
  rcases h with ⟨_, h2⟩ | ⟨_, h2⟩ | ⟨h1, h2⟩ | ⟨_, z, g, _, _, _, h6⟩
  · exact by cases congrArg Opd.k h2
  · exact by cases congrArg Opd.k h2
  · have h3 : t = (oa.s != ob.s) := congrArg Opd.s h2
    rw [h3, hs ha ka (by omega), hs hb kb (by omega)]
  · exact by cases congrArg Opd.k h6
theorem vs_repr {H : Nat} (hH : 0 < H) (q : Nat) : ∀ k, k < 2 * H → ∃ r, vs H r = k * 2 ^ q := by
  induction q with
  | zero =>
    intro k hk
    refine ⟨k, ?_⟩
    have h1 : k / H < 2 := (Nat.div_lt_iff_lt_mul hH).2 hk
    unfold vs
    rw [show k / H - 1 = 0 from by omega]
    simp
  | succ q ih =>
    intro k hk
    by_cases h : k < H
    · obtain ⟨r, hr⟩ := ih (2 * k) (by omega)
      refine ⟨r, ?_⟩
      rw [hr, Nat.pow_succ, Nat.mul_comm 2 k, Nat.mul_assoc, Nat.mul_comm 2]
    · refine ⟨(q + 1) * H + k, ?_⟩
      have h1 : k / H = 1 := by
        have h3 : k / H < 2 := (Nat.div_lt_iff_lt_mul hH).2 hk
        rcases (by generalize k / H = q at h3 ⊢; omega : k / H = 0 ∨ k / H = 1) with h2 | h2
        · exact absurd ((Nat.div_eq_zero_iff_lt hH).1 h2) h
        · exact h2
      have h2 : ((q + 1) * H + k) / H = q + 2 := by
        rw [Nat.mul_comm, Nat.mul_add_div hH, h1]
      unfold vs
      rw [h2, show q + 2 - 1 = q + 1 from rfl, Nat.add_sub_cancel_left]
def FinU (l : Int) (o : Opd) (u : Int) : Prop := (∃ s, o = ono s ∧ u = 0) ∨ ∃ x e, o = ofin x e ∧ DFm x e ∧ x ≠ 0 ∧ dv x e = dv u l
theorem FinU.neg {l : Int} {o : Opd} {u : Int} (h : FinU l o u) : FinU l (negO o) (-u) := by
  rcases h with ⟨s, rfl, rfl⟩ | ⟨x, e, rfl, h1, h2, h3⟩
  · exact .inl ⟨_, negO_no s, rfl⟩
  · exact .inr ⟨-x, e, negO_fin x e, h1.neg, by omega, by rw [dv_neg, dv_neg, h3]⟩
theorem FinU.own {f p m l : Int} {S I H sd : Nat} {Be : Int} (J : Jn f p m l S I H sd Be) {c : Opd} {u : Int} (h : FinU l c u) {r : Nat} (hr : r < I) (hv : ((vs H r : Nat) : Int) = u.natAbs) (Q : Nat) : patO l sd Be S I Q c < 2 * S ∧ patO l sd Be S I Q c % S < I ∧ svS S H (patO l sd Be S I Q c) = u := by
  have hlt := J.jm.pm.fm.lt
  have hpos := J.jm.pm.fm.pos
  have hH := J.jm.pm.hp
  rcases h with ⟨s, rfl, rfl⟩ | ⟨x, e, rfl, h1, h2, h3⟩
  · rw [patO_no]
    cases s
    · refine ⟨by simp; omega, by simp; omega, ?_⟩
      rw [svS_eq]; simp [vs_zero]
    · refine ⟨by simp; omega, by simp; omega, ?_⟩
      rw [svS_eq]; simp [vs_zero]
  · have hu : u ≠ 0 := fun h0 => by
      rw [h0, dv_zero] at h3; exact h2 (dv_eq_zero h3)
    have hr0 : r ≠ 0 := fun h0 => by rw [h0, vs_zero] at hv; omega
    have hb : ((if u < 0 then S else 0) + r) < 2 * S := by split <;> omega
    have hm : ((if u < 0 then S else 0) + r) % S = r := by
      split
      · rw [Nat.add_mod_left, Nat.mod_eq_of_lt (by omega)]
      · rw [Nat.zero_add, Nat.mod_eq_of_lt (by omega)]
    have hs : svS S H ((if u < 0 then S else 0) + r) = u := by
      rw [svS_eq, hm, hv]
      by_cases hn : u < 0
      · rw [if_pos hn, if_pos (by omega)]; omega
      · rw [if_neg hn, if_neg (by omega)]; omega
    have hp : rnp l sd Be S I x e = (if u < 0 then S else 0) + r := rn_own J hb (by rw [hm]; exact hr0) (by rw [hm]; exact hr) h1.lo4 (by rw [hs]; exact h3)
    rw [patO_fin, hp]
    exact ⟨hb, by rw [hm]; exact hr, hs⟩
theorem vs_of9 {H q mn : Nat} (hp : 0 < H) (h2 : mn < 2 * H) (hq : q = 0 ∨ H ≤ mn) : vs H (q * H + mn) = mn * 2 ^ q := by
  have h1 : (q * H + mn) / H - 1 = q := by
    rw [Nat.mul_comm, Nat.mul_add_div hp]
    have : mn / H < 2 := by rw [Nat.div_lt_iff_lt_mul hp]; exact h2
    rcases hq with rfl | h3
    · omega
    · have : 1 ≤ mn / H := (Nat.le_div_iff_mul_le hp).2 (by omega)
      omega
  unfold vs
  rw [h1, Nat.add_sub_cancel_left]
structure FOk (F : Ieee.Format) (S I H sd : Nat) (l : Int) : Prop where
  fb : F.fractionBits = sd
  lp : F.leastPlace = l
  ir : F.infRung = I
  sw : F.signWeight = S
  bn : F.binade = H
  hh : H = 2 ^ sd
  one : 1 ≤ sd
  ll : -4194303 ≤ l
  hi : H < I
  is : I < S
def DOp : Ieee.Datum → Opd → Prop
  | .nan _ _, o => o = onan
  | .infinity s, o => o = oinf s
  | .number s m i, o => (m = 0 ∧ o = ono s) ∨ (m ≠ 0 ∧ ∃ x e, DFm x e ∧ x ≠ 0 ∧ dv x e = dv (iv s m) i ∧ o = ofin x e)
theorem iv_abs9 (s : Bool) (m : Nat) : (iv s m).natAbs = m := by
  unfold iv
  cases s <;> simp
theorem dv_abs9 (x e : Int) : dv (x.natAbs : Int) e = ((dv x e).natAbs : Int) := by
  unfold dv
  rw [Int.natAbs_mul, Int.natAbs_natCast, Int.natCast_mul]
theorem dv_sign9 {x e y f : Int} (h : dv x e = dv y f) : x < 0 ↔ y < 0 := by
  unfold dv at h
  have h1 : (0 : Int) < ((2 ^ (e + 4194304).toNat : Nat) : Int) := Int.ofNat_lt.2 (Nat.two_pow_pos _)
  have h2 : (0 : Int) < ((2 ^ (f + 4194304).toNat : Nat) : Int) := Int.ofNat_lt.2 (Nat.two_pow_pos _)
  constructor
  · intro k
    have := Int.mul_neg_of_neg_of_pos k h1
    rw [h] at this
    exact Int.lt_of_not_ge fun q => by have := Int.mul_nonneg q (Int.le_of_lt h2); omega
  · intro k
    have := Int.mul_neg_of_neg_of_pos k h2
    rw [← h] at this
    exact Int.lt_of_not_ge fun q => by have := Int.mul_nonneg q (Int.le_of_lt h1); omega
theorem iv_sign9 {s : Bool} {m : Nat} (hm : m ≠ 0) : iv s m < 0 ↔ s = true := by
  unfold iv
  cases s <;> simp <;> omega
def DRg (R : Int) : Ieee.Datum → Prop
  | .number _ _ i => R ≤ i
  | _ => True
theorem fin_s9 {t : Bool} {n : Nat} {y f j : Int} (hn : n ≠ 0) (h : dv y f = dv (iv t n) j) : decide (y < 0) = t := by
  have h1 := (dv_sign9 h).trans (iv_sign9 (s := t) hn)
  cases t
  · exact decide_eq_false fun q => by have := h1.1 q; cases this
  · exact decide_eq_true (h1.2 rfl)
theorem DRg.mono {R R' : Int} {d : Ieee.Datum} (h : DRg R d) (k : R' ≤ R) : DRg R' d := by
  cases d
  · exact Int.le_trans k h
  · trivial
  · trivial
theorem fok_32 : FOk Ieee.single 2147483648 2139095040 8388608 23 (-149) := ⟨by decide, by decide, by decide, by decide, by decide, by decide, by decide, by decide, by decide, by decide⟩
theorem Mk.scale9 {H : Nat} {l : Int} {I : Nat} {y n A B V : Int} (hy : 0 < y) (hn : 0 < n) (hAB : y * A = n * B) (k : Mk H l I (fun t => n * t) A V) : Mk H l I (fun t => y * t) B V := by
  have key : ∀ t : Int, n * (y * t) = y * (n * t) := fun t => Int.mul_left_comm _ _ _
  refine ⟨fun z hz h => ?_, fun z hz h => ?_, fun z hz h => ?_⟩
  · have h1 := Int.mul_lt_mul_of_pos_left (k.lt z hz h) hy
    rw [hAB, ← key] at h1
    exact Int.lt_of_mul_lt_mul_left h1 (Int.le_of_lt hn)
  · have h1 := Int.mul_lt_mul_of_pos_left (k.gt z hz h) hy
    rw [hAB, ← key] at h1
    exact Int.lt_of_mul_lt_mul_left h1 (Int.le_of_lt hn)
  · have h1 := congrArg (fun t => y * t) (k.eq z hz h)
    rw [hAB, ← key] at h1
    exact Int.eq_of_mul_eq_mul_left (by omega) h1
theorem quo_eq9 {X Y m n e g i j : Int} (hx : dv X e = dv m i) (hy : dv Y g = dv n j) (h1 : -2097152 ≤ e - g) (h2 : -2097152 ≤ g) (h3 : -2097152 ≤ i - j) (h4 : -2097152 ≤ j) : Y * dv m (i - j) = n * dv X (e - g) := by
  have a1 := dv_mul (z := X) (c := 1) h1 h2
  have a2 := dv_mul (z := m) (c := 1) h3 h4
  rw [Int.mul_one, Int.sub_add_cancel] at a1 a2
  rw [hx, a2] at a1
  obtain ⟨G, hG⟩ : ∃ G, G = dv 1 g := ⟨_, rfl⟩
  obtain ⟨J, hJ⟩ : ∃ J, J = dv 1 j := ⟨_, rfl⟩
  have g0 : G ≠ 0 := by rw [hG]; unfold dv; rw [Int.one_mul]; exact pow_pos_int _
  have j0 : J ≠ 0 := by rw [hJ]; unfold dv; rw [Int.one_mul]; exact pow_pos_int _
  have b1 : Y * G = n * J := by
    have c1 : dv Y g = Y * G := by rw [hG]; unfold dv; rw [Int.one_mul]
    have c2 : dv n j = n * J := by rw [hJ]; unfold dv; rw [Int.one_mul]
    rw [← c1, ← c2, hy]
  rw [← hG, ← hJ] at a1
  obtain ⟨A, hA⟩ : ∃ A, A = dv m (i - j) := ⟨_, rfl⟩
  obtain ⟨B, hB⟩ : ∃ B, B = dv X (e - g) := ⟨_, rfl⟩
  rw [← hA, ← hB] at a1 ⊢
  refine Int.eq_of_mul_eq_mul_right (Int.mul_ne_zero g0 j0) ?_
  have c1 : Y * A * (G * J) = Y * G * (A * J) := by ac_rfl
  have c2 : n * B * (G * J) = n * J * (B * G) := by ac_rfl
  rw [c1, c2, b1, a1]
theorem read_fin9 {F : Ieee.Format} {S I H sd : Nat} {l : Int} (K : FOk F S I H sd l) (hIH : I ≤ 4096 * H) {b : Nat} {x e : Int} (hb : b < 2 * S) (h0 : b % S ≠ 0) (h1 : b % S < I) (hv : VF S H l b x e) :
    ∃ s m i, s = decide (S ≤ b) ∧ F.read b = .number s m i ∧ m ≠ 0 ∧ m < 2 * H ∧ l ≤ i ∧ i ≤ l + 4096 ∧ dv x e = dv (iv s m) i := by
  have hpos : 0 < H := by rw [K.hh]; exact Nat.two_pow_pos _
  have hi := K.hi
  have his := K.is
  have hneg : (b / S % 2 == 1) = decide (S ≤ b) := by
    rcases Nat.lt_or_ge b S with k | k
    · rw [Nat.div_eq_of_lt k, decide_eq_false (by omega)]; rfl
    · have h1 : b / S = 1 := Nat.div_eq_of_lt_le (by omega) (by omega)
      rw [h1, decide_eq_true k]; rfl
  unfold Ieee.Format.read
  dsimp only
  rw [K.sw, K.bn, K.ir, K.lp, hneg]
  have hvv := hv.v
  rw [svS_eq] at hvv
  by_cases hr : b % S < H
  · rw [if_pos hr]
    refine ⟨_, _, _, rfl, rfl, h0, by omega, Int.le_refl l, by omega, ?_⟩
    rw [hvv]
    congr 1
    have e1 : vs H (b % S) = b % S := by
      unfold vs
      rw [Nat.div_eq_of_lt hr]; simp
    rw [e1]
    unfold iv
    by_cases k : S ≤ b
    · rw [if_pos k, decide_eq_true k]; rfl
    · rw [if_neg k, decide_eq_false k]; rfl
  · rw [if_neg hr, if_pos h1]
    have hq : 1 ≤ b % S / H := (Nat.le_div_iff_mul_le hpos).2 (by omega)
    have hq2 : b % S / H < 4096 := Nat.div_lt_of_lt_mul (by rw [Nat.mul_comm]; omega)
    have hml := Nat.mod_lt (b % S) hpos
    have hdm := Nat.div_add_mod (b % S) H
    obtain ⟨q, hqq⟩ : ∃ q, q = b % S / H - 1 := ⟨_, rfl⟩
    have e2 : b % S - (b % S / H - 1) * H = H + b % S % H := by
      rw [show b % S / H = q + 1 by omega, Nat.mul_add, Nat.mul_one, Nat.mul_comm] at hdm
      rw [← hqq]
      omega
    have e1 : vs H (b % S) = (H + b % S % H) * 2 ^ q := by
      unfold vs
      rw [e2, ← hqq]
    refine ⟨_, _, _, rfl, rfl, by omega, by omega, by omega, by omega, ?_⟩
    have hl := K.ll
    rw [hvv, e1, ← hqq, dv_shift (e := l + (q : Int)) (f := l) (by omega) (by omega), show (l + (q : Int) - l).toNat = q by omega]
    congr 1
    unfold iv
    by_cases k : S ≤ b
    · rw [if_pos k, decide_eq_true k, Int.natCast_mul _ (2 ^ q), if_pos rfl, Int.neg_mul]
    · rw [if_neg k, decide_eq_false k, Int.natCast_mul _ (2 ^ q)]; rfl
def Gap (A G : Nat) : Prop := (A < G → G < (G - A) * 2251799813685248) ∧ (G < A → G < (A - G) * 2251799813685248)
theorem Gap.scale {a g : Nat} (h : Gap a g) {u : Nat} (hu : 0 < u) : Gap (a * u) (g * u) := by
  refine ⟨fun k => ?_, fun k => ?_⟩
  · have h1 := h.1 (Nat.lt_of_mul_lt_mul_right k)
    rw [← Nat.sub_mul, Nat.mul_right_comm]
    exact Nat.mul_lt_mul_of_pos_right h1 hu
  · have h1 := h.2 (Nat.lt_of_mul_lt_mul_right k)
    rw [← Nat.sub_mul, Nat.mul_right_comm]
    exact Nat.mul_lt_mul_of_pos_right h1 hu
theorem gap_small {p q : Nat} (hq : q < 2251799813685248) : Gap p q := ⟨fun h => by omega, fun h => by omega⟩
theorem gap_half {p q : Nat} (hp : p < 1125899906842624) : Gap p q := ⟨fun h => by omega, fun h => by omega⟩
theorem gapN {p q : Nat} (i j : Nat) (hp : p < 1125899906842624) (hq : q < 1125899906842624) : Gap (p * 2 ^ i) (q * 2 ^ j) := by
  rcases Nat.le_total i j with h | h
  · obtain ⟨k, rfl⟩ : ∃ k, j = i + k := ⟨j - i, by omega⟩
    rw [Nat.pow_add, Nat.mul_comm (2 ^ i), ← Nat.mul_assoc]
    exact (gap_half hp).scale (Nat.two_pow_pos _)
  · obtain ⟨k, rfl⟩ : ∃ k, i = j + k := ⟨i - j, by omega⟩
    rw [Nat.pow_add, Nat.mul_comm (2 ^ j), ← Nat.mul_assoc]
    exact (gap_small (by omega)).scale (Nat.two_pow_pos _)
theorem gap_u {b N W m a : Nat} (hb : b ≠ N) (hN : N < 33554432) (hm : m < 16777216) (hW : 67108864 ≤ W) (ha : a = b * W + m ∨ a + m = b * W) : Gap a (N * W) := by
  have hNW : N * W ≤ 33554431 * W := Nat.mul_le_mul_right _ (by omega)
  rcases Nat.lt_or_ge b N with h | h
  · have h1 : (b + 1) * W ≤ N * W := Nat.mul_le_mul_right _ (by omega)
    rw [Nat.add_mul, Nat.one_mul] at h1
    refine ⟨fun k => ?_, fun k => ?_⟩ <;> omega
  · have h1 : (N + 1) * W ≤ b * W := Nat.mul_le_mul_right _ (by omega)
    rw [Nat.add_mul, Nat.one_mul] at h1
    refine ⟨fun k => ?_, fun k => ?_⟩ <;> omega
theorem gap_v {b c W m a : Nat} (hb : b ≠ c) (hB : b < 16777216) (hm : m < 16777216) (hW : 67108864 ≤ W) (ha : a = b * W + m ∨ a + m = b * W) : Gap a (c * W) := by
  rcases Nat.lt_or_ge c 67108864 with hc | hc
  · have hcW : c * W ≤ 67108863 * W := Nat.mul_le_mul_right _ (by omega)
    rcases Nat.lt_or_ge b c with h | h
    · have h1 : (b + 1) * W ≤ c * W := Nat.mul_le_mul_right _ (by omega)
      rw [Nat.add_mul, Nat.one_mul] at h1
      refine ⟨fun k => ?_, fun k => ?_⟩ <;> omega
    · have h1 : (c + 1) * W ≤ b * W := Nat.mul_le_mul_right _ (by omega)
      rw [Nat.add_mul, Nat.one_mul] at h1
      refine ⟨fun k => ?_, fun k => ?_⟩ <;> omega
  · have h1 : (4 * b) * W ≤ c * W := Nat.mul_le_mul_right _ (by omega)
    rw [Nat.mul_assoc] at h1
    have h2 : 67108864 * W ≤ c * W := Nat.mul_le_mul_right _ hc
    refine ⟨fun k => ?_, fun k => ?_⟩ <;> omega
theorem pow26 {k : Nat} (h : 26 ≤ k) : 67108864 ≤ 2 ^ k := by
  have := Nat.pow_le_pow_right (show 0 < 2 by decide) h
  exact Nat.le_trans (by decide) this
theorem gapS {m1 m2 N A : Nat} (i1 i2 j : Nat) (h1 : m1 < 16777216) (h2 : m2 < 16777216) (hN : N < 33554432) (hi : i2 + 26 ≤ i1) (hne : m1 * 2 ^ i1 ≠ N * 2 ^ j) (hA : A = m1 * 2 ^ i1 + m2 * 2 ^ i2 ∨ A + m2 * 2 ^ i2 = m1 * 2 ^ i1) : Gap A (N * 2 ^ j) := by
  obtain ⟨f, rfl⟩ : ∃ f, i1 = i2 + f := ⟨i1 - i2, by omega⟩
  have e1 : m1 * 2 ^ (i2 + f) = (m1 * 2 ^ f) * 2 ^ i2 := by rw [Nat.pow_add, Nat.mul_comm (2 ^ i2), ← Nat.mul_assoc]
  rw [e1] at hne hA
  have hp2 := Nat.two_pow_pos i2
  obtain ⟨a, ha, rfl⟩ : ∃ a, (a = m1 * 2 ^ f + m2 ∨ a + m2 = m1 * 2 ^ f) ∧ A = a * 2 ^ i2 := by
    rcases hA with h | h
    · exact ⟨_, .inl rfl, by rw [h, Nat.add_mul]⟩
    · have hle : m2 ≤ m1 * 2 ^ f := Nat.le_of_mul_le_mul_right (by omega) hp2
      refine ⟨m1 * 2 ^ f - m2, .inr (by omega), ?_⟩
      rw [Nat.sub_mul]; omega
  rcases Nat.le_total j i2 with hj | hj
  · obtain ⟨k, rfl⟩ : ∃ k, i2 = j + k := ⟨i2 - j, by omega⟩
    rw [Nat.pow_add, Nat.mul_comm (2 ^ j), ← Nat.mul_assoc]
    exact (gap_small (by omega)).scale (Nat.two_pow_pos _)
  · obtain ⟨h, rfl⟩ : ∃ h, j = i2 + h := ⟨j - i2, by omega⟩
    have e2 : N * 2 ^ (i2 + h) = (N * 2 ^ h) * 2 ^ i2 := by rw [Nat.pow_add, Nat.mul_comm (2 ^ i2), ← Nat.mul_assoc]
    rw [e2] at hne ⊢
    refine Gap.scale ?_ hp2
    have hne' : m1 * 2 ^ f ≠ N * 2 ^ h := fun k => hne (by rw [k])
    rcases Nat.lt_or_ge h 27 with k | k
    · refine gap_small ?_
      have h4 : 2 ^ h ≤ 2 ^ 26 := Nat.pow_le_pow_right (by decide) (by omega)
      have h5 : N * 2 ^ h ≤ 33554431 * 67108864 := Nat.mul_le_mul (by omega) h4
      omega
    · rcases Nat.le_total h f with q | q
      · obtain ⟨d, rfl⟩ : ∃ d, f = h + d := ⟨f - h, by omega⟩
        have e3 : m1 * 2 ^ (h + d) = (m1 * 2 ^ d) * 2 ^ h := by rw [Nat.pow_add, Nat.mul_comm (2 ^ h), ← Nat.mul_assoc]
        rw [e3] at hne' ha
        exact gap_u (fun x => hne' (by rw [x])) hN h2 (pow26 (by omega)) ha
      · obtain ⟨d, rfl⟩ : ∃ d, h = f + d := ⟨h - f, by omega⟩
        have e3 : N * 2 ^ (f + d) = (N * 2 ^ d) * 2 ^ f := by rw [Nat.pow_add, Nat.mul_comm (2 ^ f), ← Nat.mul_assoc]
        rw [e3] at hne' ⊢
        exact gap_v (fun x => hne' (by rw [x])) h1 h2 (pow26 (by omega)) ha
theorem gapT {m1 m2 N A : Nat} (i1 i2 j : Nat) (h1 : m1 < 16777216) (h2 : m2 < 16777216) (hN : N < 33554432) (hi : i2 ≤ i1) (hne : m1 * 2 ^ i1 ≠ N * 2 ^ j) (hA : A = m1 * 2 ^ i1 + m2 * 2 ^ i2 ∨ A + m2 * 2 ^ i2 = m1 * 2 ^ i1 ∨ A + m1 * 2 ^ i1 = m2 * 2 ^ i2) (hm : m1 ≠ 0) : Gap A (N * 2 ^ j) := by
  rcases Nat.lt_or_ge i1 (i2 + 26) with h | h
  · obtain ⟨f, rfl⟩ : ∃ f, i1 = i2 + f := ⟨i1 - i2, by omega⟩
    have e1 : m1 * 2 ^ (i2 + f) = (m1 * 2 ^ f) * 2 ^ i2 := by rw [Nat.pow_add, Nat.mul_comm (2 ^ i2), ← Nat.mul_assoc]
    rw [e1] at hA
    have hp2 := Nat.two_pow_pos i2
    have h4 : 2 ^ f ≤ 2 ^ 25 := Nat.pow_le_pow_right (by decide) (by omega)
    have h5 : m1 * 2 ^ f ≤ 16777215 * 33554432 := Nat.mul_le_mul (by omega) h4
    obtain ⟨a, ha, rfl⟩ : ∃ a, a ≤ m1 * 2 ^ f + m2 ∧ A = a * 2 ^ i2 := by
      rcases hA with h | h | h
      · exact ⟨_, Nat.le_refl _, by rw [h, Nat.add_mul]⟩
      · have hle : m2 ≤ m1 * 2 ^ f := Nat.le_of_mul_le_mul_right (by omega) hp2
        refine ⟨m1 * 2 ^ f - m2, by omega, ?_⟩
        rw [Nat.sub_mul]; omega
      · have hle : m1 * 2 ^ f ≤ m2 := Nat.le_of_mul_le_mul_right (by omega) hp2
        refine ⟨m2 - m1 * 2 ^ f, by omega, ?_⟩
        rw [Nat.sub_mul]; omega
    exact gapN _ _ (by omega) (by omega)
  · refine gapS i1 i2 j h1 h2 hN h hne ?_
    rcases hA with k | k | k
    · exact .inl k
    · exact .inr k
    · exfalso
      obtain ⟨f, rfl⟩ : ∃ f, i1 = i2 + f := ⟨i1 - i2, by omega⟩
      have e1 : m1 * 2 ^ (i2 + f) = (m1 * 2 ^ f) * 2 ^ i2 := by rw [Nat.pow_add, Nat.mul_comm (2 ^ i2), ← Nat.mul_assoc]
      rw [e1] at k
      have hle : m1 * 2 ^ f ≤ m2 := Nat.le_of_mul_le_mul_right (by omega) (Nat.two_pow_pos i2)
      have h6 := pow26 (k := f) (by omega)
      have h7 : 1 * 67108864 ≤ m1 * 2 ^ f := Nat.mul_le_mul (by omega) h6
      omega
abbrev M9s (z : Nat) : Int := dv (hv 8388608 z : Int) (-149 - 1)
abbrev D9d (y : Nat) : Int := dv (vs 4503599627370496 y : Int) (-1074)
abbrev H9d (y : Nat) : Int := dv (hv 4503599627370496 y : Int) (-1074 - 1)
theorem h9_top {q N K : Nat} (hK : K = 2046) (hq : q ≤ 253) (hN : N < 33554432) : N * 2 ^ (q + 924) < 4503599627370496 * 2 ^ K := by
  obtain ⟨t, ht⟩ : ∃ t, t = q + 924 := ⟨_, rfl⟩
  obtain ⟨d, hd⟩ : ∃ d, K = t + d := ⟨K - t, by omega⟩
  rw [← ht, hd, Nat.pow_add, Nat.mul_comm (2 ^ t), ← Nat.mul_assoc]
  refine Nat.mul_lt_mul_of_pos_right ?_ (Nat.two_pow_pos _)
  have := Nat.two_pow_pos d
  exact Nat.lt_of_lt_of_le (by omega) (Nat.le_mul_of_pos_right _ this)
theorem h9_vsI {K : Nat} (hK : K = 2046) : vs 4503599627370496 9218868437227405312 = 4503599627370496 * 2 ^ K := by
  have h := vs_of9 (H := 4503599627370496) (q := K) (mn := 4503599627370496) (by decide) (by decide) (.inr (Nat.le_refl _))
  rw [← h, hK]
theorem h9_low {s : Nat} (h : s < 4503599627370496) : vs 4503599627370496 s = s := by
  have := vs_of9 (H := 4503599627370496) (q := 0) (mn := s) (by decide) (by omega) (.inl rfl)
  rw [Nat.zero_mul, Nat.zero_add, Nat.pow_zero, Nat.mul_one] at this
  exact this
theorem h9_unit {y : Nat} (h : 4503599627370496 ≤ y) : 4503599627370496 * 2 ^ (y / 4503599627370496 - 1) ≤ vs 4503599627370496 y := by
  unfold vs
  refine Nat.mul_le_mul_right _ ?_
  have h1 := Nat.div_add_mod y 4503599627370496
  have h2 : 1 ≤ y / 4503599627370496 := Nat.le_div_iff_mul_le (by decide) |>.2 (by omega)
  rw [Nat.sub_mul]
  omega
theorem mid_dbl {z : Nat} (hz : z < 2139095040) : ∃ y N j : Nat, 0 < y ∧ y < 9218868437227405312 ∧ N < 33554432 ∧ M9s z = ((N * 2 ^ j : Nat) : Int) ∧ 0 < M9s z ∧ D9d y = M9s z ∧ 9007199254740992 * H9d y ≤ 9007199254740993 * M9s z ∧ 9007199254740991 * M9s z ≤ 9007199254740992 * H9d (y - 1) := by
  obtain ⟨q, hq⟩ : ∃ q, q = z / 8388608 - 1 := ⟨_, rfl⟩
  have hmn : z - q * 8388608 < 2 * 8388608 := by omega
  have hq2 : q ≤ 253 := by omega
  obtain ⟨N, hN⟩ : ∃ N, N = 2 * (z - q * 8388608) + 1 := ⟨_, rfl⟩
  have hM : dv (N : Int) (-149 + (q : Int) - 1) = M9s z := by
    have := mid_dv (H := 8388608) (l := -149) z (by decide)
    rw [← hq] at this
    rw [hN]; exact this
  obtain ⟨y, hy⟩ := vs_repr (H := 4503599627370496) (by decide) (q + 924) N (by omega)
  have hN1 : 1 ≤ N := by omega
  have hbig : 4503599627370496 ≤ vs 4503599627370496 y := by
    rw [hy]
    have h1 : 2 ^ 52 ≤ 2 ^ (q + 924) := Nat.pow_le_pow_right (by decide) (by omega)
    have h2 : 1 * 2 ^ (q + 924) ≤ N * 2 ^ (q + 924) := Nat.mul_le_mul_right _ hN1
    rw [Nat.one_mul] at h2
    have h3 : (4503599627370496 : Nat) = 2 ^ 52 := by decide
    omega
  have hyH : 4503599627370496 ≤ y := Nat.le_of_not_lt fun h => by rw [h9_low h] at hbig; omega
  have hyI : y < 9218868437227405312 := Nat.lt_of_not_le fun h => by
    have h1 := vs_le (H := 4503599627370496) (by decide) h
    rw [h9_vsI (K := 2046) rfl, hy] at h1
    exact absurd (h9_top (K := 2046) rfl hq2 (by omega)) (Nat.not_lt.2 h1)
  have hD : D9d y = M9s z := by
    rw [← hM]
    show dv (vs 4503599627370496 y : Int) (-1074) = _
    have he : (-1074 : Int) + ((q + 924 : Nat) : Int) = -149 + (q : Int) - 1 := by omega
    rw [hy, Int.natCast_mul, ← dv_up (q + 924) (by decide), he]
  have hpos : 0 < M9s z := by
    rw [← hM]
    have := dv_lt (-149 + (q : Int) - 1) (show (0 : Int) < (N : Int) by omega)
    rwa [dv_zero] at this
  -- in units of half the least number
  have hT : ∀ k : Nat, dv (k : Int) (-1074) = 2 * dv (k : Int) (-1074 - 1) := fun k => by
    have h1 := dv_up (x := (k : Int)) (e := -1074 - 1) 1 (by decide)
    rw [show (-1074 - 1 : Int) + ((1 : Nat) : Int) = -1074 from rfl] at h1
    rw [h1, show ((2 ^ 1 : Nat) : Int) = 2 from rfl]
    unfold dv
    rw [Int.mul_comm (k : Int) 2, Int.mul_assoc]
  obtain ⟨U, hU⟩ : ∃ U : Int, U = ((2 ^ ((-1074 - 1 : Int) + 4194304).toNat : Nat) : Int) := ⟨_, rfl⟩
  have hU0 : 0 < U := by rw [hU]; exact Int.ofNat_lt.2 (Nat.two_pow_pos _)
  have hdv : ∀ k : Nat, dv (k : Int) (-1074 - 1) = (k : Int) * U := fun k => by rw [hU]; rfl
  have hu := h9_unit hyH
  obtain ⟨u, hu1⟩ : ∃ u, u = 2 ^ (y / 4503599627370496 - 1) := ⟨_, rfl⟩
  obtain ⟨u', hu2⟩ : ∃ u', u' = 2 ^ ((y - 1) / 4503599627370496 - 1) := ⟨_, rfl⟩
  have huu : u' ≤ u := by
    rw [hu1, hu2]
    refine Nat.pow_le_pow_right (by decide) ?_
    have := Nat.div_le_div_right (c := 4503599627370496) (show y - 1 ≤ y by omega)
    omega
  have hnx : vs 4503599627370496 y = vs 4503599627370496 (y - 1) + u' := by
    have := vs_next (H := 4503599627370496) (by decide) (y - 1)
    rw [show y - 1 + 1 = y by omega] at this
    rw [hu2]; exact this
  rw [← hu1] at hu
  have e1 : H9d y = ((2 * vs 4503599627370496 y + u : Nat) : Int) * U := by
    show dv ((hv 4503599627370496 y : Nat) : Int) (-1074 - 1) = _
    rw [hdv]; unfold hv; rw [hu1]
  have e2 : H9d (y - 1) = ((2 * vs 4503599627370496 (y - 1) + u' : Nat) : Int) * U := by
    show dv ((hv 4503599627370496 (y - 1) : Nat) : Int) (-1074 - 1) = _
    rw [hdv]; unfold hv; rw [hu2]
  have e3 : M9s z = ((2 * vs 4503599627370496 y : Nat) : Int) * U := by
    rw [← hD]
    show dv (vs 4503599627370496 y : Int) (-1074) = _
    rw [hT, hdv, ← Int.mul_assoc]; rfl
  refine ⟨y, N, (-149 + (q : Int) - 1 + 4194304).toNat, by omega, hyI, by omega, ?_, hpos, hD, ?_, ?_⟩
  · rw [← hM]; unfold dv; rw [Int.natCast_mul]
  · rw [e1, e3, ← Int.mul_assoc, ← Int.mul_assoc]
    refine Int.mul_le_mul_of_nonneg_right ?_ (Int.le_of_lt hU0)
    omega
  · rw [e2, e3, ← Int.mul_assoc, ← Int.mul_assoc]
    refine Int.mul_le_mul_of_nonneg_right ?_ (Int.le_of_lt hU0)
    omega
theorem thru {g : Int → Int} {A V W : Int} {Z Y : Nat} (k32 : Mk 8388608 (-149) 2139095040 g A V) (hZ : RNz 8388608 (-149) 2139095040 V Z) (k64 : Mk 4503599627370496 (-1074) 9218868437227405312 g A W) (hY : RNz 4503599627370496 (-1074) 9218868437227405312 W Y)
    (hg : Rise g) (gap : ∀ z, z < 2139095040 → ∀ y, 0 < y → D9d y = M9s z → 9007199254740992 * H9d y ≤ 9007199254740993 * M9s z → 9007199254740991 * M9s z ≤ 9007199254740992 * H9d (y - 1) → (A < g (M9s z) → A < g (H9d (y - 1))) ∧ (g (M9s z) < A → g (H9d y) < A)) : RNz 8388608 (-149) 2139095040 (D9d Y) Z := by
  have key : ∀ z, z < 2139095040 → (V < M9s z → D9d Y < M9s z) ∧ (V = M9s z → D9d Y = M9s z) ∧ (M9s z < V → M9s z < D9d Y) := fun z hz => by
    obtain ⟨y, N, j, y0, yI, _, _, _, hD, hup, hdn⟩ := mid_dbl hz
    have hp : 0 < (4503599627370496 : Nat) := by decide
    obtain ⟨g1, g2⟩ := gap z hz y y0 hD hup hdn
    refine ⟨fun h => ?_, fun h => ?_, fun h => ?_⟩
    · have h1 := g1 (k32.lt z hz h)
      have h2 : W < H9d (y - 1) := Int.not_le.1 fun h2 => by
        rcases Int.lt_or_eq_of_le h2 with h3 | h3
        · have := k64.gt (y - 1) (by omega) h3; have : g (H9d (y - 1)) < A := this; omega
        · have : A = g (H9d (y - 1)) := k64.eq (y - 1) (by omega) h3.symm; omega
      have h3 := hY.lo (y - 1) (by omega) h2
      rw [← hD]
      exact dv_lt _ (Int.ofNat_lt.2 (vs_mono hp (by omega)))
    · have h1 : A = g (M9s z) := k32.eq z hz h
      have h2 := k64.same hg hY (RNz.exact (Z := y) hp (by decide) (by omega)) (dv_nn _ _) (by show A = g (D9d y); rw [hD]; exact h1)
      rw [h2]; exact hD
    · have h1 := g2 (k32.gt z hz h)
      have h2 : H9d y < W := Int.not_le.1 fun h2 => by
        rcases Int.lt_or_eq_of_le h2 with h3 | h3
        · have : A < g (H9d y) := k64.lt y yI h3; omega
        · have : A = g (H9d y) := k64.eq y yI h3; omega
      have h3 := hY.hi y yI h2
      rw [← hD]
      exact dv_lt _ (Int.ofNat_lt.2 (vs_mono hp (by omega)))
  have tri : ∀ z, z < 2139095040 → (D9d Y < M9s z → V < M9s z) ∧ (M9s z < D9d Y → M9s z < V) ∧ (D9d Y = M9s z → V = M9s z) := fun z hz => by
    obtain ⟨a, b, c⟩ := key z hz
    refine ⟨fun h => ?_, fun h => ?_, fun h => ?_⟩ <;> rcases Int.lt_trichotomy V (M9s z) with q | q | q
    all_goals first
      | exact q
      | (have := a q; omega)
      | (have := b q; omega)
      | (have := c q; omega)
  exact ⟨hZ.le, fun z hz h => hZ.lo z hz ((tri z hz).1 h), fun z hz h => hZ.hi z hz ((tri z hz).2.1 h), fun z hz h => hZ.eq z hz ((tri z hz).2.2 h)⟩
theorem gap_lin {c a m : Nat} (hG : Gap a (c * m)) {M Hu Hd : Int} (hM : M = (m : Int)) (up : 9007199254740992 * Hu ≤ 9007199254740993 * M) (dn : 9007199254740991 * M ≤ 9007199254740992 * Hd) : ((a : Int) < (c : Int) * M → (a : Int) < (c : Int) * Hd) ∧ ((c : Int) * M < (a : Int) → (c : Int) * Hu < (a : Int)) := by
  have h1 := Int.mul_le_mul_of_nonneg_left up (show (0 : Int) ≤ (c : Int) by omega)
  have h2 := Int.mul_le_mul_of_nonneg_left dn (show (0 : Int) ≤ (c : Int) by omega)
  rw [Int.mul_left_comm, Int.mul_left_comm (c : Int) _ M] at h1
  rw [Int.mul_left_comm, Int.mul_left_comm (c : Int) _ Hd] at h2
  have h3 : (c : Int) * M = ((c * m : Nat) : Int) := by rw [hM, Int.natCast_mul]
  rw [h3] at h1 h2 ⊢
  generalize (c : Int) * Hu = p at h1 ⊢
  generalize (c : Int) * Hd = q at h2 ⊢
  generalize c * m = x at hG h1 h2 ⊢
  obtain ⟨g1, g2⟩ := hG
  refine ⟨fun h => ?_, fun h => ?_⟩
  · have := g1 (by omega)
    omega
  · have := g2 (by omega)
    omega
theorem sq_le9 {a b : Int} (ha : 0 ≤ a) (hab : a ≤ b) : a * a ≤ b * b := Int.mul_le_mul hab hab ha (by omega)
theorem gap_sq {a m : Nat} (hG : Gap a (m * m)) {M Hu Hd : Int} (hM : M = (m : Int)) (hu0 : 0 ≤ Hu) (up : 9007199254740992 * Hu ≤ 9007199254740993 * M) (dn : 9007199254740991 * M ≤ 9007199254740992 * Hd) : ((a : Int) < M * M → (a : Int) < Hd * Hd) ∧ (M * M < (a : Int) → Hu * Hu < (a : Int)) := by
  have h1 := sq_le9 (by omega) up
  have h2 := sq_le9 (by omega) dn
  have e : ∀ k x : Int, k * x * (k * x) = (k * k) * (x * x) := fun k x => by rw [Int.mul_assoc, Int.mul_left_comm x k x, ← Int.mul_assoc]
  rw [e, e] at h1 h2
  have h3 : M * M = ((m * m : Nat) : Int) := by rw [hM, Int.natCast_mul]
  rw [h3] at h1 h2 ⊢
  generalize Hu * Hu = p at h1 ⊢
  generalize Hd * Hd = q at h2 ⊢
  generalize m * m = x at hG h1 h2 ⊢
  obtain ⟨g1, g2⟩ := hG
  refine ⟨fun h => ?_, fun h => ?_⟩
  · have := g1 (by omega)
    omega
  · have := g2 (by omega)
    omega
theorem mk_id9 {H : Nat} {l : Int} {I : Nat} {A : Int} : Mk H l I (fun t => ((1 : Nat) : Int) * t) A A := by
  have e : ∀ t : Int, ((1 : Nat) : Int) * t = t := fun t => Int.one_mul t
  exact ⟨fun z _ h => by rw [e]; exact h, fun z _ h => by rw [e]; exact h, fun z _ h => by rw [e]; exact h⟩
theorem fig_lin {c a : Nat} (hc : 0 < c) {V W : Int} {Z Y : Nat} (k32 : Mk 8388608 (-149) 2139095040 (fun t => (c : Int) * t) (a : Int) V) (hZ : RNz 8388608 (-149) 2139095040 V Z) (k64 : Mk 4503599627370496 (-1074) 9218868437227405312 (fun t => (c : Int) * t) (a : Int) W) (hY : RNz 4503599627370496 (-1074) 9218868437227405312 W Y)
    (gap : ∀ z, z < 2139095040 → ∀ N j : Nat, N < 33554432 → M9s z = ((N * 2 ^ j : Nat) : Int) → Gap a (c * (N * 2 ^ j))) : RNz 8388608 (-149) 2139095040 (D9d Y) Z := by
  refine thru k32 hZ k64 hY (rise_mul (by omega)) fun z hz y y0 hD hup hdn => ?_
  obtain ⟨_, N, j, _, _, hN, hM, _⟩ := mid_dbl hz
  exact gap_lin (gap z hz N j hN hM) hM hup hdn
theorem fig_sq {a : Nat} {V W : Int} {Z Y : Nat} (k32 : Mk 8388608 (-149) 2139095040 (fun t => t * t) (a : Int) V) (hZ : RNz 8388608 (-149) 2139095040 V Z) (k64 : Mk 4503599627370496 (-1074) 9218868437227405312 (fun t => t * t) (a : Int) W) (hY : RNz 4503599627370496 (-1074) 9218868437227405312 W Y)
    (gap : ∀ z, z < 2139095040 → ∀ N j : Nat, N < 33554432 → M9s z = ((N * 2 ^ j : Nat) : Int) → Gap a ((N * 2 ^ j) * (N * 2 ^ j))) : RNz 8388608 (-149) 2139095040 (D9d Y) Z := by
  refine thru k32 hZ k64 hY rise_sq fun z hz y y0 hD hup hdn => ?_
  obtain ⟨_, N, j, _, _, hN, hM, _⟩ := mid_dbl hz
  exact gap_sq (gap z hz N j hN hM) hM (dv_nn _ _) hup hdn
theorem pcan9 {r m n i k S : Nat} (h : r * 2 ^ S = (m * 2 ^ i) * (n * 2 ^ k)) (hS : S ≤ i + k) : r = (m * n) * 2 ^ (i + k - S) := by
  have e : (m * 2 ^ i) * (n * 2 ^ k) = (m * n) * 2 ^ (i + k - S) * 2 ^ S := by
    rw [Nat.mul_assoc (m * n), ← Nat.pow_add, Nat.sub_add_cancel hS, Nat.pow_add, Nat.mul_mul_mul_comm]
  rw [e] at h
  exact Nat.eq_of_mul_eq_mul_right (Nat.two_pow_pos S) h
theorem fin9s {b : Nat} {x e : Int} (hb : b < 4294967296) (h0 : b % 2147483648 ≠ 0) (h1 : b % 2147483648 < 2139095040) (hvf : VF 2147483648 8388608 (-149) b x e) :
    ∃ m i : Nat, m ≠ 0 ∧ m < 16777216 ∧ 4194304 - 149 ≤ i ∧ i ≤ 4194304 - 149 + 4096 ∧ (dv x e).natAbs = m * 2 ^ i ∧ ∀ z N j : Nat, M9s z = ((N * 2 ^ j : Nat) : Int) → m * 2 ^ i ≠ N * 2 ^ j := by
  obtain ⟨s, m, i, _, _, m0, mH, i1, i2, hx⟩ := read_fin9 fok_32 (by decide) hb h0 h1 hvf
  have hA : (dv x e).natAbs = m * 2 ^ (i + 4194304).toNat := by
    rw [hx]; unfold dv
    rw [Int.natAbs_mul, iv_abs9, Int.natAbs_natCast]
  refine ⟨m, (i + 4194304).toNat, m0, mH, by omega, by omega, hA, fun z N j hM h => ?_⟩
  rw [← hA] at h
  have h2 : (dv x e).natAbs = (dv (vs 8388608 (b % 2147483648) : Int) (-149)).natAbs := by
    rw [hvf.v, svS_eq]
    split
    · rw [dv_neg, Int.natAbs_neg]
    · rfl
  have h3 := dv_up (x := (vs 8388608 (b % 2147483648) : Int)) (e := -149 - 1) 1 (by decide)
  rw [show (-149 - 1 : Int) + ((1 : Nat) : Int) = -149 from rfl] at h3
  have h4 : dv (hv 8388608 z : Int) (-149 - 1) = dv ((2 * vs 8388608 (b % 2147483648) : Nat) : Int) (-149 - 1) := by
    have h5 : M9s z = dv (vs 8388608 (b % 2147483648) : Int) (-149) := by
      rw [hM, ← h, h2]
      exact Int.natAbs_of_nonneg (dv_nn _ _)
    have h6 : (vs 8388608 (b % 2147483648) : Int) * ((2 ^ 1 : Nat) : Int) = ((2 * vs 8388608 (b % 2147483648) : Nat) : Int) := by
      rw [show ((2 ^ 1 : Nat) : Int) = 2 from rfl]; omega
    rw [h6] at h3
    exact h5.trans h3
  have h6 : hv 8388608 z = 2 * vs 8388608 (b % 2147483648) := by
    rcases Nat.lt_trichotomy (hv 8388608 z) (2 * vs 8388608 (b % 2147483648)) with q | q | q
    · have := dv_lt (-149 - 1) (Int.ofNat_lt.2 q); omega
    · exact q
    · have := dv_lt (-149 - 1) (Int.ofNat_lt.2 q); omega
  have g1 := hv_gt 8388608 z
  have g2 := hv_lt (H := 8388608) (by decide) z
  have g3 : z < b % 2147483648 := Nat.lt_of_not_le fun q => by have := vs_le (H := 8388608) (by decide) q; omega
  have g4 : b % 2147483648 < z + 1 := Nat.lt_of_not_le fun q => by have := vs_le (H := 8388608) (by decide) q; omega
  omega
theorem fig_sum {a b : Nat} {x e y g z h : Int} {Z Y : Nat} (ha : a < 4294967296 ∧ a % 2147483648 ≠ 0 ∧ a % 2147483648 < 2139095040) (hb : b < 4294967296 ∧ b % 2147483648 ≠ 0 ∧ b % 2147483648 < 2139095040) (va : VF 2147483648 8388608 (-149) a x e) (vb : VF 2147483648 8388608 (-149) b y g) (hs : dv z h = dv x e + dv y g ∨ dv z h = dv x e - dv y g)
    (hZ : RNz 8388608 (-149) 2139095040 (dv z.natAbs h) Z) (hY : RNz 4503599627370496 (-1074) 9218868437227405312 (dv z.natAbs h) Y) : RNz 8388608 (-149) 2139095040 (D9d Y) Z := by
  obtain ⟨m, i, m0, mH, _, _, hm, nm⟩ := fin9s ha.1 ha.2.1 ha.2.2 va
  obtain ⟨n, k, n0, nH, _, _, hn, nn⟩ := fin9s hb.1 hb.2.1 hb.2.2 vb
  have e1 : dv (z.natAbs : Int) h = ((dv z h).natAbs : Int) := dv_abs9 z h
  rw [e1] at hZ hY
  have h4 : (dv z h).natAbs = m * 2 ^ i + n * 2 ^ k ∨ (dv z h).natAbs + n * 2 ^ k = m * 2 ^ i ∨ (dv z h).natAbs + m * 2 ^ i = n * 2 ^ k := by
    rw [← hm, ← hn]
    generalize dv x e = p at hs
    generalize dv y g = q at hs
    generalize dv z h = r at hs
    omega
  refine fig_lin (c := 1) (by decide) mk_id9 hZ mk_id9 hY fun zz hz N j hN hM => ?_
  rw [Nat.one_mul]
  rcases Nat.le_total k i with q | q
  · exact gapT i k j mH nH hN q (nm zz N j hM) h4 m0
  · refine gapT k i j nH mH hN q (nn zz N j hM) ?_ n0
    rcases h4 with r | r | r
    · exact .inl (by omega)
    · exact .inr (.inr r)
    · exact .inr (.inl r)
theorem fig_one {a : Nat} {x e : Int} {Z Y : Nat} (ha : a < 4294967296 ∧ a % 2147483648 ≠ 0 ∧ a % 2147483648 < 2139095040) (va : VF 2147483648 8388608 (-149) a x e) (hZ : RNz 8388608 (-149) 2139095040 (dv x.natAbs e) Z) (hY : RNz 4503599627370496 (-1074) 9218868437227405312 (dv x.natAbs e) Y) : RNz 8388608 (-149) 2139095040 (D9d Y) Z := by
  obtain ⟨m, i, m0, mH, _, _, hm, nm⟩ := fin9s ha.1 ha.2.1 ha.2.2 va
  have e1 : dv (x.natAbs : Int) e = ((dv x e).natAbs : Int) := dv_abs9 x e
  rw [e1, hm] at hZ hY
  refine fig_lin (c := 1) (by decide) mk_id9 hZ mk_id9 hY fun zz hz N j hN hM => ?_
  rw [Nat.one_mul]
  exact gapN _ _ (by omega) (by omega)
theorem fig_prod {a b : Nat} {x e y g z h : Int} {Z Y : Nat} (ha : a < 4294967296 ∧ a % 2147483648 ≠ 0 ∧ a % 2147483648 < 2139095040) (hb : b < 4294967296 ∧ b % 2147483648 ≠ 0 ∧ b % 2147483648 < 2139095040) (va : VF 2147483648 8388608 (-149) a x e) (vb : VF 2147483648 8388608 (-149) b y g) (hs : dv z h = dv (x * y) (e + g))
    (hZ : RNz 8388608 (-149) 2139095040 (dv z.natAbs h) Z) (hY : RNz 4503599627370496 (-1074) 9218868437227405312 (dv z.natAbs h) Y) : RNz 8388608 (-149) 2139095040 (D9d Y) Z := by
  obtain ⟨m, i, m0, mH, i1, i2, hm, _⟩ := fin9s ha.1 ha.2.1 ha.2.2 va
  obtain ⟨n, k, n0, nH, k1, k2, hn, _⟩ := fin9s hb.1 hb.2.1 hb.2.2 vb
  have e1 : dv (z.natAbs : Int) h = ((dv z h).natAbs : Int) := dv_abs9 z h
  rw [e1] at hZ hY
  have h4 : (dv z h).natAbs = (m * n) * 2 ^ (i + k - 4194304) := by
    have ee := va.fm
    have gg := vb.fm
    have l1 : -2097152 ≤ e := by rcases ee with ⟨_, q⟩ | ⟨_, q, q2⟩ <;> omega
    have l2 : -2097152 ≤ g := by rcases gg with ⟨_, q⟩ | ⟨_, q, q2⟩ <;> omega
    have h5 := dv_mul (z := x) (c := y) l1 l2
    rw [← hs] at h5
    have h6 := congrArg Int.natAbs h5
    rw [Int.natAbs_mul, Int.natAbs_mul, hm, hn, Int.natAbs_natCast] at h6
    exact pcan9 h6 (by omega)
  refine fig_lin (c := 1) (by decide) mk_id9 hZ mk_id9 hY fun zz hz N j hN hM => ?_
  rw [Nat.one_mul, h4]
  exact gapN _ _ (Nat.lt_of_le_of_lt (Nat.mul_le_mul (show m ≤ 16777215 by omega) (show n ≤ 16777215 by omega)) (by decide)) (by omega)
theorem fig_quo {a b : Nat} {x e y g V W : Int} {Z Y : Nat} (ha : a < 4294967296 ∧ a % 2147483648 ≠ 0 ∧ a % 2147483648 < 2139095040) (hb : b < 4294967296 ∧ b % 2147483648 ≠ 0 ∧ b % 2147483648 < 2139095040) (va : VF 2147483648 8388608 (-149) a x e) (vb : VF 2147483648 8388608 (-149) b y g)
    (hZ : RNz 8388608 (-149) 2139095040 V Z) (k32 : Mk 8388608 (-149) 2139095040 (fun t => (y.natAbs : Int) * t) (dv (x.natAbs : Int) (e - g)) V) (hY : RNz 4503599627370496 (-1074) 9218868437227405312 W Y) (k64 : Mk 4503599627370496 (-1074) 9218868437227405312 (fun t => (y.natAbs : Int) * t) (dv (x.natAbs : Int) (e - g)) W) : RNz 8388608 (-149) 2139095040 (D9d Y) Z := by
  obtain ⟨s, m, i, _, _, m0, mH, i1, i2, hx⟩ := read_fin9 fok_32 (by decide) ha.1 ha.2.1 ha.2.2 va
  obtain ⟨t, n, j, _, _, n0, nH, j1, j2, hy⟩ := read_fin9 fok_32 (by decide) hb.1 hb.2.1 hb.2.2 vb
  have ee := va.fm
  have gg := vb.fm
  have l1 : -1048576 ≤ e ∧ e ≤ 1048576 := by rcases ee with ⟨_, q⟩ | ⟨_, q, q2⟩ <;> omega
  have l2 : -1048576 ≤ g ∧ g ≤ 1048576 := by rcases gg with ⟨_, q⟩ | ⟨_, q, q2⟩ <;> omega
  have hy0 : y ≠ 0 := fun q => by
    rw [q, dv_zero] at hy
    have h9 : (iv t n).natAbs = 0 := by rw [dv_eq_zero hy.symm]; rfl
    rw [iv_abs9] at h9
    exact n0 h9
  have hX : dv (x.natAbs : Int) e = dv (m : Int) i := by rw [dv_abs9, hx, ← dv_abs9, iv_abs9]
  have hY' : dv (y.natAbs : Int) g = dv (n : Int) j := by rw [dv_abs9, hy, ← dv_abs9, iv_abs9]
  have hq := quo_eq9 hX hY' (by omega) (by omega) (by omega) (by omega)
  have hn : (0 : Int) < (n : Int) := by omega
  have hyp : (0 : Int) < (y.natAbs : Int) := by omega
  have c32 := Mk.scale9 (y := (n : Int)) (n := (y.natAbs : Int)) hn hyp hq.symm k32
  have c64 := Mk.scale9 (y := (n : Int)) (n := (y.natAbs : Int)) hn hyp hq.symm k64
  have hA : dv (m : Int) (i - j) = ((m * 2 ^ (i - j + 4194304).toNat : Nat) : Int) := by unfold dv; rw [Int.natCast_mul]
  rw [hA] at c32 c64
  refine fig_lin (c := n) (by omega) c32 hZ c64 hY fun zz hz N k hN hM => ?_
  rw [← Nat.mul_assoc]
  exact gapN _ _ (by omega) (Nat.lt_of_le_of_lt (Nat.mul_le_mul (show n ≤ 16777215 by omega) (show N ≤ 33554431 by omega)) (by decide))
theorem fig_root {a : Nat} {x e V W : Int} {Z Y : Nat} (ha : a < 4294967296 ∧ a % 2147483648 ≠ 0 ∧ a % 2147483648 < 2139095040) (va : VF 2147483648 8388608 (-149) a x e)
    (hZ : RNz 8388608 (-149) 2139095040 V Z) (k32 : Mk 8388608 (-149) 2139095040 (fun t => t * t) ((x.natAbs : Int) * ((2 ^ (e + 2 * 4194304).toNat : Nat) : Int)) V) (hY : RNz 4503599627370496 (-1074) 9218868437227405312 W Y) (k64 : Mk 4503599627370496 (-1074) 9218868437227405312 (fun t => t * t) ((x.natAbs : Int) * ((2 ^ (e + 2 * 4194304).toNat : Nat) : Int)) W) : RNz 8388608 (-149) 2139095040 (D9d Y) Z := by
  obtain ⟨m, i, m0, mH, i1, i2, hm, _⟩ := fin9s ha.1 ha.2.1 ha.2.2 va
  have ee := va.fm
  have l1 : -1048576 ≤ e ∧ e ≤ 1048576 := by rcases ee with ⟨_, q⟩ | ⟨_, q, q2⟩ <;> omega
  obtain ⟨S, hS⟩ : ∃ S : Nat, S = 4194304 := ⟨_, rfl⟩
  have hA : (x.natAbs : Int) * ((2 ^ (e + 2 * 4194304).toNat : Nat) : Int) = ((m * 2 ^ (i + S) : Nat) : Int) := by
    rw [Nat.pow_add, ← Nat.mul_assoc, ← hm]
    have h1 : (dv x e).natAbs = x.natAbs * 2 ^ (e + 4194304).toNat := by unfold dv; rw [Int.natAbs_mul, Int.natAbs_natCast]
    rw [h1, Nat.mul_assoc, ← Nat.pow_add, Int.natCast_mul, show (e + 2 * 4194304).toNat = (e + 4194304).toNat + S by omega]
  rw [hA] at k32 k64
  refine fig_sq k32 hZ k64 hY fun zz hz N k hN hM => ?_
  have h2 : (N * 2 ^ k) * (N * 2 ^ k) = (N * N) * 2 ^ (k + k) := by rw [Nat.pow_add, Nat.mul_assoc, Nat.mul_left_comm (2 ^ k) N, ← Nat.mul_assoc]
  rw [h2]
  exact gapN _ _ (by omega) (Nat.lt_of_le_of_lt (Nat.mul_le_mul (show N ≤ 33554431 by omega) (show N ≤ 33554431 by omega)) (by decide))
theorem add_is {f p m l : Int} {S I H sd : Nat} {Be : Int} {Q : Nat} (J : Jo f p m l S I H sd Be Q) {a : Nat} {b : Nat} {oa : Opd} {ob : Opd} (ha : a < 2 * S) (hb : b < 2 * S) (ka : OpB S I H l a oa) (kb : OpB S I H l b ob) (w : World) (hT : Tab w) : Calls Tryz.prog 9 #[.int .i64 f, U a, U b] w fun en w' => ∃ c, en = .returned (.tuple #[U (patO l sd Be S I Q c), .int .i64 0]) ∧ SumO oa ob c ∧ Below w.heap.size w w' := by
  have hI : 0 < I := by have := J.jq.jn.jm.pm.fm.pos; omega
  refine (soft_add J ha hb w hT).mono ?_
  rintro en w' ⟨oa', ob', c, rfl, h1, h2, hs, _, hbw⟩
  obtain rfl := h1.uniq ka hI
  obtain rfl := h2.uniq kb hI
  exact ⟨c, rfl, hs, hbw⟩
theorem mul_is {f p m l : Int} {S I H sd : Nat} {Be : Int} {Q : Nat} (J : Jo f p m l S I H sd Be Q) {a : Nat} {b : Nat} {oa : Opd} {ob : Opd} (ha : a < 2 * S) (hb : b < 2 * S) (ka : OpB S I H l a oa) (kb : OpB S I H l b ob) (w : World) (hT : Tab w) : Calls Tryz.prog 11 #[.int .i64 f, U a, U b] w fun en w' => ∃ c, en = .returned (.tuple #[U (patO l sd Be S I Q c), .int .i64 0]) ∧ MulO oa ob c ∧ Below w.heap.size w w' := by
  have hI : 0 < I := by have := J.jq.jn.jm.pm.fm.pos; omega
  refine (soft_mul J ha hb w hT).mono ?_
  rintro en w' ⟨oa', ob', c, rfl, h1, h2, hs, _, hbw⟩
  obtain rfl := h1.uniq ka hI
  obtain rfl := h2.uniq kb hI
  exact ⟨c, rfl, hs, hbw⟩
theorem sub_is {f p m l : Int} {S I H sd : Nat} {Be : Int} {Q : Nat} (J : Jo f p m l S I H sd Be Q) {a : Nat} {b : Nat} {oa : Opd} {ob : Opd} (ha : a < 2 * S) (hb : b < 2 * S) (ka : OpB S I H l a oa) (kb : OpB S I H l b ob) (w : World) (hT : Tab w) : Calls Tryz.prog 10 #[.int .i64 f, U a, U b] w fun en w' => ∃ c, en = .returned (.tuple #[U (patO l sd Be S I Q c), .int .i64 0]) ∧ SumO oa (negO ob) c ∧ Below w.heap.size w w' := by
  have hI : 0 < I := by have := J.jq.jn.jm.pm.fm.pos; omega
  refine (soft_sub J ha hb w hT).mono ?_
  rintro en w' ⟨oa', ob', c, rfl, h1, h2, hs, _, hbw⟩
  obtain rfl := h1.uniq ka hI
  obtain rfl := h2.uniq kb hI
  exact ⟨c, rfl, hs, hbw⟩
theorem OpB.nn {f p m l : Int} {S I H sd : Nat} {Be : Int} {Q : Nat} (J : Jq f p m l S I H sd Be Q) {b : Nat} {o : Opd} (h : OpB S I H l b o) (hb : b < 2 * S) : patO l sd Be S I Q (negO o) < 2 * S ∧ OpB S I H l (patO l sd Be S I Q (negO o)) (negO o) := by
  rcases h.npat J hb with ⟨_, _, h3, h4⟩ | ⟨_, _, h3, h4⟩
  · rw [h3]; exact ⟨J.qb.1, h4⟩
  · rw [h3]; exact ⟨(xs_lt hb).1, h4⟩
theorem GoodO.lt {f p m l : Int} {S I H sd : Nat} {Be : Int} {Q : Nat} (J : Jq f p m l S I H sd Be Q) {c : Opd} (h : GoodO c) : patO l sd Be S I Q c < 2 * S := by
  rcases h.npat J with rfl | ⟨_, h2, _⟩
  · exact J.qb.1
  · exact h2
theorem FinU.rank {f p m l : Int} {S I H sd : Nat} {Be : Int} (J : Jn f p m l S I H sd Be) {c : Opd} {l' u : Int} (h : FinU l' c u) (Q : Nat) : ∃ Z, RNz H l I (dv (u.natAbs : Int) l') Z ∧ patO l sd Be S I Q c < 2 * S ∧ patO l sd Be S I Q c % S ≤ I ∧ rkS S (patO l sd Be S I Q c) = if u < 0 then -(Z : Int) else (Z : Int) := by
  have hlt := J.jm.pm.fm.lt
  have hpos := J.jm.pm.fm.pos
  have hH := J.jm.pm.hp
  have hlo := J.jm.pm.lo
  rcases h with ⟨s, rfl, rfl⟩ | ⟨x, e, rfl, h1, h2, h3⟩
  · refine ⟨0, ?_, ?_⟩
    · have h0 := RNz.exact (H := H) (l := l) (I := I) (Z := 0) hH (by omega) (by omega)
      rw [vs_zero, show ((0 : Nat) : Int) = 0 from rfl, dv_zero] at h0
      rw [show (((0 : Int).natAbs : Nat) : Int) = 0 from rfl, dv_zero]
      exact h0
    · rw [patO_no]
      unfold rkS
      cases s
      · exact ⟨by simp; omega, by simp, by simp⟩
      · exact ⟨by simp; omega, by simp, by simp⟩
  · obtain ⟨Z, z1, z2, z3, z4, z5, z6, _⟩ := rnp_is J x e h1.lo4
    refine ⟨Z, ?_, ?_⟩
    · have h5 : dv (u.natAbs : Int) l' = dv (x.natAbs : Int) e := by rw [dv_abs6, dv_abs6, h3]
      rw [h5]; exact z2
    · rw [patO_fin]
      refine ⟨z4, by omega, ?_⟩
      have hs : x < 0 ↔ u < 0 := by
        rcases dv3 x e with ⟨a, b⟩ | ⟨a, b⟩ | ⟨a, b⟩ <;> rcases dv3 u l' with ⟨a', b'⟩ | ⟨a', b'⟩ | ⟨a', b'⟩ <;> omega
      unfold rkS
      rw [z5]
      by_cases hx : x < 0
      · have : S ≤ rnp l sd Be S I x e := by simpa [hx] using z6
        rw [if_pos this, if_pos (hs.1 hx)]
      · have : ¬ S ≤ rnp l sd Be S I x e := by simpa [hx] using z6
        rw [if_neg this, if_neg (fun h => hx (hs.2 h))]
theorem Mk.mono {H : Nat} {l : Int} {I : Nat} {g : Int → Int} {A B V U : Int} {Z Y : Nat} (h : Mk H l I g A V) (k : Mk H l I g B U) (hZ : RNz H l I V Z) (hY : RNz H l I U Y) (hAB : A ≤ B) : Z ≤ Y := by
  refine Nat.le_of_not_lt fun hlt => ?_
  have hYI : Y < I := Nat.lt_of_lt_of_le hlt hZ.le
  have h1 : U ≤ dv (hv H Y : Int) (l - 1) := Int.not_lt.1 fun h2 => by have := hY.hi Y hYI h2; omega
  have h2 : dv (hv H Y : Int) (l - 1) ≤ V := Int.not_lt.1 fun h3 => by have := hZ.lo Y hYI h3; omega
  have h3 : B ≤ g (dv (hv H Y : Int) (l - 1)) := by
    rcases Int.lt_or_eq_of_le h1 with h4 | h4
    · exact Int.le_of_lt (k.lt Y hYI h4)
    · exact Int.le_of_eq (k.eq Y hYI h4)
  have h4 : g (dv (hv H Y : Int) (l - 1)) ≤ A := by
    rcases Int.lt_or_eq_of_le h2 with h5 | h5
    · exact Int.le_of_lt (h.gt Y hYI h5)
    · exact Int.le_of_eq (h.eq Y hYI h5.symm).symm
  have hVU : V = U := by
    have e1 : V = dv (hv H Y : Int) (l - 1) := by
      rcases Int.lt_or_eq_of_le h2 with h5 | h5
      · have := h.gt Y hYI h5; omega
      · exact h5.symm
    have e2 : U = dv (hv H Y : Int) (l - 1) := by
      rcases Int.lt_or_eq_of_le h1 with h5 | h5
      · have := k.lt Y hYI h5; omega
      · exact h5
    rw [e1, e2]
  rw [hVU] at hZ
  have := hZ.uniq hY
  omega
theorem OpV.nn {w : World} {v : Value} {o : Opd} (h : OpV w v o) (hk : o.k ≠ 0) : ∃ t x, v = .iface t x ∧ (∀ w, Sem.run Tryz.prog (Instr.typeAssert (.iface t x) 66 118 true) w = .ok (.tuple #[.agg #[], .bool false]) w) := by
  rcases h with ⟨_, rfl⟩ | ⟨s, rfl, _⟩ | ⟨s, rfl, _⟩ | ⟨s, p, m, c, e, x, rfl, _⟩
  · exact absurd rfl hk
  · exact ⟨_, _, rfl, fun w => ta_inf_nan _ w⟩
  · exact ⟨_, _, rfl, fun w => ta_no_nan _ w⟩
  · exact ⟨_, _, rfl, fun w => ta_fin_nan _ w⟩
theorem OpV.no {w : World} {v : Value} {s : Bool} (h : OpV w v (ono s)) : v = VNo s := by
  rcases h with ⟨_, h2⟩ | ⟨t, _, h2⟩ | ⟨t, h1, h2⟩ | ⟨_, p, m, c, e', x', h1, h2, _, h4⟩
  · exact by cases congrArg Opd.k h2
  · exact by cases congrArg Opd.k h2
  · have : s = t := congrArg Opd.s h2
    rw [this]; exact h1
  · exact by cases congrArg Opd.k h4
theorem OpB.no {S I H : Nat} {l : Int} {b : Nat} {o : Opd} (h : OpB S I H l b o) (h0 : b % S = 0) (hI : 0 < I) : o = ono (decide (S ≤ b)) := by
  rcases h with ⟨h2, _⟩ | ⟨h2, _⟩ | ⟨_, h2⟩ | ⟨h1, _⟩
  · omega
  · omega
  · exact h2
  · exact absurd h0 h1
theorem inv_no (s1 : Bool) (w : World) :
    Calls Tryz.prog 79 #[VNo s1] w fun en w' => en = .returned (VInf s1) ∧ Below w.heap.size w w' := by
  have hanan := ta_no_nan
  have hainf := ta_no_inf
  have hano := ta_no_no
  have hafin := ta_no_fin
  go_enter Tryz.func79, Tryz.ntmps79
  go_wp2_with fail
  go_ret
  exact ⟨rfl, below1 _ _⟩
theorem inv_inf (s1 : Bool) (w : World) :
    Calls Tryz.prog 79 #[VInf s1] w fun en w' => en = .returned (VNo s1) ∧ Below w.heap.size w w' := by
  have hanan := ta_inf_nan
  have hainf := ta_inf_inf
  have hano := ta_inf_no
  have hafin := ta_inf_fin
  go_enter Tryz.func79, Tryz.ntmps79
  go_wp2_with fail
  go_ret
  exact ⟨rfl, below1 _ _⟩
theorem inv_fin (s1 : Bool) (p1 : Option Addr) (m1 c1 : Nat) (e1 : Int) (w : World) :
    Calls Tryz.prog 79 #[VFin s1 p1 m1 c1 e1] w fun en w' => en = .returned (VFin s1 p1 m1 c1 e1) ∧ Below w.heap.size w w' := by
  have hanan := ta_fin_nan
  have hainf := ta_fin_inf
  have hano := ta_fin_no
  have hafin := ta_fin_fin
  go_enter Tryz.func79, Tryz.ntmps79
  go_wp2_with fail
  go_ret
  exact ⟨rfl, Below.refl _ _⟩
def DivS (a b c : Opd) : Prop :=
  (a.k = 0 ∨ b.k = 0 ∨ (a.k = 1 ∧ b.k = 1) ∨ (a.k = 2 ∧ b.k = 2)) ∧ c = onan ∨
  ((a.k = 1 ∧ (b.k = 2 ∨ b.k = 3)) ∨ (a.k = 3 ∧ b.k = 2)) ∧ c = oinf (a.s != b.s) ∨
  (((a.k = 2 ∨ a.k = 3) ∧ b.k = 1) ∨ (a.k = 2 ∧ b.k = 3)) ∧ c = ono (a.s != b.s)
theorem DOp.kinds {d : Ieee.Datum} {o : Opd} (h : DOp d o) : (o.k = 0 ∧ ∃ s t, d = .nan s t) ∨ (o.k = 1 ∧ d = .infinity o.s) ∨ (o.k = 2 ∧ ∃ i, d = .number o.s 0 i) ∨ (o.k = 3 ∧ ∃ m i, m ≠ 0 ∧ d = .number o.s m i) := by
  match d, h with
  | .nan s t, h =>
    obtain rfl : o = onan := h
    exact .inl ⟨rfl, s, t, rfl⟩
  | .infinity s, h =>
    obtain rfl : o = oinf s := h
    exact .inr (.inl ⟨rfl, rfl⟩)
  | .number s m i, h =>
    rcases h with ⟨rfl, rfl⟩ | ⟨m0, x, e, _, _, hv, rfl⟩
    · exact .inr (.inr (.inl ⟨rfl, i, rfl⟩))
    · refine .inr (.inr (.inr ⟨rfl, m, i, m0, ?_⟩))
      show _ = Ieee.Datum.number (decide (x < 0)) m i
      rw [fin_s9 m0 hv]
end Go.Proofs.YtmhkabomabkkfaaGreatDoor
