import Derived.Test.YtidggnjnlhjhlabGreatDoorJ14
import Derived.Test.YtidggnjnlhjhlabGreatDoorJ12
import Derived.Laws.EntriesVeiled
import Derived.Test.YtidggnjnlhjhlabGreatDoorJ13
import Derived.Test.YtidggnjnlhjhlabGreatDoorJ9
import Derived.Test.YtidggnjnlhjhlabGreatDoorJ8
import Derived.Test.YtidggnjnlhjhlabGreatDoorSmall
namespace Go.Proofs.YtidggnjnlhjhlabGreatDoor
open Go.RowKit Go.Shelf
set_option maxRecDepth 20000
set_option maxHeartbeats 0
theorem cmpI_dv {z1 e1 z2 e2 X Y : Int} (h1 : dv z1 e1 = dv X (-1074)) (h2 : dv z2 e2 = dv Y (-1074)) : cmpI (dv z1 e1) (dv z2 e2) = ordV (compare X Y) := by
  rw [h1, h2]
  unfold dv
  obtain ⟨K, hK⟩ : ∃ K : Nat, K = 2 ^ (-1074 + 4194304 : Int).toNat := ⟨_, rfl⟩
  rw [← hK]
  have hp : 0 < K := by rw [hK]; exact p2pos _
  rw [← ordI_mul X Y hp, ordI]
  unfold cmpI
  split
  · rfl
  · split <;> rfl
theorem dscale {p : Option Addr} {m c : Nat} {w : World} {z e N : Int} {s : Bool} (h : DN w s p m c e z) (hz : z ≠ 0) (hN : -1048576 ≤ e + N ∧ e + N ≤ 1048576) :
    Calls Tryz.prog 39 #[DV s p m c e, .int .i64 N] w fun en w' => ∃ v, en = .returned (.tuple #[v, .int .i64 0]) ∧ AnsD w.heap.size w' v z (e + N) ∧ Below w.heap.size w w' := by
  have H : Hid (DN w s p m c e z) := h
  have HZ : Hid (z ≠ 0) := hz
  have HE : Hid ((-1048576 ≤ e ∧ e ≤ 2097152) ∧ -1048576 ≤ e + N ∧ e + N ≤ 1048576) := ⟨by rcases h.fm with ⟨h0, _⟩ | ⟨_, h5⟩; (exact absurd h0 hz); omega, hN⟩
  clear h hz hN
  go_enter Tryz.func39, Tryz.ntmps39
  go_wp2_with fail
  obtain ⟨W0, hW0⟩ : ∃ W0, W0 = ((w.alloc (.cells #[.bool s, .slice p m c, .int .i64 e] 33)).alloc (.cells #[.bool false, .slice none 0 0, .int .i64 0] 33)) := ⟨_, rfl⟩
  have Xd : Hid (B3q W0 (w.heap.size) (.bool s) (.slice p m c) (.int .i64 e)) := by rw [hW0]; exact ⟨by go_simp, by go_simp, by go_simp, by go_simp, by go_simp, by go_simp⟩
  have Xr : Hid (B3q W0 (w.heap.size + 1) (.bool false) (.slice none 0 0) (.int .i64 0)) := by rw [hW0]; exact ⟨by go_simp, by go_simp, by go_simp, by go_simp, by go_simp, by go_simp⟩
  have hb0 : Below w.heap.size w W0 := by rw [hW0]; exact below2 w _ _
  rw [← hW0]
  clear hW0
  have hbw : Below w.heap.size w w := Below.refl _ _
  obtain ⟨gr, hgr⟩ : ∃ g, g = w.heap.size + 1 := ⟨_, rfl⟩
  have HGr : Hid (w.heap.size ≤ gr) := by rw [hgr]; show _ ≤ _; omega
  rw [← hgr] at Xr
  try rw [← hgr]
  obtain ⟨gd, hgd⟩ : ∃ g, g = w.heap.size := ⟨_, rfl⟩
  have HGd : Hid (w.heap.size ≤ gd) := by rw [hgd]; show _ ≤ _; omega
  rw [← hgd] at Xd
  try rw [← hgd]
  have HGD : Hid (gd ≠ gr ∧ gr ≠ gd) := by rw [hgd, hgr]; exact ⟨by omega, by omega⟩
  clear hgd hgr
  replace hbw := Below.on hbw hb0
  clear hb0
  refine (dform_t (H.out.below hbw)).mono ?_
  rintro e v1 ⟨rfl, hb1⟩
  replace Xd : Hid _ := Xd.out.below hb1
  replace Xr : Hid _ := Xr.out.below hb1
  replace hbw := Below.on hbw hb1
  clear hb1
  obtain ⟨cd0, cd1, cd2, fd0, fd1, fd2⟩ := Xd.out
  have hned : gd < v1.heap.size := World.block_lt_of_cell? v1 _ cd0
  go_wp2_with fail
  clear cd0 cd1 cd2 fd0 fd1 fd2 hned
  refine (zsign (H.out.zn.below hbw)).mono ?_
  rintro e v2 ⟨rfl, hb2⟩
  obtain ⟨sg, hsg⟩ : ∃ sg, sg = sgnI (z) := ⟨_, rfl⟩
  rw [← hsg]
  have hs0 : (sg == 0) = false := by rw [hsg]; have := HZ.out; unfold sgnI; split <;> (try split) <;> simp <;> omega
  clear hsg
  replace Xd : Hid _ := Xd.out.below hb2
  replace Xr : Hid _ := Xr.out.below hb2
  replace hbw := Below.on hbw hb2
  clear hb2
  obtain ⟨cd0, cd1, cd2, fd0, fd1, fd2⟩ := Xd.out
  have hned : gd < v2.heap.size := World.block_lt_of_cell? v2 _ cd0
  go_wp2_with fail
  clear cd0 cd1 cd2 fd0 fd1 fd2 hned
  clear hs0
  refine (moved_ok e N _ HE.out.1 HE.out.2).mono ?_
  rintro e2 v4 ⟨rfl, hw⟩
  obtain rfl := hw.symm
  clear hw
  obtain ⟨cd0, cd1, cd2, fd0, fd1, fd2⟩ := Xd.out
  have hned : gd < v2.heap.size := World.block_lt_of_cell? v2 _ cd0
  go_wp2_with fail
  clear cd0 cd1 cd2 fd0 fd1 fd2 hned
  have HRL : Hid (gr < v2.heap.size ∧ gd < v2.heap.size ∧ w.heap.size ≤ v2.heap.size) := ⟨Xr.out.lt, Xd.out.lt, hbw.size⟩
  obtain ⟨xs, hX⟩ := (H.out.zn.below hbw).ex
  have N6 : Hid (Nf B64 xs z.natAbs ∧ m ≤ 8192 ∧ s = decide (z < 0)) := ⟨hX.nf, hX.le, H.out.zn.sg⟩
  refine (dcopied s hX.at_ hX.le).mono ?_
  rintro e2 v5 ⟨p5, rfl, ho5, hb5⟩
  clear hX
  replace Xd : Hid _ := Xd.out.below hb5
  replace Xr : Hid _ := Xr.out.below hb5
  replace hbw := Below.on hbw hb5
  clear hb5
  have O5 : Hid (Own v2.heap.size v5 p5 m xs) := ho5
  clear ho5
  obtain ⟨hgd0, hgd1⟩ := HGD.out
  obtain ⟨cd0, cd1, cd2, fd0, fd1, fd2⟩ := Xd.out
  have hned : gd < v5.heap.size := World.block_lt_of_cell? v5 _ cd0
  obtain ⟨cr0, cr1, cr2, fr0, fr1, fr2⟩ := Xr.out
  have hner : gr < v5.heap.size := World.block_lt_of_cell? v5 _ cr0
  have q2 : (((v5.setCell ⟨gd, 0, none⟩ (.bool s)).setCell ⟨gd, 1, none⟩ (.slice p5 m m)).setCell ⟨gd, 2, none⟩ (.int .i64 e)).cell? ⟨gd, 2, none⟩ = some (.int .i64 e) := by go_simp
  have q3 : ((((v5.setCell ⟨gd, 0, none⟩ (.bool s)).setCell ⟨gd, 1, none⟩ (.slice p5 m m)).setCell ⟨gd, 2, none⟩ (.int .i64 e)).setCell ⟨gd, 2, none⟩ (.int .i64 (e + N))).cell? ⟨gd, 2, none⟩ = some (.int .i64 (e + N)) := World.cell?_setCell_same _ _ _ q2
  go_wp2_with fail
  refine bodyPost_ret (v := .tuple #[DV s p5 m m (e + N), .int .i64 0]) (by rw [results_cell_tmp rfl]; go_simp) rfl ⟨_, rfl, ⟨p5, m, xs, by rw [N6.out.2.2], ?_, N6.out.1, N6.out.2.1⟩, ?_⟩
  · exact own_set3 ((own_set3 O5.out HRL.out.2.1 (Nat.le_refl _) _ _ _).setOld _ _ _ HRL.out.2.1) HRL.out.1 HRL.out.2.2 _ _ _
  · exact bSet (bSet (bSet (bSet (bSet (bSet (bSet hbw _ _ _ HGd.out) _ _ _ HGd.out) _ _ _ HGd.out) _ _ _ HGd.out) _ _ _ HGr.out) _ _ _ HGr.out) _ _ _ HGr.out
theorem DO.zero (B : Nat) (w : World) : DO B w false none 0 0 0 := ⟨⟨[], Own.empty _ _ _, Nf.nil _, by decide⟩, rfl, .inl ⟨rfl, rfl⟩⟩
theorem DO.mono {B B' : Nat} {w : World} {s : Bool} {p : Option Addr} {m : Nat} {e z : Int} (h : DO B w s p m e z) (hB : B' ≤ B) : DO B' w s p m e z := by
  obtain ⟨zs, h1, h2, h3⟩ := h.own
  exact ⟨⟨zs, h1.mono hB, h2, h3⟩, h.sg, h.fm⟩
theorem dscale_z {p : Option Addr} {m c : Nat} {w : World} {z e N : Int} {s : Bool} (h : DN w s p m c e z) (hz : z = 0) :
    Calls Tryz.prog 39 #[DV s p m c e, .int .i64 N] w fun en w' => en = .returned (.tuple #[DV false none 0 0 0, .int .i64 0]) ∧ Below w.heap.size w w' := by
  have A : Hid (DN w s p m c e z) := h
  have HS : Hid (sgnI z = 0) := by rw [hz]; rfl
  clear h hz
  go_enter Tryz.func39, Tryz.ntmps39
  go_wp2_with fail
  obtain ⟨W0, hW0⟩ : ∃ W0, W0 = ((w.alloc (.cells #[.bool s, .slice p m c, .int .i64 e] 33)).alloc (.cells #[.bool false, .slice none 0 0, .int .i64 0] 33)) := ⟨_, rfl⟩
  have Xd : Hid (B3q W0 (w.heap.size) (.bool s) (.slice p m c) (.int .i64 e)) := by rw [hW0]; exact ⟨by go_simp, by go_simp, by go_simp, by go_simp, by go_simp, by go_simp⟩
  have Xr : Hid (B3q W0 (w.heap.size + 1) (.bool false) (.slice none 0 0) (.int .i64 0)) := by rw [hW0]; exact ⟨by go_simp, by go_simp, by go_simp, by go_simp, by go_simp, by go_simp⟩
  have hb0 : Below w.heap.size w W0 := by rw [hW0]; exact below2 w _ _
  rw [← hW0]
  clear hW0
  have hbw : Below w.heap.size w w := Below.refl _ _
  obtain ⟨gr, hgr⟩ : ∃ g, g = w.heap.size + 1 := ⟨_, rfl⟩
  have HGr : Hid (w.heap.size ≤ gr) := by rw [hgr]; show _ ≤ _; omega
  rw [← hgr] at Xr
  try rw [← hgr]
  obtain ⟨gd, hgd⟩ : ∃ g, g = w.heap.size := ⟨_, rfl⟩
  have HGd : Hid (w.heap.size ≤ gd) := by rw [hgd]; show _ ≤ _; omega
  rw [← hgd] at Xd
  try rw [← hgd]
  have HGD : Hid (gd ≠ gr ∧ gr ≠ gd) := by rw [hgd, hgr]; exact ⟨by omega, by omega⟩
  clear hgd hgr
  replace hbw := Below.on hbw hb0
  clear hb0
  refine (dform_t (A.out.below hbw)).mono ?_
  rintro e v1 ⟨rfl, hb1⟩
  replace Xd : Hid _ := Xd.out.below hb1
  replace Xr : Hid _ := Xr.out.below hb1
  replace hbw := Below.on hbw hb1
  clear hb1
  obtain ⟨cd0, cd1, cd2, fd0, fd1, fd2⟩ := Xd.out
  have hned : gd < v1.heap.size := World.block_lt_of_cell? v1 _ cd0
  go_wp2_with fail
  clear cd0 cd1 cd2 fd0 fd1 fd2 hned
  refine (zsign (A.out.zn.below hbw)).mono ?_
  rintro e v2 ⟨rfl, hb2⟩
  rw [HS.out]
  replace Xd : Hid _ := Xd.out.below hb2
  replace Xr : Hid _ := Xr.out.below hb2
  replace hbw := Below.on hbw hb2
  clear hb2
  obtain ⟨cr0, cr1, cr2, fr0, fr1, fr2⟩ := Xr.out
  have hner : gr < v2.heap.size := World.block_lt_of_cell? v2 _ cr0
  go_wp2_with fail
  refine bodyPost_ret (v := .tuple #[DV false none 0 0 0, .int .i64 0]) (by rw [results_cell_tmp rfl]; go_simp) rfl ⟨rfl, ?_⟩
  first | exact hbw | exact (bSet (bSet (bSet hbw _ _ _ HGr.out) _ _ _ HGr.out) _ _ _ HGr.out)
theorem dscale_v {p : Option Addr} {m c : Nat} {w : World} {z e N : Int} {s : Bool} (h : DN w s p m c e z) (hN : z ≠ 0 → -1048576 ≤ e + N ∧ e + N ≤ 1048576) :
    Calls Tryz.prog 39 #[DV s p m c e, .int .i64 N] w fun en w' => ∃ s1 p1 m1 zo eo, en = .returned (.tuple #[DV s1 p1 m1 m1 eo, .int .i64 0]) ∧ DO w.heap.size w' s1 p1 m1 eo zo ∧ ((z = 0 ∧ zo = 0 ∧ eo = 0) ∨ (z ≠ 0 ∧ zo = z ∧ eo = e + N)) ∧ Below w.heap.size w w' := by
  by_cases hz : z = 0
  · refine (dscale_z h hz).mono ?_
    rintro en w' ⟨rfl, hb⟩
    exact ⟨_, _, _, 0, 0, rfl, DO.zero _ _, .inl ⟨hz, rfl, rfl⟩, hb⟩
  · refine (dscale h hz (hN hz)).mono ?_
    rintro en w' ⟨v, rfl, hv, hb⟩
    have hf : DFm z (e + N) := by
      rcases h.fm with ⟨h1, _⟩ | ⟨h1, _⟩
      · exact absurd h1 hz
      · exact .inr ⟨h1, hN hz⟩
    obtain ⟨s1, p1, m1, rfl, hd⟩ := DO.of hv hf
    exact ⟨s1, p1, m1, z, e + N, rfl, hd, .inr ⟨hz, rfl, rfl⟩, hb⟩
theorem db_of {z e X : Int} {K : Nat} (hf : DFm z e) (h : dv z e = dv X (-1074)) (hX : X.natAbs < 2 ^ K) : DB z e K (K + 1074) := by
  rcases hf with ⟨h0, h1⟩ | ⟨h0, h1, h2⟩
  · refine ⟨.inl ⟨h0, h1⟩, ?_, by omega, by omega⟩
    rw [h0]; exact Nat.two_pow_pos K
  · have hz : z ≠ 0 := by omega
    have he : -1074 ≤ e := by
      refine Int.le_of_not_gt fun k => ?_
      rw [dv_shift (z := X) (e := -1074) (f := e) (by omega) (by omega)] at h
      have h3 : z = X * ((2 ^ (-1074 - e).toNat : Nat) : Int) := by
        unfold dv at h
        exact Int.eq_of_mul_eq_mul_right (pow_pos_int _) h
      obtain ⟨j, hj⟩ : ∃ j, (-1074 - e).toNat = j + 1 := ⟨(-1074 - e).toNat - 1, by omega⟩
      rw [hj, Nat.pow_succ, Nat.mul_comm, Int.natCast_mul, ← Int.mul_assoc, Int.mul_comm X] at h3
      have h4 : ((2 : Nat) : Int) = 2 := rfl
      rw [h4, Int.mul_assoc] at h3
      omega
    rw [dv_shift (z := z) (e := e) (f := -1074) he (by omega)] at h
    have h3 : z * ((2 ^ (e - -1074).toNat : Nat) : Int) = X := by
      unfold dv at h
      exact Int.eq_of_mul_eq_mul_right (pow_pos_int _) h
    have h4 : z.natAbs * 2 ^ (e - -1074).toNat = X.natAbs := by rw [← h3, Int.natAbs_mul, Int.natAbs_natCast]
    have h5 : 0 < z.natAbs := by omega
    refine ⟨.inr ⟨h0, h1, h2⟩, ?_, by omega, ?_⟩
    · have := Nat.le_mul_of_pos_right z.natAbs (Nat.two_pow_pos (e - -1074).toNat)
      omega
    · have h6 := Nat.le_mul_of_pos_left (2 ^ (e - -1074).toNat) h5
      have h7 : (e - -1074).toNat < K := (Nat.pow_lt_pow_iff_right (by decide)).1 (Nat.lt_of_le_of_lt (Nat.le_trans h6 (Nat.le_of_eq h4)) hX)
      omega
theorem fin_sum {h l K : Nat} (hK : K = 2100) (d : DdF h l) : (ux h + ux l).natAbs < 2 ^ K := by
  obtain ⟨J, hJ⟩ : ∃ J, J = 2046 := ⟨_, rfl⟩
  have h1 := ux_pow (b := h) (K := J) (by have := d.hi.fin; omega)
  have h2 := ux_pow (b := l) (K := J) (by have := d.lo.fin; omega)
  have h3 : 2 * 2 ^ (52 + J) = 2 ^ (52 + J + 1) := by rw [Nat.pow_succ, Nat.mul_comm]
  have h4 : 2 ^ (52 + J + 1) < 2 ^ K := Nat.pow_lt_pow_right (by decide) (by omega)
  omega
theorem dv_pos (x e : Int) : 0 ≤ x → ((dv x e).natAbs : Int) = dv x e := fun h => by
  unfold dv
  exact Int.natAbs_of_nonneg (Int.mul_nonneg h (Int.natCast_nonneg _))
theorem dv_neg_abs (x e : Int) : x < 0 → ((dv x e).natAbs : Int) = dv (-x) e := fun h => by
  rw [← dv_pos (-x) e (by omega), dv_neg, Int.natAbs_neg]
theorem dneg_a {p : Option Addr} {m c : Nat} {w : World} {z e : Int} {s : Bool} (h : DN w s p m c e z) :
    Calls Tryz.prog 26 #[DV s p m c e] w fun en w' => ∃ v, en = .returned (.tuple #[v, .int .i64 0]) ∧ AnsD w.heap.size w' v (-z) e ∧ Below w.heap.size w w' :=
  (dneg h).mono fun _ _ ⟨v, a, b, _, c⟩ => ⟨v, a, b, c⟩
theorem fm_neg {z e : Int} (h : DFm z e) : DFm (-z) e := by
  rcases h with ⟨a, b⟩ | ⟨a, b⟩
  · exact .inl ⟨by omega, b⟩
  · exact .inr ⟨by omega, b⟩
theorem within_le {A Z : Int} {c k : Nat} {dvo dvf dvy dva : Int} (ha : dva = dv A (-1074)) (hy : dvy = dv Z (-1074 - (c : Int))) (hc : c ≤ 5000) (ho : dvo = dva - dvy) (hf : dvf = dvo * ((2 ^ k : Nat) : Int)) (h : (A * ((2 ^ c : Nat) : Int) - Z).natAbs * 2 ^ k ≤ Z.natAbs) : dvf.natAbs ≤ dvy.natAbs := by
  have e1 : dva = dv (A * ((2 ^ c : Nat) : Int)) (-1074 - (c : Int)) := by
    rw [ha, dv_shift (e := -1074) (f := -1074 - (c : Int)) (by omega) (by omega), show (-1074 - (-1074 - (c : Int))).toNat = c by omega]
  unfold dv at e1 hy
  rw [hf, ho, e1, hy, ← Int.sub_mul, Int.natAbs_mul, Int.natAbs_mul, Int.natAbs_mul, Int.natAbs_natCast, Int.natAbs_natCast, Nat.mul_right_comm]
  exact Nat.mul_le_mul_right _ h
theorem dv_scale {z e : Int} {k : Nat} (he : -4194304 ≤ e) : dv z (e + k) = dv z e * ((2 ^ k : Nat) : Int) := by
  unfold dv
  rw [dpow_split (a := (e + 4194304).toNat) (b := (e + k + 4194304).toNat) (by omega), show (e + (k : Int) + 4194304).toNat - (e + 4194304).toNat = k by omega, Int.mul_comm ((2 ^ k : Nat) : Int), ← Int.mul_assoc]
theorem near_of {a x : Int} (h : 81129638414606681695789005144064 * (a - x).natAbs ≤ 8 * x.natAbs) : (a * 1 - x).natAbs * 2 ^ 103 ≤ x.natAbs := by
  rw [Int.mul_one, show (2 : Nat) ^ 103 = 10141204801825835211973625643008 by decide]
  omega
theorem w0 {Z : Int} : dv Z (-1074) = dv Z (-1074 - ((0 : Nat) : Int)) := by rw [show (-1074 : Int) - ((0 : Nat) : Int) = -1074 by omega]
theorem w_add {a b : Int} {zo eo z e y f : Int} (h1 : dv z e = dv a (-1074)) (h2 : dv y f = dv b (-1074)) (h : dv zo eo = dv z e + dv y f) : dv zo eo = dv (a + b) (-1074 - ((0 : Nat) : Int)) := by
  rw [← w0, h, h1, h2, dv_add]
theorem w_sub {a b : Int} {zo eo z e y f : Int} (h1 : dv z e = dv a (-1074)) (h2 : dv y f = dv b (-1074)) (h : dv zo eo = dv z e - dv y f) : dv zo eo = dv (a - b) (-1074 - ((0 : Nat) : Int)) := by
  rw [← w0, h, h1, h2, Int.sub_eq_add_neg, Int.sub_eq_add_neg, dv_add, dv_neg]
theorem w_mul {a b : Int} {zo eo z e y f : Int} (h1 : dv z e = dv a (-1074)) (h2 : dv y f = dv b (-1074)) (he : -2097152 ≤ e) (hf : -2097152 ≤ f) (h : dv zo eo = dv (z * y) (e + f)) : dv zo eo = dv (a * b) (-1074 - ((OneE : Nat) : Int)) := by
  have k1 := dv_mul (z := z) (c := y) he hf
  have k2 := dv_mul (z := a) (c := b) (e := -1074) (f := -1074) (by decide) (by decide)
  rw [h1, h2, ← k2] at k1
  rw [h, Int.eq_of_mul_eq_mul_right (pow_pos_int _) k1]
  rfl
theorem wn_add {a x : Int} (h : 81129638414606681695789005144064 * (a - x).natAbs ≤ 8 * x.natAbs) : (a * ((2 ^ 0 : Nat) : Int) - x).natAbs * 2 ^ 103 ≤ x.natAbs := by
  rw [show ((2 ^ 0 : Nat) : Int) = 1 from rfl]; exact near_of h
theorem wn_mul {a x : Int} (h : 81129638414606681695789005144064 * (a * (UE : Int) - x).natAbs ≤ 16 * x.natAbs) : (a * ((2 ^ OneE : Nat) : Int) - x).natAbs * 2 ^ 102 ≤ x.natAbs := by
  have e : ((2 ^ OneE : Nat) : Int) = (UE : Int) := rfl
  rw [e, show (2 : Nat) ^ 102 = 5070602400912917605986812821504 by decide]
  omega
theorem quo_mag {D n : Nat} (hn : n ≠ 0) : ((2 * (D / n) + (D % n != 0).toNat) * n : Nat) ≤ 2 * D + n ∧ 2 * D ≤ (2 * (D / n) + (D % n != 0).toNat) * n + n := by
  have h1 := Nat.div_add_mod D n
  have h2 := Nat.mod_lt D (Nat.pos_of_ne_zero hn)
  rw [Nat.add_mul, Nat.mul_assoc, Nat.mul_comm (D / n)]
  by_cases h : D % n = 0
  · rw [h, show ((0 : Nat) != 0).toNat = 0 from rfl, Nat.zero_mul]
    rw [h] at h1
    omega
  · have h3 : (D % n != 0).toNat = 1 := by rw [show (D % n != 0) = true from bne_iff_ne.2 h]; rfl
    rw [h3, Nat.one_mul]
    omega
theorem quo_core {R N A C d : Nat} (h1 : 2 * 9007199254740992 * ((R : Int) - (N : Int)).natAbs ≤ 2 * N + 9007199254740992 * C) (h2 : N ≤ A + d) (h3 : A ≤ N + d) (h4 : 9007199254740992 * (2 * d) ≤ A) :
    2 * 9007199254740992 * ((R : Int) - (A : Int)).natAbs ≤ 4 * A + 9007199254740992 * C := by
  omega
theorem quo_wide {m n more : Nat} (hm : m ≠ 0) (hmore : 54 + n.log2 ≤ m.log2 + more) : 9007199254740992 * n ≤ m * 2 ^ more := by
  have h1 := Nat.log2_self_le hm
  have h2 : n < 2 ^ (n.log2 + 1) := Nat.lt_log2_self
  have h3 : 2 ^ (54 + n.log2) ≤ m * 2 ^ more := by
    refine Nat.le_trans (Nat.pow_le_pow_right (by decide) hmore) ?_
    rw [Nat.pow_add]; exact Nat.mul_le_mul_right _ h1
  have h4 : 9007199254740992 * 2 ^ (n.log2 + 1) = 2 ^ (54 + n.log2) := by
    rw [show (9007199254740992 : Nat) = 2 ^ 53 by decide, ← Nat.pow_add]; congr 1; omega
  have h5 := Nat.mul_le_mul_left 9007199254740992 (Nat.le_of_lt h2)
  omega
theorem int_scale {a b E : Nat} : (((a * E : Nat) : Int) - ((b * E : Nat) : Int)).natAbs = ((a : Int) - (b : Int)).natAbs * E := by
  rw [Int.natCast_mul, Int.natCast_mul, ← Int.sub_mul, na_mul]
theorem quo_cut {a Y Z E : Nat} (hE : 0 < E) (k : 2 * 9007199254740992 * (a * E) ≤ 4 * (Y * E) + 9007199254740992 * (Z * E)) : 2 * 9007199254740992 * a ≤ 4 * Y + 9007199254740992 * Z := by
  refine Nat.le_of_mul_le_mul_right (c := E) ?_ hE
  rw [Nat.add_mul, Nat.mul_assoc, Nat.mul_assoc 4, Nat.mul_assoc 9007199254740992 Z]
  exact k
theorem quo_n {m n q t more K : Nat} (hm : m ≠ 0) (hn : n ≠ 0) (hmore : 54 + n.log2 ≤ m.log2 + more) {N c R : Nat} (hc : c = t + more + 1) (hN : N = (2 * (m * 2 ^ more / n) + (m * 2 ^ more % n != 0).toNat) * 2 ^ (q + K)) (hR : R = vs 4503599627370496 (rgc c N)) (hf : rgc c N < 9218868437227405312) :
    2 * 9007199254740992 * (((R * (n * 2 ^ t) : Nat) : Int) - ((m * 2 ^ q * 2 ^ K : Nat) : Int)).natAbs ≤ 4 * (m * 2 ^ q * 2 ^ K) + 9007199254740992 * (n * 2 ^ t) := by
  have h1 := mul_near hf
  rw [← hR] at h1
  obtain ⟨g1, g2⟩ := quo_mag (D := m * 2 ^ more) hn
  have g3 := quo_wide hm hmore
  obtain ⟨M, hM⟩ : ∃ M, M = 2 * (m * 2 ^ more / n) + (m * 2 ^ more % n != 0).toNat := ⟨_, rfl⟩
  rw [← hM] at g1 g2 hN
  obtain ⟨P, hP⟩ : ∃ P, P = 2 ^ (q + K) := ⟨_, rfl⟩
  rw [← hP] at hN
  have a1 : R * 2 ^ c * n = R * (n * 2 ^ t) * 2 ^ (more + 1) := by
    rw [hc, show t + more + 1 = t + (more + 1) by omega, Nat.pow_add, Nat.mul_assoc R, Nat.mul_assoc (2 ^ t), Nat.mul_comm (2 ^ (more + 1)) n, ← Nat.mul_assoc (2 ^ t), Nat.mul_comm (2 ^ t) n, ← Nat.mul_assoc]
  have a2 : 2 * (m * 2 ^ more) * P = m * 2 ^ q * 2 ^ K * 2 ^ (more + 1) := by
    rw [hP, Nat.pow_add, Nat.pow_succ]
    ac_rfl
  have a3 : 2 ^ c * n = n * 2 ^ t * 2 ^ (more + 1) := by
    rw [hc, show t + more + 1 = t + (more + 1) by omega, Nat.pow_add]
    ac_rfl
  have b1 : 2 * 9007199254740992 * (((R * 2 ^ c * n : Nat) : Int) - ((N * n : Nat) : Int)).natAbs ≤ 2 * (N * n) + 9007199254740992 * (2 ^ c * n) := by
    rw [int_scale, ← Nat.mul_assoc, ← Nat.mul_assoc, ← Nat.mul_assoc 9007199254740992, ← Nat.add_mul]
    exact Nat.mul_le_mul_right _ h1
  have b2 : N * n ≤ 2 * (m * 2 ^ more) * P + n * P := by
    rw [hN, ← Nat.add_mul, Nat.mul_right_comm]; exact Nat.mul_le_mul_right _ g1
  have b3 : 2 * (m * 2 ^ more) * P ≤ N * n + n * P := by
    rw [hN, Nat.mul_right_comm M P n, ← Nat.add_mul]; exact Nat.mul_le_mul_right _ g2
  have b4 : 9007199254740992 * (2 * (n * P)) ≤ 2 * (m * 2 ^ more) * P := by
    rw [← Nat.mul_assoc 2 n, ← Nat.mul_assoc 9007199254740992]
    exact Nat.mul_le_mul_right _ (by omega)
  have k := quo_core b1 b2 b3 b4
  rw [a1, a2, a3, int_scale] at k
  exact quo_cut (Nat.two_pow_pos _) k
theorem fquo_ex {a b : Nat} (ha : Fin64 a) (hb : Fin64 b) (hb0 : ux b ≠ 0) : ∃ m q n t more, m * 2 ^ q = vs 4503599627370496 (a % 9223372036854775808) ∧ n * 2 ^ t = vs 4503599627370496 (b % 9223372036854775808) ∧ n ≠ 0 ∧ 54 + n.log2 ≤ m.log2 + more ∧
    floatBits .quo .f64 a b = some (Ieee.double.word (decide (9223372036854775808 ≤ a) ^^ decide (9223372036854775808 ≤ b)) (rgc (t + more + 1) ((2 * (m * 2 ^ more / n) + (m * 2 ^ more % n != 0).toNat) * 2 ^ (q + 1074)))) := by
  obtain ⟨m, q, h1, h2⟩ := read_fin ha.lt ha.fin
  obtain ⟨n, t, h3, h4⟩ := read_fin hb.lt hb.fin
  have hn : n ≠ 0 := fun h => by
    apply hb0
    have h5 := ux_abs b
    rw [← h4, h, Nat.zero_mul] at h5
    omega
  refine ⟨m, q, n, t, 54 + n.log2 - m.log2, h2, h4, hn, by omega, ?_⟩
  show ((Ieee.double.read a).quotient 54 (Ieee.double.read b)).map Ieee.double.write = _
  rw [h1, h3]
  unfold Ieee.Datum.quotient
  simp only [if_neg hn, Nat.shiftLeft_eq]
  generalize 54 + n.log2 - m.log2 = more
  show some (Ieee.double.nearest _ (2 * (m * 2 ^ more / n) + (m * 2 ^ more % n != 0).toNat) (-1074 + (q : Int) - (-1074 + (t : Int)) - (more : Int) - 1)) = _
  have := nearest_rgc (decide (9223372036854775808 ≤ a) ^^ decide (9223372036854775808 ≤ b)) (2 * (m * 2 ^ more / n) + (m * 2 ^ more % n != 0).toNat) (t + more + 1) (q + 1074)
  rw [show (-1074 : Int) - ((t + more + 1 : Nat) : Int) + ((q + 1074 : Nat) : Int) = -1074 + (q : Int) - (-1074 + (t : Int)) - (more : Int) - 1 by omega] at this
  rw [this]
theorem sg_prod {R X Y U : Nat} (s t : Bool) : ((if (s ^^ t) then -(R : Int) else (R : Int)) * (if t then -(Y : Int) else (Y : Int)) - (if s then -(X : Int) else (X : Int)) * (U : Int)).natAbs = (((R * Y : Nat) : Int) - ((X * U : Nat) : Int)).natAbs := by
  rw [Int.natCast_mul, Int.natCast_mul]
  cases s <;> cases t <;> simp [Int.neg_mul, Int.mul_neg] <;> omega
theorem ux_sg (b : Nat) : ux b = if decide (9223372036854775808 ≤ b) then -(vs 4503599627370496 (b % 9223372036854775808) : Int) else (vs 4503599627370496 (b % 9223372036854775808) : Int) := by
  rw [ux_eq]; by_cases h : 9223372036854775808 ≤ b <;> simp [h]
theorem fquo_near {a b M K : Nat} (hM : M = 2094) (hK : K = 1074) (ha : Fin64 a) (hb : Fin64 b) (hb0 : ux b ≠ 0) (hs : (ux a).natAbs * 2 ^ K ≤ 2 ^ M * (ux b).natAbs) : ∃ r, floatBits .quo .f64 a b = some r ∧ Fin64 r ∧ 2 * 9007199254740992 * (ux r * ux b - ux a * ((2 ^ K : Nat) : Int)).natAbs ≤ 4 * ((ux a).natAbs * 2 ^ K) + 9007199254740992 * (ux b).natAbs := by
  obtain ⟨m, q, n, t, more, h1, h2, hn, hm, hq⟩ := fquo_ex ha hb hb0
  rw [← hK] at hq
  obtain ⟨N, hN⟩ : ∃ N, N = (2 * (m * 2 ^ more / n) + (m * 2 ^ more % n != 0).toNat) * 2 ^ (q + K) := ⟨_, rfl⟩
  rw [← hN] at hq
  rw [ux_abs, ux_abs, ← h1, ← h2] at hs
  obtain ⟨c, hc⟩ : ∃ c, c = t + more + 1 := ⟨_, rfl⟩
  rw [← hc] at hq
  by_cases hm0 : m = 0
  · have hN0 : N = 0 := by rw [hN, hm0, Nat.zero_mul, Nat.zero_div, Nat.zero_mod]; simp
    have hr0 : rgc c N = 0 := by rw [hN0]; rfl
    rw [hr0] at hq
    obtain ⟨w1, w2, w3⟩ := word_facts (decide (9223372036854775808 ≤ a) ^^ decide (9223372036854775808 ≤ b)) (r := 0) (by decide)
    refine ⟨_, hq, ⟨w1, by rw [w2]; decide⟩, ?_⟩
    have ha0 : ux a = 0 := by
      have h5 := ux_abs a
      rw [← h1, hm0, Nat.zero_mul] at h5
      omega
    have hz : ux (Ieee.double.word (decide (9223372036854775808 ≤ a) ^^ decide (9223372036854775808 ≤ b)) 0) = 0 := by
      rw [w3, vs_zero]; split <;> rfl
    rw [hz, ha0, Int.zero_mul, Int.zero_mul]
    exact Nat.zero_le _
  · obtain ⟨g1, _⟩ := quo_mag (D := m * 2 ^ more) hn
    have g3 := quo_wide hm0 hm
    have hb1 : N * n ≤ 2 ^ (M + 1) * 2 ^ c * n := by
      have e1 : N * n ≤ (2 * (m * 2 ^ more) + n) * 2 ^ (q + K) := by
        rw [hN, Nat.mul_right_comm]; exact Nat.mul_le_mul_right _ g1
      have e2 : (2 * (m * 2 ^ more) + n) * 2 ^ (q + K) ≤ 4 * (m * 2 ^ more) * 2 ^ (q + K) := Nat.mul_le_mul_right _ (by omega)
      have e3 : 4 * (m * 2 ^ more) * 2 ^ (q + K) = m * 2 ^ q * 2 ^ K * (2 * 2 ^ (more + 1)) := by
        rw [Nat.pow_add, Nat.pow_succ, show (4 : Nat) = 2 * 2 from rfl]; ac_rfl
      have e4 : m * 2 ^ q * 2 ^ K * (2 * 2 ^ (more + 1)) ≤ 2 ^ M * (n * 2 ^ t) * (2 * 2 ^ (more + 1)) := Nat.mul_le_mul_right _ hs
      have e5 : 2 ^ M * (n * 2 ^ t) * (2 * 2 ^ (more + 1)) = 2 ^ (M + 1) * 2 ^ c * n := by
        rw [hc, show t + more + 1 = t + (more + 1) by omega, Nat.pow_add 2 t, Nat.pow_succ 2 M]; ac_rfl
      rw [e3] at e2
      rw [e5] at e4
      exact Nat.le_trans e1 (Nat.le_trans e2 e4)
    have hb2 := Nat.le_of_mul_le_mul_right hb1 (Nat.pos_of_ne_zero hn)
    obtain ⟨J, hJ⟩ : ∃ J, J = 2096 := ⟨_, rfl⟩
    have hf : rgc c N < 9218868437227405312 := rgc_lt hJ (Nat.lt_of_le_of_lt hb2 (by rw [← Nat.pow_add]; exact Nat.pow_lt_pow_right (by decide) (by omega)))
    obtain ⟨w1, w2, w3⟩ := word_facts (decide (9223372036854775808 ≤ a) ^^ decide (9223372036854775808 ≤ b)) hf
    refine ⟨_, hq, ⟨w1, by rw [w2]; exact hf⟩, ?_⟩
    have k := quo_n (t := t) hm0 hn hm hc hN rfl hf
    rw [w3, ux_sg b, ux_sg a, sg_prod, ← h1, ← h2]
    have n1 : ∀ (s : Bool) (x : Nat), (if s then -(x : Int) else (x : Int)).natAbs = x := fun s x => by cases s <;> simp
    rw [n1, n1]
    exact k
theorem dv_b {P B Y : Nat} (h : 2 * 9007199254740992 * B ≤ 4 * P + 9007199254740992 * Y) (hY : 1152921504606846976 * (81129638414606681695789005144064 * Y) ≤ P) : 9007199254740992 * 1024 * B ≤ 2049 * P ∧ 2 * B ≤ P := by omega
theorem dv_q {P B Q C : Nat} (hB : 9007199254740992 * 1024 * B ≤ 2049 * P) (hQ : Q ≤ P + B) (hC : 9007199254740992 * C ≤ Q) : 9007199254740992 * 1024 * C ≤ 1025 * P ∧ 1024 * (Q + C) ≤ 1025 * P := by omega
theorem dv_d {P Q C D : Nat} (h : 1024 * (Q + C) ≤ 1025 * P) (hD : 81129638414606681695789005144064 * D ≤ 16 * (Q + C)) : 81129638414606681695789005144064 * 64 * D ≤ 1025 * P := by omega
theorem dv_g {P B C D R S G : Nat} (hB : 9007199254740992 * 1024 * B ≤ 2049 * P) (hC : 9007199254740992 * 1024 * C ≤ 1025 * P) (hD : 81129638414606681695789005144064 * 64 * D ≤ 1025 * P) (hR : 9007199254740992 * R ≤ S) (hS : S ≤ P + G) (hG : G ≤ R + D + C + B) : 9007199254740992 * 1024 * G ≤ 4101 * P ∧ 9007199254740992 * 1024 * R ≤ 1025 * P := by omega
theorem dv_v {P A R V e G V3 : Nat} (hA : 9007199254740992 * A ≤ P) (hR : 9007199254740992 * 1024 * R ≤ 1025 * P) (hV : V ≤ A + R) (he : 9007199254740992 * e ≤ V) (hG : 9007199254740992 * 1024 * G ≤ 4101 * P) (h3 : V3 ≤ G + (V + e)) : 81129638414606681695789005144064 * 1024 * e ≤ 2050 * P ∧ 9007199254740992 * 1024 * V3 ≤ 6152 * P := by omega
theorem dv_w {P V3 e3 W B2 Y : Nat} (h3 : 9007199254740992 * 1024 * V3 ≤ 6152 * P) (he : 9007199254740992 * e3 ≤ V3) (hW : W ≤ V3 + e3) (hY : 1152921504606846976 * (81129638414606681695789005144064 * Y) ≤ P) (hB : 2 * 9007199254740992 * B2 ≤ 4 * W + 9007199254740992 * Y) : 81129638414606681695789005144064 * 1024 * e3 ≤ 6152 * P ∧ 9007199254740992 * 1024 * W ≤ 6153 * P ∧ 81129638414606681695789005144064 * 1024 * B2 ≤ 12308 * P := by omega
theorem dv_c {P W B2 C2 : Nat} (hW : 9007199254740992 * 1024 * W ≤ 6153 * P) (hB : 81129638414606681695789005144064 * 1024 * B2 ≤ 12308 * P) (hC : 9007199254740992 * C2 ≤ W + B2) : 81129638414606681695789005144064 * 1024 * C2 ≤ 6154 * P ∧ 9007199254740992 * 1024 * (W + B2) ≤ 6154 * P := by omega
theorem dv_e {P A D B2 C2 e2 e3 E X : Nat} (hA : 9007199254740992 * A ≤ P) (hD : 81129638414606681695789005144064 * 64 * D ≤ 1025 * P) (hB : 81129638414606681695789005144064 * 1024 * B2 ≤ 12308 * P) (hC : 81129638414606681695789005144064 * 1024 * C2 ≤ 6154 * P) (h2 : 81129638414606681695789005144064 * 1024 * e2 ≤ 2050 * P) (h3 : 81129638414606681695789005144064 * 1024 * e3 ≤ 6152 * P) (hE : E ≤ D + B2 + C2 + e2 + e3) (hX : P ≤ X + A) : 81129638414606681695789005144064 * E ≤ 64 * X := by omega
theorem na4 {a b c d : Int} : (a + b + c + d).natAbs ≤ a.natAbs + b.natAbs + c.natAbs + d.natAbs := by omega
theorem dd_div1 {X Y yl q s r : Int} {U : Nat} (hU0 : 0 < U) (ly : 9007199254740992 * yl.natAbs ≤ Y.natAbs) (hq : 2 * 9007199254740992 * (q * Y - X * (U : Int)).natAbs ≤ 4 * (X.natAbs * U) + 9007199254740992 * Y.natAbs)
    (hm : 81129638414606681695789005144064 * ((s + r) * (U : Int) - (Y + yl) * q).natAbs ≤ 16 * ((Y + yl) * q).natAbs) (lr : 9007199254740992 * r.natAbs ≤ s.natAbs) (hY : 1152921504606846976 * (81129638414606681695789005144064 * Y.natAbs) ≤ X.natAbs * U) :
    (9007199254740992 * 1024 * ((X - s).natAbs * U) ≤ 4101 * (X.natAbs * U) ∧ 9007199254740992 * 1024 * (r.natAbs * U) ≤ 1025 * (X.natAbs * U) ∧ 81129638414606681695789005144064 * 64 * ((s + r) * (U : Int) - (Y + yl) * q).natAbs ≤ 1025 * (X.natAbs * U)) ∧ (X - s).natAbs ≤ X.natAbs ∧ (X - s).natAbs ≤ s.natAbs := by
  obtain ⟨b1, b2⟩ := dv_b hq hY
  have hQ : (q * Y).natAbs ≤ X.natAbs * U + (q * Y - X * (U : Int)).natAbs := by
    have := ab8 (a := q * Y) (b := X * (U : Int)); rwa [na_mul] at this
  have hC : 9007199254740992 * (yl * q).natAbs ≤ (q * Y).natAbs := by
    rw [Int.natAbs_mul, Int.natAbs_mul, Nat.mul_comm q.natAbs, ← Nat.mul_assoc]; exact Nat.mul_le_mul_right _ ly
  obtain ⟨c1, c2⟩ := dv_q b1 hQ hC
  have hYq : ((Y + yl) * q).natAbs ≤ (q * Y).natAbs + (yl * q).natAbs := by
    rw [Int.add_mul, Int.mul_comm Y]; exact ab5
  have d1 := dv_d c2 (Nat.le_trans hm (Nat.mul_le_mul_left _ hYq))
  have hR : 9007199254740992 * (r.natAbs * U) ≤ s.natAbs * U := up_mul lr
  have hS : s.natAbs * U ≤ X.natAbs * U + (X - s).natAbs * U := by
    rw [← Nat.add_mul]; exact Nat.mul_le_mul_right _ ab3
  have hG : (X - s).natAbs * U ≤ r.natAbs * U + ((s + r) * (U : Int) - (Y + yl) * q).natAbs + (yl * q).natAbs + (q * Y - X * (U : Int)).natAbs := by
    have e : (X - s) * (U : Int) = r * (U : Int) + -((s + r) * (U : Int) - (Y + yl) * q) + -(yl * q) + -(q * Y - X * (U : Int)) := by
      rw [Int.sub_mul, Int.add_mul s, Int.add_mul Y, Int.mul_comm Y]; omega
    have h := na4 (a := r * (U : Int)) (b := -((s + r) * (U : Int) - (Y + yl) * q)) (c := -(yl * q)) (d := -(q * Y - X * (U : Int)))
    rw [← e, na_mul, na_mul, Int.natAbs_neg, Int.natAbs_neg, Int.natAbs_neg] at h
    exact h
  obtain ⟨g1, g2⟩ := dv_g b1 c1 d1 hR hS hG
  refine ⟨⟨g1, g2, d1⟩, ?_, ?_⟩
  · refine Nat.le_of_mul_le_mul_right (c := U) ?_ hU0
    omega
  · refine Nat.le_of_mul_le_mul_right (c := U) ?_ hU0
    have h1 : X.natAbs * U ≤ s.natAbs * U + (X - s).natAbs * U := by
      rw [← Nat.add_mul]; exact Nat.mul_le_mul_right _ ab8
    omega
theorem div_err {X xl Y yl q s r d2 rest t V : Int} : (q + t) * (Y + yl) - (X + xl) * V = -((s + r) * V - (Y + yl) * q) + (t * Y - rest * V) + t * yl + -((xl - r - d2) * V) + -((X - s + d2 - rest) * V) := by
  rw [Int.add_mul q t, Int.mul_comm q, Int.mul_add t, Int.add_mul X, Int.sub_mul (xl - r), Int.sub_mul xl, Int.sub_mul (X - s + d2), Int.add_mul (X - s), Int.sub_mul X, Int.add_mul s]
  omega
theorem na5p {a b c d f : Int} : (a + b + c + d + f).natAbs ≤ a.natAbs + b.natAbs + c.natAbs + d.natAbs + f.natAbs := by omega
theorem dd_div2 {X xl Y yl q s r d2 rest t : Int} {U : Nat} (lx : 9007199254740992 * xl.natAbs ≤ X.natAbs) (ly : 9007199254740992 * yl.natAbs ≤ Y.natAbs) (hq : 2 * 9007199254740992 * (q * Y - X * (U : Int)).natAbs ≤ 4 * (X.natAbs * U) + 9007199254740992 * Y.natAbs)
    (g : 9007199254740992 * 1024 * ((X - s).natAbs * U) ≤ 4101 * (X.natAbs * U) ∧ 9007199254740992 * 1024 * (r.natAbs * U) ≤ 1025 * (X.natAbs * U) ∧ 81129638414606681695789005144064 * 64 * ((s + r) * (U : Int) - (Y + yl) * q).natAbs ≤ 1025 * (X.natAbs * U)) (h2 : Rn 53 (xl - r) d2) (h3 : Rn 53 (X - s + d2) rest)
    (ht : 2 * 9007199254740992 * (t * Y - rest * (U : Int)).natAbs ≤ 4 * (rest.natAbs * U) + 9007199254740992 * Y.natAbs) (hY0 : Y ≠ 0) (hY : 1152921504606846976 * (81129638414606681695789005144064 * Y.natAbs) ≤ X.natAbs * U) :
    81129638414606681695789005144064 * ((q + t) * (Y + yl) - (X + xl) * (U : Int)).natAbs ≤ 64 * ((X + xl) * (U : Int)).natAbs ∧ t.natAbs ≤ q.natAbs := by
  obtain ⟨g1, g2, d1⟩ := g
  obtain ⟨b1, b2⟩ := dv_b hq hY
  have hA : 9007199254740992 * (xl.natAbs * U) ≤ X.natAbs * U := up_mul lx
  have hV : (xl - r).natAbs * U ≤ xl.natAbs * U + r.natAbs * U := by
    rw [← Nat.add_mul]; exact Nat.mul_le_mul_right _ (by omega)
  have he2 := up_mul (U := U) (rn_rel h2)
  have h33 : (X - s + d2).natAbs * U ≤ (X - s).natAbs * U + ((xl - r).natAbs * U + (xl - r - d2).natAbs * U) := by
    rw [← Nat.add_mul, ← Nat.add_mul]; exact Nat.mul_le_mul_right _ (by omega)
  obtain ⟨v1, v2⟩ := dv_v hA g2 hV he2 g1 h33
  have he3 := up_mul (U := U) (rn_rel h3)
  have hW : rest.natAbs * U ≤ (X - s + d2).natAbs * U + (X - s + d2 - rest).natAbs * U := by
    rw [← Nat.add_mul]; exact Nat.mul_le_mul_right _ ab3
  obtain ⟨w1, w2, w3⟩ := dv_w v2 he3 hW hY ht
  have hty : (t * Y).natAbs ≤ rest.natAbs * U + (t * Y - rest * (U : Int)).natAbs := by
    have := ab8 (a := t * Y) (b := rest * (U : Int)); rwa [na_mul] at this
  have hC2 : 9007199254740992 * (t * yl).natAbs ≤ (t * Y).natAbs := by
    rw [Int.natAbs_mul, Int.natAbs_mul, Nat.mul_left_comm]; exact Nat.mul_le_mul_left _ ly
  obtain ⟨c1, c2⟩ := dv_c w2 w3 (Nat.le_trans hC2 hty)
  refine ⟨?_, ?_⟩
  · have hX : X.natAbs * U ≤ ((X + xl) * (U : Int)).natAbs + xl.natAbs * U := by
      rw [na_mul, ← Nat.add_mul]; exact Nat.mul_le_mul_right _ ab6
    have hE := na5p (a := -((s + r) * (U : Int) - (Y + yl) * q)) (b := t * Y - rest * (U : Int)) (c := t * yl) (d := -((xl - r - d2) * (U : Int))) (f := -((X - s + d2 - rest) * (U : Int)))
    rw [← div_err, Int.natAbs_neg, Int.natAbs_neg, Int.natAbs_neg, na_mul, na_mul] at hE
    exact dv_e hA d1 w3 c1 v1 w1 hE hX
  · have h5 : (t * Y).natAbs ≤ (q * Y).natAbs := by
      have h6 : X.natAbs * U ≤ (q * Y).natAbs + (q * Y - X * (U : Int)).natAbs := by
        have := ab3 (a := X * (U : Int)) (b := q * Y); rwa [na_mul] at this
      omega
    rw [Int.natAbs_mul, Int.natAbs_mul] at h5
    exact Nat.le_of_mul_le_mul_right h5 (by omega)
structure FitP (h x : Nat) : Prop where
  z : ux h * ux x = 0 ∨ 1152921504606846976 * (81129638414606681695789005144064 * UE) ≤ (ux h * ux x).natAbs
  bd : (ux h * ux x).natAbs ≤ BigP * UE
theorem ddw_1 {h h' p e : Nat} (hl : h < 18446744073709551616) (hl' : h' < 18446744073709551616) (s : h % 9223372036854775808 ≤ 9088264048033660928) (s' : h' % 9223372036854775808 ≤ 9088264048033660928) (hp : FitP h h') (T : TPR h h' p e) : Mul1 h h' p e := by
  have hb := hp.bd
  have hV : ux h * ux h' = 0 ∨ ((∀ K, K = 1188 → 2 ^ K ≤ (ux h * ux h').natAbs) ∧ ∀ K, K = 3169 → (ux h * ux h').natAbs ≤ 2 ^ K) := by
    rcases hp.z with h0 | h0
    · exact .inl h0
    · refine .inr ⟨fun K hK => Nat.le_trans ?_ h0, fun K hK => Nat.le_trans hb ?_⟩
      · unfold UE
        rw [show (1152921504606846976 : Nat) = 2 ^ 60 by decide, show (81129638414606681695789005144064 : Nat) = 2 ^ 106 by decide, ← Nat.pow_add, ← Nat.pow_add]
        exact Nat.pow_le_pow_right (by decide) (by rw [hK]; decide)
      · have e1 : BigP * UE = 2 ^ (PE + OneE) := by unfold BigP UE; exact (Nat.pow_add 2 PE OneE).symm
        rw [e1]
        exact Nat.pow_le_pow_right (by decide) (by rw [hK]; decide)
  obtain ⟨a1, a2, a3, a4, a5⟩ := T.ok hl hl' s s' hV
  have eq : (ux p + ux e) * (UE : Int) = ux h * ux h' := a3 OneE rfl
  have er : 9007199254740992 * (ux e * (UE : Int)).natAbs ≤ (ux h * ux h').natAbs := by
    by_cases h0 : ux h * ux h' = 0
    · rw [(a4 h0).2]; simp
    · have h1 := rn_rel ((a5 h0).rn OneE rfl)
      have h2 : ux h * ux h' - ux p * ((2 ^ OneE : Nat) : Int) = ux e * (UE : Int) := by
        have h3 : (UE : Int) = ((2 ^ OneE : Nat) : Int) := rfl
        rw [← eq, Int.add_mul, h3]; omega
      rwa [h2] at h1
  have b2 : (ux e).natAbs * UE ≤ BigP * UE := by rw [← na_mul]; omega
  have b3 : (ux p).natAbs * UE ≤ (2 * BigP + 1) * UE := by
    have h1 : (ux p * (UE : Int)).natAbs ≤ (ux h * ux h').natAbs + (ux e * (UE : Int)).natAbs := by
      have h2 : (ux p * (UE : Int) + ux e * (UE : Int)) = ux h * ux h' := by rw [← Int.add_mul]; exact eq
      omega
    rw [na_mul] at h1
    rw [Nat.add_mul, Nat.mul_assoc]
    omega
  have c2 := Nat.le_of_mul_le_mul_right b2 ue_pos
  have c3 := Nat.le_of_mul_le_mul_right b3 ue_pos
  exact ⟨a1, a2, eq, er, a4, c3, by omega⟩
theorem ddw_2 {a b : Nat} (fa : Fin64 a) (fb : Fin64 b) (hp : (ux a * ux b).natAbs ≤ BigP * UE) : ∃ r, floatBits .mul .f64 a b = some r ∧ FMul a b r := by
  obtain ⟨M, hM⟩ : ∃ M, M = 2096 := ⟨_, rfl⟩
  have hs : (ux a * ux b).natAbs < 2 ^ (M + OneE) := by
    have e1 : BigP * UE = 2 ^ (PE + OneE) := by unfold BigP UE; exact (Nat.pow_add 2 PE OneE).symm
    rw [e1] at hp
    have h4 : PE + OneE < M + OneE := by rw [hM]; decide
    exact Nat.lt_of_le_of_lt hp (Nat.pow_lt_pow_right (by decide) h4)
  obtain ⟨r, h1, h2, h3, h4⟩ := fmul_near (c := OneE) rfl hM fa fb hs
  have h3' : 9007199254740992 * (ux r * (UE : Int) - ux a * ux b).natAbs ≤ (ux a * ux b).natAbs + 9007199254740992 * UE := by unfold UE; exact h3
  exact ⟨r, h1, h2, h3', h4, near_bd ue_pos h3' hp⟩
theorem ddw_5 {h l x p e m w s r : Nat} (d : DdF h l) (hp : FitP h x) (A : Mul1 h x p e) (N : FMul l x m) (V : Sm64 (ux e + ux m) w) (F : FSR p w s r) :
    DdF s r ∧ 81129638414606681695789005144064 * ((ux s + ux r) * (UE : Int) - (ux h + ux l) * ux x).natAbs ≤ 16 * ((ux h + ux l) * ux x).natAbs := by
  have lx := form_l d.rn
  have key : 81129638414606681695789005144064 * ((ux p + ux w) * (UE : Int) - (ux h + ux l) * ux x).natAbs ≤ 16 * ((ux h + ux l) * ux x).natAbs ∧ (ux w).natAbs ≤ (ux p).natAbs := by
    by_cases h0 : ux h * ux x = 0
    · have hz : (ux h = 0 ∧ ux l = 0) ∨ ux x = 0 := by
        rcases Int.mul_eq_zero.1 h0 with k0 | k0
        · refine .inl ⟨k0, ?_⟩
          rw [k0] at lx; omega
        · exact .inr k0
      have e2 : ux l * ux x = 0 := by rcases hz with ⟨a, b⟩ | a <;> simp [*]
      have e3 : (ux h + ux l) * ux x = 0 := by rcases hz with ⟨a, b⟩ | a <;> simp [*]
      have z2 := N.z e2
      obtain ⟨z3, z4⟩ := A.z h0
      have z6 : ux w = 0 := by have h1 := rn_two V.rn; rw [z4, z2] at h1; omega
      rw [e3, z3, z6]
      simp
    · have hk : Rn 53 (ux 0 + ux m) (ux m) := by
        rw [ux_0, Int.zero_add]
        exact ⟨N.fin.fl, fun z _ => by rw [Int.sub_self]; exact Nat.zero_le _⟩
      have k := dd_mul (yl := ux 0) ue_pos lx (by rw [ux_0]; exact Nat.zero_le _) A.eq A.er (by rw [ux_0, Int.mul_zero, Int.zero_mul]; exact Nat.zero_le _) N.near hk V.rn (hp.z.resolve_left h0)
      rw [ux_0, Int.add_zero] at k
      exact k
  have b1 : (ux w).natAbs ≤ 2 * BigP + 1 := Nat.le_trans key.2 A.m1
  have m1 := A.m1
  obtain ⟨c1, c2, c3⟩ := F.ok A.fp.lt V.fin.lt (BigP.sz (by omega)) (BigP.sz (by omega)) (.inr (sz_le key.2))
  refine ⟨DdF.of_sm c1 c2 c3, ?_⟩
  rw [c3]; exact key.1
theorem dvp_1 {x y : Int} {J M N c : Nat} (hJ : J = 774) (hM : M = 1400) (hN : N = 2094) (hc : c = 1074) (hx : x.natAbs ≤ 16 * 2 ^ M) (hy : 2 ^ J ≤ y.natAbs) : x.natAbs * 2 ^ c ≤ 2 ^ N * y.natAbs := by
  have h1 : x.natAbs * 2 ^ c ≤ 16 * 2 ^ M * 2 ^ c := Nat.mul_le_mul_right _ hx
  have h2 : 2 ^ N * 2 ^ J ≤ 2 ^ N * y.natAbs := Nat.mul_le_mul_left _ hy
  refine Nat.le_trans h1 (Nat.le_trans ?_ h2)
  rw [show (16 : Nat) = 2 ^ 4 by decide, ← Nat.pow_add, ← Nat.pow_add, ← Nat.pow_add]
  exact Nat.pow_le_pow_right (by decide) (by omega)
theorem dvp_2 {x y : Int} {J M c : Nat} (hJ : J = 774) (hM : M = 1400) (hc : c = 1074) (hy : y.natAbs ≤ 2 ^ M) (hx : 2 ^ J ≤ x.natAbs) : 1152921504606846976 * (81129638414606681695789005144064 * y.natAbs) ≤ x.natAbs * 2 ^ c := by
  have h1 : 1152921504606846976 * (81129638414606681695789005144064 * y.natAbs) ≤ 1152921504606846976 * (81129638414606681695789005144064 * 2 ^ M) := Nat.mul_le_mul_left _ (Nat.mul_le_mul_left _ hy)
  refine Nat.le_trans h1 (Nat.le_trans ?_ (Nat.mul_le_mul_right _ hx))
  rw [show (1152921504606846976 : Nat) = 2 ^ 60 by decide, show (81129638414606681695789005144064 : Nat) = 2 ^ 106 by decide, ← Nat.pow_add, ← Nat.pow_add, ← Nat.pow_add]
  exact Nat.pow_le_pow_right (by decide) (by omega)
theorem dvp_3 {x y q : Int} {J M c K : Nat} (hJ : J = 774) (hM : M = 1400) (hc : c = 1074) (hK : K = 1650) (hx : x.natAbs ≤ 2 ^ M) (hy : 2 ^ J ≤ y.natAbs) (h : (q * y).natAbs ≤ 2 * (x.natAbs * 2 ^ c)) : q.natAbs < 2 ^ (52 + K) := by
  refine Nat.lt_of_not_le fun k => ?_
  have h1 := Nat.mul_le_mul k hy
  rw [← Int.natAbs_mul, ← Nat.pow_add] at h1
  have h2 : 2 * (x.natAbs * 2 ^ c) ≤ 2 ^ (1 + M + c) := by
    rw [Nat.pow_add, Nat.pow_add, Nat.mul_assoc]; exact Nat.mul_le_mul_left _ (Nat.mul_le_mul_right _ hx)
  have h3 : 2 ^ (1 + M + c) < 2 ^ (52 + K + J) := Nat.pow_lt_pow_right (by decide) (by omega)
  omega
theorem dvp_4 {J : Nat} {x : Nat} (hJ : J = 774) (h : 2 ^ J ≤ x) : 2 * (1152921504606846976 * 81129638414606681695789005144064) ≤ x := by
  refine Nat.le_trans ?_ h
  rw [show (2 * (1152921504606846976 * 81129638414606681695789005144064) : Nat) = 2 ^ 167 by decide]
  exact Nat.pow_le_pow_right (by decide) (by omega)
theorem dvp_5 {M N x U : Nat} (hM : M = 1400) (hN : N = 1726) (h : x ≤ 2 ^ M) : 2 * (x * U) ≤ 2 ^ N * U := by
  rw [← Nat.mul_assoc]
  refine Nat.mul_le_mul_right _ (Nat.le_trans (Nat.mul_le_mul_left _ h) ?_)
  rw [show 2 * 2 ^ M = 2 ^ (M + 1) by rw [Nat.pow_succ, Nat.mul_comm]]
  exact Nat.pow_le_pow_right (by decide) (by omega)
theorem quo_0 {q y : Int} {Y : Nat} (hY : Y = y.natAbs) (hy : y ≠ 0) (h : 2 * 9007199254740992 * (q * y - 0).natAbs ≤ 0 + 9007199254740992 * Y) : q = 0 := by
  rw [Int.sub_zero, Int.natAbs_mul, ← hY] at h
  have hp : 0 < Y := by omega
  refine Int.natAbs_eq_zero.1 (Nat.eq_zero_of_not_pos fun k => ?_)
  have h1 : Y ≤ q.natAbs * Y := Nat.le_mul_of_pos_left _ k
  omega
structure Dv0 (h h' q : Nat) : Prop where
  fin : Fin64 q
  near : 2 * 9007199254740992 * (ux q * ux h' - ux h * (UE : Int)).natAbs ≤ 4 * ((ux h).natAbs * UE) + 9007199254740992 * (ux h').natAbs
  sz : q % 9223372036854775808 ≤ 9088264048033660928
  fit : FitP h' q
theorem quo_n2 {h h' N : Nat} (hN : N = 2094) (f : Fin64 h) (f' : Fin64 h') (b0 : ux h' ≠ 0) (q' : FitQ h') (hb : (ux h).natAbs ≤ 16 * BigU) : ∃ r, floatBits .quo .f64 h h' = some r ∧ Fin64 r ∧ 2 * 9007199254740992 * (ux r * ux h' - ux h * (UE : Int)).natAbs ≤ 4 * ((ux h).natAbs * UE) + 9007199254740992 * (ux h').natAbs := by
  obtain ⟨J, hJ⟩ : ∃ J, J = 774 := ⟨_, rfl⟩
  unfold BigU at hb
  have h1 := dvp_1 (M := BigE) (c := OneE) hJ rfl hN rfl hb (q'.low hJ b0)
  exact fquo_near hN (K := OneE) rfl f f' b0 h1
theorem dv_0 {h h' : Nat} (f : Fin64 h) (f' : Fin64 h') (q : FitQ h) (q' : FitQ h') (b0 : ux h' ≠ 0) : ∃ r, floatBits .quo .f64 h h' = some r ∧ Dv0 h h' r := by
  obtain ⟨N, hN⟩ : ∃ N, N = 2094 := ⟨_, rfl⟩
  have hb := fit_big q.hi
  have hb' := fit_big q'.hi
  obtain ⟨r, h1, h2, h3⟩ := quo_n2 hN f f' b0 q' (by omega)
  refine ⟨r, h1, h2, h3, ?_, ?_⟩
  · by_cases h0 : ux h = 0
    · rw [h0, Int.zero_mul, show ((0 : Int).natAbs) = 0 from rfl, Nat.zero_mul, Nat.mul_zero] at h3
      have := sz_0 (quo_0 rfl b0 h3)
      omega
    · obtain ⟨J, hJ⟩ : ∃ J, J = 774 := ⟨_, rfl⟩
      obtain ⟨K, hK⟩ : ∃ K, K = 1650 := ⟨_, rfl⟩
      unfold BigU at hb hb'
      have hY := dvp_2 (M := BigE) (c := OneE) hJ rfl rfl hb' (q.low hJ h0)
      have k := (dv_b h3 hY).2
      have hQ : (ux r * ux h').natAbs ≤ 2 * ((ux h).natAbs * UE) := by
        have := ab8 (a := ux r * ux h') (b := ux h * (UE : Int)); rw [na_mul] at this; omega
      have h5 := sz_of (dvp_3 (M := BigE) (c := OneE) hJ rfl rfl hK hb (q'.low hJ b0) hQ)
      rw [hK] at h5
      omega
  · by_cases h0 : ux h = 0
    · rw [h0, Int.zero_mul, show ((0 : Int).natAbs) = 0 from rfl, Nat.zero_mul, Nat.mul_zero] at h3
      have h4 := quo_0 rfl b0 h3
      refine ⟨.inl (by rw [h4, Int.mul_zero]), by rw [h4, Int.mul_zero]; exact Nat.zero_le _⟩
    · obtain ⟨J, hJ⟩ : ∃ J, J = 774 := ⟨_, rfl⟩
      unfold BigU at hb hb'
      have hY := dvp_2 (M := BigE) (c := OneE) hJ rfl rfl hb' (q.low hJ h0)
      have k := (dv_b h3 hY).2
      have a1 : (ux r * ux h').natAbs ≤ (ux h).natAbs * UE + (ux r * ux h' - ux h * (UE : Int)).natAbs := by
        have := ab8 (a := ux r * ux h') (b := ux h * (UE : Int)); rwa [na_mul] at this
      have a2 : (ux h).natAbs * UE ≤ (ux r * ux h').natAbs + (ux r * ux h' - ux h * (UE : Int)).natAbs := by
        have := ab3 (a := ux h * (UE : Int)) (b := ux r * ux h'); rwa [na_mul] at this
      have a3 := dvp_4 hJ (q.low hJ h0)
      have a4 : 2 * (1152921504606846976 * 81129638414606681695789005144064) * UE ≤ (ux h).natAbs * UE := Nat.mul_le_mul_right _ a3
      have a5 := dvp_5 (U := UE) (M := BigE) (N := PE) rfl rfl hb
      refine ⟨.inr ?_, ?_⟩
      · rw [Int.mul_comm (ux h')]; omega
      · rw [Int.mul_comm (ux h')]; unfold BigP; omega
structure Dv1 (h h' l' q s r : Nat) : Prop where
  ds : DdF s r
  le : (ux h - ux s).natAbs ≤ (ux h).natAbs ∧ (ux h - ux s).natAbs ≤ (ux s).natAbs
  z : ux h = 0 → ux q = 0 ∧ ux s = 0 ∧ ux r = 0
  g : ux h ≠ 0 → (9007199254740992 * 1024 * ((ux h - ux s).natAbs * UE) ≤ 4101 * ((ux h).natAbs * UE) ∧ 9007199254740992 * 1024 * ((ux r).natAbs * UE) ≤ 1025 * ((ux h).natAbs * UE) ∧ 81129638414606681695789005144064 * 64 * ((ux s + ux r) * (UE : Int) - (ux h' + ux l') * ux q).natAbs ≤ 1025 * ((ux h).natAbs * UE))
theorem low_y {h h' : Nat} (q : FitQ h) (q' : FitQ h') (h0 : ux h ≠ 0) : 1152921504606846976 * (81129638414606681695789005144064 * (ux h').natAbs) ≤ (ux h).natAbs * UE := by
  obtain ⟨J, hJ⟩ : ∃ J, J = 774 := ⟨_, rfl⟩
  have hb' := fit_big q'.hi
  unfold BigU at hb'
  exact dvp_2 (M := BigE) (c := OneE) hJ rfl rfl hb' (q.low hJ h0)
theorem dv_1 {h h' l' q s r : Nat} (d' : DdF h' l') (k : FitQ h) (k' : FitQ h') (b0 : ux h' ≠ 0) (A : Dv0 h h' q) (ds : DdF s r) (hm : 81129638414606681695789005144064 * ((ux s + ux r) * (UE : Int) - (ux h' + ux l') * ux q).natAbs ≤ 16 * ((ux h' + ux l') * ux q).natAbs) : Dv1 h h' l' q s r := by
  have lr := form_l ds.rn
  by_cases h0 : ux h = 0
  · have h3 := A.near
    rw [h0, Int.zero_mul, show ((0 : Int).natAbs) = 0 from rfl, Nat.zero_mul, Nat.mul_zero] at h3
    have h4 := quo_0 rfl b0 h3
    rw [h4, Int.mul_zero, Int.sub_zero, na_mul] at hm
    have h5 : (ux s + ux r).natAbs * UE = 0 := by simp at hm; omega
    have h6 : (ux s + ux r).natAbs = 0 := (Nat.mul_eq_zero.1 h5).resolve_right (Nat.ne_of_gt ue_pos)
    have h7 : ux s = 0 ∧ ux r = 0 := by omega
    refine ⟨ds, ?_, fun _ => ⟨h4, h7⟩, fun k0 => absurd h0 k0⟩
    rw [h0, h7.1]; exact ⟨Nat.le_refl _, Nat.le_refl _⟩
  · obtain ⟨g, a, b⟩ := dd_div1 ue_pos (form_l d'.rn) A.near hm lr (low_y k k' h0)
    exact ⟨ds, ⟨a, b⟩, fun k0 => absurd k0 h0, fun _ => g⟩
theorem dv_2 {h l h' l' q s r : Nat} (d : DdF h l) (k : FitQ h) (B : Dv1 h h' l' q s r) : ∃ e1 e2 e3, floatBits .sub .f64 h s = some e1 ∧ floatBits .sub .f64 l r = some e2 ∧ floatBits .add .f64 e1 e2 = some e3 ∧ Fin64 e3 ∧ (ux e3).natAbs ≤ 16 * BigU ∧ Rn 53 (ux l - ux r) (ux e2) ∧ Rn 53 (ux h - ux s + ux e2) (ux e3) := by
  have hb := fit_big k.hi
  have lb := form_lo d hb
  have sb : (ux s).natAbs ≤ 2 * BigU := by have h1 := B.le.1; omega
  have rb := form_l B.ds.rn
  obtain ⟨e1, f1, g1⟩ := fl_sub_fin d.hi B.ds.hi (BigU.max (by have h1 := B.le.1; omega))
  obtain ⟨e2, f2, g2⟩ := fl_sub_fin d.lo B.ds.lo (BigU.max (by omega))
  have x1 : ux e1 = ux h - ux s := by
    refine g1.rn.ex ?_
    have h1 := B.le.1
    have h2 := B.le.2
    rw [Int.sub_eq_add_neg] at h1 h2 ⊢
    exact sterb d.hi.fl B.ds.hi.fl.neg h1 (by rw [Int.natAbs_neg]; exact h2)
  have b2 := rn_two g2.rn
  have h1 := B.le.1
  obtain ⟨e3, f3, g3⟩ := fl_add_fin g1.fin g2.fin (BigU.max (by rw [x1]; omega))
  have b3 := rn_two g3.rn
  rw [x1] at g3 b3
  exact ⟨e1, e2, e3, f1, f2, f3, g3.fin, by omega, g2.rn, g3.rn⟩
theorem dv_3 {h l h' l' q s r e2 e3 t z1 z2 : Nat} (d : DdF h l) (d' : DdF h' l') (k : FitQ h) (k' : FitQ h') (b0 : ux h' ≠ 0) (A : Dv0 h h' q) (B : Dv1 h h' l' q s r) (r2 : Rn 53 (ux l - ux r) (ux e2)) (r3 : Rn 53 (ux h - ux s + ux e2) (ux e3)) (ft : Fin64 t)
    (ht : 2 * 9007199254740992 * (ux t * ux h' - ux e3 * (UE : Int)).natAbs ≤ 4 * ((ux e3).natAbs * UE) + 9007199254740992 * (ux h').natAbs) (F : FSR q t z1 z2) :
    DdF z1 z2 ∧ 81129638414606681695789005144064 * ((ux z1 + ux z2) * (ux h' + ux l') - (ux h + ux l) * (UE : Int)).natAbs ≤ 64 * ((ux h + ux l) * (UE : Int)).natAbs := by
  have key : 81129638414606681695789005144064 * ((ux q + ux t) * (ux h' + ux l') - (ux h + ux l) * (UE : Int)).natAbs ≤ 64 * ((ux h + ux l) * (UE : Int)).natAbs ∧ (ux t).natAbs ≤ (ux q).natAbs := by
    by_cases h0 : ux h = 0
    · have lx := form_l d.rn
      obtain ⟨a, b, c⟩ := B.z h0
      have l0 : ux l = 0 := by rw [h0] at lx; omega
      have e20 : ux e2 = 0 := by have := rn_two r2; rw [l0, c] at this; omega
      have e30 : ux e3 = 0 := by have := rn_two r3; rw [h0, b, e20] at this; omega
      rw [e30, Int.zero_mul, show ((0 : Int).natAbs) = 0 from rfl, Nat.zero_mul, Nat.mul_zero] at ht
      have t0 := quo_0 rfl b0 ht
      rw [a, t0, h0, l0]
      simp
    · exact dd_div2 (form_l d.rn) (form_l d'.rn) A.near (B.g h0) r2 r3 ht b0 (low_y k k' h0)
  have sq := A.sz
  have st := sz_le key.2
  obtain ⟨c1, c2, c3⟩ := F.ok A.fin.lt ft.lt (by omega) (by omega) (.inr st)
  refine ⟨DdF.of_sm c1 c2 c3, ?_⟩
  rw [c3]; exact key.1
theorem ddMulF_w {h l x : Nat} (d : DdF h l) (q : FitQ h) (fx : Fin64 x) (sx : x % 9223372036854775808 ≤ 9088264048033660928) (hp : FitP h x) (w : World) :
    Calls Tryz.prog 19 #[.agg #[Fv h, Fv l], Fv x] w fun en w' => ∃ s r, en = .returned (.agg #[Fv s, Fv r]) ∧ DdF s r ∧ 81129638414606681695789005144064 * ((ux s + ux r) * (UE : Int) - (ux h + ux l) * ux x).natAbs ≤ 16 * ((ux h + ux l) * ux x).natAbs ∧ Below w.heap.size w w' := by
  have hSF : ∀ (w : World) (a : Addr) (b : Nat), (store a (Fv b)).run Tryz.prog w = stored Tryz.prog w a (Fv b) .plain := stF
  have HD : Hid ((DdF h l ∧ Fin64 x) ∧ (FitQ h ∧ x % 9223372036854775808 ≤ 9088264048033660928) ∧ FitP h x) := ⟨⟨d, fx⟩, ⟨q, sx⟩, hp⟩
  have b2 : (ux l * ux x).natAbs ≤ BigP * UE := by
    refine Nat.le_trans ?_ hp.bd
    rw [Int.natAbs_mul, Int.natAbs_mul]
    exact Nat.mul_le_mul_right _ (by have := form_l d.rn; omega)
  obtain ⟨m2, hm2, hN⟩ := ddw_2 d.lo fx b2
  have HMN : Hid (FMul l x m2) := hN
  have r2 : ∀ W : World, (binOp .mul 23 (Fv l) (Fv x)).run Tryz.prog W = .ok (Fv m2) W := fun W => run_float_arith W .mul 23 .f64 l x m2 hm2
  clear d q sx hp b2 hm2 hN fx
  go_enter Tryz.func19, Tryz.ntmps19
  go_wp2_with fail
  obtain ⟨W0, hW0⟩ : ∃ W0, W0 = ((w.alloc (.cells #[Fv h, Fv l] 39)).alloc (.cells #[Fv 0, Fv 0] 39)) := ⟨_, rfl⟩
  have Xa : Hid (Box W0 (w.heap.size) (Fv h) (Fv l)) := by rw [hW0]; exact ⟨by go_simp, by go_simp, by go_simp, by go_simp⟩
  have Xr : Hid (Box W0 (w.heap.size + 1) (Fv 0) (Fv 0)) := by rw [hW0]; exact ⟨by go_simp, by go_simp, by go_simp, by go_simp⟩
  have hb0 : Below w.heap.size w W0 := by rw [hW0]; exact below2 w _ _
  rw [← hW0]
  clear hW0
  have hbw : Below w.heap.size w w := Below.refl _ _
  obtain ⟨gr, hgr⟩ : ∃ g, g = w.heap.size + 1 := ⟨_, rfl⟩
  have HGr : Hid (w.heap.size ≤ gr) := by rw [hgr]; show _ ≤ _; omega
  rw [← hgr] at Xr
  try rw [← hgr]
  obtain ⟨ga, hga⟩ : ∃ g, g = w.heap.size := ⟨_, rfl⟩
  have HGa : Hid (w.heap.size ≤ ga) := by rw [hga]; show _ ≤ _; omega
  rw [← hga] at Xa
  try rw [← hga]
  have HGD : Hid (ga ≠ gr ∧ gr ≠ ga) := by rw [hga, hgr]; exact ⟨by omega, by omega⟩
  clear hga hgr
  replace hbw := Below.on hbw hb0
  clear hb0
  obtain ⟨ca0, ca1, fa0, fa1⟩ := Xa.out
  have hnea := Xa.out.lt
  go_wp2_with fail
  clear ca0 ca1 fa0 fa1 hnea
  refine (twoProd h x _).mono ?_
  rintro e9 v9 ⟨p, e, n9, rfl, rfl, hR⟩
  have A1 := Hid.mk9 (ddw_1 HD.out.1.1.hi.lt HD.out.1.2.lt (by have := HD.out.2.1.1.hi; omega) HD.out.2.1.2 HD.out.2.2 hR)
  clear hR
  obtain ⟨v, hv1, hv2⟩ := ddm_4 A1.out HMN.out.fin (by have := HMN.out.bd; omega)
  have C4 := Hid.mk9 hv2
  have r4 : ∀ W : World, (binOp .add 23 (Fv e) (Fv m2)).run Tryz.prog W = .ok (Fv v) W := fun W => run_float_arith W .add 23 .f64 e m2 v hv1
  clear hv1 hv2
  have hbr := bDrewN (Below.refl W0.heap.size W0) n9
  generalize W0.drewN n9 = V1 at *
  replace Xa : Hid _ := Xa.out.below hbr
  replace Xr : Hid _ := Xr.out.below hbr
  replace hbw := Below.on hbw hbr
  clear hbr
  obtain ⟨ca0, ca1, fa0, fa1⟩ := Xa.out
  have hnea := Xa.out.lt
  go_wp2_with fail
  clear ca0 ca1 fa0 fa1 hnea
  refine (fastTwoSum p v _).mono ?_
  rintro e9 v9 ⟨s4, r5, n9, rfl, rfl, hR⟩
  have HR4 := Hid.mk9 (ddw_5 HD.out.1.1 HD.out.2.2 A1.out HMN.out C4.out hR)
  clear hR r2 r4
  have hbr := bDrewN (Below.refl V1.heap.size V1) n9
  generalize V1.drewN n9 = V4 at *
  replace Xa : Hid _ := Xa.out.below hbr
  replace Xr : Hid _ := Xr.out.below hbr
  replace hbw := Below.on hbw hbr
  clear hbr
  go_wp2_with fail
  refine (ddpair s4 r5 _).mono ?_
  rintro e v5 ⟨rfl, hb5⟩
  replace Xa : Hid _ := Xa.out.below hb5
  replace Xr : Hid _ := Xr.out.below hb5
  replace hbw := Below.on hbw hb5
  clear hb5
  obtain ⟨cr0, cr1, fr0, fr1⟩ := Xr.out
  have hner := Xr.out.lt
  go_wp2_with fail
  refine bodyPost_ret (v := .agg #[Fv s4, Fv r5]) (by rw [results_cell1 rfl]; go_simp) rfl ⟨s4, r5, rfl, HR4.out.1, HR4.out.2, ?_⟩
  exact bSet (bSet (hbw) _ _ _ HGr.out) _ _ _ HGr.out
theorem ddDiv_f {h l h' l' : Nat} (d : DdF h l) (d' : DdF h' l') (q : FitQ h) (q' : FitQ h') (b0 : ux h' ≠ 0) (w : World) :
    Calls Tryz.prog 21 #[.agg #[Fv h, Fv l], .agg #[Fv h', Fv l']] w fun en w' => ∃ z1 z2, en = .returned (.agg #[Fv z1, Fv z2]) ∧ DdF z1 z2 ∧ 81129638414606681695789005144064 * ((ux z1 + ux z2) * (ux h' + ux l') - (ux h + ux l) * (UE : Int)).natAbs ≤ 64 * ((ux h + ux l) * (UE : Int)).natAbs ∧ Below w.heap.size w w' := by
  have hSF : ∀ (w : World) (a : Addr) (b : Nat), (store a (Fv b)).run Tryz.prog w = stored Tryz.prog w a (Fv b) .plain := stF
  have HD : Hid ((DdF h l ∧ DdF h' l') ∧ FitQ h ∧ FitQ h' ∧ ux h' ≠ 0) := ⟨⟨d, d'⟩, q, q', b0⟩
  obtain ⟨q1, hq1, hA⟩ := dv_0 d.hi d'.hi q q' b0
  have HA := Hid.mk9 hA
  have f1 : ∀ W : World, (binOp .quo 23 (Fv h) (Fv h')).run Tryz.prog W = .ok (Fv q1) W := fun W => run_float_arith W .quo 23 .f64 h h' q1 hq1
  clear d d' q q' b0 hq1 hA
  go_enter Tryz.func21, Tryz.ntmps21
  go_wp2_with fail
  obtain ⟨W0, hW0⟩ : ∃ W0, W0 = (((w.alloc (.cells #[Fv h, Fv l] 39)).alloc (.cells #[Fv h', Fv l'] 39)).alloc (.cells #[Fv 0, Fv 0] 39)) := ⟨_, rfl⟩
  have Xa : Hid (Box W0 (w.heap.size) (Fv h) (Fv l)) := by rw [hW0]; exact ⟨by go_simp, by go_simp, by go_simp, by go_simp⟩
  have Xb : Hid (Box W0 (w.heap.size + 1) (Fv h') (Fv l')) := by rw [hW0]; exact ⟨by go_simp, by go_simp, by go_simp, by go_simp⟩
  have Xr : Hid (Box W0 (w.heap.size + 1 + 1) (Fv 0) (Fv 0)) := by rw [hW0]; exact ⟨by go_simp, by go_simp, by go_simp, by go_simp⟩
  have hb0 : Below w.heap.size w W0 := by rw [hW0]; exact below3 w _ _ _
  rw [← hW0]
  clear hW0
  have hbw : Below w.heap.size w w := Below.refl _ _
  obtain ⟨gr, hgr⟩ : ∃ g, g = w.heap.size + 1 + 1 := ⟨_, rfl⟩
  have HGr : Hid (w.heap.size ≤ gr) := by rw [hgr]; show _ ≤ _; omega
  rw [← hgr] at Xr
  try rw [← hgr]
  obtain ⟨gb, hgb⟩ : ∃ g, g = w.heap.size + 1 := ⟨_, rfl⟩
  have HGb : Hid (w.heap.size ≤ gb) := by rw [hgb]; show _ ≤ _; omega
  rw [← hgb] at Xb
  try rw [← hgb]
  obtain ⟨ga, hga⟩ : ∃ g, g = w.heap.size := ⟨_, rfl⟩
  have HGa : Hid (w.heap.size ≤ ga) := by rw [hga]; show _ ≤ _; omega
  rw [← hga] at Xa
  try rw [← hga]
  have HGD : Hid (ga ≠ gb ∧ ga ≠ gr ∧ gb ≠ ga ∧ gb ≠ gr ∧ gr ≠ ga ∧ gr ≠ gb) := by rw [hga, hgb, hgr]; exact ⟨by omega, by omega, by omega, by omega, by omega, by omega⟩
  clear hga hgb hgr
  replace hbw := Below.on hbw hb0
  clear hb0
  obtain ⟨hgd0, hgd1, hgd2, hgd3, hgd4, hgd5⟩ := HGD.out
  obtain ⟨ca0, ca1, fa0, fa1⟩ := Xa.out
  have hnea := Xa.out.lt
  obtain ⟨cb0, cb1, fb0, fb1⟩ := Xb.out
  have hneb := Xb.out.lt
  go_wp2_with fail
  clear ca0 ca1 fa0 fa1 hnea
  clear cb0 cb1 fb0 fb1 hneb
  refine (ddMulF_w HD.out.1.2 HD.out.2.2.1 HA.out.fin HA.out.sz HA.out.fit _).mono ?_
  rintro e1 v1 ⟨s, r, rfl, hds, hms, hb1⟩
  have HB := Hid.mk9 (dv_1 HD.out.1.2 HD.out.2.1 HD.out.2.2.1 HD.out.2.2.2 HA.out hds hms)
  clear hds hms
  obtain ⟨e1, e2, e3, he1, he2, he3, fe3, hbe, r2, r3⟩ := dv_2 HD.out.1.1 HD.out.2.1 HB.out
  obtain ⟨N9, hN9⟩ : ∃ N, N = 2094 := ⟨_, rfl⟩
  obtain ⟨t, ht, ft, htn⟩ := quo_n2 hN9 fe3 HD.out.1.2.hi HD.out.2.2.2 HD.out.2.2.1 hbe
  have HE := Hid.mk9 (And.intro (And.intro r2 r3) (And.intro ft htn))
  clear r2 r3 ft htn fe3 hbe hN9
  have f2 : ∀ W : World, (binOp .sub 23 (Fv h) (Fv s)).run Tryz.prog W = .ok (Fv e1) W := fun W => run_float_arith W .sub 23 .f64 h s e1 he1
  clear he1
  have f3 : ∀ W : World, (binOp .sub 23 (Fv l) (Fv r)).run Tryz.prog W = .ok (Fv e2) W := fun W => run_float_arith W .sub 23 .f64 l r e2 he2
  clear he2
  have f4 : ∀ W : World, (binOp .add 23 (Fv e1) (Fv e2)).run Tryz.prog W = .ok (Fv e3) W := fun W => run_float_arith W .add 23 .f64 e1 e2 e3 he3
  clear he3
  have f5 : ∀ W : World, (binOp .quo 23 (Fv e3) (Fv h')).run Tryz.prog W = .ok (Fv t) W := fun W => run_float_arith W .quo 23 .f64 e3 h' t ht
  clear ht
  replace Xa : Hid _ := Xa.out.below hb1
  replace Xb : Hid _ := Xb.out.below hb1
  replace Xr : Hid _ := Xr.out.below hb1
  replace hbw := Below.on hbw hb1
  clear hb1
  obtain ⟨ca0, ca1, fa0, fa1⟩ := Xa.out
  have hnea := Xa.out.lt
  obtain ⟨cb0, cb1, fb0, fb1⟩ := Xb.out
  have hneb := Xb.out.lt
  go_wp2_with fail
  clear ca0 ca1 fa0 fa1 hnea
  clear cb0 cb1 fb0 fb1 hneb
  have Xk0 : Hid (Box (v1.alloc (.cells #[Fv s, Fv r] 39)) v1.heap.size (Fv s) (Fv r)) := Box.new v1 _ _ _
  have hbn : Below v1.heap.size v1 (v1.alloc (.cells #[Fv s, Fv r] 39)) := below1 v1 _
  generalize v1.alloc (.cells #[Fv s, Fv r] 39) = Wk at *
  have HGk : Hid (w.heap.size ≤ v1.heap.size) := hbw.size
  replace Xa : Hid _ := Xa.out.below hbn
  replace Xb : Hid _ := Xb.out.below hbn
  replace Xr : Hid _ := Xr.out.below hbn
  replace hbw := Below.on hbw hbn
  clear hbn
  generalize v1.heap.size = gk at *
  have Xk := Xk0
  clear Xk0
  obtain ⟨ca0, ca1, fa0, fa1⟩ := Xa.out
  have hnea := Xa.out.lt
  obtain ⟨cb0, cb1, fb0, fb1⟩ := Xb.out
  have hneb := Xb.out.lt
  obtain ⟨ck0, ck1, fk0, fk1⟩ := Xk.out
  have hnek := Xk.out.lt
  go_wp2_with fail
  clear ca0 ca1 fa0 fa1 hnea
  clear cb0 cb1 fb0 fb1 hneb
  clear ck0 ck1 fk0 fk1 hnek
  refine (fastTwoSum q1 t _).mono ?_
  rintro e9 v9 ⟨z1, z2, n9, rfl, rfl, hR⟩
  have HZ := Hid.mk9 (dv_3 HD.out.1.1 HD.out.1.2 HD.out.2.1 HD.out.2.2.1 HD.out.2.2.2 HA.out HB.out HE.out.1.1 HE.out.1.2 HE.out.2.1 HE.out.2.2 hR)
  clear hR f1 f2 f3 f4 f5
  have hbr := bDrewN (Below.refl Wk.heap.size Wk) n9
  generalize Wk.drewN n9 = V2 at *
  replace Xa : Hid _ := Xa.out.below hbr
  replace Xb : Hid _ := Xb.out.below hbr
  replace Xr : Hid _ := Xr.out.below hbr
  replace Xk : Hid _ := Xk.out.below hbr
  replace hbw := Below.on hbw hbr
  clear hbr
  go_wp2_with fail
  refine (ddpair z1 z2 _).mono ?_
  rintro e v3 ⟨rfl, hb3⟩
  replace Xa : Hid _ := Xa.out.below hb3
  replace Xb : Hid _ := Xb.out.below hb3
  replace Xr : Hid _ := Xr.out.below hb3
  replace Xk : Hid _ := Xk.out.below hb3
  replace hbw := Below.on hbw hb3
  clear hb3
  obtain ⟨cr0, cr1, fr0, fr1⟩ := Xr.out
  have hner := Xr.out.lt
  go_wp2_with fail
  refine bodyPost_ret (v := .agg #[Fv z1, Fv z2]) (by rw [results_cell1 rfl]; go_simp) rfl ⟨z1, z2, rfl, HZ.out.1, HZ.out.2, ?_⟩
  exact bSet (bSet (hbw) _ _ _ HGr.out) _ _ _ HGr.out
def Mid (b : Nat) : Prop := b < 18446744073709551616 ∧ (b % 9223372036854775808 = 0 ∨ (4156822456062967808 ≤ b % 9223372036854775808 ∧ b % 9223372036854775808 < 5057542381537067008))
theorem Mid.fin {b : Nat} (h : Mid b) : Fin64 b := by
  have h2 := h.2
  exact ⟨h.1, by omega⟩
theorem Mid.fitq {b : Nat} (h : Mid b) : FitQ b := by
  have := h.2
  unfold FitQ
  omega
theorem Mid.zero {b : Nat} (h : Mid b) (k : b % 9223372036854775808 = 0) : ux b = 0 := by
  have _ := h
  rw [ux_eq, k, vs_zero]; split <;> rfl
theorem Mid.low {b K : Nat} (h : Mid b) (hK : K = 974) (h0 : ux b ≠ 0) : 2 ^ K ≤ (ux b).natAbs := by
  rcases h.2 with k | ⟨k, _⟩
  · exact absurd (h.zero k) h0
  · rw [ux_abs]
    obtain ⟨j, hj⟩ : ∃ j, j = 922 := ⟨_, rfl⟩
    have h1 := vs_le4 k
    have h2 := vs_at j 4503599627370496 (.inr (Nat.le_refl _)) (by decide)
    rw [show j * 4503599627370496 + 4503599627370496 = 4156822456062967808 by rw [hj]] at h2
    rw [h2] at h1
    rw [show K = 52 + j by omega, Nat.pow_add]
    exact h1
theorem Mid.high {b K : Nat} (h : Mid b) (hK : K = 1174) : (ux b).natAbs ≤ 2 ^ K := by
  obtain ⟨j, hj⟩ : ∃ j, j = 1122 := ⟨_, rfl⟩
  have h1 := ux_pow (b := b) (K := j) (by have := h.2; omega)
  rw [show K = 52 + j by omega]
  exact h1
theorem Mid.mul {b K : Nat} (h : Mid b) (hK : K = 922) : ∃ k : Int, ux b = k * ((2 ^ K : Nat) : Int) := by
  rcases h.2 with k | ⟨k, k2⟩
  · exact ⟨0, by rw [h.zero k, Int.zero_mul]⟩
  · obtain ⟨s, hs⟩ : ∃ s, s = b % 9223372036854775808 := ⟨_, rfl⟩
    rw [← hs] at k k2
    obtain ⟨j, hj⟩ : ∃ j, s / 4503599627370496 - 1 = K + j := ⟨s / 4503599627370496 - 1 - K, by omega⟩
    have hv : vs 4503599627370496 s = (s - (s / 4503599627370496 - 1) * 4503599627370496) * 2 ^ j * 2 ^ K := by
      unfold vs
      rw [hj, Nat.pow_add, Nat.mul_comm (2 ^ K), Nat.mul_assoc]
    rw [ux_eq, ← hs, hv]
    split
    · exact ⟨-(((s - (s / 4503599627370496 - 1) * 4503599627370496) * 2 ^ j : Nat) : Int), by rw [Int.natCast_mul _ (2 ^ K), Int.neg_mul]⟩
    · exact ⟨(((s - (s / 4503599627370496 - 1) * 4503599627370496) * 2 ^ j : Nat) : Int), by rw [Int.natCast_mul _ (2 ^ K)]⟩
theorem mul_low {k : Int} {P : Nat} (h : k * (P : Int) ≠ 0) : P ≤ (k * (P : Int)).natAbs := by
  have h1 : k ≠ 0 := fun e => h (by rw [e, Int.zero_mul])
  rw [Int.natAbs_mul, Int.natAbs_natCast]
  exact Nat.le_mul_of_pos_left P (by omega)
theorem mid_add {a b K : Nat} (h : Mid a) (k : Mid b) (hK : K = 922) (h0 : ux a + ux b ≠ 0) : 2 ^ K ≤ (ux a + ux b).natAbs := by
  obtain ⟨x, hx⟩ := h.mul hK
  obtain ⟨y, hy⟩ := k.mul hK
  rw [hx, hy, ← Int.add_mul] at h0 ⊢
  exact mul_low h0
theorem mid_sub {a b K : Nat} (h : Mid a) (k : Mid b) (hK : K = 922) (h0 : ux a - ux b ≠ 0) : 2 ^ K ≤ (ux a - ux b).natAbs := by
  obtain ⟨x, hx⟩ := h.mul hK
  obtain ⟨y, hy⟩ := k.mul hK
  rw [hx, hy, ← Int.sub_mul] at h0 ⊢
  exact mul_low h0
theorem fitq_of {h J M : Nat} (hJ : J = 774) (hM : M = 1374) (hz : ux h = 0 ∨ 2 ^ J ≤ (ux h).natAbs) (hu : (ux h).natAbs ≤ 2 ^ M) : FitQ h := by
  unfold FitQ
  by_cases h0 : h % 9223372036854775808 = 0
  · exact .inl h0
  · right
    have hne := vs_mono (H := 4503599627370496) (by decide) (s := 0) (t := h % 9223372036854775808) (by omega)
    rw [vs_zero] at hne
    have e0 := ux_abs h
    rw [e0] at hz hu
    obtain ⟨i, hi⟩ : ∃ i, i = 722 := ⟨_, rfl⟩
    obtain ⟨j, hj⟩ : ∃ j, j = 1322 := ⟨_, rfl⟩
    have a1 := vs_at i 4503599627370496 (.inr (Nat.le_refl _)) (by decide)
    rw [show i * 4503599627370496 + 4503599627370496 = 3256102530588868608 by rw [hi], show (4503599627370496 : Nat) * 2 ^ i = 2 ^ J by rw [show J = 52 + i by omega, Nat.pow_add]] at a1
    have a2 := vs_at j 4503599627370496 (.inr (Nat.le_refl _)) (by decide)
    rw [show j * 4503599627370496 + 4503599627370496 = 5958262307011166208 by rw [hj], show (4503599627370496 : Nat) * 2 ^ j = 2 ^ M by rw [show M = 52 + j by omega, Nat.pow_add]] at a2
    constructor
    · refine Nat.le_of_not_lt fun k => ?_
      have h1 := vs_mono (H := 4503599627370496) (by decide) k
      rw [a1] at h1
      rcases hz with hz | hz
      · have h2 := ux_abs h
        omega
      · omega
    · refine Nat.le_of_not_lt fun k => ?_
      have h1 := vs_mono (H := 4503599627370496) (by decide) k
      rw [a2] at h1
      omega
theorem hi_of {h l J M : Nat} (d : DdF h l) (hz : ux h + ux l = 0 ∨ 2 * 2 ^ J ≤ (ux h + ux l).natAbs) (hu : 2 * (ux h + ux l).natAbs ≤ 2 ^ M) : (ux h = 0 ∨ 2 ^ J ≤ (ux h).natAbs) ∧ (ux h).natAbs ≤ 2 ^ M := by
  have h1 := form_l d.rn
  omega
theorem cut20 {a b Y : Int} {A B : Nat} (hY : Y ≠ 0) (h : A * (a * Y).natAbs ≤ B * (b * Y).natAbs) : A * a.natAbs ≤ B * b.natAbs := by
  rw [Int.natAbs_mul, Int.natAbs_mul, ← Nat.mul_assoc, ← Nat.mul_assoc] at h
  exact Nat.le_of_mul_le_mul_right h (by omega)
theorem bk_2 {P D E : Nat} (hE : 81129638414606681695789005144064 * E ≤ 16 * P) (hD : 81129638414606681695789005144064 * D ≤ 64 * (P + E)) : 81129638414606681695789005144064 * (D + E) ≤ 81 * P := by omega
theorem bk_3 {a x : Int} (h : 81129638414606681695789005144064 * (a - x).natAbs ≤ 81 * x.natAbs) : (a * ((2 ^ 0 : Nat) : Int) - x).natAbs * 2 ^ 99 ≤ x.natAbs := by
  rw [show ((2 ^ 0 : Nat) : Int) = 1 from rfl, Int.mul_one, show (2 : Nat) ^ 99 = 633825300114114700748351602688 by decide]
  omega
theorem wn_back2 {A Y P D : Int} (hY : Y ≠ 0) (h : 81129638414606681695789005144064 * (P * (UE : Int) - A * Y).natAbs ≤ 16 * (A * Y).natAbs) (k : 81129638414606681695789005144064 * (D * Y - P * (UE : Int)).natAbs ≤ 64 * (P * (UE : Int)).natAbs) : (D * ((2 ^ 0 : Nat) : Int) - A).natAbs * 2 ^ 99 ≤ A.natAbs := by
  have h1 : (P * (UE : Int)).natAbs ≤ (A * Y).natAbs + (P * (UE : Int) - A * Y).natAbs := by omega
  have h2 := bk_2 h (Nat.le_trans k (Nat.mul_le_mul_left _ h1))
  have h3 : ((D - A) * Y).natAbs ≤ (D * Y - P * (UE : Int)).natAbs + (P * (UE : Int) - A * Y).natAbs := by rw [Int.sub_mul]; omega
  exact bk_3 (cut20 hY (Nat.le_trans (Nat.mul_le_mul_left _ h3) h2))
theorem two_pw {i j : Nat} (h : i + 1 ≤ j) : 2 * 2 ^ i ≤ 2 ^ j := by
  rw [Nat.mul_comm, ← Nat.pow_succ]
  exact Nat.pow_le_pow_right (by decide) h
theorem fit_size {s r K N : Nat} (d : DdF s r) (hK : 775 ≤ K) (hN : N ≤ 1373) (z : ux s + ux r = 0 ∨ 2 ^ K ≤ (ux s + ux r).natAbs) (u : (ux s + ux r).natAbs ≤ 2 ^ N) : FitQ s := by
  obtain ⟨J, hJ⟩ : ∃ J, J = 774 := ⟨_, rfl⟩
  obtain ⟨M, hM⟩ : ∃ M, M = 1374 := ⟨_, rfl⟩
  have a1 := two_pw (i := J) (j := K) (by omega)
  have a2 := two_pw (i := N) (j := M) (by omega)
  have h1 := hi_of d (J := J) (M := M) (by omega) (by omega)
  exact fitq_of hJ hM h1.1 h1.2
theorem mid_sum_le {a b N : Nat} (h : Mid a) (k : Mid b) (hN : N = 1175) : (ux a + ux b).natAbs ≤ 2 ^ N ∧ (ux a - ux b).natAbs ≤ 2 ^ N := by
  obtain ⟨K, hK⟩ : ∃ K, K = 1174 := ⟨_, rfl⟩
  have a1 := h.high hK
  have a2 := k.high hK
  have a3 := two_pw (i := K) (j := N) (by omega)
  omega
theorem fit_sum {a b s r : Nat} (h : Mid a) (k : Mid b) (d : DdF s r) (e : ux s + ux r = ux a + ux b) : FitQ s := by
  obtain ⟨K, hK⟩ : ∃ K, K = 922 := ⟨_, rfl⟩
  obtain ⟨N, hN⟩ : ∃ N, N = 1175 := ⟨_, rfl⟩
  refine fit_size d (K := K) (N := N) (by omega) (by omega) ?_ ?_
  · rw [e]
    by_cases h0 : ux a + ux b = 0
    · exact .inl h0
    · exact .inr (mid_add h k hK h0)
  · rw [e]; exact (mid_sum_le h k hN).1
theorem fit_diff {a b s r : Nat} (h : Mid a) (k : Mid b) (d : DdF s r) (e : 81129638414606681695789005144064 * (ux s + ux r - (ux a - ux b)).natAbs ≤ 8 * (ux a - ux b).natAbs) : FitQ s := by
  obtain ⟨K, hK⟩ : ∃ K, K = 922 := ⟨_, rfl⟩
  obtain ⟨I, hI⟩ : ∃ I, I = 921 := ⟨_, rfl⟩
  obtain ⟨N, hN⟩ : ∃ N, N = 1175 := ⟨_, rfl⟩
  obtain ⟨M, hM⟩ : ∃ M, M = 1176 := ⟨_, rfl⟩
  have a1 := two_pw (i := I) (j := K) (by omega)
  have a2 := two_pw (i := N) (j := M) (by omega)
  have a3 := (mid_sum_le h k hN).2
  refine fit_size d (K := I) (N := M) (by omega) (by omega) ?_ (by omega)
  by_cases h0 : ux a - ux b = 0
  · rw [h0] at e; left; omega
  · have a4 := mid_sub h k hK h0
    right; omega
theorem fit_prd {a b p r : Nat} (h : Mid a) (k : Mid b) (d : DdF p r) (e : 81129638414606681695789005144064 * ((ux p + ux r) * (UE : Int) - (ux a + ux b) * ux b).natAbs ≤ 16 * ((ux a + ux b) * ux b).natAbs) : FitQ p := by
  obtain ⟨K, hK⟩ : ∃ K, K = 922 := ⟨_, rfl⟩
  obtain ⟨L, hL⟩ : ∃ L, L = 974 := ⟨_, rfl⟩
  obtain ⟨N, hN⟩ : ∃ N, N = 1175 := ⟨_, rfl⟩
  obtain ⟨R, hR⟩ : ∃ R, R = 1174 := ⟨_, rfl⟩
  obtain ⟨I, hI⟩ : ∃ I, I = 821 := ⟨_, rfl⟩
  obtain ⟨M, hM⟩ : ∃ M, M = 1276 := ⟨_, rfl⟩
  obtain ⟨c, hc⟩ : ∃ c, c = OneE := ⟨_, rfl⟩
  have hc2 : c = 1074 := hc
  have hU : UE = 2 ^ c := by unfold UE; rw [hc]
  rw [hU] at e
  have p1 : ((ux p + ux r) * ((2 ^ c : Nat) : Int)).natAbs = (ux p + ux r).natAbs * 2 ^ c := by rw [Int.natAbs_mul, Int.natAbs_natCast]
  have p2 := Int.natAbs_mul (ux a + ux b) (ux b)
  have hp : 0 < 2 ^ c := Nat.two_pow_pos c
  refine fit_size d (K := I) (N := M) (by omega) (by omega) ?_ ?_
  · by_cases h0 : (ux a + ux b) * ux b = 0
    · left
      rw [h0] at e
      have e1 : ((ux p + ux r) * ((2 ^ c : Nat) : Int)).natAbs = 0 := by omega
      rw [p1] at e1
      have := (Nat.mul_eq_zero.1 e1).resolve_right (by omega)
      omega
    · right
      have n1 : ux a + ux b ≠ 0 := fun q => h0 (by rw [q, Int.zero_mul])
      have n2 : ux b ≠ 0 := fun q => h0 (by rw [q, Int.mul_zero])
      have b1 := Nat.mul_le_mul (mid_add h k hK n1) (k.low hL n2)
      rw [← p2, ← Nat.pow_add] at b1
      have b2 : 2 ^ (K + L) ≤ 2 * ((ux p + ux r).natAbs * 2 ^ c) := by omega
      have b3 : 2 ^ (K + L) = 2 * (2 ^ I * 2 ^ c) := by
        rw [← Nat.pow_add, Nat.mul_comm, ← Nat.pow_succ, show (I + c).succ = K + L by omega]
      rw [b3] at b2
      exact Nat.le_of_mul_le_mul_right (c := 2 ^ c) (by omega) hp
  · have b1 := Nat.mul_le_mul (mid_sum_le h k hN).1 (k.high hR)
    rw [← p2, ← Nat.pow_add] at b1
    have b2 : (ux p + ux r).natAbs * 2 ^ c ≤ 2 * 2 ^ (N + R) := by omega
    have b3 : 2 * 2 ^ (N + R) = 2 ^ M * 2 ^ c := by
      rw [← Nat.pow_add, Nat.mul_comm, ← Nat.pow_succ, show (N + R).succ = M + c by omega]
    rw [b3] at b2
    exact Nat.le_of_mul_le_mul_right b2 hp
theorem bk_m {A E F : Nat} (hE : 81129638414606681695789005144064 * E ≤ 8 * A) (hF : 81129638414606681695789005144064 * F ≤ 16 * (A + E)) : 81129638414606681695789005144064 * (F + E) ≤ 32 * A := by omega
theorem wn_m {X V D M : Int} (h : 81129638414606681695789005144064 * (V - D).natAbs ≤ 8 * D.natAbs) (k : 81129638414606681695789005144064 * (M * (UE : Int) - X * V).natAbs ≤ 16 * (X * V).natAbs) : (M * ((2 ^ OneE : Nat) : Int) - X * D).natAbs * 2 ^ 101 ≤ (X * D).natAbs := by
  have e : ((2 ^ OneE : Nat) : Int) = (UE : Int) := rfl
  rw [e, show (2 : Nat) ^ 101 = 2535301200456458802993406410752 by decide]
  have h1 : 81129638414606681695789005144064 * (X * V - X * D).natAbs ≤ 8 * (X * D).natAbs := by
    rw [← Int.mul_sub, Int.natAbs_mul, Int.natAbs_mul, Nat.mul_left_comm, Nat.mul_left_comm 8]
    exact Nat.mul_le_mul_left _ h
  have h2 : (X * V).natAbs ≤ (X * D).natAbs + (X * V - X * D).natAbs := by omega
  have h3 := bk_m h1 (Nat.le_trans k (Nat.mul_le_mul_left _ h2))
  omega
theorem tsame_any {p q : Option Addr} {n m c d : Nat} {xs ys : List Nat} {w : World} (h : At w p n c xs) (k : At w q m d ys) :
    Calls Tryz.prog 74 #[.slice p n c, .slice q m d] w fun e w' => e = .returned (.bool (decide (xs = ys))) ∧ ∃ r, w' = w.drewN r := by
  have hl := h.len; have hcap := h.cap; have hbig := h.big
  have kl := k.len; have kcap := k.cap; have kbig := k.big
  unfold maxLen at hbig kbig
  by_cases hne : n = m
  · subst hne
    have hnn : ((n : Int) != (n : Int)) = false := by simp
    obtain ⟨b, hb⟩ : ∃ b, b = decide (xs = ys) := ⟨_, rfl⟩
    rw [← hb]
    by_cases h0 : n = 0
    · subst h0
      have hx : xs = [] := List.eq_nil_of_length_eq_zero hl
      have hy : ys = [] := List.eq_nil_of_length_eq_zero kl
      have hb' : b = true := by rw [hx, hy] at hb; simpa using hb
      have HB : Hid (b = true) := hb'
      clear hb hb' hl kl hx hy
      go_enter Tryz.func74, Tryz.ntmps74
      go_wp2
      go_loop [5] (fun i => i = .int .i64 0) (fun _ => 0)
      case atStart => rfl
      case round =>
        subst hrel
        go_wp2
        go_ret
        exact ⟨ret_bool HB.out.symm, 0, rfl⟩
    · obtain ⟨g, off, rfl, hc⟩ := h.cells.resolve_left h0
      obtain ⟨g2, off2, rfl, hc2⟩ := k.cells.resolve_left h0
      have HB : Hid (b = decide (xs = ys)) := hb
      clear hb
      go_enter Tryz.func74, Tryz.ntmps74
      go_wp2
      go_loopw [5] (fun i wr => ∃ k r : Nat, k ≤ n ∧ i = .int .i64 k ∧ wr = w.drewN r ∧ ∀ j, j < k → xs.getD j 0 = ys.getD j 0) (fun i _ => n - (intOf i).toNat)
      case atStart => exact ⟨0, 0, Nat.zero_le _, rfl, rfl, fun j hj => by omega⟩
      case round =>
        obtain ⟨k, r, hk, rfl, rfl, hz⟩ := hrel
        have HZ : Hid (∀ j, j < k → xs.getD j 0 = ys.getD j 0) := hz
        clear hz
        by_cases hlt : k < n
        · obtain ⟨x, hx⟩ : ∃ x, x = xs.getD k 0 := ⟨_, rfl⟩
          obtain ⟨y, hy⟩ : ∃ y, y = ys.getD k 0 := ⟨_, rfl⟩
          have hcx : w.cell? ⟨g, off + k, none⟩ = some (U x) := by rw [hx]; exact hc _ (by omega)
          have hcy : w.cell? ⟨g2, off2 + k, none⟩ = some (U y) := by rw [hy]; exact hc2 _ (by omega)
          have HX : Hid (x = xs.getD k 0) := hx
          have HY : Hid (y = ys.getD k 0) := hy
          clear hx hy hc hc2
          go_wp2
          go_quiet (fail)
          go_wp2
          · have h0 : ((x : Int) != (y : Int)) = true := by assumption
            go_ret
            exact ⟨ret_bool (by rw [HB.out, same_not xs ys k x y HX.out HY.out h0]), r + nq, by simp⟩
          · have h0 : ((x : Int) != (y : Int)) = false := by assumption
            go_roundw
            case rel => exact ⟨k + 1, r + nq, by omega, by go_num, by simp, fun j hj => if e : j = k then by rw [e, ← HX.out, ← HY.out]; simp at h0; omega else HZ.out j (by omega)⟩
            case measure => simp [intOf]; omega
        · have hkn : k = n := by omega
          subst hkn
          have hy := same_yes xs ys _ hl kl HZ.out
          have HY : Hid (decide (xs = ys) = true) := hy
          clear hy
          go_wp2
          go_ret
          exact ⟨ret_bool (by rw [HB.out, HY.out]), r, rfl⟩
  · have hnn : ((n : Int) != (m : Int)) = true := by simp; omega
    have hf : decide (xs = ys) = false := by rw [decide_eq_false_iff_not]; intro e; subst e; omega
    rw [hf]
    clear hf
    go_enter Tryz.func74, Tryz.ntmps74
    go_wp2
    go_ret
    exact ⟨rfl, 0, rfl⟩
theorem stake {p : Option Addr} {m c : Nat} {w : World} {e : Int} {s : Bool} {a : Option Addr} :
    Calls Tryz.prog 25 #[.pointer a, DV s p m c e, .int .i64 0] w fun en w' => en = .returned (DV s p m c e) ∧ Below w.heap.size w w' := by
  go_enter Tryz.func25, Tryz.ntmps25
  go_wp2_with fail
  refine bodyPost_ret (v := DV s p m c e) (by rw [results_cell1 rfl]; go_simp) rfl ⟨rfl, ?_⟩
  first | exact below2 w _ _ | exact below1 w _
theorem scmp {p q : Option Addr} {m c n d : Nat} {w : World} {e f : Int} {s t : Bool} {a : Option Addr} {x y : Int} (h : DN w s p m c e x) (k : DN w t q n d f y) :
    Calls Tryz.prog 24 #[.pointer a, DV s p m c e, DV t q n d f] w fun en w' => en = .returned (.int .i64 (cmpI (dv x e) (dv y f))) ∧ Below w.heap.size w w' := by
  have A : Hid (DN w s p m c e x) := h
  have B : Hid (DN w t q n d f y) := k
  clear h k
  go_enter Tryz.func24, Tryz.ntmps24
  go_wp2_with fail
  obtain ⟨W0, hW0⟩ : ∃ W0, W0 = ((w.alloc (.cells #[.bool s, .slice p m c, .int .i64 e] 33)).alloc (.cells #[.bool t, .slice q n d, .int .i64 f] 33)) := ⟨_, rfl⟩
  have Xx : Hid (B3q W0 (w.heap.size) (.bool s) (.slice p m c) (.int .i64 e)) := by rw [hW0]; exact ⟨by go_simp, by go_simp, by go_simp, by go_simp, by go_simp, by go_simp⟩
  have Xy : Hid (B3q W0 (w.heap.size + 1) (.bool t) (.slice q n d) (.int .i64 f)) := by rw [hW0]; exact ⟨by go_simp, by go_simp, by go_simp, by go_simp, by go_simp, by go_simp⟩
  have hb0 : Below w.heap.size w W0 := by rw [hW0]; exact below2 w _ _
  rw [← hW0]
  clear hW0
  have hbw : Below w.heap.size w w := Below.refl _ _
  obtain ⟨gy, hgy⟩ : ∃ g, g = w.heap.size + 1 := ⟨_, rfl⟩
  have HGy : Hid (w.heap.size ≤ gy) := by rw [hgy]; show _ ≤ _; omega
  rw [← hgy] at Xy
  try rw [← hgy]
  obtain ⟨gx, hgx⟩ : ∃ g, g = w.heap.size := ⟨_, rfl⟩
  have HGx : Hid (w.heap.size ≤ gx) := by rw [hgx]; show _ ≤ _; omega
  rw [← hgx] at Xx
  try rw [← hgx]
  have HGD : Hid (gx ≠ gy ∧ gy ≠ gx) := by rw [hgx, hgy]; exact ⟨by omega, by omega⟩
  clear hgx hgy
  replace hbw := Below.on hbw hb0
  clear hb0
  refine (dcmp (A.out.below hbw) (B.out.below hbw)).mono ?_
  rintro e v1 ⟨rfl, hb1⟩
  replace Xx : Hid _ := Xx.out.below hb1
  replace Xy : Hid _ := Xy.out.below hb1
  replace hbw := Below.on hbw hb1
  clear hb1
  go_wp2_with fail
  go_ret
  exact ⟨rfl, hbw⟩
theorem sadd {p q : Option Addr} {m c n d : Nat} {w : World} {e f : Int} {s t : Bool} {a : Option Addr} {x y : Int} (h : DN w s p m c e x) (k : DN w t q n d f y) {K E : Nat} (bx : DB x e K E) (by_ : DB y f K E) (hK : K + 2 * E + 1 ≤ 524288) (hT : Tab w) :
    Calls Tryz.prog 7 #[.pointer a, DV s p m c e, DV t q n d f] w fun en w' => ∃ zo eo s1 p1 m1, en = .returned (DV s1 p1 m1 m1 eo) ∧ DO w.heap.size w' s1 p1 m1 eo zo ∧ DB zo eo (K + 2 * E + 1) (K + 3 * E + 1) ∧ dv zo eo = dv x e + dv y f ∧ Below w.heap.size w w' := by
  have A : Hid (DN w s p m c e x) := h
  have B : Hid (DN w t q n d f y) := k
  have BX : Hid (DB x e K E) := bx
  have BY : Hid (DB y f K E) := by_
  have HK : Hid (K + 2 * E + 1 ≤ 524288) := hK
  have TB : Hid (Tab w) := hT
  clear h k bx by_ hK hT
  go_enter Tryz.func7, Tryz.ntmps7
  go_wp2_with fail
  obtain ⟨W0, hW0⟩ : ∃ W0, W0 = (((w.alloc (.cells #[.bool s, .slice p m c, .int .i64 e] 33)).alloc (.cells #[.bool t, .slice q n d, .int .i64 f] 33)).alloc (.cells #[.bool false, .slice none 0 0, .int .i64 0] 33)) := ⟨_, rfl⟩
  have Xx : Hid (B3q W0 (w.heap.size) (.bool s) (.slice p m c) (.int .i64 e)) := by rw [hW0]; exact ⟨by go_simp, by go_simp, by go_simp, by go_simp, by go_simp, by go_simp⟩
  have Xy : Hid (B3q W0 (w.heap.size + 1) (.bool t) (.slice q n d) (.int .i64 f)) := by rw [hW0]; exact ⟨by go_simp, by go_simp, by go_simp, by go_simp, by go_simp, by go_simp⟩
  have Xr : Hid (B3q W0 (w.heap.size + 1 + 1) (.bool false) (.slice none 0 0) (.int .i64 0)) := by rw [hW0]; exact ⟨by go_simp, by go_simp, by go_simp, by go_simp, by go_simp, by go_simp⟩
  have hb0 : Below w.heap.size w W0 := by rw [hW0]; exact below3 w _ _ _
  rw [← hW0]
  clear hW0
  have hbw : Below w.heap.size w w := Below.refl _ _
  obtain ⟨gr, hgr⟩ : ∃ g, g = w.heap.size + 1 + 1 := ⟨_, rfl⟩
  have HGr : Hid (w.heap.size ≤ gr) := by rw [hgr]; show _ ≤ _; omega
  rw [← hgr] at Xr
  try rw [← hgr]
  obtain ⟨gy, hgy⟩ : ∃ g, g = w.heap.size + 1 := ⟨_, rfl⟩
  have HGy : Hid (w.heap.size ≤ gy) := by rw [hgy]; show _ ≤ _; omega
  rw [← hgy] at Xy
  try rw [← hgy]
  obtain ⟨gx, hgx⟩ : ∃ g, g = w.heap.size := ⟨_, rfl⟩
  have HGx : Hid (w.heap.size ≤ gx) := by rw [hgx]; show _ ≤ _; omega
  rw [← hgx] at Xx
  try rw [← hgx]
  have HGD : Hid (gx ≠ gy ∧ gx ≠ gr ∧ gy ≠ gx ∧ gy ≠ gr ∧ gr ≠ gx ∧ gr ≠ gy) := by rw [hgx, hgy, hgr]; exact ⟨by omega, by omega, by omega, by omega, by omega, by omega⟩
  clear hgx hgy hgr
  replace hbw := Below.on hbw hb0
  clear hb0
  have HRL : Hid (gr < W0.heap.size ∧ w.heap.size ≤ W0.heap.size) := ⟨Xr.out.lt, hbw.size⟩
  refine (dadd_b (A.out.below hbw) (B.out.below hbw) BX.out BY.out HK.out (TB.out.below hbw)).mono ?_
  rintro e9 v1 ⟨v, zo, eo, rfl, hv, hdb, hdv, hb1⟩
  obtain ⟨s1, p1, m1, rfl, hd1⟩ := DO.of hv hdb.fm
  have HRES : Hid (DB zo eo (K + 2 * E + 1) (K + 3 * E + 1) ∧ dv zo eo = dv x e + dv y f) := ⟨hdb, hdv⟩
  clear hv hdb hdv
  replace Xx : Hid _ := Xx.out.below hb1
  replace Xy : Hid _ := Xy.out.below hb1
  replace Xr : Hid _ := Xr.out.below hb1
  replace hbw := Below.on hbw hb1
  clear hb1
  have D1 : Hid (DO W0.heap.size v1 s1 p1 m1 eo zo) := hd1
  clear hd1
  go_wp2_with fail
  refine (stake).mono ?_
  rintro e v2 ⟨rfl, hb2⟩
  replace Xx : Hid _ := Xx.out.below hb2
  replace Xy : Hid _ := Xy.out.below hb2
  replace Xr : Hid _ := Xr.out.below hb2
  replace D1 : Hid _ := D1.out.below hb2
  replace hbw := Below.on hbw hb2
  clear hb2
  obtain ⟨cr0, cr1, cr2, fr0, fr1, fr2⟩ := Xr.out
  have hner : gr < v2.heap.size := World.block_lt_of_cell? v2 _ cr0
  go_wp2_with fail
  refine bodyPost_ret (v := DV s1 p1 m1 m1 eo) (by rw [results_cell1 rfl]; go_simp) rfl ⟨zo, eo, s1, p1, m1, rfl, ?_, HRES.out.1, HRES.out.2, ?_⟩
  · exact ((((D1.out.set _ _ _ HRL.out.1).set _ _ _ HRL.out.1).set _ _ _ HRL.out.1).mono HRL.out.2)
  · exact (bSet (bSet (bSet hbw _ _ _ HGr.out) _ _ _ HGr.out) _ _ _ HGr.out)
theorem ssub {p q : Option Addr} {m c n d : Nat} {w : World} {e f : Int} {s t : Bool} {a : Option Addr} {x y : Int} (h : DN w s p m c e x) (k : DN w t q n d f y) {K E : Nat} (bx : DB x e K E) (by_ : DB y f K E) (hK : K + 2 * E + 1 ≤ 524288) (hT : Tab w) :
    Calls Tryz.prog 8 #[.pointer a, DV s p m c e, DV t q n d f] w fun en w' => ∃ zo eo s1 p1 m1, en = .returned (DV s1 p1 m1 m1 eo) ∧ DO w.heap.size w' s1 p1 m1 eo zo ∧ DB zo eo (K + 2 * E + 1) (K + 3 * E + 1) ∧ dv zo eo = dv x e - dv y f ∧ Below w.heap.size w w' := by
  have A : Hid (DN w s p m c e x) := h
  have B : Hid (DN w t q n d f y) := k
  have BX : Hid (DB x e K E) := bx
  have BY : Hid (DB y f K E) := by_
  have HK : Hid (K + 2 * E + 1 ≤ 524288) := hK
  have TB : Hid (Tab w) := hT
  clear h k bx by_ hK hT
  go_enter Tryz.func8, Tryz.ntmps8
  go_wp2_with fail
  obtain ⟨W0, hW0⟩ : ∃ W0, W0 = (((w.alloc (.cells #[.bool s, .slice p m c, .int .i64 e] 33)).alloc (.cells #[.bool t, .slice q n d, .int .i64 f] 33)).alloc (.cells #[.bool false, .slice none 0 0, .int .i64 0] 33)) := ⟨_, rfl⟩
  have Xx : Hid (B3q W0 (w.heap.size) (.bool s) (.slice p m c) (.int .i64 e)) := by rw [hW0]; exact ⟨by go_simp, by go_simp, by go_simp, by go_simp, by go_simp, by go_simp⟩
  have Xy : Hid (B3q W0 (w.heap.size + 1) (.bool t) (.slice q n d) (.int .i64 f)) := by rw [hW0]; exact ⟨by go_simp, by go_simp, by go_simp, by go_simp, by go_simp, by go_simp⟩
  have Xr : Hid (B3q W0 (w.heap.size + 1 + 1) (.bool false) (.slice none 0 0) (.int .i64 0)) := by rw [hW0]; exact ⟨by go_simp, by go_simp, by go_simp, by go_simp, by go_simp, by go_simp⟩
  have hb0 : Below w.heap.size w W0 := by rw [hW0]; exact below3 w _ _ _
  rw [← hW0]
  clear hW0
  have hbw : Below w.heap.size w w := Below.refl _ _
  obtain ⟨gr, hgr⟩ : ∃ g, g = w.heap.size + 1 + 1 := ⟨_, rfl⟩
  have HGr : Hid (w.heap.size ≤ gr) := by rw [hgr]; show _ ≤ _; omega
  rw [← hgr] at Xr
  try rw [← hgr]
  obtain ⟨gy, hgy⟩ : ∃ g, g = w.heap.size + 1 := ⟨_, rfl⟩
  have HGy : Hid (w.heap.size ≤ gy) := by rw [hgy]; show _ ≤ _; omega
  rw [← hgy] at Xy
  try rw [← hgy]
  obtain ⟨gx, hgx⟩ : ∃ g, g = w.heap.size := ⟨_, rfl⟩
  have HGx : Hid (w.heap.size ≤ gx) := by rw [hgx]; show _ ≤ _; omega
  rw [← hgx] at Xx
  try rw [← hgx]
  have HGD : Hid (gx ≠ gy ∧ gx ≠ gr ∧ gy ≠ gx ∧ gy ≠ gr ∧ gr ≠ gx ∧ gr ≠ gy) := by rw [hgx, hgy, hgr]; exact ⟨by omega, by omega, by omega, by omega, by omega, by omega⟩
  clear hgx hgy hgr
  replace hbw := Below.on hbw hb0
  clear hb0
  have HRL : Hid (gr < W0.heap.size ∧ w.heap.size ≤ W0.heap.size) := ⟨Xr.out.lt, hbw.size⟩
  refine (dsub_b (A.out.below hbw) (B.out.below hbw) BX.out BY.out HK.out (TB.out.below hbw)).mono ?_
  rintro e9 v1 ⟨v, zo, eo, rfl, hv, hdb, hdv, hb1⟩
  obtain ⟨s1, p1, m1, rfl, hd1⟩ := DO.of hv hdb.fm
  have HRES : Hid (DB zo eo (K + 2 * E + 1) (K + 3 * E + 1) ∧ dv zo eo = dv x e - dv y f) := ⟨hdb, hdv⟩
  clear hv hdb hdv
  replace Xx : Hid _ := Xx.out.below hb1
  replace Xy : Hid _ := Xy.out.below hb1
  replace Xr : Hid _ := Xr.out.below hb1
  replace hbw := Below.on hbw hb1
  clear hb1
  have D1 : Hid (DO W0.heap.size v1 s1 p1 m1 eo zo) := hd1
  clear hd1
  go_wp2_with fail
  refine (stake).mono ?_
  rintro e v2 ⟨rfl, hb2⟩
  replace Xx : Hid _ := Xx.out.below hb2
  replace Xy : Hid _ := Xy.out.below hb2
  replace Xr : Hid _ := Xr.out.below hb2
  replace D1 : Hid _ := D1.out.below hb2
  replace hbw := Below.on hbw hb2
  clear hb2
  obtain ⟨cr0, cr1, cr2, fr0, fr1, fr2⟩ := Xr.out
  have hner : gr < v2.heap.size := World.block_lt_of_cell? v2 _ cr0
  go_wp2_with fail
  refine bodyPost_ret (v := DV s1 p1 m1 m1 eo) (by rw [results_cell1 rfl]; go_simp) rfl ⟨zo, eo, s1, p1, m1, rfl, ?_, HRES.out.1, HRES.out.2, ?_⟩
  · exact ((((D1.out.set _ _ _ HRL.out.1).set _ _ _ HRL.out.1).set _ _ _ HRL.out.1).mono HRL.out.2)
  · exact (bSet (bSet (bSet hbw _ _ _ HGr.out) _ _ _ HGr.out) _ _ _ HGr.out)
theorem smul {p q : Option Addr} {m c n d : Nat} {w : World} {e f : Int} {s t : Bool} {a : Option Addr} {x y : Int} (h : DN w s p m c e x) (k : DN w t q n d f y) {K E K' E' : Nat} (bx : DB x e K E) (by_ : DB y f K' E') (hK : K + K' ≤ 524288) (hE : E + E' ≤ 524288) (hT : Tab w) :
    Calls Tryz.prog 11 #[.pointer a, DV s p m c e, DV t q n d f] w fun en w' => ∃ zo eo s1 p1 m1, en = .returned (DV s1 p1 m1 m1 eo) ∧ DO w.heap.size w' s1 p1 m1 eo zo ∧ DB zo eo (K + K') (E + E' + K + K') ∧ dv zo eo = dv (x * y) (e + f) ∧ Below w.heap.size w w' := by
  have A : Hid (DN w s p m c e x) := h
  have B : Hid (DN w t q n d f y) := k
  have BX : Hid (DB x e K E) := bx
  have BY : Hid (DB y f K' E') := by_
  have HK : Hid (K + K' ≤ 524288) := hK
  have HE : Hid (E + E' ≤ 524288) := hE
  have TB : Hid (Tab w) := hT
  clear h k bx by_ hK hT hE
  go_enter Tryz.func11, Tryz.ntmps11
  go_wp2_with fail
  obtain ⟨W0, hW0⟩ : ∃ W0, W0 = (((w.alloc (.cells #[.bool s, .slice p m c, .int .i64 e] 33)).alloc (.cells #[.bool t, .slice q n d, .int .i64 f] 33)).alloc (.cells #[.bool false, .slice none 0 0, .int .i64 0] 33)) := ⟨_, rfl⟩
  have Xx : Hid (B3q W0 (w.heap.size) (.bool s) (.slice p m c) (.int .i64 e)) := by rw [hW0]; exact ⟨by go_simp, by go_simp, by go_simp, by go_simp, by go_simp, by go_simp⟩
  have Xy : Hid (B3q W0 (w.heap.size + 1) (.bool t) (.slice q n d) (.int .i64 f)) := by rw [hW0]; exact ⟨by go_simp, by go_simp, by go_simp, by go_simp, by go_simp, by go_simp⟩
  have Xr : Hid (B3q W0 (w.heap.size + 1 + 1) (.bool false) (.slice none 0 0) (.int .i64 0)) := by rw [hW0]; exact ⟨by go_simp, by go_simp, by go_simp, by go_simp, by go_simp, by go_simp⟩
  have hb0 : Below w.heap.size w W0 := by rw [hW0]; exact below3 w _ _ _
  rw [← hW0]
  clear hW0
  have hbw : Below w.heap.size w w := Below.refl _ _
  obtain ⟨gr, hgr⟩ : ∃ g, g = w.heap.size + 1 + 1 := ⟨_, rfl⟩
  have HGr : Hid (w.heap.size ≤ gr) := by rw [hgr]; show _ ≤ _; omega
  rw [← hgr] at Xr
  try rw [← hgr]
  obtain ⟨gy, hgy⟩ : ∃ g, g = w.heap.size + 1 := ⟨_, rfl⟩
  have HGy : Hid (w.heap.size ≤ gy) := by rw [hgy]; show _ ≤ _; omega
  rw [← hgy] at Xy
  try rw [← hgy]
  obtain ⟨gx, hgx⟩ : ∃ g, g = w.heap.size := ⟨_, rfl⟩
  have HGx : Hid (w.heap.size ≤ gx) := by rw [hgx]; show _ ≤ _; omega
  rw [← hgx] at Xx
  try rw [← hgx]
  have HGD : Hid (gx ≠ gy ∧ gx ≠ gr ∧ gy ≠ gx ∧ gy ≠ gr ∧ gr ≠ gx ∧ gr ≠ gy) := by rw [hgx, hgy, hgr]; exact ⟨by omega, by omega, by omega, by omega, by omega, by omega⟩
  clear hgx hgy hgr
  replace hbw := Below.on hbw hb0
  clear hb0
  have HRL : Hid (gr < W0.heap.size ∧ w.heap.size ≤ W0.heap.size) := ⟨Xr.out.lt, hbw.size⟩
  refine (dmul_b (A.out.below hbw) (B.out.below hbw) BX.out BY.out HK.out HE.out (TB.out.below hbw)).mono ?_
  rintro e9 v1 ⟨v, zo, eo, rfl, hv, hdb, hdv, hb1⟩
  obtain ⟨s1, p1, m1, rfl, hd1⟩ := DO.of hv hdb.fm
  have HRES : Hid (DB zo eo (K + K') (E + E' + K + K') ∧ dv zo eo = dv (x * y) (e + f)) := ⟨hdb, hdv⟩
  clear hv hdb hdv
  replace Xx : Hid _ := Xx.out.below hb1
  replace Xy : Hid _ := Xy.out.below hb1
  replace Xr : Hid _ := Xr.out.below hb1
  replace hbw := Below.on hbw hb1
  clear hb1
  have D1 : Hid (DO W0.heap.size v1 s1 p1 m1 eo zo) := hd1
  clear hd1
  go_wp2_with fail
  refine (stake).mono ?_
  rintro e v2 ⟨rfl, hb2⟩
  replace Xx : Hid _ := Xx.out.below hb2
  replace Xy : Hid _ := Xy.out.below hb2
  replace Xr : Hid _ := Xr.out.below hb2
  replace D1 : Hid _ := D1.out.below hb2
  replace hbw := Below.on hbw hb2
  clear hb2
  obtain ⟨cr0, cr1, cr2, fr0, fr1, fr2⟩ := Xr.out
  have hner : gr < v2.heap.size := World.block_lt_of_cell? v2 _ cr0
  go_wp2_with fail
  refine bodyPost_ret (v := DV s1 p1 m1 m1 eo) (by rw [results_cell1 rfl]; go_simp) rfl ⟨zo, eo, s1, p1, m1, rfl, ?_, HRES.out.1, HRES.out.2, ?_⟩
  · exact ((((D1.out.set _ _ _ HRL.out.1).set _ _ _ HRL.out.1).set _ _ _ HRL.out.1).mono HRL.out.2)
  · exact (bSet (bSet (bSet hbw _ _ _ HGr.out) _ _ _ HGr.out) _ _ _ HGr.out)
theorem tint_s {p q : Option Addr} {m c n d : Nat} {w : World} {s t : Bool} (hs : s ≠ t) :
    Calls Tryz.prog 53 #[ZV s p m c, ZV t q n d] w fun en w' => en = .returned (.bool false) ∧ Below w.heap.size w w' := by
  have h1 : (s == t) = false := by simp [hs]
  have h2 : (t == s) = false := by simp; exact fun h => hs h.symm
  clear hs
  go_enter Tryz.func53, Tryz.ntmps53
  go_wp2_with fail
  go_ret
  first | exact ⟨rfl, below2 w _ _⟩ | exact ⟨rfl, bDrewN (below2 w _ _) _⟩
theorem tint_e {p q : Option Addr} {m c n d : Nat} {w : World} {x y : Int} {s t : Bool} (h : ZN w s p m c x) (k : ZN w t q n d y) (hs : s = t) :
    Calls Tryz.prog 53 #[ZV s p m c, ZV t q n d] w fun en w' => en = .returned (.bool (decide (x = y))) ∧ Below w.heap.size w w' := by
  subst hs
  have A : Hid (ZN w s p m c x) := h
  have B : Hid (ZN w s q n d y) := k
  clear h k
  go_enter Tryz.func53, Tryz.ntmps53
  go_wp2_with fail
  obtain ⟨W0, hW0⟩ : ∃ W0, W0 = ((w.alloc (.cells #[.bool s, .slice p m c] 31)).alloc (.cells #[.bool s, .slice q n d] 31)) := ⟨_, rfl⟩
  have Xa : Hid (Box W0 (w.heap.size) (.bool s) (.slice p m c)) := by rw [hW0]; exact ⟨by go_simp, by go_simp, by go_simp, by go_simp⟩
  have Xb : Hid (Box W0 (w.heap.size + 1) (.bool s) (.slice q n d)) := by rw [hW0]; exact ⟨by go_simp, by go_simp, by go_simp, by go_simp⟩
  have hb0 : Below w.heap.size w W0 := by rw [hW0]; exact below2 w _ _
  rw [← hW0]
  clear hW0
  have hbw : Below w.heap.size w w := Below.refl _ _
  obtain ⟨gb, hgb⟩ : ∃ g, g = w.heap.size + 1 := ⟨_, rfl⟩
  have HGb : Hid (w.heap.size ≤ gb) := by rw [hgb]; show _ ≤ _; omega
  rw [← hgb] at Xb
  try rw [← hgb]
  obtain ⟨ga, hga⟩ : ∃ g, g = w.heap.size := ⟨_, rfl⟩
  have HGa : Hid (w.heap.size ≤ ga) := by rw [hga]; show _ ≤ _; omega
  rw [← hga] at Xa
  try rw [← hga]
  have HGD : Hid (ga ≠ gb ∧ gb ≠ ga) := by rw [hga, hgb]; exact ⟨by omega, by omega⟩
  clear hga hgb
  replace hbw := Below.on hbw hb0
  clear hb0
  obtain ⟨xs, hX⟩ := (A.out.below hbw).ex
  obtain ⟨ys, hY⟩ := (B.out.below hbw).ex
  refine (tsame_any hX.at_ hY.at_).mono ?_
  rintro e9 v1 ⟨rfl, r, rfl⟩
  rw [show decide (xs = ys) = decide (x = y) from decide_eq_decide.2 ⟨fun h => by
      have h1 := hX.nf.ext hY.nf h
      have h2 := A.out.iv; have h3 := B.out.iv
      rw [← h2, ← h3, h1], fun h => by
      subst h
      exact hX.nf.inj B64_one hY.nf⟩]
  clear hX hY
  have hbr := bDrewN (Below.refl W0.heap.size W0) r
  generalize W0.drewN r = v1 at *
  replace Xa : Hid _ := Xa.out.below hbr
  replace Xb : Hid _ := Xb.out.below hbr
  replace hbw := Below.on hbw hbr
  clear hbr
  go_wp2_with fail
  go_ret
  exact ⟨rfl, hbw⟩
theorem tint {p q : Option Addr} {m c n d : Nat} {w : World} {x y : Int} {s t : Bool} (h : ZN w s p m c x) (k : ZN w t q n d y) :
    Calls Tryz.prog 53 #[ZV s p m c, ZV t q n d] w fun en w' => en = .returned (.bool (decide (x = y))) ∧ Below w.heap.size w w' := by
  by_cases hs : s = t
  · exact tint_e h k hs
  · have : ¬ x = y := fun hxy => hs (by rw [h.sg, k.sg, hxy])
    rw [decide_eq_false this]
    exact tint_s hs
theorem tdy_n {p q : Option Addr} {m c n d : Nat} {w : World} {e f : Int} {s t : Bool} (he : e ≠ f) :
    Calls Tryz.prog 33 #[DV s p m c e, DV t q n d f] w fun en w' => en = .returned (.bool false) ∧ Below w.heap.size w w' := by
  have h1 : (e == f) = false := by simp [he]
  clear he
  go_enter Tryz.func33, Tryz.ntmps33
  go_wp2_with fail
  go_ret
  first | exact ⟨rfl, below2 w _ _⟩ | exact ⟨rfl, bDrewN (below2 w _ _) _⟩
theorem tdy_e {p q : Option Addr} {m c n d : Nat} {w : World} {e f : Int} {s t : Bool} {x y : Int} (h : DN w s p m c e x) (k : DN w t q n d f y) (he : e = f) :
    Calls Tryz.prog 33 #[DV s p m c e, DV t q n d f] w fun en w' => en = .returned (.bool (decide (x = y))) ∧ Below w.heap.size w w' := by
  subst he
  have A : Hid (DN w s p m c e x) := h
  have B : Hid (DN w t q n d e y) := k
  clear h k
  go_enter Tryz.func33, Tryz.ntmps33
  go_wp2_with fail
  obtain ⟨W0, hW0⟩ : ∃ W0, W0 = ((w.alloc (.cells #[.bool s, .slice p m c, .int .i64 e] 33)).alloc (.cells #[.bool t, .slice q n d, .int .i64 e] 33)) := ⟨_, rfl⟩
  have Xa : Hid (B3q W0 (w.heap.size) (.bool s) (.slice p m c) (.int .i64 e)) := by rw [hW0]; exact ⟨by go_simp, by go_simp, by go_simp, by go_simp, by go_simp, by go_simp⟩
  have Xb : Hid (B3q W0 (w.heap.size + 1) (.bool t) (.slice q n d) (.int .i64 e)) := by rw [hW0]; exact ⟨by go_simp, by go_simp, by go_simp, by go_simp, by go_simp, by go_simp⟩
  have hb0 : Below w.heap.size w W0 := by rw [hW0]; exact below2 w _ _
  rw [← hW0]
  clear hW0
  have hbw : Below w.heap.size w w := Below.refl _ _
  obtain ⟨gb, hgb⟩ : ∃ g, g = w.heap.size + 1 := ⟨_, rfl⟩
  have HGb : Hid (w.heap.size ≤ gb) := by rw [hgb]; show _ ≤ _; omega
  rw [← hgb] at Xb
  try rw [← hgb]
  obtain ⟨ga, hga⟩ : ∃ g, g = w.heap.size := ⟨_, rfl⟩
  have HGa : Hid (w.heap.size ≤ ga) := by rw [hga]; show _ ≤ _; omega
  rw [← hga] at Xa
  try rw [← hga]
  have HGD : Hid (ga ≠ gb ∧ gb ≠ ga) := by rw [hga, hgb]; exact ⟨by omega, by omega⟩
  clear hga hgb
  replace hbw := Below.on hbw hb0
  clear hb0
  refine (tint (A.out.zn.below hbw) (B.out.zn.below hbw)).mono ?_
  rintro e v1 ⟨rfl, hb1⟩
  replace Xa : Hid _ := Xa.out.below hb1
  replace Xb : Hid _ := Xb.out.below hb1
  replace hbw := Below.on hbw hb1
  clear hb1
  go_wp2_with fail
  go_ret
  exact ⟨rfl, hbw⟩
theorem tdy {p q : Option Addr} {m c n d : Nat} {w : World} {x y e f : Int} {s t : Bool} (h : DN w s p m c e x) (k : DN w t q n d f y) :
    Calls Tryz.prog 33 #[DV s p m c e, DV t q n d f] w fun en w' => en = .returned (.bool (decide (dv x e = dv y f))) ∧ Below w.heap.size w w' := by
  by_cases he : e = f
  · have : decide (dv x e = dv y f) = decide (x = y) := decide_eq_decide.2 ⟨fun hd => (dv_inj h.fm k.fm hd).1, fun hd => by rw [hd, he]⟩
    rw [this]
    exact tdy_e h k he
  · have : ¬ dv x e = dv y f := fun hd => he (dv_inj h.fm k.fm hd).2
    rw [decide_eq_false this]
    exact tdy_n he
end Go.Proofs.YtidggnjnlhjhlabGreatDoor
