import Derived.Test.YtidggnjnlhjhlabGreatDoorJ15
import Derived.Test.YtidggnjnlhjhlabGreatDoorJ8
import Derived.Test.YtidggnjnlhjhlabGreatDoorJ9
import Derived.Test.YtidggnjnlhjhlabGreatDoorJ11
namespace Go.Proofs.YtidggnjnlhjhlabGreatDoor
open Go.RowKit Go.Shelf
set_option maxRecDepth 20000
set_option maxHeartbeats 0
theorem dv_pos' (x e : Int) (h : 0 ≤ x) : ((dv x e).natAbs : Int) = dv x e := by
  unfold dv
  exact Int.natAbs_of_nonneg (Int.mul_nonneg h (Int.natCast_nonneg _))
theorem wnum {b : Nat} {a : Option Addr} (hb : Fin64 b) (w : World) (hT : Tab w) :
    Calls Tryz.prog 6 #[.pointer a, Fv b] w fun en w' => ∃ s p m z e, en = .returned (DV s p m m e) ∧ DN w' s p m m e z ∧ dv z e = dv (ux b) (-1074) ∧ DB z e 128 1430 ∧ Below w.heap.size w w' := by
  have hSF : ∀ (w : World) (a : Addr) (b : Nat), (store a (Fv b)).run Tryz.prog w = stored Tryz.prog w a (Fv b) .plain := stF
  have HB := Hid.mk9 hb
  have TB : Hid (Tab w) := hT
  have bo1 : ∀ w, (callFunc 29 #[Fv b]).run Tryz.prog w = .ok (.value (.int .u64 (b : Int))) w := fun w => bitsOf _ w
  obtain ⟨z1, e1, k1, b1⟩ := vf_dd hb
  have VA : Hid (VFQ 9223372036854775808 4503599627370496 (-1074) b z1 e1 ∧ DB z1 e1 128 1430) := ⟨k1, b1⟩
  clear hb hT k1 b1
  go_enter Tryz.func6, Tryz.ntmps6
  go_wp2_with fail
  obtain ⟨W0, hW0⟩ : ∃ W0, W0 = (w.alloc (.cells #[.bool false, .slice none 0 0, .int .i64 0] 33)) := ⟨_, rfl⟩
  have Xr : Hid (B3q W0 (w.heap.size) (.bool false) (.slice none 0 0) (.int .i64 0)) := by rw [hW0]; exact ⟨by go_simp, by go_simp, by go_simp, by go_simp, by go_simp, by go_simp⟩
  have hb0 : Below w.heap.size w W0 := by rw [hW0]; exact below1 w _
  rw [← hW0]
  clear hW0
  have hbw : Below w.heap.size w w := Below.refl _ _
  obtain ⟨gr, hgr⟩ : ∃ g, g = w.heap.size := ⟨_, rfl⟩
  have HGr : Hid (w.heap.size ≤ gr) := by rw [hgr]; show _ ≤ _; omega
  rw [← hgr] at Xr
  try rw [← hgr]
  clear hgr
  replace hbw := Below.on hbw hb0
  clear hb0
  have HR : Hid (gr < W0.heap.size ∧ w.heap.size ≤ W0.heap.size) := ⟨Xr.out.lt, hbw.size⟩
  refine (valueV pmQ (by have := HB.out.lt; omega) HB.out.fin VA.out.1 _ (TB.out.below hbw)).mono ?_
  rintro en v1 ⟨v, rfl, hv, hb1⟩
  obtain ⟨s1, p1, m1, rfl, hd1⟩ := DO.of hv VA.out.1.fm
  clear hv
  replace Xr : Hid _ := Xr.out.below hb1
  replace hbw := Below.on hbw hb1
  clear hb1
  have D1 : Hid (DO W0.heap.size v1 s1 p1 m1 e1 z1) := hd1
  clear hd1
  go_wp2_with fail
  refine (stake).mono ?_
  rintro e v2 ⟨rfl, hb2⟩
  replace Xr : Hid _ := Xr.out.below hb2
  replace D1 : Hid _ := D1.out.below hb2
  replace hbw := Below.on hbw hb2
  clear hb2
  obtain ⟨cr0, cr1, cr2, fr0, fr1, fr2⟩ := Xr.out
  have hner : gr < v2.heap.size := World.block_lt_of_cell? v2 _ cr0
  go_wp2_with fail
  refine bodyPost_ret (v := DV s1 p1 m1 m1 e1) (by rw [results_cell1 rfl]; go_simp) rfl ⟨s1, p1, m1, z1, e1, rfl, ?_, VA.out.1.v, VA.out.2, ?_⟩
  · obtain ⟨zs, h1, h2, h3⟩ := D1.out.own
    exact ((⟨⟨zs, own_set3 h1 HR.out.1 HR.out.2 _ _ _, h2, h3⟩, D1.out.sg, D1.out.fm⟩ : DO w.heap.size _ s1 p1 m1 e1 z1)).dn
  · exact bSet (bSet (bSet hbw _ _ _ HGr.out) _ _ _ HGr.out) _ _ _ HGr.out
theorem wsize_p {p : Option Addr} {m : Nat} {e z : Int} {a : Option Addr} {w : World} (h : DN w false p m m e z) :
    Calls Tryz.prog 38 #[.pointer a, DV false p m m e] w fun en w' => ∃ s' p' m' z', en = .returned (DV s' p' m' m' e) ∧ DN w' s' p' m' m' e z' ∧ dv z' e = ((dv z e).natAbs : Int) ∧ Below w.heap.size w w' := by
  have D1 : Hid (DN w false p m m e z) := h
  have hz : Hid (0 ≤ z) := by
    have := h.zn.sg
    exact Int.le_of_not_gt fun k => by rw [decide_eq_true k] at this; cases this
  clear h
  go_enter Tryz.func38, Tryz.ntmps38
  go_wp2_with fail
  refine bodyPost_ret (v := DV false p m m e) (by rw [results_cell1 rfl]; go_simp) rfl ⟨false, p, m, z, rfl, D1.out.below ?_, (dv_pos' z e hz.out).symm, ?_⟩
  all_goals exact below2 w _ _
theorem wsize_n {p : Option Addr} {m : Nat} {e z : Int} {a : Option Addr} {w : World} (h : DN w true p m m e z) :
    Calls Tryz.prog 38 #[.pointer a, DV true p m m e] w fun en w' => ∃ s' p' m' z', en = .returned (DV s' p' m' m' e) ∧ DN w' s' p' m' m' e z' ∧ dv z' e = ((dv z e).natAbs : Int) ∧ Below w.heap.size w w' := by
  have D1 : Hid (DN w true p m m e z) := h
  have hz : Hid (z < 0) := by
    have := h.zn.sg
    exact Int.lt_of_not_ge fun k => by rw [decide_eq_false (by omega)] at this; cases this
  clear h
  go_enter Tryz.func38, Tryz.ntmps38
  go_wp2_with fail
  obtain ⟨W0, hW0⟩ : ∃ W0, W0 = ((w.alloc (.cells #[.bool true, .slice p m m, .int .i64 e] 33)).alloc (.cells #[.bool false, .slice none 0 0, .int .i64 0] 33)) := ⟨_, rfl⟩
  have Xd : Hid (B3q W0 (w.heap.size) (.bool true) (.slice p m m) (.int .i64 e)) := by rw [hW0]; exact ⟨by go_simp, by go_simp, by go_simp, by go_simp, by go_simp, by go_simp⟩
  have Xr : Hid (B3q W0 (w.heap.size + 1) (.bool false) (.slice none 0 0) (.int .i64 0)) := by rw [hW0]; exact ⟨by go_simp, by go_simp, by go_simp, by go_simp, by go_simp, by go_simp⟩
  have hb0 : Below w.heap.size w W0 := by rw [hW0]; exact below2 w _ _
  rw [← hW0]
  clear hW0
  have hbw : Below w.heap.size w w := Below.refl _ _
  obtain ⟨gr, hgr⟩ : ∃ g, g = w.heap.size + 1 := ⟨_, rfl⟩
  have HGr : Hid (w.heap.size ≤ gr) := by rw [hgr]; show _ ≤ _; omega
  rw [← hgr] at Xr
  try rw [← hgr]
  obtain ⟨gd, hgd⟩ : ∃ g, g = w.heap.size := ⟨_, rfl⟩
  have HGd : Hid (w.heap.size ≤ gd) := by rw [hgd]; show _ ≤ _; omega
  rw [← hgd] at Xd
  try rw [← hgd]
  have HGD : Hid (gd ≠ gr ∧ gr ≠ gd) := by rw [hgd, hgr]; exact ⟨by omega, by omega⟩
  clear hgd hgr
  replace hbw := Below.on hbw hb0
  clear hb0
  obtain ⟨hgd0, hgd1⟩ := HGD.out
  obtain ⟨cd0, cd1, cd2, fd0, fd1, fd2⟩ := Xd.out
  have hned : gd < W0.heap.size := World.block_lt_of_cell? W0 _ cd0
  go_wp2_with fail
  clear cd0 cd1 cd2 fd0 fd1 fd2 hned
  have HR : Hid (gr < W0.heap.size ∧ w.heap.size ≤ W0.heap.size) := ⟨Xr.out.lt, hbw.size⟩
  refine (dneg_a (D1.out.below hbw)).mono ?_
  rintro e2 v2 ⟨v, rfl, hv, hb2⟩
  obtain ⟨s2, p2, m2, rfl, hd2⟩ := DO.of hv (fm_neg D1.out.fm)
  clear hv
  replace Xd : Hid _ := Xd.out.below hb2
  replace Xr : Hid _ := Xr.out.below hb2
  replace hbw := Below.on hbw hb2
  clear hb2
  have D2 : Hid (DO W0.heap.size v2 s2 p2 m2 e (-z)) := hd2
  clear hd2
  go_wp2_with fail
  refine (stake).mono ?_
  rintro e v3 ⟨rfl, hb3⟩
  replace Xd : Hid _ := Xd.out.below hb3
  replace Xr : Hid _ := Xr.out.below hb3
  replace D2 : Hid _ := D2.out.below hb3
  replace hbw := Below.on hbw hb3
  clear hb3
  obtain ⟨cr0, cr1, cr2, fr0, fr1, fr2⟩ := Xr.out
  have hner : gr < v3.heap.size := World.block_lt_of_cell? v3 _ cr0
  go_wp2_with fail
  refine bodyPost_ret (v := DV s2 p2 m2 m2 e) (by rw [results_cell1 rfl]; go_simp) rfl ⟨s2, p2, m2, -z, rfl, ?_, (dv_neg_abs z e hz.out).symm, ?_⟩
  · obtain ⟨zs, h1, h2, h3⟩ := D2.out.own
    exact ((⟨⟨zs, own_set3 h1 HR.out.1 HR.out.2 _ _ _, h2, h3⟩, D2.out.sg, D2.out.fm⟩ : DO w.heap.size _ s2 p2 m2 e (-z))).dn
  · exact bSet (bSet (bSet hbw _ _ _ HGr.out) _ _ _ HGr.out) _ _ _ HGr.out
theorem wsize {s : Bool} {p : Option Addr} {m : Nat} {e z : Int} {a : Option Addr} {w : World} (h : DN w s p m m e z) :
    Calls Tryz.prog 38 #[.pointer a, DV s p m m e] w fun en w' => ∃ s' p' m' z', en = .returned (DV s' p' m' m' e) ∧ DN w' s' p' m' m' e z' ∧ dv z' e = ((dv z e).natAbs : Int) ∧ Below w.heap.size w w' := by
  cases s
  · exact wsize_p h
  · exact wsize_n h
structure SBx (w : World) (g : Nat) : Prop where
  c : w.cell? ⟨g, 0, none⟩ = some (.bool false)
theorem SBx.below {w w' : World} {g : Nat} (h : SBx w g) (hb : Below w.heap.size w w') : SBx w' g := by
  have hl : g < w.heap.size := World.block_lt_of_cell? w _ h.c
  exact ⟨(hb.cell (p := ⟨g, 0, none⟩) hl).trans h.c⟩
theorem near_le {A Z : Int} {c k : Nat} {dvo dvl dvy dva : Int} (ha : dva = dv A (-1074)) (hy : dvy = dv Z (-1074 - (c : Int))) (hc : c ≤ 5000) (ho : dvo = dva - dvy) (hf : dvl * ((2 ^ k : Nat) : Int) = (dvy.natAbs : Int)) (h : (A * ((2 ^ c : Nat) : Int) - Z).natAbs * 2 ^ k ≤ Z.natAbs) : (dvo.natAbs : Int) ≤ dvl := by
  have h1 := within_le (dvf := dvo * ((2 ^ k : Nat) : Int)) ha hy hc ho rfl h
  rw [Int.natAbs_mul, Int.natAbs_natCast] at h1
  have h2 : ((dvo.natAbs : Int)) * ((2 ^ k : Nat) : Int) ≤ dvl * ((2 ^ k : Nat) : Int) := by
    rw [hf, ← Int.natCast_mul]
    exact Int.ofNat_le.2 h1
  exact Int.le_of_mul_le_mul_right h2 (Int.ofNat_lt.2 (Nat.two_pow_pos k))
theorem dv_less {z e zo eo : Int} {k : Nat} (he : -4194304 ≤ e + -(k : Int)) (h : (z = 0 ∧ zo = 0 ∧ eo = 0) ∨ (z ≠ 0 ∧ zo = z ∧ eo = e + -(k : Int))) : dv zo eo * ((2 ^ k : Nat) : Int) = dv z e := by
  rcases h with ⟨h1, h2, h3⟩ | ⟨_, h2, h3⟩
  · rw [h1, h2, dv_zero, dv_zero, Int.zero_mul]
  · rw [h2, h3, ← dv_scale he]
    congr 1
    omega
theorem cmpI_le2 {a b : Int} (h : a ≤ b) : cmpI a b ≤ 0 := by
  unfold cmpI
  split
  · decide
  · split
    · decide
    · omega
theorem wnear {h l gs : Nat} (d : DdF h l) {p : Option Addr} {m : Nat} {s : Bool} {y f Z : Int} {c k : Nat} {w : World} (hy : DN w s p m m f y) (hyb : DB y f 12000 30000) (hvy : dv y f = dv Z (-1074 - (c : Int))) (hc : c ≤ 5000) (hk : k ≤ 5000) (hn : ((ux h + ux l) * ((2 ^ c : Nat) : Int) - Z).natAbs * 2 ^ k ≤ Z.natAbs) (hs : SBx w gs) (hT : Tab w) :
    Calls Tryz.prog 16 #[.pointer (some ⟨gs, 0, none⟩), .agg #[Fv h, Fv l], DV s p m m f, .int .i64 k] w fun en w' => en = .returned (.bool true) ∧ Below w.heap.size w w' := by
  have hSF : ∀ (w : World) (a : Addr) (b : Nat), (store a (Fv b)).run Tryz.prog w = stored Tryz.prog w a (Fv b) .plain := stF
  have HD : Hid (DdF h l) := d
  have DY : Hid (DN w s p m m f y) := hy
  have HY : Hid (DB y f 12000 30000) := hyb
  have HN := Hid.mk9 (And.intro (And.intro hvy hc) (And.intro hk hn))
  have SB : Hid (SBx w gs) := hs
  have TB : Hid (Tab w) := hT
  have wrk : IntKind.i64.wrap (-(k : Int)) = -(k : Int) := by
    rw [IntKind.wrap_i64]
    omega
  have G1 := ddform h l d.hi.lt d.lo.lt
  rw [ddB_iff.2 d] at G1
  clear d hy hyb hvy hc hk hn hT hs
  go_enter Tryz.func16, Tryz.ntmps16
  go_wp2_with fail
  obtain ⟨W0, hW0⟩ : ∃ W0, W0 = ((w.alloc (.cells #[Fv h, Fv l] 39)).alloc (.cells #[.bool s, .slice p m m, .int .i64 f] 33)) := ⟨_, rfl⟩
  have Xv : Hid (Box W0 (w.heap.size) (Fv h) (Fv l)) := by rw [hW0]; exact ⟨by go_simp, by go_simp, by go_simp, by go_simp⟩
  have Xd : Hid (B3q W0 (w.heap.size + 1) (.bool s) (.slice p m m) (.int .i64 f)) := by rw [hW0]; exact ⟨by go_simp, by go_simp, by go_simp, by go_simp, by go_simp, by go_simp⟩
  have hb0 : Below w.heap.size w W0 := by rw [hW0]; exact below2 w _ _
  rw [← hW0]
  clear hW0
  have hbw : Below w.heap.size w w := Below.refl _ _
  obtain ⟨gd, hgd⟩ : ∃ g, g = w.heap.size + 1 := ⟨_, rfl⟩
  have HGd : Hid (w.heap.size ≤ gd) := by rw [hgd]; show _ ≤ _; omega
  rw [← hgd] at Xd
  try rw [← hgd]
  obtain ⟨gv, hgv⟩ : ∃ g, g = w.heap.size := ⟨_, rfl⟩
  have HGv : Hid (w.heap.size ≤ gv) := by rw [hgv]; show _ ≤ _; omega
  rw [← hgv] at Xv
  try rw [← hgv]
  have HGD : Hid (gv ≠ gd ∧ gd ≠ gv) := by rw [hgv, hgd]; exact ⟨by omega, by omega⟩
  clear hgv hgd
  replace hbw := Below.on hbw hb0
  clear hb0
  obtain ⟨cv0, cv1, fv0, fv1⟩ := Xv.out
  have hnev := Xv.out.lt
  go_wp2_with fail
  clear cv0 cv1 fv0 fv1 hnev
  replace SB : Hid (SBx W0 gs) := SB.out.below hbw
  refine (G1 _).mono ?_
  rintro e v1 ⟨rfl, hb1⟩
  replace Xv : Hid _ := Xv.out.below hb1
  replace Xd : Hid _ := Xd.out.below hb1
  replace SB : Hid (SBx v1 gs) := SB.out.below hb1
  replace hbw := Below.on hbw hb1
  clear hb1
  obtain ⟨cv0, cv1, fv0, fv1⟩ := Xv.out
  have hnev := Xv.out.lt
  go_wp2_with fail
  clear cv0 cv1 fv0 fv1 hnev
  refine (ddvalue h l HD.out _ (TB.out.below hbw)).mono ?_
  rintro en v2 ⟨s2, p2, m2, z2, e2, rfl, hd2, hv2, hb2⟩
  have HV2 := Hid.mk9 hv2
  clear hv2
  replace Xv : Hid _ := Xv.out.below hb2
  replace Xd : Hid _ := Xd.out.below hb2
  replace SB : Hid (SBx v2 gs) := SB.out.below hb2
  replace hbw := Below.on hbw hb2
  clear hb2
  have D2 : Hid (DN v2 s2 p2 m2 m2 e2 z2) := hd2.dn
  clear hd2
  have HB2 : Hid (DB z2 e2 12000 30000) := by
    obtain ⟨K, hK⟩ : ∃ K, K = 2100 := ⟨_, rfl⟩
    exact (db_of D2.out.fm HV2.out (fin_sum hK HD.out)).mono (by omega) (by omega)
  go_wp2_with fail
  refine (stake).mono ?_
  rintro e v3 ⟨rfl, hb3⟩
  replace Xv : Hid _ := Xv.out.below hb3
  replace Xd : Hid _ := Xd.out.below hb3
  replace SB : Hid (SBx v3 gs) := SB.out.below hb3
  replace D2 : Hid _ := D2.out.below hb3
  replace hbw := Below.on hbw hb3
  clear hb3
  obtain ⟨cd0, cd1, cd2, fd0, fd1, fd2⟩ := Xd.out
  have hned : gd < v3.heap.size := World.block_lt_of_cell? v3 _ cd0
  go_wp2_with fail
  clear cd0 cd1 cd2 fd0 fd1 fd2 hned
  have Xx0 : Hid (B3q (v3.alloc (.cells #[.bool s2, .slice p2 m2 m2, .int .i64 e2] 33)) v3.heap.size (.bool s2) (.slice p2 m2 m2) (.int .i64 e2)) := B3q.new v3 _ _ _ _
  have hbn : Below v3.heap.size v3 (v3.alloc (.cells #[.bool s2, .slice p2 m2 m2, .int .i64 e2] 33)) := below1 v3 _
  generalize v3.alloc (.cells #[.bool s2, .slice p2 m2 m2, .int .i64 e2] 33) = Wx at *
  have HGx : Hid (w.heap.size ≤ v3.heap.size) := hbw.size
  replace Xv : Hid _ := Xv.out.below hbn
  replace Xd : Hid _ := Xd.out.below hbn
  replace SB : Hid (SBx Wx gs) := SB.out.below hbn
  replace D2 : Hid _ := D2.out.below hbn
  replace hbw := Below.on hbw hbn
  clear hbn
  generalize v3.heap.size = gx at *
  have Xx := Xx0
  clear Xx0
  refine (ssub (K := 12000) (E := 30000) D2.out (DY.out.below hbw) HB2.out HY.out (by decide) (TB.out.below hbw)).mono ?_
  rintro e9 v4 ⟨z4, e4, s4, p4, m4, rfl, hd4, hdb4, hdv4, hb4⟩
  have HB4 := Hid.mk9 (And.intro hdb4 hdv4)
  clear hdb4 hdv4
  replace Xv : Hid _ := Xv.out.below hb4
  replace Xd : Hid _ := Xd.out.below hb4
  replace Xx : Hid _ := Xx.out.below hb4
  replace SB : Hid (SBx v4 gs) := SB.out.below hb4
  replace D2 : Hid _ := D2.out.below hb4
  replace hbw := Below.on hbw hb4
  clear hb4
  have D4 : Hid (DN v4 s4 p4 m4 m4 e4 z4) := hd4.dn
  clear hd4
  go_wp2_with fail
  refine (wsize D4.out).mono ?_
  rintro e9 v5 ⟨s5, p5, m5, z5, rfl, hd5, hv5, hb5⟩
  have HV5 := Hid.mk9 hv5
  clear hv5
  replace Xv : Hid _ := Xv.out.below hb5
  replace Xd : Hid _ := Xd.out.below hb5
  replace Xx : Hid _ := Xx.out.below hb5
  replace SB : Hid (SBx v5 gs) := SB.out.below hb5
  replace D2 : Hid _ := D2.out.below hb5
  replace D4 : Hid _ := D4.out.below hb5
  replace hbw := Below.on hbw hb5
  clear hb5
  have D5 : Hid (DN v5 s5 p5 m5 m5 e4 z5) := hd5
  clear hd5
  obtain ⟨cd0, cd1, cd2, fd0, fd1, fd2⟩ := Xd.out
  have hned : gd < v5.heap.size := World.block_lt_of_cell? v5 _ cd0
  go_wp2_with fail
  clear cd0 cd1 cd2 fd0 fd1 fd2 hned
  have Xy0 : Hid (B3q (v5.alloc (.cells #[.bool s5, .slice p5 m5 m5, .int .i64 e4] 33)) v5.heap.size (.bool s5) (.slice p5 m5 m5) (.int .i64 e4)) := B3q.new v5 _ _ _ _
  have hbn : Below v5.heap.size v5 (v5.alloc (.cells #[.bool s5, .slice p5 m5 m5, .int .i64 e4] 33)) := below1 v5 _
  generalize v5.alloc (.cells #[.bool s5, .slice p5 m5 m5, .int .i64 e4] 33) = Wy at *
  have HGy : Hid (w.heap.size ≤ v5.heap.size) := hbw.size
  replace Xv : Hid _ := Xv.out.below hbn
  replace Xd : Hid _ := Xd.out.below hbn
  replace Xx : Hid _ := Xx.out.below hbn
  replace SB : Hid (SBx Wy gs) := SB.out.below hbn
  replace D2 : Hid _ := D2.out.below hbn
  replace D4 : Hid _ := D4.out.below hbn
  replace D5 : Hid _ := D5.out.below hbn
  replace hbw := Below.on hbw hbn
  clear hbn
  generalize v5.heap.size = gy at *
  have Xy := Xy0
  clear Xy0
  obtain ⟨cd0, cd1, cd2, fd0, fd1, fd2⟩ := Xd.out
  have hned : gd < Wy.heap.size := World.block_lt_of_cell? Wy _ cd0
  go_wp2_with fail
  clear cd0 cd1 cd2 fd0 fd1 fd2 hned
  refine (wsize (DY.out.below hbw)).mono ?_
  rintro e9 v6 ⟨s6, p6, m6, z6, rfl, hd6, hv6, hb6⟩
  have HV6 := Hid.mk9 hv6
  clear hv6
  replace Xv : Hid _ := Xv.out.below hb6
  replace Xd : Hid _ := Xd.out.below hb6
  replace Xx : Hid _ := Xx.out.below hb6
  replace Xy : Hid _ := Xy.out.below hb6
  replace SB : Hid (SBx v6 gs) := SB.out.below hb6
  replace D2 : Hid _ := D2.out.below hb6
  replace D4 : Hid _ := D4.out.below hb6
  replace D5 : Hid _ := D5.out.below hb6
  replace hbw := Below.on hbw hb6
  clear hb6
  have D6 : Hid (DN v6 s6 p6 m6 m6 f z6) := hd6
  clear hd6
  go_wp2_with fail
  refine (dscale_v (N := -(k : Int)) D6.out (fun _ => by have h1 := HY.out.lo; have h2 := HY.out.hi; have h3 := HN.out.2.1; omega)).mono ?_
  rintro e9 v7 ⟨s7, p7, m7, z7, e7, rfl, hd7, hor, hb7⟩
  have HV7 := Hid.mk9 (dv_less (by have h1 := HY.out.lo; have h3 := HN.out.2.1; omega) hor)
  clear hor
  replace Xv : Hid _ := Xv.out.below hb7
  replace Xd : Hid _ := Xd.out.below hb7
  replace Xx : Hid _ := Xx.out.below hb7
  replace Xy : Hid _ := Xy.out.below hb7
  replace SB : Hid (SBx v7 gs) := SB.out.below hb7
  replace D2 : Hid _ := D2.out.below hb7
  replace D4 : Hid _ := D4.out.below hb7
  replace D5 : Hid _ := D5.out.below hb7
  replace D6 : Hid _ := D6.out.below hb7
  replace hbw := Below.on hbw hb7
  clear hb7
  have D7 : Hid (DN v7 s7 p7 m7 m7 e7 z7) := hd7.dn
  clear hd7
  go_wp2_with fail
  refine (stake).mono ?_
  rintro e v8 ⟨rfl, hb8⟩
  replace Xv : Hid _ := Xv.out.below hb8
  replace Xd : Hid _ := Xd.out.below hb8
  replace Xx : Hid _ := Xx.out.below hb8
  replace Xy : Hid _ := Xy.out.below hb8
  replace SB : Hid (SBx v8 gs) := SB.out.below hb8
  replace D2 : Hid _ := D2.out.below hb8
  replace D4 : Hid _ := D4.out.below hb8
  replace D5 : Hid _ := D5.out.below hb8
  replace D6 : Hid _ := D6.out.below hb8
  replace D7 : Hid _ := D7.out.below hb8
  replace hbw := Below.on hbw hb8
  clear hb8
  obtain ⟨cy0, cy1, cy2, fy0, fy1, fy2⟩ := Xy.out
  have hney : gy < v8.heap.size := World.block_lt_of_cell? v8 _ cy0
  go_wp2_with fail
  clear cy0 cy1 cy2 fy0 fy1 fy2 hney
  have Xl0 : Hid (B3q (v8.alloc (.cells #[.bool s7, .slice p7 m7 m7, .int .i64 e7] 33)) v8.heap.size (.bool s7) (.slice p7 m7 m7) (.int .i64 e7)) := B3q.new v8 _ _ _ _
  have hbn : Below v8.heap.size v8 (v8.alloc (.cells #[.bool s7, .slice p7 m7 m7, .int .i64 e7] 33)) := below1 v8 _
  generalize v8.alloc (.cells #[.bool s7, .slice p7 m7 m7, .int .i64 e7] 33) = Wl at *
  have HGl : Hid (w.heap.size ≤ v8.heap.size) := hbw.size
  replace Xv : Hid _ := Xv.out.below hbn
  replace Xd : Hid _ := Xd.out.below hbn
  replace Xx : Hid _ := Xx.out.below hbn
  replace Xy : Hid _ := Xy.out.below hbn
  replace SB : Hid (SBx Wl gs) := SB.out.below hbn
  replace D2 : Hid _ := D2.out.below hbn
  replace D4 : Hid _ := D4.out.below hbn
  replace D5 : Hid _ := D5.out.below hbn
  replace D6 : Hid _ := D6.out.below hbn
  replace D7 : Hid _ := D7.out.below hbn
  replace hbw := Below.on hbw hbn
  clear hbn
  generalize v8.heap.size = gl at *
  have Xl := Xl0
  clear Xl0
  obtain ⟨cy0, cy1, cy2, fy0, fy1, fy2⟩ := Xy.out
  have hney : gy < Wl.heap.size := World.block_lt_of_cell? Wl _ cy0
  obtain ⟨cl0, cl1, cl2, fl0, fl1, fl2⟩ := Xl.out
  have hnel : gl < Wl.heap.size := World.block_lt_of_cell? Wl _ cl0
  go_wp2_with fail
  clear cy0 cy1 cy2 fy0 fy1 fy2 hney
  clear cl0 cl1 cl2 fl0 fl1 fl2 hnel
  refine (scmp D5.out D7.out).mono ?_
  rintro e v9 ⟨rfl, hb9⟩
  replace Xv : Hid _ := Xv.out.below hb9
  replace Xd : Hid _ := Xd.out.below hb9
  replace Xx : Hid _ := Xx.out.below hb9
  replace Xy : Hid _ := Xy.out.below hb9
  replace Xl : Hid _ := Xl.out.below hb9
  replace SB : Hid (SBx v9 gs) := SB.out.below hb9
  replace D2 : Hid _ := D2.out.below hb9
  replace D4 : Hid _ := D4.out.below hb9
  replace D5 : Hid _ := D5.out.below hb9
  replace D6 : Hid _ := D6.out.below hb9
  replace D7 : Hid _ := D7.out.below hb9
  replace hbw := Below.on hbw hb9
  clear hb9
  have hle := cmpI_le2 (near_le HV2.out HN.out.1.1 HN.out.1.2 HB4.out.2 (HV7.out.trans HV6.out) HN.out.2.2)
  rw [← HV5.out] at hle
  have hd9 : decide (cmpI (dv z5 e4) (dv z7 e7) ≤ 0) = true := decide_eq_true hle
  generalize cmpI (dv z5 e4) (dv z7 e7) = cc at *
  clear hle
  have hcs := SB.out.c
  go_wp2_with fail
  go_ret
  exact ⟨by first | rfl | simp, hbw⟩
theorem wexact {a b gs : Nat} (ha : Fin64 a) (hb : Fin64 b) {p : Option Addr} {m : Nat} {s : Bool} {y f : Int} {w : World} (hy : DN w s p m m f y) (he : dv (ux a + ux b) (-1074) = dv y f) (hs : SBx w gs) (hT : Tab w) :
    Calls Tryz.prog 12 #[.pointer (some ⟨gs, 0, none⟩), Fv a, Fv b, DV s p m m f] w fun en w' => en = .returned (.bool true) ∧ Below w.heap.size w w' := by
  have hSF : ∀ (w : World) (a : Addr) (b : Nat), (store a (Fv b)).run Tryz.prog w = stored Tryz.prog w a (Fv b) .plain := stF
  have HF : Hid (Fin64 a ∧ Fin64 b) := ⟨ha, hb⟩
  have DY : Hid (DN w s p m m f y) := hy
  have HE := Hid.mk9 he
  have SB : Hid (SBx w gs) := hs
  have TB : Hid (Tab w) := hT
  clear ha hb hy he hs hT
  go_enter Tryz.func12, Tryz.ntmps12
  go_wp2_with fail
  obtain ⟨W0, hW0⟩ : ∃ W0, W0 = (w.alloc (.cells #[.bool s, .slice p m m, .int .i64 f] 33)) := ⟨_, rfl⟩
  have Xd : Hid (B3q W0 (w.heap.size) (.bool s) (.slice p m m) (.int .i64 f)) := by rw [hW0]; exact ⟨by go_simp, by go_simp, by go_simp, by go_simp, by go_simp, by go_simp⟩
  have hb0 : Below w.heap.size w W0 := by rw [hW0]; exact below1 w _
  rw [← hW0]
  clear hW0
  have hbw : Below w.heap.size w w := Below.refl _ _
  obtain ⟨gd, hgd⟩ : ∃ g, g = w.heap.size := ⟨_, rfl⟩
  have HGd : Hid (w.heap.size ≤ gd) := by rw [hgd]; show _ ≤ _; omega
  rw [← hgd] at Xd
  try rw [← hgd]
  clear hgd
  replace hbw := Below.on hbw hb0
  clear hb0
  replace SB : Hid (SBx W0 gs) := SB.out.below hbw
  refine (wnum (b := a) HF.out.1 _ (TB.out.below hbw)).mono ?_
  rintro e9 v1 ⟨s1, p1, m1, z1, e1, rfl, hd1, hv1, hdb1, hb1⟩
  have HV1 := Hid.mk9 (And.intro hv1 hdb1)
  clear hv1 hdb1
  replace Xd : Hid _ := Xd.out.below hb1
  replace SB : Hid (SBx v1 gs) := SB.out.below hb1
  replace hbw := Below.on hbw hb1
  clear hb1
  have D1 : Hid (DN v1 s1 p1 m1 m1 e1 z1) := hd1
  clear hd1
  go_wp2_with fail
  refine (wnum (b := b) HF.out.2 _ (TB.out.below hbw)).mono ?_
  rintro e9 v2 ⟨s2, p2, m2, z2, e2, rfl, hd2, hv2, hdb2, hb2⟩
  have HV2 := Hid.mk9 (And.intro hv2 hdb2)
  clear hv2 hdb2
  replace Xd : Hid _ := Xd.out.below hb2
  replace SB : Hid (SBx v2 gs) := SB.out.below hb2
  replace D1 : Hid _ := D1.out.below hb2
  replace hbw := Below.on hbw hb2
  clear hb2
  have D2 : Hid (DN v2 s2 p2 m2 m2 e2 z2) := hd2
  clear hd2
  go_wp2_with fail
  refine (sadd (K := 128) (E := 1430) D1.out D2.out HV1.out.2 HV2.out.2 (by decide) (TB.out.below hbw)).mono ?_
  rintro e9 v4 ⟨z4, e4, s4, p4, m4, rfl, hd4, hdb4, hdv4, hb4⟩
  obtain ⟨rfl, rfl⟩ := dv_inj DY.out.fm hdb4.fm (by rw [hdv4, HV1.out.1, HV2.out.1, ← dv_add]; exact HE.out.symm)
  clear hdb4 hdv4
  replace Xd : Hid _ := Xd.out.below hb4
  replace SB : Hid (SBx v4 gs) := SB.out.below hb4
  replace D1 : Hid _ := D1.out.below hb4
  replace D2 : Hid _ := D2.out.below hb4
  replace hbw := Below.on hbw hb4
  clear hb4
  have D4 : Hid (DN v4 s4 p4 m4 m4 f y) := hd4.dn
  clear hd4
  have hcs := SB.out.c
  have hgs9 := World.block_lt_of_cell? v4 _ hcs
  obtain ⟨cd0, cd1, cd2, fd0, fd1, fd2⟩ := Xd.out
  have hned : gd < v4.heap.size := World.block_lt_of_cell? v4 _ cd0
  go_wp2_with fail
  clear cd0 cd1 cd2 fd0 fd1 fd2 hned
  have hd9 : decide (dv y f = dv y f) = true := decide_eq_true rfl
  refine (tdy (D4.out.below (below1 _ _)) (DY.out.below (Below.on hbw (below1 _ _)))).mono ?_
  rintro e9 v5 ⟨rfl, hb5⟩
  have hbw5 := Below.on (Below.on hbw (below1 _ _)) hb5
  clear hbw hb5 hgs9
  rw [hd9]
  go_wp2_with fail
  go_ret
  exact ⟨by first | rfl | simp, hbw5⟩
theorem mask_and2 {b : Nat} (hb : b < 18446744073709551616) : bits BinOp.and IntKind.u64 (b : Int) 9227875636482146303 = ((b / 9223372036854775808 * 9223372036854775808 + b % 4503599627370496 : Nat) : Int) := by
  have h1 := bits_and_u64_nat b 9227875636482146303 (by omega) (by decide)
  rw [show ((9227875636482146303 : Nat) : Int) = 9227875636482146303 from rfl] at h1
  rw [h1]
  congr 1
  have e1 : 9227875636482146303 = 2 ^ 63 ||| (2 ^ 52 - 1) := by decide
  rw [e1, Nat.and_or_distrib_left, Nat.and_two_pow_sub_one_eq_mod]
  have e2 : b &&& 2 ^ 63 = 2 ^ 63 * (b / 9223372036854775808) := by
    have h2 := sign_and b 9223372036854775808 63 (by decide) (by decide) (by omega)
    rw [bits_and_u64_nat b 9223372036854775808 (by omega) (by decide)] at h2
    have h3 := Int.ofNat.inj h2
    rw [show (2 : Nat) ^ 63 = 9223372036854775808 by decide, h3]
    split <;> omega
  rw [e2, ← Nat.two_pow_add_eq_or_of_lt (Nat.lt_of_lt_of_le (Nat.mod_lt b (Nat.two_pow_pos 52)) (by decide)), show (2 : Nat) ^ 63 = 9223372036854775808 by decide, show (2 : Nat) ^ 52 = 4503599627370496 by decide]
  omega
theorem or_63 {g y : Nat} (hy : y < 9223372036854775808) : g * 9223372036854775808 + y = 9223372036854775808 * g ||| y := by
  have h := Nat.two_pow_add_eq_or_of_lt (i := 63) (b := y) (by rw [show (2 : Nat) ^ 63 = 9223372036854775808 by decide]; exact hy) g
  rw [show (2 : Nat) ^ 63 = 9223372036854775808 by decide] at h
  rw [← h, Nat.mul_comm]
theorem or_52 {g y : Nat} (hy : y < 4503599627370496) : g * 4503599627370496 + y = 4503599627370496 * g ||| y := by
  have h := Nat.two_pow_add_eq_or_of_lt (i := 52) (b := y) (by rw [show (2 : Nat) ^ 52 = 4503599627370496 by decide]; exact hy) g
  rw [show (2 : Nat) ^ 52 = 4503599627370496 by decide] at h
  rw [← h, Nat.mul_comm]
theorem mask_or {g f x : Nat} (hg : g < 2) (hf : f < 4503599627370496) (hx : x < 2048) : bits BinOp.or IntKind.u64 ((g * 9223372036854775808 + f : Nat) : Int) ((x * 4503599627370496 : Nat) : Int) = ((g * 9223372036854775808 + x * 4503599627370496 + f : Nat) : Int) := by
  have h1 : g * 9223372036854775808 + f < 18446744073709551616 := by
    obtain rfl | rfl : g = 0 ∨ g = 1 := by omega
    · omega
    · omega
  have h2 : x * 4503599627370496 < 18446744073709551616 := Nat.lt_of_le_of_lt (Nat.mul_le_mul_right 4503599627370496 (show x ≤ 2047 by omega)) (by decide)
  have h3 : x * 4503599627370496 + f < 9223372036854775808 := Nat.lt_of_lt_of_le (Nat.add_lt_add_of_le_of_lt (Nat.mul_le_mul_right 4503599627370496 (show x ≤ 2047 by omega)) hf) (by decide)
  have h4 : f < 9223372036854775808 := by omega
  rw [bits_or_u64_nat _ _ h1 h2, Nat.add_assoc, or_63 h3, or_52 hf, or_63 h4, Nat.mul_comm x, Nat.or_assoc, Nat.or_comm f]
theorem mid_pat {b : Nat} (hb : b < 18446744073709551616) : ∃ M : Nat, bits BinOp.or IntKind.u64 (bits BinOp.and IntKind.u64 (b : Int) 9227875636482146303) (IntKind.u64.wrap (IntKind.u64.wrap (923 + (bits BinOp.and IntKind.u64 ((b : Int) / 4503599627370496) 2047).tmod 200) * 4503599627370496)) = (M : Int) ∧ Mid M := by
  have e1 : bits BinOp.and IntKind.u64 ((b : Int) / 4503599627370496) 2047 = ((b / 4503599627370496 % 2048 : Nat) : Int) := by
    have h1 := bits_and_u64_nat (b / 4503599627370496) 2047 (by omega) (by decide)
    rw [show ((2047 : Nat) : Int) = 2047 from rfl, show (2047 : Nat) = 2 ^ 11 - 1 by decide, Nat.and_two_pow_sub_one_eq_mod, show (2 : Nat) ^ 11 = 2048 by decide] at h1
    rw [show (b : Int) / 4503599627370496 = ((b / 4503599627370496 : Nat) : Int) by omega]
    exact h1
  obtain ⟨E, hE⟩ : ∃ E, E = b / 4503599627370496 % 2048 := ⟨_, rfl⟩
  obtain ⟨e, he⟩ : ∃ e, e = E % 200 := ⟨_, rfl⟩
  have e2 : ((E : Nat) : Int).tmod 200 = (e : Int) := by
    rw [Int.tmod_eq_emod_of_nonneg (by omega)]; omega
  have e3 : IntKind.u64.wrap (923 + (e : Int)) = ((923 + e : Nat) : Int) := by
    rw [IntKind.wrap_u64]; omega
  have e4 : IntKind.u64.wrap (((923 + e : Nat) : Int) * 4503599627370496) = (((923 + e) * 4503599627370496 : Nat) : Int) := by
    rw [IntKind.wrap_u64]; omega
  rw [e1, ← hE, e2, e3, e4, mask_and2 hb]
  obtain ⟨g, hg⟩ : ∃ g, g = b / 9223372036854775808 := ⟨_, rfl⟩
  obtain ⟨f, hf⟩ : ∃ f, f = b % 4503599627370496 := ⟨_, rfl⟩
  rw [← hg, ← hf, mask_or (by omega) (by omega) (by omega)]
  refine ⟨_, rfl, by omega, .inr ?_⟩
  omega
theorem low_and {b : Nat} (hb : b < 18446744073709551616) : bits BinOp.and IntKind.u64 (b : Int) 9223372036854775807 = ((b % 9223372036854775808 : Nat) : Int) := by
  have h1 := bits_and_u64_nat b 9223372036854775807 (by omega) (by decide)
  rw [show ((9223372036854775807 : Nat) : Int) = 9223372036854775807 from rfl, show (9223372036854775807 : Nat) = 2 ^ 63 - 1 by decide, Nat.and_two_pow_sub_one_eq_mod, show (2 : Nat) ^ 63 = 9223372036854775808 by decide] at h1
  exact h1
theorem wmid_z (b : Nat) (hb : b < 18446744073709551616) (h0 : b % 9223372036854775808 = 0) (w : World) :
    Calls Tryz.prog 5 #[.int .u64 (b : Int)] w fun en w' => ∃ m, en = .returned (Fv m) ∧ Mid m ∧ Below w.heap.size w w' := by
  have hbw : Below w.heap.size w w := Below.refl _ _
  have HM := Hid.mk9 (show Mid b from ⟨hb, .inl h0⟩)
  have l1 := low_and hb
  rw [h0] at l1
  have fb1 : ∀ w, (callFunc 27 #[.int .u64 (b : Int)]).run Tryz.prog w = .ok (.value (Fv b)) w := fun w => frombits _ w
  clear hb h0
  go_enter Tryz.func5, Tryz.ntmps5
  go_wp2_with fail
  go_ret
  exact ⟨b, rfl, HM.out, hbw⟩
theorem wmid_n (b : Nat) (hb : b < 18446744073709551616) (h0 : ¬ b % 9223372036854775808 = 0) (w : World) :
    Calls Tryz.prog 5 #[.int .u64 (b : Int)] w fun en w' => ∃ m, en = .returned (Fv m) ∧ Mid m ∧ Below w.heap.size w w' := by
  have hbw : Below w.heap.size w w := Below.refl _ _
  have l1 := low_and hb
  have l2 : (((b % 9223372036854775808 : Nat) : Int) == 0) = false := by
    refine beq_eq_false_iff_ne.2 ?_
    omega
  obtain ⟨M, hM, hMd⟩ := mid_pat hb
  have HM := Hid.mk9 hMd
  have fb1 : ∀ w, (callFunc 27 #[.int .u64 (M : Int)]).run Tryz.prog w = .ok (.value (Fv M)) w := fun w => frombits _ w
  generalize b % 9223372036854775808 = y at l1 l2
  clear hb h0 hMd
  go_enter Tryz.func5, Tryz.ntmps5
  go_wp2_with fail
  go_ret
  exact ⟨M, rfl, HM.out, hbw⟩
theorem wmid (b : Nat) (hb : b < 18446744073709551616) (w : World) : Calls Tryz.prog 5 #[.int .u64 (b : Int)] w fun en w' => ∃ m, en = .returned (Fv m) ∧ Mid m ∧ Below w.heap.size w w' := by
  by_cases h0 : b % 9223372036854775808 = 0
  · exact wmid_z b hb h0 w
  · exact wmid_n b hb h0 w
theorem wpJ_nodes5 {P : Program} {md : Region.Mode} {ops : Array Oper} {Q : Exit → Act → World → Prop} {J : World → Prop} {fuel : Nat} {listed : Array Bool} {a : Act} {w : World} (h : ∀ WP : Nat → Array Bool → Act → World → Prop, WP = wpJ P md ops Q J → ∀ L a0, L = listed → a0 = a → WP fuel L a0 w) : wpJ P md ops Q J fuel listed a w := h _ rfl _ _ rfl rfl
theorem wpJ_same5 {P : Program} {md : Region.Mode} {ops : Array Oper} {Q : Exit → Act → World → Prop} {J : World → Prop} {fuel : Nat} {L L' : Array Bool} {a a' : Act} {w : World} (h1 : L = L') (h2 : a = a') (h : wpJ P md ops Q J fuel L a w) : wpJ P md ops Q J fuel L' a' w := by
  subst h1 h2; exact h
theorem Hid.mk5 {p : Prop} (h : p) : Hid p := h
end Go.Proofs.YtidggnjnlhjhlabGreatDoor
