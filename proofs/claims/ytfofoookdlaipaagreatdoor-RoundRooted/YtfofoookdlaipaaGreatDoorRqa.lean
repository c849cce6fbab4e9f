import Derived.Test.YtfofoookdlaipaaGreatDoorJ32
import Derived.Test.YtfofoookdlaipaaGreatDoorJ23
import Derived.Test.YtfofoookdlaipaaGreatDoorJ21
import Derived.Test.YtfofoookdlaipaaGreatDoorRq5
namespace Go.Proofs.YtfofoookdlaipaaGreatDoor
open Go.RowKit Go.Shelf

set_option maxRecDepth 20000 in
set_option maxHeartbeats 8000000 in
theorem roundRooted_x {single : Bool} {f p m l : Int} {S I H sd : Nat} {Be : Int} (J : Jn f p m l S I H sd Be) (hmd : m = (sd : Int) + 1) (L : Lq single f S I) {pa : Option Addr} {na ca : Nat} {xs : List Nat} {w : World} {e : Int} {s : Bool} (h : At w pa na ca xs) (hT : Tab w) :
    Calls Tryz.prog 5 #[.bool single, DV s pa na ca e] w fun en w' => en = .returned (.bool true) ∧ Below w.heap.size w w' := by
  have HJN : Hid (Jn f p m l S I H sd Be) := J
  have HMD : Hid (m = (sd : Int) + 1) := hmd
  have HLW : Hid (Lq single f S I) := L
  have A : Hid (At w pa na ca xs) := h
  have TB : Hid (Tab w) := hT
  clear J hmd L h hT
  go_enter Tryz.func5, Tryz.ntmps5
  go_wp2_with fail
  obtain ⟨W0, hW0⟩ : ∃ W0, W0 = (w.alloc (.cells #[.bool s, .slice pa na ca, .int .i64 e] 34)) := ⟨_, rfl⟩
  have Xa : Hid (B3q W0 (w.heap.size) (.bool s) (.slice pa na ca) (.int .i64 e)) := by rw [hW0]; exact ⟨by go_simp, by go_simp, by go_simp, by go_simp, by go_simp, by go_simp⟩
  have hb0 : Below w.heap.size w W0 := by rw [hW0]; exact below1 w _
  rw [← hW0]
  clear hW0
  have hbw : Below w.heap.size w w := Below.refl _ _
  obtain ⟨ga, hga⟩ : ∃ g, g = w.heap.size := ⟨_, rfl⟩
  have HGa : Hid (w.heap.size ≤ ga) := by rw [hga]; show _ ≤ _; omega
  rw [← hga] at Xa
  try rw [← hga]
  clear hga
  replace hbw := Below.on hbw hb0
  clear hb0
  refine (HLW.out.fmt _).mono ?_
  rintro e v1 ⟨rfl, hb1⟩
  replace Xa : Hid _ := Xa.out.below hb1
  replace hbw := Below.on hbw hb1
  clear hb1
  obtain ⟨ca0, ca1, ca2, fa0, fa1, fa2⟩ := Xa.out
  have hnea : ga < v1.heap.size := World.block_lt_of_cell? v1 _ ca0
  go_wp2_with fail
  clear ca0 ca1 ca2 fa0 fa1 fa2 hnea
  refine (num8 (9) (-2) (by decide) (by decide) (by decide)).mono ?_
  rintro e2 v2 ⟨s2, g2, m2, c2, rfl, _, hd2, hb2⟩
  replace Xa : Hid _ := Xa.out.below hb2
  replace hbw := Below.on hbw hb2
  clear hb2
  have D2 : Hid (DN v2 s2 (some ⟨g2, 0, none⟩) m2 c2 (-2) (9)) := hd2
  clear hd2
  obtain ⟨ca0, ca1, ca2, fa0, fa1, fa2⟩ := Xa.out
  have hnea : ga < v2.heap.size := World.block_lt_of_cell? v2 _ ca0
  go_wp2_with fail
  clear ca0 ca1 ca2 fa0 fa1 fa2 hnea
  refine (root_n jn_64 (by decide) D2.out (len_one D2.out (by decide)) (TB.out.below hbw) (by decide)).mono ?_
  rintro e2 v4 ⟨Z4, V4, rfl, k2, k3, hb4⟩
  obtain rfl : Z4 = 4609434218613702656 := nine k2 k3
  clear k2 k3
  replace Xa : Hid _ := Xa.out.below hb4
  replace D2 : Hid _ := D2.out.below hb4
  replace hbw := Below.on hbw hb4
  clear hb4
  clear D2
  obtain ⟨ca0, ca1, ca2, fa0, fa1, fa2⟩ := Xa.out
  have hnea : ga < v4.heap.size := World.block_lt_of_cell? v4 _ ca0
  go_wp2_with fail
  clear ca0 ca1 ca2 fa0 fa1 fa2 hnea
  refine (awake8 _ (TB.out.below hbw)).mono ?_
  rintro e v5 ⟨rfl, hb5⟩
  replace Xa : Hid _ := Xa.out.below hb5
  replace hbw := Below.on hbw hb5
  clear hb5
  obtain ⟨ca0, ca1, ca2, fa0, fa1, fa2⟩ := Xa.out
  have hnea : ga < v5.heap.size := World.block_lt_of_cell? v5 _ ca0
  go_wp2_with fail
  clear ca0 ca1 ca2 fa0 fa1 fa2 hnea
  refine (easy8 s (A.out.below hbw)).mono ?_
  rintro e2 v6 ⟨⟨bo, rfl, hbo⟩, hb6⟩
  replace Xa : Hid _ := Xa.out.below hb6
  replace hbw := Below.on hbw hb6
  clear hb6
  cases bo
  · clear hbo
    obtain ⟨ca0, ca1, ca2, fa0, fa1, fa2⟩ := Xa.out
    have hnea : ga < v6.heap.size := World.block_lt_of_cell? v6 _ ca0
    go_wp2_with fail
    clear ca0 ca1 ca2 fa0 fa1 fa2 hnea
    go_ret
    exact ⟨rfl, hbw⟩
  · have ha := hbo rfl
    obtain ⟨hda, hba⟩ := easy_db A.out ha
    obtain ⟨x, hx⟩ : ∃ x, x = iv s (valB B64 xs) := ⟨_, rfl⟩
    rw [← hx] at hda hba
    have HDA : Hid (DN w s pa na ca e x) := hda
    have HBA : Hid (DB x e 19200 5000) := hba
    have HNA : Hid (na ≤ 4096) := Nat.le_trans ha.2.1 (by decide)
    clear hbo ha hda hba hx
    obtain ⟨ca0, ca1, ca2, fa0, fa1, fa2⟩ := Xa.out
    have hnea : ga < v6.heap.size := World.block_lt_of_cell? v6 _ ca0
    go_wp2_with fail
    clear ca0 ca1 ca2 fa0 fa1 fa2 hnea
    refine (dmul_b (HDA.out.below hbw) (HDA.out.below hbw) HBA.out HBA.out (by decide) (by decide) (TB.out.below hbw)).mono ?_
    rintro e2 v7 ⟨v, zo, eo, rfl, hv, hdb, hdv, hb7⟩
    obtain ⟨s7, p7, m7, rfl, hd7⟩ := hv.dn hdb.fm
    clear hv
    replace Xa : Hid _ := Xa.out.below hb7
    replace hbw := Below.on hbw hb7
    clear hb7
    have D7 : Hid (DN v7 s7 p7 m7 m7 eo zo) := hd7
    have HB7 : Hid (DB zo eo (19200 + 19200) (5000 + 5000 + 19200 + 19200)) := hdb
    have HV7 : Hid (dv zo eo = dv (x * x) (e + e)) := hdv
    clear hd7 hdb hdv
    obtain ⟨ca0, ca1, ca2, fa0, fa1, fa2⟩ := Xa.out
    have hnea : ga < v7.heap.size := World.block_lt_of_cell? v7 _ ca0
    go_wp2_with fail
    clear ca0 ca1 ca2 fa0 fa1 fa2 hnea
    have Xp0 : Hid (B3q (v7.alloc (.cells #[.bool s7, .slice p7 m7 m7, .int .i64 eo] 34)) v7.heap.size (.bool s7) (.slice p7 m7 m7) (.int .i64 eo)) := B3q.new v7 _ _ _ _
    have hbn : Below v7.heap.size v7 (v7.alloc (.cells #[.bool s7, .slice p7 m7 m7, .int .i64 eo] 34)) := below1 v7 _
    generalize v7.alloc (.cells #[.bool s7, .slice p7 m7 m7, .int .i64 eo] 34) = Wp at *
    have HGp : Hid (w.heap.size ≤ v7.heap.size) := hbw.size
    replace Xa : Hid _ := Xa.out.below hbn
    replace D7 : Hid _ := D7.out.below hbn
    replace hbw := Below.on hbw hbn
    clear hbn
    generalize v7.heap.size = gp at *
    have Xp := Xp0
    clear Xp0
    rcases Int.lt_trichotomy x 0 with h0 | h0 | h0
    · have HX0 : Hid (x < 0) := h0
      obtain ⟨hz1, hz2⟩ := prod_form HBA.out HBA.out (show x ≠ 0 by omega) (show x ≠ 0 by omega) (by decide) HB7.out.fm HV7.out
      subst hz1
      subst hz2
      have HZ0 : Hid (x * x > 0) := Int.mul_pos_of_neg_of_neg h0 h0
      have hs := HDA.out.zn.sg
      rw [decide_eq_true h0] at hs
      clear h0
      subst hs
      obtain ⟨X1, hX1⟩ : ∃ X1 : Int, X1 = -x := ⟨_, rfl⟩
      have HX1 : Hid (X1 = -x) := hX1
      clear hX1
      obtain ⟨wt, hwt⟩ : ∃ wt, wt = rnp l sd Be S I X1 e := ⟨_, rfl⟩
      have HWT : Hid (rnp l sd Be S I X1 e = wt) := hwt.symm
      clear hwt
      refine (root_n HJN.out HMD.out D7.out (len_db D7.out HB7.out (by decide)) (TB.out.below hbw) HZ0.out).mono ?_
      rintro e2 v8 ⟨Z8, V8, rfl, k2, k3, hb8⟩
      obtain rfl : Z8 = wt := (root_back HJN.out (by have := HBA.out.lo; omega) (by have := HX1.out; have := HX0.out; omega) k2 k3).trans HWT.out
      clear k2 k3
      replace Xa : Hid _ := Xa.out.below hb8
      replace Xp : Hid _ := Xp.out.below hb8
      replace D7 : Hid _ := D7.out.below hb8
      replace hbw := Below.on hbw hb8
      clear hb8
      clear D7
      obtain ⟨ca0, ca1, ca2, fa0, fa1, fa2⟩ := Xa.out
      have hnea : ga < v8.heap.size := World.block_lt_of_cell? v8 _ ca0
      go_wp2_with fail
      clear ca0 ca1 ca2 fa0 fa1 fa2 hnea
      clear Xp
      have HDa : Hid (ga ≠ v8.heap.size) := Nat.ne_of_lt Xa.out.lt
      have Xsz0 : Hid (B3q (v8.alloc (.cells #[.bool true, .slice pa na ca, .int .i64 e] 34)) v8.heap.size (.bool true) (.slice pa na ca) (.int .i64 e)) := B3q.new v8 _ _ _ _
      have hbn : Below v8.heap.size v8 (v8.alloc (.cells #[.bool true, .slice pa na ca, .int .i64 e] 34)) := below1 v8 _
      generalize v8.alloc (.cells #[.bool true, .slice pa na ca, .int .i64 e] 34) = Wz at *
      have HGsz : Hid (w.heap.size ≤ v8.heap.size) := hbw.size
      replace Xa : Hid _ := Xa.out.below hbn
      replace hbw := Below.on hbw hbn
      clear hbn
      generalize v8.heap.size = gsz at *
      have Xsz := Xsz0
      clear Xsz0
      have HLZ : Hid (gsz < Wz.heap.size) := Xsz.out.lt
      refine (dneg (HDA.out.below hbw)).mono ?_
      rintro e2 v9 ⟨v, rfl, hv, hfm, hb9⟩
      obtain ⟨s9, p9, m9, rfl, hd9⟩ := DO.of hv hfm
      clear hv hfm
      replace Xa : Hid _ := Xa.out.below hb9
      replace Xsz : Hid _ := Xsz.out.below hb9
      replace hbw := Below.on hbw hb9
      clear hb9
      have D9 : Hid (DO Wz.heap.size v9 s9 p9 m9 e (-x)) := hd9
      clear hd9
      obtain ⟨ca0, ca1, ca2, fa0, fa1, fa2⟩ := Xa.out
      have hnea : ga < v9.heap.size := World.block_lt_of_cell? v9 _ ca0
      obtain ⟨csz0, csz1, csz2, fsz0, fsz1, fsz2⟩ := Xsz.out
      have hnesz : gsz < v9.heap.size := World.block_lt_of_cell? v9 _ csz0
      go_wp2_with fail
      clear ca0 ca1 ca2 fa0 fa1 fa2 hnea
      clear csz0 csz1 csz2 fsz0 fsz1 fsz2 hnesz
      have HDn : Hid (gsz ≠ v9.heap.size) := Nat.ne_of_lt Xsz.out.lt
      have Xn0 : Hid (B3q (v9.alloc (.cells #[.bool s9, .slice p9 m9 m9, .int .i64 e] 34)) v9.heap.size (.bool s9) (.slice p9 m9 m9) (.int .i64 e)) := B3q.new v9 _ _ _ _
      have hbn : Below v9.heap.size v9 (v9.alloc (.cells #[.bool s9, .slice p9 m9 m9, .int .i64 e] 34)) := below1 v9 _
      generalize v9.alloc (.cells #[.bool s9, .slice p9 m9 m9, .int .i64 e] 34) = Wn at *
      have HGn : Hid (w.heap.size ≤ v9.heap.size) := hbw.size
      replace Xa : Hid _ := Xa.out.below hbn
      replace Xsz : Hid _ := Xsz.out.below hbn
      replace D9 : Hid (DO Wz.heap.size Wn s9 p9 m9 e (-x)) := D9.out.below hbn
      replace hbw := Below.on hbw hbn
      clear hbn
      generalize v9.heap.size = gn at *
      have Xn := Xn0
      clear Xn0
      refine (root_s HJN.out HMD.out (HDA.out.below hbw) HNA.out (TB.out.below hbw) HX0.out).mono ?_
      rintro e v10 ⟨rfl, hb10⟩
      replace Xa : Hid _ := Xa.out.below hb10
      replace Xsz : Hid _ := Xsz.out.below hb10
      replace Xn : Hid _ := Xn.out.below hb10
      replace D9 : Hid (DO Wz.heap.size v10 s9 p9 m9 e (-x)) := D9.out.below hb10
      replace hbw := Below.on hbw hb10
      clear hb10
      obtain ⟨ca0, ca1, ca2, fa0, fa1, fa2⟩ := Xa.out
      have hnea : ga < v10.heap.size := World.block_lt_of_cell? v10 _ ca0
      obtain ⟨csz0, csz1, csz2, fsz0, fsz1, fsz2⟩ := Xsz.out
      have hnesz : gsz < v10.heap.size := World.block_lt_of_cell? v10 _ csz0
      obtain ⟨cn0, cn1, cn2, fn0, fn1, fn2⟩ := Xn.out
      have hnen : gn < v10.heap.size := World.block_lt_of_cell? v10 _ cn0
      have qa := HDa.out
      have qb : gsz ≠ ga := fun h => qa h.symm
      have qc := HDn.out
      have qd : gn ≠ gsz := fun h => qc h.symm
      go_wp2_with fail
      have Xsz2 : Hid (B3q (((v10.setCell ⟨gsz, 0, none⟩ (.bool s9)).setCell ⟨gsz, 1, none⟩ (.slice p9 m9 m9)).setCell ⟨gsz, 2, none⟩ (.int .i64 e)) gsz (.bool s9) (.slice p9 m9 m9) (.int .i64 e)) := ⟨by go_simp, by go_simp, by go_simp, by go_simp, by go_simp, by go_simp⟩
      have Xa2 : Hid (B3q (((v10.setCell ⟨gsz, 0, none⟩ (.bool s9)).setCell ⟨gsz, 1, none⟩ (.slice p9 m9 m9)).setCell ⟨gsz, 2, none⟩ (.int .i64 e)) ga (.bool true) (.slice pa na ca) (.int .i64 e)) := ⟨by go_simp, by go_simp, by go_simp, by go_simp, by go_simp, by go_simp⟩
      have DS2 : Hid (DN (((v10.setCell ⟨gsz, 0, none⟩ (.bool s9)).setCell ⟨gsz, 1, none⟩ (.slice p9 m9 m9)).setCell ⟨gsz, 2, none⟩ (.int .i64 e)) s9 p9 m9 m9 e X1) := by rw [HX1.out]; exact (((D9.out.set _ _ _ HLZ.out).set _ _ _ HLZ.out).set _ _ _ HLZ.out).dn
      have hbw2 : Below w.heap.size w (((v10.setCell ⟨gsz, 0, none⟩ (.bool s9)).setCell ⟨gsz, 1, none⟩ (.slice p9 m9 m9)).setCell ⟨gsz, 2, none⟩ (.int .i64 e)) := bSet (bSet (bSet hbw _ _ _ HGsz.out) _ _ _ HGsz.out) _ _ _ HGsz.out
      clear ca0 ca1 ca2 fa0 fa1 fa2 hnea
      clear csz0 csz1 csz2 fsz0 fsz1 fsz2 hnesz
      clear cn0 cn1 cn2 fn0 fn1 fn2 hnen
      clear qa qb qc qd hbw Xsz Xa Xn D9
      generalize (((v10.setCell ⟨gsz, 0, none⟩ (.bool s9)).setCell ⟨gsz, 1, none⟩ (.slice p9 m9 m9)).setCell ⟨gsz, 2, none⟩ (.int .i64 e)) = Ws at *
      have Xsz := Xsz2
      have Xa := Xa2
      have hbw := hbw2
      have DS := DS2
      clear Xsz2 Xa2 hbw2 DS2
      refine (rnearest HJN.out DS.out (TB.out.below hbw)).mono ?_
      rintro e v11 ⟨rfl, hb11⟩
      rw [HWT.out]
      replace Xa : Hid _ := Xa.out.below hb11
      replace Xsz : Hid _ := Xsz.out.below hb11
      replace DS : Hid _ := DS.out.below hb11
      replace hbw := Below.on hbw hb11
      clear hb11
      obtain ⟨csz0, csz1, csz2, fsz0, fsz1, fsz2⟩ := Xsz.out
      have hnesz : gsz < v11.heap.size := World.block_lt_of_cell? v11 _ csz0
      go_wp2_with fail
      clear csz0 csz1 csz2 fsz0 fsz1 fsz2 hnesz
      have HXP : Hid (0 < X1) := by have := HX1.out; have := HX0.out; show 0 < X1; omega
      have HNS : Hid (m9 ≤ 4096) := len_db DS.out (by rw [HX1.out]; exact HBA.out.neg) (by decide)
      refine (root_n HJN.out HMD.out DS.out HNS.out (TB.out.below hbw) HXP.out).mono ?_
      rintro e2 v12 ⟨r, Vr, rfl, k2, k3, hb12⟩
      have HR : Hid (RNz H l I Vr r ∧ Mk H l I (fun τ => τ * τ) ((X1.natAbs : Int) * ((2 ^ (e + 2 * 4194304).toNat : Nat) : Int)) Vr) := ⟨k2, k3⟩
      have HRS : Hid (r < 2 * S ∧ r % S = r ∧ decide (S ≤ r) = false ∧ r ≤ I) := by
        have := HJN.out.jm.pm.fm.lt
        have := k2.le
        exact ⟨by omega, Nat.mod_eq_of_lt (by omega), decide_eq_false (by omega), k2.le⟩
      clear k2 k3
      replace Xa : Hid _ := Xa.out.below hb12
      replace Xsz : Hid _ := Xsz.out.below hb12
      replace DS : Hid _ := DS.out.below hb12
      replace hbw := Below.on hbw hb12
      clear hb12
      obtain ⟨csz0, csz1, csz2, fsz0, fsz1, fsz2⟩ := Xsz.out
      have hnesz : gsz < v12.heap.size := World.block_lt_of_cell? v12 _ csz0
      go_wp2_with fail
      clear csz0 csz1 csz2 fsz0 fsz1 fsz2 hnesz
      have hN := HLW.out.fin r
      rw [HRS.out.2.1] at hN
      by_cases h1 : r = 0
      · refine (hN _ HRS.out.1).mono ?_
        rintro e2 v13 ⟨rfl, hb13⟩
        rw [decide_eq_true h1, decide_eq_true (show r < I by have := HJN.out.jm.pm.fm.pos; omega)]
        clear hN h1
        replace Xa : Hid _ := Xa.out.below hb13
        replace Xsz : Hid _ := Xsz.out.below hb13
        replace DS : Hid _ := DS.out.below hb13
        replace hbw := Below.on hbw hb13
        clear hb13
        obtain ⟨csz0, csz1, csz2, fsz0, fsz1, fsz2⟩ := Xsz.out
        have hnesz : gsz < v13.heap.size := World.block_lt_of_cell? v13 _ csz0
        go_wp2_with fail
        clear csz0 csz1 csz2 fsz0 fsz1 fsz2 hnesz
        go_ret
        exact ⟨rfl, hbw⟩
      · by_cases h2 : r < I
        · refine (hN _ HRS.out.1).mono ?_
          rintro e2 v13 ⟨rfl, hb13⟩
          rw [decide_eq_false h1, decide_eq_true h2]
          have HRI : Hid (r ≠ 0 ∧ r < I) := ⟨h1, h2⟩
          clear hN h1 h2
          replace Xa : Hid _ := Xa.out.below hb13
          replace Xsz : Hid _ := Xsz.out.below hb13
          replace DS : Hid _ := DS.out.below hb13
          replace hbw := Below.on hbw hb13
          clear hb13
          obtain ⟨csz0, csz1, csz2, fsz0, fsz1, fsz2⟩ := Xsz.out
          have hnesz : gsz < v13.heap.size := World.block_lt_of_cell? v13 _ csz0
          go_wp2_with fail
          clear csz0 csz1 csz2 fsz0 fsz1 fsz2 hnesz
          refine (cell_ok HJN.out r HRS.out.1 (by rw [HRS.out.2.1]; exact HRI.out.1) (by rw [HRS.out.2.1]; exact HRI.out.2) _ (TB.out.below hbw)).mono ?_
          rintro e2 v14 ⟨s1, p1, m1, z1, e1, s2, p2, m2, z2, e2', rfl, hd1, hd2, hv1, hv2, hb14⟩
          have hb1 := (lo_db HJN.out (by rw [HRS.out.2.1]; exact HRI.out.2) hd1.fm hv1).1
          have hb2 := (hi_db HJN.out (by rw [HRS.out.2.1]; exact HRI.out.2) hd2.fm hv2).1
          rw [HRS.out.2.1, HRS.out.2.2.1] at hv1 hv2
          have HC : Hid (DB z1 e1 56 1100 ∧ DB z2 e2' 56 1100 ∧ dv z1 e1 = cLo H l false r ∧ dv z2 e2' = cHi H l false r) := ⟨hb1, hb2, hv1, hv2⟩
          obtain ⟨pr, hpr⟩ : ∃ pr, pr = decide (r % 2 = 0) := ⟨_, rfl⟩
          rw [← hpr]
          have HPR : Hid (pr = decide (r % 2 = 0)) := hpr
          replace Xa : Hid _ := Xa.out.below hb14
          replace Xsz : Hid _ := Xsz.out.below hb14
          replace DS : Hid _ := DS.out.below hb14
          replace hbw := Below.on hbw hb14
          clear hb14
          have C1 : Hid (DN v14 s1 p1 m1 m1 e1 z1) := hd1.dn
          have C2 : Hid (DN v14 s2 p2 m2 m2 e2' z2) := hd2.dn
          clear hd1 hd2 hv1 hv2 hb1 hb2 hpr
          obtain ⟨csz0, csz1, csz2, fsz0, fsz1, fsz2⟩ := Xsz.out
          have hnesz : gsz < v14.heap.size := World.block_lt_of_cell? v14 _ csz0
          go_wp2_with fail
          clear csz0 csz1 csz2 fsz0 fsz1 fsz2 hnesz
          have Xs0 : Hid (B6q (v14.alloc (.cells #[.bool s1, .slice p1 m1 m1, .int .i64 e1, .bool s2, .slice p2 m2 m2, .int .i64 e2'] 66)) v14.heap.size (.bool s1) (.slice p1 m1 m1) (.int .i64 e1) (.bool s2) (.slice p2 m2 m2) (.int .i64 e2')) := B6q.new v14 _ _ _ _ _ _ _
          have hbn : Below v14.heap.size v14 (v14.alloc (.cells #[.bool s1, .slice p1 m1 m1, .int .i64 e1, .bool s2, .slice p2 m2 m2, .int .i64 e2'] 66)) := below1 v14 _
          generalize v14.alloc (.cells #[.bool s1, .slice p1 m1 m1, .int .i64 e1, .bool s2, .slice p2 m2 m2, .int .i64 e2'] 66) = Wc at *
          have HGs : Hid (w.heap.size ≤ v14.heap.size) := hbw.size
          replace Xa : Hid _ := Xa.out.below hbn
          replace Xsz : Hid _ := Xsz.out.below hbn
          replace DS : Hid _ := DS.out.below hbn
          replace C1 : Hid _ := C1.out.below hbn
          replace C2 : Hid _ := C2.out.below hbn
          replace hbw := Below.on hbw hbn
          clear hbn
          generalize v14.heap.size = gs at *
          have Xs := Xs0
          clear Xs0
          refine (dmul_b C1.out C1.out HC.out.1 HC.out.1 (by decide) (by decide) (TB.out.below hbw)).mono ?_
          rintro e2 v15 ⟨v, z15, e15, rfl, hv, hdb, hdv, hb15⟩
          obtain ⟨s15, p15, m15, rfl, hd15⟩ := hv.dn hdb.fm
          clear hv
          replace Xa : Hid _ := Xa.out.below hb15
          replace Xsz : Hid _ := Xsz.out.below hb15
          replace Xs : Hid _ := Xs.out.below hb15
          replace DS : Hid _ := DS.out.below hb15
          replace C1 : Hid _ := C1.out.below hb15
          replace C2 : Hid _ := C2.out.below hb15
          replace hbw := Below.on hbw hb15
          clear hb15
          have D15 : Hid (DN v15 s15 p15 m15 m15 e15 z15) := hd15
          have HV15 : Hid (dv z15 e15 = dv (z1 * z1) (e1 + e1)) := hdv
          clear hd15 hdb hdv
          obtain ⟨csz0, csz1, csz2, fsz0, fsz1, fsz2⟩ := Xsz.out
          have hnesz : gsz < v15.heap.size := World.block_lt_of_cell? v15 _ csz0
          obtain ⟨cs0, cs1, cs2, cs3, cs4, cs5, fs0, fs1, fs2, fs3, fs4, fs5⟩ := Xs.out
          have hnes : gs < v15.heap.size := World.block_lt_of_cell? v15 _ cs0
          go_wp2_with fail
          clear csz0 csz1 csz2 fsz0 fsz1 fsz2 hnesz
          clear cs0 cs1 cs2 cs3 cs4 cs5 fs0 fs1 fs2 fs3 fs4 fs5 hnes
          have Xlo0 : Hid (B3q (v15.alloc (.cells #[.bool s15, .slice p15 m15 m15, .int .i64 e15] 34)) v15.heap.size (.bool s15) (.slice p15 m15 m15) (.int .i64 e15)) := B3q.new v15 _ _ _ _
          have hbn : Below v15.heap.size v15 (v15.alloc (.cells #[.bool s15, .slice p15 m15 m15, .int .i64 e15] 34)) := below1 v15 _
          generalize v15.alloc (.cells #[.bool s15, .slice p15 m15 m15, .int .i64 e15] 34) = Wlo at *
          have HGlo : Hid (w.heap.size ≤ v15.heap.size) := hbw.size
          replace Xa : Hid _ := Xa.out.below hbn
          replace Xsz : Hid _ := Xsz.out.below hbn
          replace Xs : Hid _ := Xs.out.below hbn
          replace DS : Hid _ := DS.out.below hbn
          replace C1 : Hid _ := C1.out.below hbn
          replace C2 : Hid _ := C2.out.below hbn
          replace D15 : Hid _ := D15.out.below hbn
          replace hbw := Below.on hbw hbn
          clear hbn
          generalize v15.heap.size = glo at *
          have Xlo := Xlo0
          clear Xlo0
          refine (dmul_b C2.out C2.out HC.out.2.1 HC.out.2.1 (by decide) (by decide) (TB.out.below hbw)).mono ?_
          rintro e2 v16 ⟨v, z16, e16, rfl, hv, hdb, hdv, hb16⟩
          obtain ⟨s16, p16, m16, rfl, hd16⟩ := hv.dn hdb.fm
          clear hv
          replace Xa : Hid _ := Xa.out.below hb16
          replace Xsz : Hid _ := Xsz.out.below hb16
          replace Xs : Hid _ := Xs.out.below hb16
          replace Xlo : Hid _ := Xlo.out.below hb16
          replace DS : Hid _ := DS.out.below hb16
          replace C1 : Hid _ := C1.out.below hb16
          replace C2 : Hid _ := C2.out.below hb16
          replace D15 : Hid _ := D15.out.below hb16
          replace hbw := Below.on hbw hb16
          clear hb16
          have D16 : Hid (DN v16 s16 p16 m16 m16 e16 z16) := hd16
          have HV16 : Hid (dv z16 e16 = dv (z2 * z2) (e2' + e2')) := hdv
          clear hd16 hdb hdv
          obtain ⟨csz0, csz1, csz2, fsz0, fsz1, fsz2⟩ := Xsz.out
          have hnesz : gsz < v16.heap.size := World.block_lt_of_cell? v16 _ csz0
          obtain ⟨cs0, cs1, cs2, cs3, cs4, cs5, fs0, fs1, fs2, fs3, fs4, fs5⟩ := Xs.out
          have hnes : gs < v16.heap.size := World.block_lt_of_cell? v16 _ cs0
          go_wp2_with fail
          clear csz0 csz1 csz2 fsz0 fsz1 fsz2 hnesz
          clear cs0 cs1 cs2 cs3 cs4 cs5 fs0 fs1 fs2 fs3 fs4 fs5 hnes
          have Xhi0 : Hid (B3q (v16.alloc (.cells #[.bool s16, .slice p16 m16 m16, .int .i64 e16] 34)) v16.heap.size (.bool s16) (.slice p16 m16 m16) (.int .i64 e16)) := B3q.new v16 _ _ _ _
          have hbn : Below v16.heap.size v16 (v16.alloc (.cells #[.bool s16, .slice p16 m16 m16, .int .i64 e16] 34)) := below1 v16 _
          generalize v16.alloc (.cells #[.bool s16, .slice p16 m16 m16, .int .i64 e16] 34) = Whi at *
          have HGhi : Hid (w.heap.size ≤ v16.heap.size) := hbw.size
          replace Xa : Hid _ := Xa.out.below hbn
          replace Xsz : Hid _ := Xsz.out.below hbn
          replace Xs : Hid _ := Xs.out.below hbn
          replace Xlo : Hid _ := Xlo.out.below hbn
          replace DS : Hid _ := DS.out.below hbn
          replace C1 : Hid _ := C1.out.below hbn
          replace C2 : Hid _ := C2.out.below hbn
          replace D15 : Hid _ := D15.out.below hbn
          replace D16 : Hid _ := D16.out.below hbn
          replace hbw := Below.on hbw hbn
          clear hbn
          generalize v16.heap.size = ghi at *
          have Xhi := Xhi0
          clear Xhi0
          have HIN : Hid (dv z15 e15 ≤ dv X1 e ∧ dv X1 e ≤ dv z16 e16 ∧ (r % 2 = 1 → dv z15 e15 < dv X1 e ∧ dv X1 e < dv z16 e16)) := root_cell HXP.out (by have := HBA.out.lo; omega) HR.out.1 HRI.out.1 HRI.out.2 HR.out.2 (by have := HC.out.1.lo; omega) (by have := HC.out.2.1.lo; omega) HC.out.2.2.1 HC.out.2.2.2 HV15.out HV16.out
          cases pr
          clear C1
          clear C2
          · have hst := HIN.out.2.2 (by have h9 : ¬ r % 2 = 0 := of_decide_eq_false HPR.out.symm; omega)
            have HC1 : Hid (dv z15 e15 < dv X1 e) := hst.1
            have HC2 : Hid (dv X1 e < dv z16 e16) := hst.2
            clear hst
            obtain ⟨W17, hW17⟩ : ∃ W1, W1 = Whi.drew := ⟨_, rfl⟩
            have hbd : Below Whi.heap.size Whi W17 := by rw [hW17]; exact bDrew1 (Below.refl _ _)
            replace Xa : Hid _ := Xa.out.below hbd
            replace Xsz : Hid _ := Xsz.out.below hbd
            replace Xs : Hid _ := Xs.out.below hbd
            replace Xlo : Hid _ := Xlo.out.below hbd
            replace Xhi : Hid _ := Xhi.out.below hbd
            replace DS : Hid _ := DS.out.below hbd
            replace D15 : Hid _ := D15.out.below hbd
            replace D16 : Hid _ := D16.out.below hbd
            replace hbw := Below.on hbw hbd
            clear hbd
            have HJ : Hid ((fun W' : World => W'.cell? ⟨glo, 0, none⟩ = some (.bool s15) ∧ W'.cell? ⟨glo, 1, none⟩ = some (.slice p15 m15 m15) ∧ W'.cell? ⟨glo, 2, none⟩ = some (.int .i64 e15) ∧ W'.cell? ⟨gsz, 0, none⟩ = some (.bool s9) ∧ W'.cell? ⟨gsz, 1, none⟩ = some (.slice p9 m9 m9) ∧ W'.cell? ⟨gsz, 2, none⟩ = some (.int .i64 e) ∧ W'.cell? ⟨ghi, 0, none⟩ = some (.bool s16) ∧ W'.cell? ⟨ghi, 1, none⟩ = some (.slice p16 m16 m16) ∧ W'.cell? ⟨ghi, 2, none⟩ = some (.int .i64 e16)) W17) := ⟨Xlo.out.c0, Xlo.out.c1, Xlo.out.c2, Xsz.out.c0, Xsz.out.c1, Xsz.out.c2, Xhi.out.c0, Xhi.out.c1, Xhi.out.c2⟩
            refine wp_region_J (fun W' => W'.cell? ⟨glo, 0, none⟩ = some (.bool s15) ∧ W'.cell? ⟨glo, 1, none⟩ = some (.slice p15 m15 m15) ∧ W'.cell? ⟨glo, 2, none⟩ = some (.int .i64 e15) ∧ W'.cell? ⟨gsz, 0, none⟩ = some (.bool s9) ∧ W'.cell? ⟨gsz, 1, none⟩ = some (.slice p9 m9 m9) ∧ W'.cell? ⟨gsz, 2, none⟩ = some (.int .i64 e) ∧ W'.cell? ⟨ghi, 0, none⟩ = some (.bool s16) ∧ W'.cell? ⟨ghi, 1, none⟩ = some (.slice p16 m16 m16) ∧ W'.cell? ⟨ghi, 2, none⟩ = some (.int .i64 e16)) (by kernel_rfl) ?_
            rw [← hW17]
            clear hW17
            refine wpJ_take (i := 0) (v := ?v1x0) rfl (by kernel_rfl) (by kernel_rfl) (by kernel_rfl) (fun _ _ _ h => h) (by kernel_rfl) ?hy1x0 HJ.out ?rest1x0
            case hy1x0 => (intro W' hJ; obtain ⟨j0, j1, j2, j3, j4, j5, j6, j7, j8⟩ := hJ; go_simp; first | done | with_reducible rfl)
            refine wpJ_take (i := 1) (v := ?v2x1) rfl (by kernel_rfl) (by kernel_rfl) (by kernel_rfl) (fun _ _ _ h => h) (by kernel_rfl) ?hy2x1 HJ.out ?rest2x1
            case hy2x1 => (intro W' hJ; obtain ⟨j0, j1, j2, j3, j4, j5, j6, j7, j8⟩ := hJ; go_simp; first | done | with_reducible rfl)
            refine wpJ_take (i := 3) (v := ?v3x3) rfl (by kernel_rfl) (by kernel_rfl) (by kernel_rfl) (fun _ _ _ h => h) (by kernel_rfl) ?hy3x3 HJ.out ?rest3x3
            case hy3x3 => (intro W' hJ; obtain ⟨j0, j1, j2, j3, j4, j5, j6, j7, j8⟩ := hJ; go_simp; first | done | with_reducible rfl)
            refine wpJ_take (i := 4) (v := ?v4x4) rfl (by kernel_rfl) (by kernel_rfl) (by kernel_rfl) (fun _ _ _ h => h) (by kernel_rfl) ?hy4x4 HJ.out ?rest4x4
            case hy4x4 => (intro W' hJ; obtain ⟨j0, j1, j2, j3, j4, j5, j6, j7, j8⟩ := hJ; go_simp; first | done | with_reducible rfl)
            refine wpJ_one (i := 2) (by kernel_rfl) rfl (by kernel_rfl) (fun KJ hK => ?_)
            go_simp
            refine (at8 D15.out DS.out).mono ?_
            rintro e v17 ⟨rfl, hb17⟩
            rw [cmp_l HC1.out]
            replace Xa : Hid _ := Xa.out.below hb17
            replace Xsz : Hid _ := Xsz.out.below hb17
            replace Xs : Hid _ := Xs.out.below hb17
            replace Xlo : Hid _ := Xlo.out.below hb17
            replace Xhi : Hid _ := Xhi.out.below hb17
            replace DS : Hid _ := DS.out.below hb17
            replace D15 : Hid _ := D15.out.below hb17
            replace D16 : Hid _ := D16.out.below hb17
            replace hbw := Below.on hbw hb17
            clear hb17
            refine hK _ _ ⟨Xlo.out.c0, Xlo.out.c1, Xlo.out.c2, Xsz.out.c0, Xsz.out.c1, Xsz.out.c2, Xhi.out.c0, Xhi.out.c1, Xhi.out.c2⟩ ?_
            clear hK
            refine wpJ_one (i := 5) (by kernel_rfl) rfl (by kernel_rfl) (fun KJ hK => ?_)
            go_simp
            refine (at8 DS.out D16.out).mono ?_
            rintro e v18 ⟨rfl, hb18⟩
            rw [cmp_l HC2.out]
            replace Xa : Hid _ := Xa.out.below hb18
            replace Xsz : Hid _ := Xsz.out.below hb18
            replace Xs : Hid _ := Xs.out.below hb18
            replace Xlo : Hid _ := Xlo.out.below hb18
            replace Xhi : Hid _ := Xhi.out.below hb18
            replace DS : Hid _ := DS.out.below hb18
            replace D15 : Hid _ := D15.out.below hb18
            replace D16 : Hid _ := D16.out.below hb18
            replace hbw := Below.on hbw hb18
            clear hb18
            clear HJ
            have HJ : Hid ((fun W' : World => W'.cell? ⟨glo, 0, none⟩ = some (.bool s15) ∧ W'.cell? ⟨glo, 1, none⟩ = some (.slice p15 m15 m15) ∧ W'.cell? ⟨glo, 2, none⟩ = some (.int .i64 e15) ∧ W'.cell? ⟨gsz, 0, none⟩ = some (.bool s9) ∧ W'.cell? ⟨gsz, 1, none⟩ = some (.slice p9 m9 m9) ∧ W'.cell? ⟨gsz, 2, none⟩ = some (.int .i64 e) ∧ W'.cell? ⟨ghi, 0, none⟩ = some (.bool s16) ∧ W'.cell? ⟨ghi, 1, none⟩ = some (.slice p16 m16 m16) ∧ W'.cell? ⟨ghi, 2, none⟩ = some (.int .i64 e16)) v18) := ⟨Xlo.out.c0, Xlo.out.c1, Xlo.out.c2, Xsz.out.c0, Xsz.out.c1, Xsz.out.c2, Xhi.out.c0, Xhi.out.c1, Xhi.out.c2⟩
            refine hK _ _ HJ.out ?_
            clear hK
            refine wpJ_take (i := 6) (v := ?v5x6) rfl (by kernel_rfl) (by kernel_rfl) (by kernel_rfl) (fun _ _ _ h => h) (by kernel_rfl) ?hy5x6 HJ.out ?rest5x6
            case hy5x6 => (intro W' hJ; obtain ⟨j0, j1, j2, j3, j4, j5, j6, j7, j8⟩ := hJ; go_simp; first | done | with_reducible rfl)
            refine wpJ_take (i := 7) (v := ?v6x7) rfl (by kernel_rfl) (by kernel_rfl) (by kernel_rfl) (fun _ _ _ h => h) (by kernel_rfl) ?hy6x7 HJ.out ?rest6x7
            case hy6x7 => (intro W' hJ; obtain ⟨j0, j1, j2, j3, j4, j5, j6, j7, j8⟩ := hJ; go_simp; first | done | with_reducible rfl)
            refine wpJ_done (by kernel_rfl) ?_ _
            clear HJ
            go_wp2_with fail
            go_ret
            exact ⟨rfl, hbw⟩
          · rcases Int.lt_or_eq_of_le HIN.out.1 with h1 | h1 <;> rcases Int.lt_or_eq_of_le HIN.out.2.1 with h2 | h2
            · have HC1 : Hid (dv z15 e15 < dv X1 e) := h1
              have HC2 : Hid (dv X1 e < dv z16 e16) := h2
              clear h1 h2
              obtain ⟨W17, hW17⟩ : ∃ W1, W1 = Whi.drew := ⟨_, rfl⟩
              have hbd : Below Whi.heap.size Whi W17 := by rw [hW17]; exact bDrew1 (Below.refl _ _)
              replace Xa : Hid _ := Xa.out.below hbd
              replace Xsz : Hid _ := Xsz.out.below hbd
              replace Xs : Hid _ := Xs.out.below hbd
              replace Xlo : Hid _ := Xlo.out.below hbd
              replace Xhi : Hid _ := Xhi.out.below hbd
              replace DS : Hid _ := DS.out.below hbd
              replace D15 : Hid _ := D15.out.below hbd
              replace D16 : Hid _ := D16.out.below hbd
              replace hbw := Below.on hbw hbd
              clear hbd
              have HJ : Hid ((fun W' : World => W'.cell? ⟨glo, 0, none⟩ = some (.bool s15) ∧ W'.cell? ⟨glo, 1, none⟩ = some (.slice p15 m15 m15) ∧ W'.cell? ⟨glo, 2, none⟩ = some (.int .i64 e15) ∧ W'.cell? ⟨gsz, 0, none⟩ = some (.bool s9) ∧ W'.cell? ⟨gsz, 1, none⟩ = some (.slice p9 m9 m9) ∧ W'.cell? ⟨gsz, 2, none⟩ = some (.int .i64 e) ∧ W'.cell? ⟨ghi, 0, none⟩ = some (.bool s16) ∧ W'.cell? ⟨ghi, 1, none⟩ = some (.slice p16 m16 m16) ∧ W'.cell? ⟨ghi, 2, none⟩ = some (.int .i64 e16)) W17) := ⟨Xlo.out.c0, Xlo.out.c1, Xlo.out.c2, Xsz.out.c0, Xsz.out.c1, Xsz.out.c2, Xhi.out.c0, Xhi.out.c1, Xhi.out.c2⟩
              refine wp_region_J (fun W' => W'.cell? ⟨glo, 0, none⟩ = some (.bool s15) ∧ W'.cell? ⟨glo, 1, none⟩ = some (.slice p15 m15 m15) ∧ W'.cell? ⟨glo, 2, none⟩ = some (.int .i64 e15) ∧ W'.cell? ⟨gsz, 0, none⟩ = some (.bool s9) ∧ W'.cell? ⟨gsz, 1, none⟩ = some (.slice p9 m9 m9) ∧ W'.cell? ⟨gsz, 2, none⟩ = some (.int .i64 e) ∧ W'.cell? ⟨ghi, 0, none⟩ = some (.bool s16) ∧ W'.cell? ⟨ghi, 1, none⟩ = some (.slice p16 m16 m16) ∧ W'.cell? ⟨ghi, 2, none⟩ = some (.int .i64 e16)) (by kernel_rfl) ?_
              rw [← hW17]
              clear hW17
              refine wpJ_take (i := 0) (v := ?v7x0) rfl (by kernel_rfl) (by kernel_rfl) (by kernel_rfl) (fun _ _ _ h => h) (by kernel_rfl) ?hy7x0 HJ.out ?rest7x0
              case hy7x0 => (intro W' hJ; obtain ⟨j0, j1, j2, j3, j4, j5, j6, j7, j8⟩ := hJ; go_simp; first | done | with_reducible rfl)
              refine wpJ_take (i := 1) (v := ?v8x1) rfl (by kernel_rfl) (by kernel_rfl) (by kernel_rfl) (fun _ _ _ h => h) (by kernel_rfl) ?hy8x1 HJ.out ?rest8x1
              case hy8x1 => (intro W' hJ; obtain ⟨j0, j1, j2, j3, j4, j5, j6, j7, j8⟩ := hJ; go_simp; first | done | with_reducible rfl)
              refine wpJ_take (i := 3) (v := ?v9x3) rfl (by kernel_rfl) (by kernel_rfl) (by kernel_rfl) (fun _ _ _ h => h) (by kernel_rfl) ?hy9x3 HJ.out ?rest9x3
              case hy9x3 => (intro W' hJ; obtain ⟨j0, j1, j2, j3, j4, j5, j6, j7, j8⟩ := hJ; go_simp; first | done | with_reducible rfl)
              refine wpJ_take (i := 4) (v := ?v10x4) rfl (by kernel_rfl) (by kernel_rfl) (by kernel_rfl) (fun _ _ _ h => h) (by kernel_rfl) ?hy10x4 HJ.out ?rest10x4
              case hy10x4 => (intro W' hJ; obtain ⟨j0, j1, j2, j3, j4, j5, j6, j7, j8⟩ := hJ; go_simp; first | done | with_reducible rfl)
              refine wpJ_one (i := 2) (by kernel_rfl) rfl (by kernel_rfl) (fun KJ hK => ?_)
              go_simp
              refine (at8 D15.out DS.out).mono ?_
              rintro e v17 ⟨rfl, hb17⟩
              rw [cmp_l HC1.out]
              replace Xa : Hid _ := Xa.out.below hb17
              replace Xsz : Hid _ := Xsz.out.below hb17
              replace Xs : Hid _ := Xs.out.below hb17
              replace Xlo : Hid _ := Xlo.out.below hb17
              replace Xhi : Hid _ := Xhi.out.below hb17
              replace DS : Hid _ := DS.out.below hb17
              replace D15 : Hid _ := D15.out.below hb17
              replace D16 : Hid _ := D16.out.below hb17
              replace hbw := Below.on hbw hb17
              clear hb17
              refine hK _ _ ⟨Xlo.out.c0, Xlo.out.c1, Xlo.out.c2, Xsz.out.c0, Xsz.out.c1, Xsz.out.c2, Xhi.out.c0, Xhi.out.c1, Xhi.out.c2⟩ ?_
              clear hK
              refine wpJ_one (i := 5) (by kernel_rfl) rfl (by kernel_rfl) (fun KJ hK => ?_)
              go_simp
              refine (at8 DS.out D16.out).mono ?_
              rintro e v18 ⟨rfl, hb18⟩
              rw [cmp_l HC2.out]
              replace Xa : Hid _ := Xa.out.below hb18
              replace Xsz : Hid _ := Xsz.out.below hb18
              replace Xs : Hid _ := Xs.out.below hb18
              replace Xlo : Hid _ := Xlo.out.below hb18
              replace Xhi : Hid _ := Xhi.out.below hb18
              replace DS : Hid _ := DS.out.below hb18
              replace D15 : Hid _ := D15.out.below hb18
              replace D16 : Hid _ := D16.out.below hb18
              replace hbw := Below.on hbw hb18
              clear hb18
              clear HJ
              have HJ : Hid ((fun W' : World => W'.cell? ⟨glo, 0, none⟩ = some (.bool s15) ∧ W'.cell? ⟨glo, 1, none⟩ = some (.slice p15 m15 m15) ∧ W'.cell? ⟨glo, 2, none⟩ = some (.int .i64 e15) ∧ W'.cell? ⟨gsz, 0, none⟩ = some (.bool s9) ∧ W'.cell? ⟨gsz, 1, none⟩ = some (.slice p9 m9 m9) ∧ W'.cell? ⟨gsz, 2, none⟩ = some (.int .i64 e) ∧ W'.cell? ⟨ghi, 0, none⟩ = some (.bool s16) ∧ W'.cell? ⟨ghi, 1, none⟩ = some (.slice p16 m16 m16) ∧ W'.cell? ⟨ghi, 2, none⟩ = some (.int .i64 e16)) v18) := ⟨Xlo.out.c0, Xlo.out.c1, Xlo.out.c2, Xsz.out.c0, Xsz.out.c1, Xsz.out.c2, Xhi.out.c0, Xhi.out.c1, Xhi.out.c2⟩
              refine hK _ _ HJ.out ?_
              clear hK
              refine wpJ_take (i := 6) (v := ?v11x6) rfl (by kernel_rfl) (by kernel_rfl) (by kernel_rfl) (fun _ _ _ h => h) (by kernel_rfl) ?hy11x6 HJ.out ?rest11x6
              case hy11x6 => (intro W' hJ; obtain ⟨j0, j1, j2, j3, j4, j5, j6, j7, j8⟩ := hJ; go_simp; first | done | with_reducible rfl)
              refine wpJ_take (i := 7) (v := ?v12x7) rfl (by kernel_rfl) (by kernel_rfl) (by kernel_rfl) (fun _ _ _ h => h) (by kernel_rfl) ?hy12x7 HJ.out ?rest12x7
              case hy12x7 => (intro W' hJ; obtain ⟨j0, j1, j2, j3, j4, j5, j6, j7, j8⟩ := hJ; go_simp; first | done | with_reducible rfl)
              refine wpJ_done (by kernel_rfl) ?_ _
              clear HJ
              go_wp2_with fail
              go_ret
              exact ⟨rfl, hbw⟩
            · have HC1 : Hid (dv z15 e15 < dv X1 e) := h1
              have HC2 : Hid (dv X1 e = dv z16 e16) := h2
              clear h1 h2
              obtain ⟨W17, hW17⟩ : ∃ W1, W1 = Whi.drew := ⟨_, rfl⟩
              have hbd : Below Whi.heap.size Whi W17 := by rw [hW17]; exact bDrew1 (Below.refl _ _)
              replace Xa : Hid _ := Xa.out.below hbd
              replace Xsz : Hid _ := Xsz.out.below hbd
              replace Xs : Hid _ := Xs.out.below hbd
              replace Xlo : Hid _ := Xlo.out.below hbd
              replace Xhi : Hid _ := Xhi.out.below hbd
              replace DS : Hid _ := DS.out.below hbd
              replace D15 : Hid _ := D15.out.below hbd
              replace D16 : Hid _ := D16.out.below hbd
              replace hbw := Below.on hbw hbd
              clear hbd
              have HJ : Hid ((fun W' : World => W'.cell? ⟨glo, 0, none⟩ = some (.bool s15) ∧ W'.cell? ⟨glo, 1, none⟩ = some (.slice p15 m15 m15) ∧ W'.cell? ⟨glo, 2, none⟩ = some (.int .i64 e15) ∧ W'.cell? ⟨gsz, 0, none⟩ = some (.bool s9) ∧ W'.cell? ⟨gsz, 1, none⟩ = some (.slice p9 m9 m9) ∧ W'.cell? ⟨gsz, 2, none⟩ = some (.int .i64 e) ∧ W'.cell? ⟨ghi, 0, none⟩ = some (.bool s16) ∧ W'.cell? ⟨ghi, 1, none⟩ = some (.slice p16 m16 m16) ∧ W'.cell? ⟨ghi, 2, none⟩ = some (.int .i64 e16)) W17) := ⟨Xlo.out.c0, Xlo.out.c1, Xlo.out.c2, Xsz.out.c0, Xsz.out.c1, Xsz.out.c2, Xhi.out.c0, Xhi.out.c1, Xhi.out.c2⟩
              refine wp_region_J (fun W' => W'.cell? ⟨glo, 0, none⟩ = some (.bool s15) ∧ W'.cell? ⟨glo, 1, none⟩ = some (.slice p15 m15 m15) ∧ W'.cell? ⟨glo, 2, none⟩ = some (.int .i64 e15) ∧ W'.cell? ⟨gsz, 0, none⟩ = some (.bool s9) ∧ W'.cell? ⟨gsz, 1, none⟩ = some (.slice p9 m9 m9) ∧ W'.cell? ⟨gsz, 2, none⟩ = some (.int .i64 e) ∧ W'.cell? ⟨ghi, 0, none⟩ = some (.bool s16) ∧ W'.cell? ⟨ghi, 1, none⟩ = some (.slice p16 m16 m16) ∧ W'.cell? ⟨ghi, 2, none⟩ = some (.int .i64 e16)) (by kernel_rfl) ?_
              rw [← hW17]
              clear hW17
              refine wpJ_take (i := 0) (v := ?v13x0) rfl (by kernel_rfl) (by kernel_rfl) (by kernel_rfl) (fun _ _ _ h => h) (by kernel_rfl) ?hy13x0 HJ.out ?rest13x0
              case hy13x0 => (intro W' hJ; obtain ⟨j0, j1, j2, j3, j4, j5, j6, j7, j8⟩ := hJ; go_simp; first | done | with_reducible rfl)
              refine wpJ_take (i := 1) (v := ?v14x1) rfl (by kernel_rfl) (by kernel_rfl) (by kernel_rfl) (fun _ _ _ h => h) (by kernel_rfl) ?hy14x1 HJ.out ?rest14x1
              case hy14x1 => (intro W' hJ; obtain ⟨j0, j1, j2, j3, j4, j5, j6, j7, j8⟩ := hJ; go_simp; first | done | with_reducible rfl)
              refine wpJ_take (i := 3) (v := ?v15x3) rfl (by kernel_rfl) (by kernel_rfl) (by kernel_rfl) (fun _ _ _ h => h) (by kernel_rfl) ?hy15x3 HJ.out ?rest15x3
              case hy15x3 => (intro W' hJ; obtain ⟨j0, j1, j2, j3, j4, j5, j6, j7, j8⟩ := hJ; go_simp; first | done | with_reducible rfl)
              refine wpJ_take (i := 4) (v := ?v16x4) rfl (by kernel_rfl) (by kernel_rfl) (by kernel_rfl) (fun _ _ _ h => h) (by kernel_rfl) ?hy16x4 HJ.out ?rest16x4
              case hy16x4 => (intro W' hJ; obtain ⟨j0, j1, j2, j3, j4, j5, j6, j7, j8⟩ := hJ; go_simp; first | done | with_reducible rfl)
              refine wpJ_one (i := 2) (by kernel_rfl) rfl (by kernel_rfl) (fun KJ hK => ?_)
              go_simp
              refine (at8 D15.out DS.out).mono ?_
              rintro e v17 ⟨rfl, hb17⟩
              rw [cmp_l HC1.out]
              replace Xa : Hid _ := Xa.out.below hb17
              replace Xsz : Hid _ := Xsz.out.below hb17
              replace Xs : Hid _ := Xs.out.below hb17
              replace Xlo : Hid _ := Xlo.out.below hb17
              replace Xhi : Hid _ := Xhi.out.below hb17
              replace DS : Hid _ := DS.out.below hb17
              replace D15 : Hid _ := D15.out.below hb17
              replace D16 : Hid _ := D16.out.below hb17
              replace hbw := Below.on hbw hb17
              clear hb17
              refine hK _ _ ⟨Xlo.out.c0, Xlo.out.c1, Xlo.out.c2, Xsz.out.c0, Xsz.out.c1, Xsz.out.c2, Xhi.out.c0, Xhi.out.c1, Xhi.out.c2⟩ ?_
              clear hK
              refine wpJ_one (i := 5) (by kernel_rfl) rfl (by kernel_rfl) (fun KJ hK => ?_)
              go_simp
              refine (at8 DS.out D16.out).mono ?_
              rintro e v18 ⟨rfl, hb18⟩
              rw [cmp_e HC2.out]
              replace Xa : Hid _ := Xa.out.below hb18
              replace Xsz : Hid _ := Xsz.out.below hb18
              replace Xs : Hid _ := Xs.out.below hb18
              replace Xlo : Hid _ := Xlo.out.below hb18
              replace Xhi : Hid _ := Xhi.out.below hb18
              replace DS : Hid _ := DS.out.below hb18
              replace D15 : Hid _ := D15.out.below hb18
              replace D16 : Hid _ := D16.out.below hb18
              replace hbw := Below.on hbw hb18
              clear hb18
              clear HJ
              have HJ : Hid ((fun W' : World => W'.cell? ⟨glo, 0, none⟩ = some (.bool s15) ∧ W'.cell? ⟨glo, 1, none⟩ = some (.slice p15 m15 m15) ∧ W'.cell? ⟨glo, 2, none⟩ = some (.int .i64 e15) ∧ W'.cell? ⟨gsz, 0, none⟩ = some (.bool s9) ∧ W'.cell? ⟨gsz, 1, none⟩ = some (.slice p9 m9 m9) ∧ W'.cell? ⟨gsz, 2, none⟩ = some (.int .i64 e) ∧ W'.cell? ⟨ghi, 0, none⟩ = some (.bool s16) ∧ W'.cell? ⟨ghi, 1, none⟩ = some (.slice p16 m16 m16) ∧ W'.cell? ⟨ghi, 2, none⟩ = some (.int .i64 e16)) v18) := ⟨Xlo.out.c0, Xlo.out.c1, Xlo.out.c2, Xsz.out.c0, Xsz.out.c1, Xsz.out.c2, Xhi.out.c0, Xhi.out.c1, Xhi.out.c2⟩
              refine hK _ _ HJ.out ?_
              clear hK
              refine wpJ_take (i := 6) (v := ?v17x6) rfl (by kernel_rfl) (by kernel_rfl) (by kernel_rfl) (fun _ _ _ h => h) (by kernel_rfl) ?hy17x6 HJ.out ?rest17x6
              case hy17x6 => (intro W' hJ; obtain ⟨j0, j1, j2, j3, j4, j5, j6, j7, j8⟩ := hJ; go_simp; first | done | with_reducible rfl)
              refine wpJ_take (i := 7) (v := ?v18x7) rfl (by kernel_rfl) (by kernel_rfl) (by kernel_rfl) (fun _ _ _ h => h) (by kernel_rfl) ?hy18x7 HJ.out ?rest18x7
              case hy18x7 => (intro W' hJ; obtain ⟨j0, j1, j2, j3, j4, j5, j6, j7, j8⟩ := hJ; go_simp; first | done | with_reducible rfl)
              refine wpJ_done (by kernel_rfl) ?_ _
              clear HJ
              go_wp2_with fail
              go_ret
              exact ⟨rfl, hbw⟩
            · have HC1 : Hid (dv z15 e15 = dv X1 e) := h1
              have HC2 : Hid (dv X1 e < dv z16 e16) := h2
              clear h1 h2
              obtain ⟨W17, hW17⟩ : ∃ W1, W1 = Whi.drew := ⟨_, rfl⟩
              have hbd : Below Whi.heap.size Whi W17 := by rw [hW17]; exact bDrew1 (Below.refl _ _)
              replace Xa : Hid _ := Xa.out.below hbd
              replace Xsz : Hid _ := Xsz.out.below hbd
              replace Xs : Hid _ := Xs.out.below hbd
              replace Xlo : Hid _ := Xlo.out.below hbd
              replace Xhi : Hid _ := Xhi.out.below hbd
              replace DS : Hid _ := DS.out.below hbd
              replace D15 : Hid _ := D15.out.below hbd
              replace D16 : Hid _ := D16.out.below hbd
              replace hbw := Below.on hbw hbd
              clear hbd
              have HJ : Hid ((fun W' : World => W'.cell? ⟨glo, 0, none⟩ = some (.bool s15) ∧ W'.cell? ⟨glo, 1, none⟩ = some (.slice p15 m15 m15) ∧ W'.cell? ⟨glo, 2, none⟩ = some (.int .i64 e15) ∧ W'.cell? ⟨gsz, 0, none⟩ = some (.bool s9) ∧ W'.cell? ⟨gsz, 1, none⟩ = some (.slice p9 m9 m9) ∧ W'.cell? ⟨gsz, 2, none⟩ = some (.int .i64 e) ∧ W'.cell? ⟨ghi, 0, none⟩ = some (.bool s16) ∧ W'.cell? ⟨ghi, 1, none⟩ = some (.slice p16 m16 m16) ∧ W'.cell? ⟨ghi, 2, none⟩ = some (.int .i64 e16)) W17) := ⟨Xlo.out.c0, Xlo.out.c1, Xlo.out.c2, Xsz.out.c0, Xsz.out.c1, Xsz.out.c2, Xhi.out.c0, Xhi.out.c1, Xhi.out.c2⟩
              refine wp_region_J (fun W' => W'.cell? ⟨glo, 0, none⟩ = some (.bool s15) ∧ W'.cell? ⟨glo, 1, none⟩ = some (.slice p15 m15 m15) ∧ W'.cell? ⟨glo, 2, none⟩ = some (.int .i64 e15) ∧ W'.cell? ⟨gsz, 0, none⟩ = some (.bool s9) ∧ W'.cell? ⟨gsz, 1, none⟩ = some (.slice p9 m9 m9) ∧ W'.cell? ⟨gsz, 2, none⟩ = some (.int .i64 e) ∧ W'.cell? ⟨ghi, 0, none⟩ = some (.bool s16) ∧ W'.cell? ⟨ghi, 1, none⟩ = some (.slice p16 m16 m16) ∧ W'.cell? ⟨ghi, 2, none⟩ = some (.int .i64 e16)) (by kernel_rfl) ?_
              rw [← hW17]
              clear hW17
              refine wpJ_take (i := 0) (v := ?v19x0) rfl (by kernel_rfl) (by kernel_rfl) (by kernel_rfl) (fun _ _ _ h => h) (by kernel_rfl) ?hy19x0 HJ.out ?rest19x0
              case hy19x0 => (intro W' hJ; obtain ⟨j0, j1, j2, j3, j4, j5, j6, j7, j8⟩ := hJ; go_simp; first | done | with_reducible rfl)
              refine wpJ_take (i := 1) (v := ?v20x1) rfl (by kernel_rfl) (by kernel_rfl) (by kernel_rfl) (fun _ _ _ h => h) (by kernel_rfl) ?hy20x1 HJ.out ?rest20x1
              case hy20x1 => (intro W' hJ; obtain ⟨j0, j1, j2, j3, j4, j5, j6, j7, j8⟩ := hJ; go_simp; first | done | with_reducible rfl)
              refine wpJ_take (i := 3) (v := ?v21x3) rfl (by kernel_rfl) (by kernel_rfl) (by kernel_rfl) (fun _ _ _ h => h) (by kernel_rfl) ?hy21x3 HJ.out ?rest21x3
              case hy21x3 => (intro W' hJ; obtain ⟨j0, j1, j2, j3, j4, j5, j6, j7, j8⟩ := hJ; go_simp; first | done | with_reducible rfl)
              refine wpJ_take (i := 4) (v := ?v22x4) rfl (by kernel_rfl) (by kernel_rfl) (by kernel_rfl) (fun _ _ _ h => h) (by kernel_rfl) ?hy22x4 HJ.out ?rest22x4
              case hy22x4 => (intro W' hJ; obtain ⟨j0, j1, j2, j3, j4, j5, j6, j7, j8⟩ := hJ; go_simp; first | done | with_reducible rfl)
              refine wpJ_one (i := 2) (by kernel_rfl) rfl (by kernel_rfl) (fun KJ hK => ?_)
              go_simp
              refine (at8 D15.out DS.out).mono ?_
              rintro e v17 ⟨rfl, hb17⟩
              rw [cmp_e HC1.out]
              replace Xa : Hid _ := Xa.out.below hb17
              replace Xsz : Hid _ := Xsz.out.below hb17
              replace Xs : Hid _ := Xs.out.below hb17
              replace Xlo : Hid _ := Xlo.out.below hb17
              replace Xhi : Hid _ := Xhi.out.below hb17
              replace DS : Hid _ := DS.out.below hb17
              replace D15 : Hid _ := D15.out.below hb17
              replace D16 : Hid _ := D16.out.below hb17
              replace hbw := Below.on hbw hb17
              clear hb17
              refine hK _ _ ⟨Xlo.out.c0, Xlo.out.c1, Xlo.out.c2, Xsz.out.c0, Xsz.out.c1, Xsz.out.c2, Xhi.out.c0, Xhi.out.c1, Xhi.out.c2⟩ ?_
              clear hK
              refine wpJ_one (i := 5) (by kernel_rfl) rfl (by kernel_rfl) (fun KJ hK => ?_)
              go_simp
              refine (at8 DS.out D16.out).mono ?_
              rintro e v18 ⟨rfl, hb18⟩
              rw [cmp_l HC2.out]
              replace Xa : Hid _ := Xa.out.below hb18
              replace Xsz : Hid _ := Xsz.out.below hb18
              replace Xs : Hid _ := Xs.out.below hb18
              replace Xlo : Hid _ := Xlo.out.below hb18
              replace Xhi : Hid _ := Xhi.out.below hb18
              replace DS : Hid _ := DS.out.below hb18
              replace D15 : Hid _ := D15.out.below hb18
              replace D16 : Hid _ := D16.out.below hb18
              replace hbw := Below.on hbw hb18
              clear hb18
              clear HJ
              have HJ : Hid ((fun W' : World => W'.cell? ⟨glo, 0, none⟩ = some (.bool s15) ∧ W'.cell? ⟨glo, 1, none⟩ = some (.slice p15 m15 m15) ∧ W'.cell? ⟨glo, 2, none⟩ = some (.int .i64 e15) ∧ W'.cell? ⟨gsz, 0, none⟩ = some (.bool s9) ∧ W'.cell? ⟨gsz, 1, none⟩ = some (.slice p9 m9 m9) ∧ W'.cell? ⟨gsz, 2, none⟩ = some (.int .i64 e) ∧ W'.cell? ⟨ghi, 0, none⟩ = some (.bool s16) ∧ W'.cell? ⟨ghi, 1, none⟩ = some (.slice p16 m16 m16) ∧ W'.cell? ⟨ghi, 2, none⟩ = some (.int .i64 e16)) v18) := ⟨Xlo.out.c0, Xlo.out.c1, Xlo.out.c2, Xsz.out.c0, Xsz.out.c1, Xsz.out.c2, Xhi.out.c0, Xhi.out.c1, Xhi.out.c2⟩
              refine hK _ _ HJ.out ?_
              clear hK
              refine wpJ_take (i := 6) (v := ?v23x6) rfl (by kernel_rfl) (by kernel_rfl) (by kernel_rfl) (fun _ _ _ h => h) (by kernel_rfl) ?hy23x6 HJ.out ?rest23x6
              case hy23x6 => (intro W' hJ; obtain ⟨j0, j1, j2, j3, j4, j5, j6, j7, j8⟩ := hJ; go_simp; first | done | with_reducible rfl)
              refine wpJ_take (i := 7) (v := ?v24x7) rfl (by kernel_rfl) (by kernel_rfl) (by kernel_rfl) (fun _ _ _ h => h) (by kernel_rfl) ?hy24x7 HJ.out ?rest24x7
              case hy24x7 => (intro W' hJ; obtain ⟨j0, j1, j2, j3, j4, j5, j6, j7, j8⟩ := hJ; go_simp; first | done | with_reducible rfl)
              refine wpJ_done (by kernel_rfl) ?_ _
              clear HJ
              go_wp2_with fail
              go_ret
              exact ⟨rfl, hbw⟩
            · have HC1 : Hid (dv z15 e15 = dv X1 e) := h1
              have HC2 : Hid (dv X1 e = dv z16 e16) := h2
              clear h1 h2
              obtain ⟨W17, hW17⟩ : ∃ W1, W1 = Whi.drew := ⟨_, rfl⟩
              have hbd : Below Whi.heap.size Whi W17 := by rw [hW17]; exact bDrew1 (Below.refl _ _)
              replace Xa : Hid _ := Xa.out.below hbd
              replace Xsz : Hid _ := Xsz.out.below hbd
              replace Xs : Hid _ := Xs.out.below hbd
              replace Xlo : Hid _ := Xlo.out.below hbd
              replace Xhi : Hid _ := Xhi.out.below hbd
              replace DS : Hid _ := DS.out.below hbd
              replace D15 : Hid _ := D15.out.below hbd
              replace D16 : Hid _ := D16.out.below hbd
              replace hbw := Below.on hbw hbd
              clear hbd
              have HJ : Hid ((fun W' : World => W'.cell? ⟨glo, 0, none⟩ = some (.bool s15) ∧ W'.cell? ⟨glo, 1, none⟩ = some (.slice p15 m15 m15) ∧ W'.cell? ⟨glo, 2, none⟩ = some (.int .i64 e15) ∧ W'.cell? ⟨gsz, 0, none⟩ = some (.bool s9) ∧ W'.cell? ⟨gsz, 1, none⟩ = some (.slice p9 m9 m9) ∧ W'.cell? ⟨gsz, 2, none⟩ = some (.int .i64 e) ∧ W'.cell? ⟨ghi, 0, none⟩ = some (.bool s16) ∧ W'.cell? ⟨ghi, 1, none⟩ = some (.slice p16 m16 m16) ∧ W'.cell? ⟨ghi, 2, none⟩ = some (.int .i64 e16)) W17) := ⟨Xlo.out.c0, Xlo.out.c1, Xlo.out.c2, Xsz.out.c0, Xsz.out.c1, Xsz.out.c2, Xhi.out.c0, Xhi.out.c1, Xhi.out.c2⟩
              refine wp_region_J (fun W' => W'.cell? ⟨glo, 0, none⟩ = some (.bool s15) ∧ W'.cell? ⟨glo, 1, none⟩ = some (.slice p15 m15 m15) ∧ W'.cell? ⟨glo, 2, none⟩ = some (.int .i64 e15) ∧ W'.cell? ⟨gsz, 0, none⟩ = some (.bool s9) ∧ W'.cell? ⟨gsz, 1, none⟩ = some (.slice p9 m9 m9) ∧ W'.cell? ⟨gsz, 2, none⟩ = some (.int .i64 e) ∧ W'.cell? ⟨ghi, 0, none⟩ = some (.bool s16) ∧ W'.cell? ⟨ghi, 1, none⟩ = some (.slice p16 m16 m16) ∧ W'.cell? ⟨ghi, 2, none⟩ = some (.int .i64 e16)) (by kernel_rfl) ?_
              rw [← hW17]
              clear hW17
              refine wpJ_take (i := 0) (v := ?v25x0) rfl (by kernel_rfl) (by kernel_rfl) (by kernel_rfl) (fun _ _ _ h => h) (by kernel_rfl) ?hy25x0 HJ.out ?rest25x0
              case hy25x0 => (intro W' hJ; obtain ⟨j0, j1, j2, j3, j4, j5, j6, j7, j8⟩ := hJ; go_simp; first | done | with_reducible rfl)
              refine wpJ_take (i := 1) (v := ?v26x1) rfl (by kernel_rfl) (by kernel_rfl) (by kernel_rfl) (fun _ _ _ h => h) (by kernel_rfl) ?hy26x1 HJ.out ?rest26x1
              case hy26x1 => (intro W' hJ; obtain ⟨j0, j1, j2, j3, j4, j5, j6, j7, j8⟩ := hJ; go_simp; first | done | with_reducible rfl)
              refine wpJ_take (i := 3) (v := ?v27x3) rfl (by kernel_rfl) (by kernel_rfl) (by kernel_rfl) (fun _ _ _ h => h) (by kernel_rfl) ?hy27x3 HJ.out ?rest27x3
              case hy27x3 => (intro W' hJ; obtain ⟨j0, j1, j2, j3, j4, j5, j6, j7, j8⟩ := hJ; go_simp; first | done | with_reducible rfl)
              refine wpJ_take (i := 4) (v := ?v28x4) rfl (by kernel_rfl) (by kernel_rfl) (by kernel_rfl) (fun _ _ _ h => h) (by kernel_rfl) ?hy28x4 HJ.out ?rest28x4
              case hy28x4 => (intro W' hJ; obtain ⟨j0, j1, j2, j3, j4, j5, j6, j7, j8⟩ := hJ; go_simp; first | done | with_reducible rfl)
              refine wpJ_one (i := 2) (by kernel_rfl) rfl (by kernel_rfl) (fun KJ hK => ?_)
              go_simp
              refine (at8 D15.out DS.out).mono ?_
              rintro e v17 ⟨rfl, hb17⟩
              rw [cmp_e HC1.out]
              replace Xa : Hid _ := Xa.out.below hb17
              replace Xsz : Hid _ := Xsz.out.below hb17
              replace Xs : Hid _ := Xs.out.below hb17
              replace Xlo : Hid _ := Xlo.out.below hb17
              replace Xhi : Hid _ := Xhi.out.below hb17
              replace DS : Hid _ := DS.out.below hb17
              replace D15 : Hid _ := D15.out.below hb17
              replace D16 : Hid _ := D16.out.below hb17
              replace hbw := Below.on hbw hb17
              clear hb17
              refine hK _ _ ⟨Xlo.out.c0, Xlo.out.c1, Xlo.out.c2, Xsz.out.c0, Xsz.out.c1, Xsz.out.c2, Xhi.out.c0, Xhi.out.c1, Xhi.out.c2⟩ ?_
              clear hK
              refine wpJ_one (i := 5) (by kernel_rfl) rfl (by kernel_rfl) (fun KJ hK => ?_)
              go_simp
              refine (at8 DS.out D16.out).mono ?_
              rintro e v18 ⟨rfl, hb18⟩
              rw [cmp_e HC2.out]
              replace Xa : Hid _ := Xa.out.below hb18
              replace Xsz : Hid _ := Xsz.out.below hb18
              replace Xs : Hid _ := Xs.out.below hb18
              replace Xlo : Hid _ := Xlo.out.below hb18
              replace Xhi : Hid _ := Xhi.out.below hb18
              replace DS : Hid _ := DS.out.below hb18
              replace D15 : Hid _ := D15.out.below hb18
              replace D16 : Hid _ := D16.out.below hb18
              replace hbw := Below.on hbw hb18
              clear hb18
              clear HJ
              have HJ : Hid ((fun W' : World => W'.cell? ⟨glo, 0, none⟩ = some (.bool s15) ∧ W'.cell? ⟨glo, 1, none⟩ = some (.slice p15 m15 m15) ∧ W'.cell? ⟨glo, 2, none⟩ = some (.int .i64 e15) ∧ W'.cell? ⟨gsz, 0, none⟩ = some (.bool s9) ∧ W'.cell? ⟨gsz, 1, none⟩ = some (.slice p9 m9 m9) ∧ W'.cell? ⟨gsz, 2, none⟩ = some (.int .i64 e) ∧ W'.cell? ⟨ghi, 0, none⟩ = some (.bool s16) ∧ W'.cell? ⟨ghi, 1, none⟩ = some (.slice p16 m16 m16) ∧ W'.cell? ⟨ghi, 2, none⟩ = some (.int .i64 e16)) v18) := ⟨Xlo.out.c0, Xlo.out.c1, Xlo.out.c2, Xsz.out.c0, Xsz.out.c1, Xsz.out.c2, Xhi.out.c0, Xhi.out.c1, Xhi.out.c2⟩
              refine hK _ _ HJ.out ?_
              clear hK
              refine wpJ_take (i := 6) (v := ?v29x6) rfl (by kernel_rfl) (by kernel_rfl) (by kernel_rfl) (fun _ _ _ h => h) (by kernel_rfl) ?hy29x6 HJ.out ?rest29x6
              case hy29x6 => (intro W' hJ; obtain ⟨j0, j1, j2, j3, j4, j5, j6, j7, j8⟩ := hJ; go_simp; first | done | with_reducible rfl)
              refine wpJ_take (i := 7) (v := ?v30x7) rfl (by kernel_rfl) (by kernel_rfl) (by kernel_rfl) (fun _ _ _ h => h) (by kernel_rfl) ?hy30x7 HJ.out ?rest30x7
              case hy30x7 => (intro W' hJ; obtain ⟨j0, j1, j2, j3, j4, j5, j6, j7, j8⟩ := hJ; go_simp; first | done | with_reducible rfl)
              refine wpJ_done (by kernel_rfl) ?_ _
              clear HJ
              go_wp2_with fail
              go_ret
              exact ⟨rfl, hbw⟩
        · refine (hN _ HRS.out.1).mono ?_
          rintro e2 v13 ⟨rfl, hb13⟩
          rw [decide_eq_false h1, decide_eq_false h2]
          clear hN h1 h2
          replace Xa : Hid _ := Xa.out.below hb13
          replace Xsz : Hid _ := Xsz.out.below hb13
          replace DS : Hid _ := DS.out.below hb13
          replace hbw := Below.on hbw hb13
          clear hb13
          obtain ⟨csz0, csz1, csz2, fsz0, fsz1, fsz2⟩ := Xsz.out
          have hnesz : gsz < v13.heap.size := World.block_lt_of_cell? v13 _ csz0
          go_wp2_with fail
          clear csz0 csz1 csz2 fsz0 fsz1 fsz2 hnesz
          go_ret
          exact ⟨rfl, hbw⟩
    · have HX0 : Hid (x = 0) := h0
      have HZ0 : Hid (zo = 0) := by
        have h9 := HV7.out
        rw [h0, Int.zero_mul, dv_zero] at h9
        exact dv_eq_zero h9
      clear h0
      have hs := HDA.out.zn.sg
      rw [HX0.out, show decide ((0 : Int) < 0) = false from rfl] at hs
      subst hs
      refine (root_z HJN.out HMD.out D7.out (len_db D7.out HB7.out (by decide)) (TB.out.below hbw) HZ0.out).mono ?_
      rintro e v8 ⟨rfl, hb8⟩
      replace Xa : Hid _ := Xa.out.below hb8
      replace Xp : Hid _ := Xp.out.below hb8
      replace D7 : Hid _ := D7.out.below hb8
      replace hbw := Below.on hbw hb8
      clear hb8
      clear D7
      obtain ⟨ca0, ca1, ca2, fa0, fa1, fa2⟩ := Xa.out
      have hnea : ga < v8.heap.size := World.block_lt_of_cell? v8 _ ca0
      go_wp2_with fail
      clear ca0 ca1 ca2 fa0 fa1 fa2 hnea
      clear Xp
      have HDa : Hid (ga ≠ v8.heap.size) := Nat.ne_of_lt Xa.out.lt
      have Xsz0 : Hid (B3q (v8.alloc (.cells #[.bool false, .slice pa na ca, .int .i64 e] 34)) v8.heap.size (.bool false) (.slice pa na ca) (.int .i64 e)) := B3q.new v8 _ _ _ _
      have hbn : Below v8.heap.size v8 (v8.alloc (.cells #[.bool false, .slice pa na ca, .int .i64 e] 34)) := below1 v8 _
      generalize v8.alloc (.cells #[.bool false, .slice pa na ca, .int .i64 e] 34) = Wz at *
      have HGsz : Hid (w.heap.size ≤ v8.heap.size) := hbw.size
      replace Xa : Hid _ := Xa.out.below hbn
      replace hbw := Below.on hbw hbn
      clear hbn
      generalize v8.heap.size = gsz at *
      have Xsz := Xsz0
      clear Xsz0
      have DS : Hid (DN Wz false pa na ca e x) := HDA.out.below hbw
      refine (rnearest HJN.out DS.out (TB.out.below hbw)).mono ?_
      rintro e v11 ⟨rfl, hb11⟩
      rw [show rnp l sd Be S I x e = 0 from by unfold rnp; rw [if_pos HX0.out]]
      replace Xa : Hid _ := Xa.out.below hb11
      replace Xsz : Hid _ := Xsz.out.below hb11
      replace DS : Hid _ := DS.out.below hb11
      replace hbw := Below.on hbw hb11
      clear hb11
      obtain ⟨csz0, csz1, csz2, fsz0, fsz1, fsz2⟩ := Xsz.out
      have hnesz : gsz < v11.heap.size := World.block_lt_of_cell? v11 _ csz0
      go_wp2_with fail
      clear csz0 csz1 csz2 fsz0 fsz1 fsz2 hnesz
      refine (root_z HJN.out HMD.out DS.out HNA.out (TB.out.below hbw) HX0.out).mono ?_
      rintro e v12 ⟨rfl, hb12⟩
      replace Xa : Hid _ := Xa.out.below hb12
      replace Xsz : Hid _ := Xsz.out.below hb12
      replace DS : Hid _ := DS.out.below hb12
      replace hbw := Below.on hbw hb12
      clear hb12
      obtain ⟨csz0, csz1, csz2, fsz0, fsz1, fsz2⟩ := Xsz.out
      have hnesz : gsz < v12.heap.size := World.block_lt_of_cell? v12 _ csz0
      go_wp2_with fail
      clear csz0 csz1 csz2 fsz0 fsz1 fsz2 hnesz
      have hN := HLW.out.fin 0
      rw [Nat.zero_mod, decide_eq_true (show (0 : Nat) = 0 from rfl), decide_eq_true (show 0 < I by have := HJN.out.jm.pm.fm.pos; omega)] at hN
      refine (hN _ (by have := HJN.out.jm.pm.fm.lt; omega)).mono ?_
      rintro e2 v13 ⟨rfl, hb13⟩
      clear hN
      replace Xa : Hid _ := Xa.out.below hb13
      replace Xsz : Hid _ := Xsz.out.below hb13
      replace DS : Hid _ := DS.out.below hb13
      replace hbw := Below.on hbw hb13
      clear hb13
      obtain ⟨csz0, csz1, csz2, fsz0, fsz1, fsz2⟩ := Xsz.out
      have hnesz : gsz < v13.heap.size := World.block_lt_of_cell? v13 _ csz0
      go_wp2_with fail
      clear csz0 csz1 csz2 fsz0 fsz1 fsz2 hnesz
      go_ret
      exact ⟨rfl, hbw⟩
    · have HX0 : Hid (x > 0) := h0
      obtain ⟨hz1, hz2⟩ := prod_form HBA.out HBA.out (show x ≠ 0 by omega) (show x ≠ 0 by omega) (by decide) HB7.out.fm HV7.out
      subst hz1
      subst hz2
      have HZ0 : Hid (x * x > 0) := Int.mul_pos h0 h0
      have hs := HDA.out.zn.sg
      rw [decide_eq_false (show ¬ x < 0 by omega)] at hs
      clear h0
      subst hs
      obtain ⟨X1, hX1⟩ : ∃ X1 : Int, X1 = x := ⟨_, rfl⟩
      have HX1 : Hid (X1 = x) := hX1
      clear hX1
      obtain ⟨wt, hwt⟩ : ∃ wt, wt = rnp l sd Be S I X1 e := ⟨_, rfl⟩
      have HWT : Hid (rnp l sd Be S I X1 e = wt) := hwt.symm
      clear hwt
      refine (root_n HJN.out HMD.out D7.out (len_db D7.out HB7.out (by decide)) (TB.out.below hbw) HZ0.out).mono ?_
      rintro e2 v8 ⟨Z8, V8, rfl, k2, k3, hb8⟩
      obtain rfl : Z8 = wt := (root_back HJN.out (by have := HBA.out.lo; omega) (by have := HX1.out; have := HX0.out; omega) k2 k3).trans HWT.out
      clear k2 k3
      replace Xa : Hid _ := Xa.out.below hb8
      replace Xp : Hid _ := Xp.out.below hb8
      replace D7 : Hid _ := D7.out.below hb8
      replace hbw := Below.on hbw hb8
      clear hb8
      clear D7
      obtain ⟨ca0, ca1, ca2, fa0, fa1, fa2⟩ := Xa.out
      have hnea : ga < v8.heap.size := World.block_lt_of_cell? v8 _ ca0
      go_wp2_with fail
      clear ca0 ca1 ca2 fa0 fa1 fa2 hnea
      clear Xp
      have HDa : Hid (ga ≠ v8.heap.size) := Nat.ne_of_lt Xa.out.lt
      have Xsz0 : Hid (B3q (v8.alloc (.cells #[.bool false, .slice pa na ca, .int .i64 e] 34)) v8.heap.size (.bool false) (.slice pa na ca) (.int .i64 e)) := B3q.new v8 _ _ _ _
      have hbn : Below v8.heap.size v8 (v8.alloc (.cells #[.bool false, .slice pa na ca, .int .i64 e] 34)) := below1 v8 _
      generalize v8.alloc (.cells #[.bool false, .slice pa na ca, .int .i64 e] 34) = Wz at *
      have HGsz : Hid (w.heap.size ≤ v8.heap.size) := hbw.size
      replace Xa : Hid _ := Xa.out.below hbn
      replace hbw := Below.on hbw hbn
      clear hbn
      generalize v8.heap.size = gsz at *
      have Xsz := Xsz0
      clear Xsz0
      have DS : Hid (DN Wz false pa na ca e X1) := by rw [HX1.out]; exact HDA.out.below hbw
      refine (rnearest HJN.out DS.out (TB.out.below hbw)).mono ?_
      rintro e v11 ⟨rfl, hb11⟩
      rw [HWT.out]
      replace Xa : Hid _ := Xa.out.below hb11
      replace Xsz : Hid _ := Xsz.out.below hb11
      replace DS : Hid _ := DS.out.below hb11
      replace hbw := Below.on hbw hb11
      clear hb11
      obtain ⟨csz0, csz1, csz2, fsz0, fsz1, fsz2⟩ := Xsz.out
      have hnesz : gsz < v11.heap.size := World.block_lt_of_cell? v11 _ csz0
      go_wp2_with fail
      clear csz0 csz1 csz2 fsz0 fsz1 fsz2 hnesz
      have HXP : Hid (0 < X1) := by have := HX1.out; have := HX0.out; show 0 < X1; omega
      have HNS : Hid (na ≤ 4096) := HNA.out
      refine (root_n HJN.out HMD.out DS.out HNS.out (TB.out.below hbw) HXP.out).mono ?_
      rintro e2 v12 ⟨r, Vr, rfl, k2, k3, hb12⟩
      have HR : Hid (RNz H l I Vr r ∧ Mk H l I (fun τ => τ * τ) ((X1.natAbs : Int) * ((2 ^ (e + 2 * 4194304).toNat : Nat) : Int)) Vr) := ⟨k2, k3⟩
      have HRS : Hid (r < 2 * S ∧ r % S = r ∧ decide (S ≤ r) = false ∧ r ≤ I) := by
        have := HJN.out.jm.pm.fm.lt
        have := k2.le
        exact ⟨by omega, Nat.mod_eq_of_lt (by omega), decide_eq_false (by omega), k2.le⟩
      clear k2 k3
      replace Xa : Hid _ := Xa.out.below hb12
      replace Xsz : Hid _ := Xsz.out.below hb12
      replace DS : Hid _ := DS.out.below hb12
      replace hbw := Below.on hbw hb12
      clear hb12
      obtain ⟨csz0, csz1, csz2, fsz0, fsz1, fsz2⟩ := Xsz.out
      have hnesz : gsz < v12.heap.size := World.block_lt_of_cell? v12 _ csz0
      go_wp2_with fail
      clear csz0 csz1 csz2 fsz0 fsz1 fsz2 hnesz
      have hN := HLW.out.fin r
      rw [HRS.out.2.1] at hN
      by_cases h1 : r = 0
      · refine (hN _ HRS.out.1).mono ?_
        rintro e2 v13 ⟨rfl, hb13⟩
        rw [decide_eq_true h1, decide_eq_true (show r < I by have := HJN.out.jm.pm.fm.pos; omega)]
        clear hN h1
        replace Xa : Hid _ := Xa.out.below hb13
        replace Xsz : Hid _ := Xsz.out.below hb13
        replace DS : Hid _ := DS.out.below hb13
        replace hbw := Below.on hbw hb13
        clear hb13
        obtain ⟨csz0, csz1, csz2, fsz0, fsz1, fsz2⟩ := Xsz.out
        have hnesz : gsz < v13.heap.size := World.block_lt_of_cell? v13 _ csz0
        go_wp2_with fail
        clear csz0 csz1 csz2 fsz0 fsz1 fsz2 hnesz
        go_ret
        exact ⟨rfl, hbw⟩
      · by_cases h2 : r < I
        · refine (hN _ HRS.out.1).mono ?_
          rintro e2 v13 ⟨rfl, hb13⟩
          rw [decide_eq_false h1, decide_eq_true h2]
          have HRI : Hid (r ≠ 0 ∧ r < I) := ⟨h1, h2⟩
          clear hN h1 h2
          replace Xa : Hid _ := Xa.out.below hb13
          replace Xsz : Hid _ := Xsz.out.below hb13
          replace DS : Hid _ := DS.out.below hb13
          replace hbw := Below.on hbw hb13
          clear hb13
          obtain ⟨csz0, csz1, csz2, fsz0, fsz1, fsz2⟩ := Xsz.out
          have hnesz : gsz < v13.heap.size := World.block_lt_of_cell? v13 _ csz0
          go_wp2_with fail
          clear csz0 csz1 csz2 fsz0 fsz1 fsz2 hnesz
          refine (cell_ok HJN.out r HRS.out.1 (by rw [HRS.out.2.1]; exact HRI.out.1) (by rw [HRS.out.2.1]; exact HRI.out.2) _ (TB.out.below hbw)).mono ?_
          rintro e2 v14 ⟨s1, p1, m1, z1, e1, s2, p2, m2, z2, e2', rfl, hd1, hd2, hv1, hv2, hb14⟩
          have hb1 := (lo_db HJN.out (by rw [HRS.out.2.1]; exact HRI.out.2) hd1.fm hv1).1
          have hb2 := (hi_db HJN.out (by rw [HRS.out.2.1]; exact HRI.out.2) hd2.fm hv2).1
          rw [HRS.out.2.1, HRS.out.2.2.1] at hv1 hv2
          have HC : Hid (DB z1 e1 56 1100 ∧ DB z2 e2' 56 1100 ∧ dv z1 e1 = cLo H l false r ∧ dv z2 e2' = cHi H l false r) := ⟨hb1, hb2, hv1, hv2⟩
          obtain ⟨pr, hpr⟩ : ∃ pr, pr = decide (r % 2 = 0) := ⟨_, rfl⟩
          rw [← hpr]
          have HPR : Hid (pr = decide (r % 2 = 0)) := hpr
          replace Xa : Hid _ := Xa.out.below hb14
          replace Xsz : Hid _ := Xsz.out.below hb14
          replace DS : Hid _ := DS.out.below hb14
          replace hbw := Below.on hbw hb14
          clear hb14
          have C1 : Hid (DN v14 s1 p1 m1 m1 e1 z1) := hd1.dn
          have C2 : Hid (DN v14 s2 p2 m2 m2 e2' z2) := hd2.dn
          clear hd1 hd2 hv1 hv2 hb1 hb2 hpr
          obtain ⟨csz0, csz1, csz2, fsz0, fsz1, fsz2⟩ := Xsz.out
          have hnesz : gsz < v14.heap.size := World.block_lt_of_cell? v14 _ csz0
          go_wp2_with fail
          clear csz0 csz1 csz2 fsz0 fsz1 fsz2 hnesz
          have Xs0 : Hid (B6q (v14.alloc (.cells #[.bool s1, .slice p1 m1 m1, .int .i64 e1, .bool s2, .slice p2 m2 m2, .int .i64 e2'] 66)) v14.heap.size (.bool s1) (.slice p1 m1 m1) (.int .i64 e1) (.bool s2) (.slice p2 m2 m2) (.int .i64 e2')) := B6q.new v14 _ _ _ _ _ _ _
          have hbn : Below v14.heap.size v14 (v14.alloc (.cells #[.bool s1, .slice p1 m1 m1, .int .i64 e1, .bool s2, .slice p2 m2 m2, .int .i64 e2'] 66)) := below1 v14 _
          generalize v14.alloc (.cells #[.bool s1, .slice p1 m1 m1, .int .i64 e1, .bool s2, .slice p2 m2 m2, .int .i64 e2'] 66) = Wc at *
          have HGs : Hid (w.heap.size ≤ v14.heap.size) := hbw.size
          replace Xa : Hid _ := Xa.out.below hbn
          replace Xsz : Hid _ := Xsz.out.below hbn
          replace DS : Hid _ := DS.out.below hbn
          replace C1 : Hid _ := C1.out.below hbn
          replace C2 : Hid _ := C2.out.below hbn
          replace hbw := Below.on hbw hbn
          clear hbn
          generalize v14.heap.size = gs at *
          have Xs := Xs0
          clear Xs0
          refine (dmul_b C1.out C1.out HC.out.1 HC.out.1 (by decide) (by decide) (TB.out.below hbw)).mono ?_
          rintro e2 v15 ⟨v, z15, e15, rfl, hv, hdb, hdv, hb15⟩
          obtain ⟨s15, p15, m15, rfl, hd15⟩ := hv.dn hdb.fm
          clear hv
          replace Xa : Hid _ := Xa.out.below hb15
          replace Xsz : Hid _ := Xsz.out.below hb15
          replace Xs : Hid _ := Xs.out.below hb15
          replace DS : Hid _ := DS.out.below hb15
          replace C1 : Hid _ := C1.out.below hb15
          replace C2 : Hid _ := C2.out.below hb15
          replace hbw := Below.on hbw hb15
          clear hb15
          have D15 : Hid (DN v15 s15 p15 m15 m15 e15 z15) := hd15
          have HV15 : Hid (dv z15 e15 = dv (z1 * z1) (e1 + e1)) := hdv
          clear hd15 hdb hdv
          obtain ⟨csz0, csz1, csz2, fsz0, fsz1, fsz2⟩ := Xsz.out
          have hnesz : gsz < v15.heap.size := World.block_lt_of_cell? v15 _ csz0
          obtain ⟨cs0, cs1, cs2, cs3, cs4, cs5, fs0, fs1, fs2, fs3, fs4, fs5⟩ := Xs.out
          have hnes : gs < v15.heap.size := World.block_lt_of_cell? v15 _ cs0
          go_wp2_with fail
          clear csz0 csz1 csz2 fsz0 fsz1 fsz2 hnesz
          clear cs0 cs1 cs2 cs3 cs4 cs5 fs0 fs1 fs2 fs3 fs4 fs5 hnes
          have Xlo0 : Hid (B3q (v15.alloc (.cells #[.bool s15, .slice p15 m15 m15, .int .i64 e15] 34)) v15.heap.size (.bool s15) (.slice p15 m15 m15) (.int .i64 e15)) := B3q.new v15 _ _ _ _
          have hbn : Below v15.heap.size v15 (v15.alloc (.cells #[.bool s15, .slice p15 m15 m15, .int .i64 e15] 34)) := below1 v15 _
          generalize v15.alloc (.cells #[.bool s15, .slice p15 m15 m15, .int .i64 e15] 34) = Wlo at *
          have HGlo : Hid (w.heap.size ≤ v15.heap.size) := hbw.size
          replace Xa : Hid _ := Xa.out.below hbn
          replace Xsz : Hid _ := Xsz.out.below hbn
          replace Xs : Hid _ := Xs.out.below hbn
          replace DS : Hid _ := DS.out.below hbn
          replace C1 : Hid _ := C1.out.below hbn
          replace C2 : Hid _ := C2.out.below hbn
          replace D15 : Hid _ := D15.out.below hbn
          replace hbw := Below.on hbw hbn
          clear hbn
          generalize v15.heap.size = glo at *
          have Xlo := Xlo0
          clear Xlo0
          refine (dmul_b C2.out C2.out HC.out.2.1 HC.out.2.1 (by decide) (by decide) (TB.out.below hbw)).mono ?_
          rintro e2 v16 ⟨v, z16, e16, rfl, hv, hdb, hdv, hb16⟩
          obtain ⟨s16, p16, m16, rfl, hd16⟩ := hv.dn hdb.fm
          clear hv
          replace Xa : Hid _ := Xa.out.below hb16
          replace Xsz : Hid _ := Xsz.out.below hb16
          replace Xs : Hid _ := Xs.out.below hb16
          replace Xlo : Hid _ := Xlo.out.below hb16
          replace DS : Hid _ := DS.out.below hb16
          replace C1 : Hid _ := C1.out.below hb16
          replace C2 : Hid _ := C2.out.below hb16
          replace D15 : Hid _ := D15.out.below hb16
          replace hbw := Below.on hbw hb16
          clear hb16
          have D16 : Hid (DN v16 s16 p16 m16 m16 e16 z16) := hd16
          have HV16 : Hid (dv z16 e16 = dv (z2 * z2) (e2' + e2')) := hdv
          clear hd16 hdb hdv
          obtain ⟨csz0, csz1, csz2, fsz0, fsz1, fsz2⟩ := Xsz.out
          have hnesz : gsz < v16.heap.size := World.block_lt_of_cell? v16 _ csz0
          obtain ⟨cs0, cs1, cs2, cs3, cs4, cs5, fs0, fs1, fs2, fs3, fs4, fs5⟩ := Xs.out
          have hnes : gs < v16.heap.size := World.block_lt_of_cell? v16 _ cs0
          go_wp2_with fail
          clear csz0 csz1 csz2 fsz0 fsz1 fsz2 hnesz
          clear cs0 cs1 cs2 cs3 cs4 cs5 fs0 fs1 fs2 fs3 fs4 fs5 hnes
          have Xhi0 : Hid (B3q (v16.alloc (.cells #[.bool s16, .slice p16 m16 m16, .int .i64 e16] 34)) v16.heap.size (.bool s16) (.slice p16 m16 m16) (.int .i64 e16)) := B3q.new v16 _ _ _ _
          have hbn : Below v16.heap.size v16 (v16.alloc (.cells #[.bool s16, .slice p16 m16 m16, .int .i64 e16] 34)) := below1 v16 _
          generalize v16.alloc (.cells #[.bool s16, .slice p16 m16 m16, .int .i64 e16] 34) = Whi at *
          have HGhi : Hid (w.heap.size ≤ v16.heap.size) := hbw.size
          replace Xa : Hid _ := Xa.out.below hbn
          replace Xsz : Hid _ := Xsz.out.below hbn
          replace Xs : Hid _ := Xs.out.below hbn
          replace Xlo : Hid _ := Xlo.out.below hbn
          replace DS : Hid _ := DS.out.below hbn
          replace C1 : Hid _ := C1.out.below hbn
          replace C2 : Hid _ := C2.out.below hbn
          replace D15 : Hid _ := D15.out.below hbn
          replace D16 : Hid _ := D16.out.below hbn
          replace hbw := Below.on hbw hbn
          clear hbn
          generalize v16.heap.size = ghi at *
          have Xhi := Xhi0
          clear Xhi0
          have HIN : Hid (dv z15 e15 ≤ dv X1 e ∧ dv X1 e ≤ dv z16 e16 ∧ (r % 2 = 1 → dv z15 e15 < dv X1 e ∧ dv X1 e < dv z16 e16)) := root_cell HXP.out (by have := HBA.out.lo; omega) HR.out.1 HRI.out.1 HRI.out.2 HR.out.2 (by have := HC.out.1.lo; omega) (by have := HC.out.2.1.lo; omega) HC.out.2.2.1 HC.out.2.2.2 HV15.out HV16.out
          cases pr
          clear C1
          clear C2
          · have hst := HIN.out.2.2 (by have h9 : ¬ r % 2 = 0 := of_decide_eq_false HPR.out.symm; omega)
            have HC1 : Hid (dv z15 e15 < dv X1 e) := hst.1
            have HC2 : Hid (dv X1 e < dv z16 e16) := hst.2
            clear hst
            obtain ⟨W17, hW17⟩ : ∃ W1, W1 = Whi.drew := ⟨_, rfl⟩
            have hbd : Below Whi.heap.size Whi W17 := by rw [hW17]; exact bDrew1 (Below.refl _ _)
            replace Xa : Hid _ := Xa.out.below hbd
            replace Xsz : Hid _ := Xsz.out.below hbd
            replace Xs : Hid _ := Xs.out.below hbd
            replace Xlo : Hid _ := Xlo.out.below hbd
            replace Xhi : Hid _ := Xhi.out.below hbd
            replace DS : Hid _ := DS.out.below hbd
            replace D15 : Hid _ := D15.out.below hbd
            replace D16 : Hid _ := D16.out.below hbd
            replace hbw := Below.on hbw hbd
            clear hbd
            have HJ : Hid ((fun W' : World => W'.cell? ⟨glo, 0, none⟩ = some (.bool s15) ∧ W'.cell? ⟨glo, 1, none⟩ = some (.slice p15 m15 m15) ∧ W'.cell? ⟨glo, 2, none⟩ = some (.int .i64 e15) ∧ W'.cell? ⟨gsz, 0, none⟩ = some (.bool false) ∧ W'.cell? ⟨gsz, 1, none⟩ = some (.slice pa na ca) ∧ W'.cell? ⟨gsz, 2, none⟩ = some (.int .i64 e) ∧ W'.cell? ⟨ghi, 0, none⟩ = some (.bool s16) ∧ W'.cell? ⟨ghi, 1, none⟩ = some (.slice p16 m16 m16) ∧ W'.cell? ⟨ghi, 2, none⟩ = some (.int .i64 e16)) W17) := ⟨Xlo.out.c0, Xlo.out.c1, Xlo.out.c2, Xsz.out.c0, Xsz.out.c1, Xsz.out.c2, Xhi.out.c0, Xhi.out.c1, Xhi.out.c2⟩
            refine wp_region_J (fun W' => W'.cell? ⟨glo, 0, none⟩ = some (.bool s15) ∧ W'.cell? ⟨glo, 1, none⟩ = some (.slice p15 m15 m15) ∧ W'.cell? ⟨glo, 2, none⟩ = some (.int .i64 e15) ∧ W'.cell? ⟨gsz, 0, none⟩ = some (.bool false) ∧ W'.cell? ⟨gsz, 1, none⟩ = some (.slice pa na ca) ∧ W'.cell? ⟨gsz, 2, none⟩ = some (.int .i64 e) ∧ W'.cell? ⟨ghi, 0, none⟩ = some (.bool s16) ∧ W'.cell? ⟨ghi, 1, none⟩ = some (.slice p16 m16 m16) ∧ W'.cell? ⟨ghi, 2, none⟩ = some (.int .i64 e16)) (by kernel_rfl) ?_
            rw [← hW17]
            clear hW17
            refine wpJ_take (i := 0) (v := ?v31x0) rfl (by kernel_rfl) (by kernel_rfl) (by kernel_rfl) (fun _ _ _ h => h) (by kernel_rfl) ?hy31x0 HJ.out ?rest31x0
            case hy31x0 => (intro W' hJ; obtain ⟨j0, j1, j2, j3, j4, j5, j6, j7, j8⟩ := hJ; go_simp; first | done | with_reducible rfl)
            refine wpJ_take (i := 1) (v := ?v32x1) rfl (by kernel_rfl) (by kernel_rfl) (by kernel_rfl) (fun _ _ _ h => h) (by kernel_rfl) ?hy32x1 HJ.out ?rest32x1
            case hy32x1 => (intro W' hJ; obtain ⟨j0, j1, j2, j3, j4, j5, j6, j7, j8⟩ := hJ; go_simp; first | done | with_reducible rfl)
            refine wpJ_take (i := 3) (v := ?v33x3) rfl (by kernel_rfl) (by kernel_rfl) (by kernel_rfl) (fun _ _ _ h => h) (by kernel_rfl) ?hy33x3 HJ.out ?rest33x3
            case hy33x3 => (intro W' hJ; obtain ⟨j0, j1, j2, j3, j4, j5, j6, j7, j8⟩ := hJ; go_simp; first | done | with_reducible rfl)
            refine wpJ_take (i := 4) (v := ?v34x4) rfl (by kernel_rfl) (by kernel_rfl) (by kernel_rfl) (fun _ _ _ h => h) (by kernel_rfl) ?hy34x4 HJ.out ?rest34x4
            case hy34x4 => (intro W' hJ; obtain ⟨j0, j1, j2, j3, j4, j5, j6, j7, j8⟩ := hJ; go_simp; first | done | with_reducible rfl)
            refine wpJ_one (i := 2) (by kernel_rfl) rfl (by kernel_rfl) (fun KJ hK => ?_)
            go_simp
            refine (at8 D15.out DS.out).mono ?_
            rintro e v17 ⟨rfl, hb17⟩
            rw [cmp_l HC1.out]
            replace Xa : Hid _ := Xa.out.below hb17
            replace Xsz : Hid _ := Xsz.out.below hb17
            replace Xs : Hid _ := Xs.out.below hb17
            replace Xlo : Hid _ := Xlo.out.below hb17
            replace Xhi : Hid _ := Xhi.out.below hb17
            replace DS : Hid _ := DS.out.below hb17
            replace D15 : Hid _ := D15.out.below hb17
            replace D16 : Hid _ := D16.out.below hb17
            replace hbw := Below.on hbw hb17
            clear hb17
            refine hK _ _ ⟨Xlo.out.c0, Xlo.out.c1, Xlo.out.c2, Xsz.out.c0, Xsz.out.c1, Xsz.out.c2, Xhi.out.c0, Xhi.out.c1, Xhi.out.c2⟩ ?_
            clear hK
            refine wpJ_one (i := 5) (by kernel_rfl) rfl (by kernel_rfl) (fun KJ hK => ?_)
            go_simp
            refine (at8 DS.out D16.out).mono ?_
            rintro e v18 ⟨rfl, hb18⟩
            rw [cmp_l HC2.out]
            replace Xa : Hid _ := Xa.out.below hb18
            replace Xsz : Hid _ := Xsz.out.below hb18
            replace Xs : Hid _ := Xs.out.below hb18
            replace Xlo : Hid _ := Xlo.out.below hb18
            replace Xhi : Hid _ := Xhi.out.below hb18
            replace DS : Hid _ := DS.out.below hb18
            replace D15 : Hid _ := D15.out.below hb18
            replace D16 : Hid _ := D16.out.below hb18
            replace hbw := Below.on hbw hb18
            clear hb18
            clear HJ
            have HJ : Hid ((fun W' : World => W'.cell? ⟨glo, 0, none⟩ = some (.bool s15) ∧ W'.cell? ⟨glo, 1, none⟩ = some (.slice p15 m15 m15) ∧ W'.cell? ⟨glo, 2, none⟩ = some (.int .i64 e15) ∧ W'.cell? ⟨gsz, 0, none⟩ = some (.bool false) ∧ W'.cell? ⟨gsz, 1, none⟩ = some (.slice pa na ca) ∧ W'.cell? ⟨gsz, 2, none⟩ = some (.int .i64 e) ∧ W'.cell? ⟨ghi, 0, none⟩ = some (.bool s16) ∧ W'.cell? ⟨ghi, 1, none⟩ = some (.slice p16 m16 m16) ∧ W'.cell? ⟨ghi, 2, none⟩ = some (.int .i64 e16)) v18) := ⟨Xlo.out.c0, Xlo.out.c1, Xlo.out.c2, Xsz.out.c0, Xsz.out.c1, Xsz.out.c2, Xhi.out.c0, Xhi.out.c1, Xhi.out.c2⟩
            refine hK _ _ HJ.out ?_
            clear hK
            refine wpJ_take (i := 6) (v := ?v35x6) rfl (by kernel_rfl) (by kernel_rfl) (by kernel_rfl) (fun _ _ _ h => h) (by kernel_rfl) ?hy35x6 HJ.out ?rest35x6
            case hy35x6 => (intro W' hJ; obtain ⟨j0, j1, j2, j3, j4, j5, j6, j7, j8⟩ := hJ; go_simp; first | done | with_reducible rfl)
            refine wpJ_take (i := 7) (v := ?v36x7) rfl (by kernel_rfl) (by kernel_rfl) (by kernel_rfl) (fun _ _ _ h => h) (by kernel_rfl) ?hy36x7 HJ.out ?rest36x7
            case hy36x7 => (intro W' hJ; obtain ⟨j0, j1, j2, j3, j4, j5, j6, j7, j8⟩ := hJ; go_simp; first | done | with_reducible rfl)
            refine wpJ_done (by kernel_rfl) ?_ _
            clear HJ
            go_wp2_with fail
            go_ret
            exact ⟨rfl, hbw⟩
          · rcases Int.lt_or_eq_of_le HIN.out.1 with h1 | h1 <;> rcases Int.lt_or_eq_of_le HIN.out.2.1 with h2 | h2
            · have HC1 : Hid (dv z15 e15 < dv X1 e) := h1
              have HC2 : Hid (dv X1 e < dv z16 e16) := h2
              clear h1 h2
              obtain ⟨W17, hW17⟩ : ∃ W1, W1 = Whi.drew := ⟨_, rfl⟩
              have hbd : Below Whi.heap.size Whi W17 := by rw [hW17]; exact bDrew1 (Below.refl _ _)
              replace Xa : Hid _ := Xa.out.below hbd
              replace Xsz : Hid _ := Xsz.out.below hbd
              replace Xs : Hid _ := Xs.out.below hbd
              replace Xlo : Hid _ := Xlo.out.below hbd
              replace Xhi : Hid _ := Xhi.out.below hbd
              replace DS : Hid _ := DS.out.below hbd
              replace D15 : Hid _ := D15.out.below hbd
              replace D16 : Hid _ := D16.out.below hbd
              replace hbw := Below.on hbw hbd
              clear hbd
              have HJ : Hid ((fun W' : World => W'.cell? ⟨glo, 0, none⟩ = some (.bool s15) ∧ W'.cell? ⟨glo, 1, none⟩ = some (.slice p15 m15 m15) ∧ W'.cell? ⟨glo, 2, none⟩ = some (.int .i64 e15) ∧ W'.cell? ⟨gsz, 0, none⟩ = some (.bool false) ∧ W'.cell? ⟨gsz, 1, none⟩ = some (.slice pa na ca) ∧ W'.cell? ⟨gsz, 2, none⟩ = some (.int .i64 e) ∧ W'.cell? ⟨ghi, 0, none⟩ = some (.bool s16) ∧ W'.cell? ⟨ghi, 1, none⟩ = some (.slice p16 m16 m16) ∧ W'.cell? ⟨ghi, 2, none⟩ = some (.int .i64 e16)) W17) := ⟨Xlo.out.c0, Xlo.out.c1, Xlo.out.c2, Xsz.out.c0, Xsz.out.c1, Xsz.out.c2, Xhi.out.c0, Xhi.out.c1, Xhi.out.c2⟩
              refine wp_region_J (fun W' => W'.cell? ⟨glo, 0, none⟩ = some (.bool s15) ∧ W'.cell? ⟨glo, 1, none⟩ = some (.slice p15 m15 m15) ∧ W'.cell? ⟨glo, 2, none⟩ = some (.int .i64 e15) ∧ W'.cell? ⟨gsz, 0, none⟩ = some (.bool false) ∧ W'.cell? ⟨gsz, 1, none⟩ = some (.slice pa na ca) ∧ W'.cell? ⟨gsz, 2, none⟩ = some (.int .i64 e) ∧ W'.cell? ⟨ghi, 0, none⟩ = some (.bool s16) ∧ W'.cell? ⟨ghi, 1, none⟩ = some (.slice p16 m16 m16) ∧ W'.cell? ⟨ghi, 2, none⟩ = some (.int .i64 e16)) (by kernel_rfl) ?_
              rw [← hW17]
              clear hW17
              refine wpJ_take (i := 0) (v := ?v37x0) rfl (by kernel_rfl) (by kernel_rfl) (by kernel_rfl) (fun _ _ _ h => h) (by kernel_rfl) ?hy37x0 HJ.out ?rest37x0
              case hy37x0 => (intro W' hJ; obtain ⟨j0, j1, j2, j3, j4, j5, j6, j7, j8⟩ := hJ; go_simp; first | done | with_reducible rfl)
              refine wpJ_take (i := 1) (v := ?v38x1) rfl (by kernel_rfl) (by kernel_rfl) (by kernel_rfl) (fun _ _ _ h => h) (by kernel_rfl) ?hy38x1 HJ.out ?rest38x1
              case hy38x1 => (intro W' hJ; obtain ⟨j0, j1, j2, j3, j4, j5, j6, j7, j8⟩ := hJ; go_simp; first | done | with_reducible rfl)
              refine wpJ_take (i := 3) (v := ?v39x3) rfl (by kernel_rfl) (by kernel_rfl) (by kernel_rfl) (fun _ _ _ h => h) (by kernel_rfl) ?hy39x3 HJ.out ?rest39x3
              case hy39x3 => (intro W' hJ; obtain ⟨j0, j1, j2, j3, j4, j5, j6, j7, j8⟩ := hJ; go_simp; first | done | with_reducible rfl)
              refine wpJ_take (i := 4) (v := ?v40x4) rfl (by kernel_rfl) (by kernel_rfl) (by kernel_rfl) (fun _ _ _ h => h) (by kernel_rfl) ?hy40x4 HJ.out ?rest40x4
              case hy40x4 => (intro W' hJ; obtain ⟨j0, j1, j2, j3, j4, j5, j6, j7, j8⟩ := hJ; go_simp; first | done | with_reducible rfl)
              refine wpJ_one (i := 2) (by kernel_rfl) rfl (by kernel_rfl) (fun KJ hK => ?_)
              go_simp
              refine (at8 D15.out DS.out).mono ?_
              rintro e v17 ⟨rfl, hb17⟩
              rw [cmp_l HC1.out]
              replace Xa : Hid _ := Xa.out.below hb17
              replace Xsz : Hid _ := Xsz.out.below hb17
              replace Xs : Hid _ := Xs.out.below hb17
              replace Xlo : Hid _ := Xlo.out.below hb17
              replace Xhi : Hid _ := Xhi.out.below hb17
              replace DS : Hid _ := DS.out.below hb17
              replace D15 : Hid _ := D15.out.below hb17
              replace D16 : Hid _ := D16.out.below hb17
              replace hbw := Below.on hbw hb17
              clear hb17
              refine hK _ _ ⟨Xlo.out.c0, Xlo.out.c1, Xlo.out.c2, Xsz.out.c0, Xsz.out.c1, Xsz.out.c2, Xhi.out.c0, Xhi.out.c1, Xhi.out.c2⟩ ?_
              clear hK
              refine wpJ_one (i := 5) (by kernel_rfl) rfl (by kernel_rfl) (fun KJ hK => ?_)
              go_simp
              refine (at8 DS.out D16.out).mono ?_
              rintro e v18 ⟨rfl, hb18⟩
              rw [cmp_l HC2.out]
              replace Xa : Hid _ := Xa.out.below hb18
              replace Xsz : Hid _ := Xsz.out.below hb18
              replace Xs : Hid _ := Xs.out.below hb18
              replace Xlo : Hid _ := Xlo.out.below hb18
              replace Xhi : Hid _ := Xhi.out.below hb18
              replace DS : Hid _ := DS.out.below hb18
              replace D15 : Hid _ := D15.out.below hb18
              replace D16 : Hid _ := D16.out.below hb18
              replace hbw := Below.on hbw hb18
              clear hb18
              clear HJ
              have HJ : Hid ((fun W' : World => W'.cell? ⟨glo, 0, none⟩ = some (.bool s15) ∧ W'.cell? ⟨glo, 1, none⟩ = some (.slice p15 m15 m15) ∧ W'.cell? ⟨glo, 2, none⟩ = some (.int .i64 e15) ∧ W'.cell? ⟨gsz, 0, none⟩ = some (.bool false) ∧ W'.cell? ⟨gsz, 1, none⟩ = some (.slice pa na ca) ∧ W'.cell? ⟨gsz, 2, none⟩ = some (.int .i64 e) ∧ W'.cell? ⟨ghi, 0, none⟩ = some (.bool s16) ∧ W'.cell? ⟨ghi, 1, none⟩ = some (.slice p16 m16 m16) ∧ W'.cell? ⟨ghi, 2, none⟩ = some (.int .i64 e16)) v18) := ⟨Xlo.out.c0, Xlo.out.c1, Xlo.out.c2, Xsz.out.c0, Xsz.out.c1, Xsz.out.c2, Xhi.out.c0, Xhi.out.c1, Xhi.out.c2⟩
              refine hK _ _ HJ.out ?_
              clear hK
              refine wpJ_take (i := 6) (v := ?v41x6) rfl (by kernel_rfl) (by kernel_rfl) (by kernel_rfl) (fun _ _ _ h => h) (by kernel_rfl) ?hy41x6 HJ.out ?rest41x6
              case hy41x6 => (intro W' hJ; obtain ⟨j0, j1, j2, j3, j4, j5, j6, j7, j8⟩ := hJ; go_simp; first | done | with_reducible rfl)
              refine wpJ_take (i := 7) (v := ?v42x7) rfl (by kernel_rfl) (by kernel_rfl) (by kernel_rfl) (fun _ _ _ h => h) (by kernel_rfl) ?hy42x7 HJ.out ?rest42x7
              case hy42x7 => (intro W' hJ; obtain ⟨j0, j1, j2, j3, j4, j5, j6, j7, j8⟩ := hJ; go_simp; first | done | with_reducible rfl)
              refine wpJ_done (by kernel_rfl) ?_ _
              clear HJ
              go_wp2_with fail
              go_ret
              exact ⟨rfl, hbw⟩
            · have HC1 : Hid (dv z15 e15 < dv X1 e) := h1
              have HC2 : Hid (dv X1 e = dv z16 e16) := h2
              clear h1 h2
              obtain ⟨W17, hW17⟩ : ∃ W1, W1 = Whi.drew := ⟨_, rfl⟩
              have hbd : Below Whi.heap.size Whi W17 := by rw [hW17]; exact bDrew1 (Below.refl _ _)
              replace Xa : Hid _ := Xa.out.below hbd
              replace Xsz : Hid _ := Xsz.out.below hbd
              replace Xs : Hid _ := Xs.out.below hbd
              replace Xlo : Hid _ := Xlo.out.below hbd
              replace Xhi : Hid _ := Xhi.out.below hbd
              replace DS : Hid _ := DS.out.below hbd
              replace D15 : Hid _ := D15.out.below hbd
              replace D16 : Hid _ := D16.out.below hbd
              replace hbw := Below.on hbw hbd
              clear hbd
              have HJ : Hid ((fun W' : World => W'.cell? ⟨glo, 0, none⟩ = some (.bool s15) ∧ W'.cell? ⟨glo, 1, none⟩ = some (.slice p15 m15 m15) ∧ W'.cell? ⟨glo, 2, none⟩ = some (.int .i64 e15) ∧ W'.cell? ⟨gsz, 0, none⟩ = some (.bool false) ∧ W'.cell? ⟨gsz, 1, none⟩ = some (.slice pa na ca) ∧ W'.cell? ⟨gsz, 2, none⟩ = some (.int .i64 e) ∧ W'.cell? ⟨ghi, 0, none⟩ = some (.bool s16) ∧ W'.cell? ⟨ghi, 1, none⟩ = some (.slice p16 m16 m16) ∧ W'.cell? ⟨ghi, 2, none⟩ = some (.int .i64 e16)) W17) := ⟨Xlo.out.c0, Xlo.out.c1, Xlo.out.c2, Xsz.out.c0, Xsz.out.c1, Xsz.out.c2, Xhi.out.c0, Xhi.out.c1, Xhi.out.c2⟩
              refine wp_region_J (fun W' => W'.cell? ⟨glo, 0, none⟩ = some (.bool s15) ∧ W'.cell? ⟨glo, 1, none⟩ = some (.slice p15 m15 m15) ∧ W'.cell? ⟨glo, 2, none⟩ = some (.int .i64 e15) ∧ W'.cell? ⟨gsz, 0, none⟩ = some (.bool false) ∧ W'.cell? ⟨gsz, 1, none⟩ = some (.slice pa na ca) ∧ W'.cell? ⟨gsz, 2, none⟩ = some (.int .i64 e) ∧ W'.cell? ⟨ghi, 0, none⟩ = some (.bool s16) ∧ W'.cell? ⟨ghi, 1, none⟩ = some (.slice p16 m16 m16) ∧ W'.cell? ⟨ghi, 2, none⟩ = some (.int .i64 e16)) (by kernel_rfl) ?_
              rw [← hW17]
              clear hW17
              refine wpJ_take (i := 0) (v := ?v43x0) rfl (by kernel_rfl) (by kernel_rfl) (by kernel_rfl) (fun _ _ _ h => h) (by kernel_rfl) ?hy43x0 HJ.out ?rest43x0
              case hy43x0 => (intro W' hJ; obtain ⟨j0, j1, j2, j3, j4, j5, j6, j7, j8⟩ := hJ; go_simp; first | done | with_reducible rfl)
              refine wpJ_take (i := 1) (v := ?v44x1) rfl (by kernel_rfl) (by kernel_rfl) (by kernel_rfl) (fun _ _ _ h => h) (by kernel_rfl) ?hy44x1 HJ.out ?rest44x1
              case hy44x1 => (intro W' hJ; obtain ⟨j0, j1, j2, j3, j4, j5, j6, j7, j8⟩ := hJ; go_simp; first | done | with_reducible rfl)
              refine wpJ_take (i := 3) (v := ?v45x3) rfl (by kernel_rfl) (by kernel_rfl) (by kernel_rfl) (fun _ _ _ h => h) (by kernel_rfl) ?hy45x3 HJ.out ?rest45x3
              case hy45x3 => (intro W' hJ; obtain ⟨j0, j1, j2, j3, j4, j5, j6, j7, j8⟩ := hJ; go_simp; first | done | with_reducible rfl)
              refine wpJ_take (i := 4) (v := ?v46x4) rfl (by kernel_rfl) (by kernel_rfl) (by kernel_rfl) (fun _ _ _ h => h) (by kernel_rfl) ?hy46x4 HJ.out ?rest46x4
              case hy46x4 => (intro W' hJ; obtain ⟨j0, j1, j2, j3, j4, j5, j6, j7, j8⟩ := hJ; go_simp; first | done | with_reducible rfl)
              refine wpJ_one (i := 2) (by kernel_rfl) rfl (by kernel_rfl) (fun KJ hK => ?_)
              go_simp
              refine (at8 D15.out DS.out).mono ?_
              rintro e v17 ⟨rfl, hb17⟩
              rw [cmp_l HC1.out]
              replace Xa : Hid _ := Xa.out.below hb17
              replace Xsz : Hid _ := Xsz.out.below hb17
              replace Xs : Hid _ := Xs.out.below hb17
              replace Xlo : Hid _ := Xlo.out.below hb17
              replace Xhi : Hid _ := Xhi.out.below hb17
              replace DS : Hid _ := DS.out.below hb17
              replace D15 : Hid _ := D15.out.below hb17
              replace D16 : Hid _ := D16.out.below hb17
              replace hbw := Below.on hbw hb17
              clear hb17
              refine hK _ _ ⟨Xlo.out.c0, Xlo.out.c1, Xlo.out.c2, Xsz.out.c0, Xsz.out.c1, Xsz.out.c2, Xhi.out.c0, Xhi.out.c1, Xhi.out.c2⟩ ?_
              clear hK
              refine wpJ_one (i := 5) (by kernel_rfl) rfl (by kernel_rfl) (fun KJ hK => ?_)
              go_simp
              refine (at8 DS.out D16.out).mono ?_
              rintro e v18 ⟨rfl, hb18⟩
              rw [cmp_e HC2.out]
              replace Xa : Hid _ := Xa.out.below hb18
              replace Xsz : Hid _ := Xsz.out.below hb18
              replace Xs : Hid _ := Xs.out.below hb18
              replace Xlo : Hid _ := Xlo.out.below hb18
              replace Xhi : Hid _ := Xhi.out.below hb18
              replace DS : Hid _ := DS.out.below hb18
              replace D15 : Hid _ := D15.out.below hb18
              replace D16 : Hid _ := D16.out.below hb18
              replace hbw := Below.on hbw hb18
              clear hb18
              clear HJ
              have HJ : Hid ((fun W' : World => W'.cell? ⟨glo, 0, none⟩ = some (.bool s15) ∧ W'.cell? ⟨glo, 1, none⟩ = some (.slice p15 m15 m15) ∧ W'.cell? ⟨glo, 2, none⟩ = some (.int .i64 e15) ∧ W'.cell? ⟨gsz, 0, none⟩ = some (.bool false) ∧ W'.cell? ⟨gsz, 1, none⟩ = some (.slice pa na ca) ∧ W'.cell? ⟨gsz, 2, none⟩ = some (.int .i64 e) ∧ W'.cell? ⟨ghi, 0, none⟩ = some (.bool s16) ∧ W'.cell? ⟨ghi, 1, none⟩ = some (.slice p16 m16 m16) ∧ W'.cell? ⟨ghi, 2, none⟩ = some (.int .i64 e16)) v18) := ⟨Xlo.out.c0, Xlo.out.c1, Xlo.out.c2, Xsz.out.c0, Xsz.out.c1, Xsz.out.c2, Xhi.out.c0, Xhi.out.c1, Xhi.out.c2⟩
              refine hK _ _ HJ.out ?_
              clear hK
              refine wpJ_take (i := 6) (v := ?v47x6) rfl (by kernel_rfl) (by kernel_rfl) (by kernel_rfl) (fun _ _ _ h => h) (by kernel_rfl) ?hy47x6 HJ.out ?rest47x6
              case hy47x6 => (intro W' hJ; obtain ⟨j0, j1, j2, j3, j4, j5, j6, j7, j8⟩ := hJ; go_simp; first | done | with_reducible rfl)
              refine wpJ_take (i := 7) (v := ?v48x7) rfl (by kernel_rfl) (by kernel_rfl) (by kernel_rfl) (fun _ _ _ h => h) (by kernel_rfl) ?hy48x7 HJ.out ?rest48x7
              case hy48x7 => (intro W' hJ; obtain ⟨j0, j1, j2, j3, j4, j5, j6, j7, j8⟩ := hJ; go_simp; first | done | with_reducible rfl)
              refine wpJ_done (by kernel_rfl) ?_ _
              clear HJ
              go_wp2_with fail
              go_ret
              exact ⟨rfl, hbw⟩
            · have HC1 : Hid (dv z15 e15 = dv X1 e) := h1
              have HC2 : Hid (dv X1 e < dv z16 e16) := h2
              clear h1 h2
              obtain ⟨W17, hW17⟩ : ∃ W1, W1 = Whi.drew := ⟨_, rfl⟩
              have hbd : Below Whi.heap.size Whi W17 := by rw [hW17]; exact bDrew1 (Below.refl _ _)
              replace Xa : Hid _ := Xa.out.below hbd
              replace Xsz : Hid _ := Xsz.out.below hbd
              replace Xs : Hid _ := Xs.out.below hbd
              replace Xlo : Hid _ := Xlo.out.below hbd
              replace Xhi : Hid _ := Xhi.out.below hbd
              replace DS : Hid _ := DS.out.below hbd
              replace D15 : Hid _ := D15.out.below hbd
              replace D16 : Hid _ := D16.out.below hbd
              replace hbw := Below.on hbw hbd
              clear hbd
              have HJ : Hid ((fun W' : World => W'.cell? ⟨glo, 0, none⟩ = some (.bool s15) ∧ W'.cell? ⟨glo, 1, none⟩ = some (.slice p15 m15 m15) ∧ W'.cell? ⟨glo, 2, none⟩ = some (.int .i64 e15) ∧ W'.cell? ⟨gsz, 0, none⟩ = some (.bool false) ∧ W'.cell? ⟨gsz, 1, none⟩ = some (.slice pa na ca) ∧ W'.cell? ⟨gsz, 2, none⟩ = some (.int .i64 e) ∧ W'.cell? ⟨ghi, 0, none⟩ = some (.bool s16) ∧ W'.cell? ⟨ghi, 1, none⟩ = some (.slice p16 m16 m16) ∧ W'.cell? ⟨ghi, 2, none⟩ = some (.int .i64 e16)) W17) := ⟨Xlo.out.c0, Xlo.out.c1, Xlo.out.c2, Xsz.out.c0, Xsz.out.c1, Xsz.out.c2, Xhi.out.c0, Xhi.out.c1, Xhi.out.c2⟩
              refine wp_region_J (fun W' => W'.cell? ⟨glo, 0, none⟩ = some (.bool s15) ∧ W'.cell? ⟨glo, 1, none⟩ = some (.slice p15 m15 m15) ∧ W'.cell? ⟨glo, 2, none⟩ = some (.int .i64 e15) ∧ W'.cell? ⟨gsz, 0, none⟩ = some (.bool false) ∧ W'.cell? ⟨gsz, 1, none⟩ = some (.slice pa na ca) ∧ W'.cell? ⟨gsz, 2, none⟩ = some (.int .i64 e) ∧ W'.cell? ⟨ghi, 0, none⟩ = some (.bool s16) ∧ W'.cell? ⟨ghi, 1, none⟩ = some (.slice p16 m16 m16) ∧ W'.cell? ⟨ghi, 2, none⟩ = some (.int .i64 e16)) (by kernel_rfl) ?_
              rw [← hW17]
              clear hW17
              refine wpJ_take (i := 0) (v := ?v49x0) rfl (by kernel_rfl) (by kernel_rfl) (by kernel_rfl) (fun _ _ _ h => h) (by kernel_rfl) ?hy49x0 HJ.out ?rest49x0
              case hy49x0 => (intro W' hJ; obtain ⟨j0, j1, j2, j3, j4, j5, j6, j7, j8⟩ := hJ; go_simp; first | done | with_reducible rfl)
              refine wpJ_take (i := 1) (v := ?v50x1) rfl (by kernel_rfl) (by kernel_rfl) (by kernel_rfl) (fun _ _ _ h => h) (by kernel_rfl) ?hy50x1 HJ.out ?rest50x1
              case hy50x1 => (intro W' hJ; obtain ⟨j0, j1, j2, j3, j4, j5, j6, j7, j8⟩ := hJ; go_simp; first | done | with_reducible rfl)
              refine wpJ_take (i := 3) (v := ?v51x3) rfl (by kernel_rfl) (by kernel_rfl) (by kernel_rfl) (fun _ _ _ h => h) (by kernel_rfl) ?hy51x3 HJ.out ?rest51x3
              case hy51x3 => (intro W' hJ; obtain ⟨j0, j1, j2, j3, j4, j5, j6, j7, j8⟩ := hJ; go_simp; first | done | with_reducible rfl)
              refine wpJ_take (i := 4) (v := ?v52x4) rfl (by kernel_rfl) (by kernel_rfl) (by kernel_rfl) (fun _ _ _ h => h) (by kernel_rfl) ?hy52x4 HJ.out ?rest52x4
              case hy52x4 => (intro W' hJ; obtain ⟨j0, j1, j2, j3, j4, j5, j6, j7, j8⟩ := hJ; go_simp; first | done | with_reducible rfl)
              refine wpJ_one (i := 2) (by kernel_rfl) rfl (by kernel_rfl) (fun KJ hK => ?_)
              go_simp
              refine (at8 D15.out DS.out).mono ?_
              rintro e v17 ⟨rfl, hb17⟩
              rw [cmp_e HC1.out]
              replace Xa : Hid _ := Xa.out.below hb17
              replace Xsz : Hid _ := Xsz.out.below hb17
              replace Xs : Hid _ := Xs.out.below hb17
              replace Xlo : Hid _ := Xlo.out.below hb17
              replace Xhi : Hid _ := Xhi.out.below hb17
              replace DS : Hid _ := DS.out.below hb17
              replace D15 : Hid _ := D15.out.below hb17
              replace D16 : Hid _ := D16.out.below hb17
              replace hbw := Below.on hbw hb17
              clear hb17
              refine hK _ _ ⟨Xlo.out.c0, Xlo.out.c1, Xlo.out.c2, Xsz.out.c0, Xsz.out.c1, Xsz.out.c2, Xhi.out.c0, Xhi.out.c1, Xhi.out.c2⟩ ?_
              clear hK
              refine wpJ_one (i := 5) (by kernel_rfl) rfl (by kernel_rfl) (fun KJ hK => ?_)
              go_simp
              refine (at8 DS.out D16.out).mono ?_
              rintro e v18 ⟨rfl, hb18⟩
              rw [cmp_l HC2.out]
              replace Xa : Hid _ := Xa.out.below hb18
              replace Xsz : Hid _ := Xsz.out.below hb18
              replace Xs : Hid _ := Xs.out.below hb18
              replace Xlo : Hid _ := Xlo.out.below hb18
              replace Xhi : Hid _ := Xhi.out.below hb18
              replace DS : Hid _ := DS.out.below hb18
              replace D15 : Hid _ := D15.out.below hb18
              replace D16 : Hid _ := D16.out.below hb18
              replace hbw := Below.on hbw hb18
              clear hb18
              clear HJ
              have HJ : Hid ((fun W' : World => W'.cell? ⟨glo, 0, none⟩ = some (.bool s15) ∧ W'.cell? ⟨glo, 1, none⟩ = some (.slice p15 m15 m15) ∧ W'.cell? ⟨glo, 2, none⟩ = some (.int .i64 e15) ∧ W'.cell? ⟨gsz, 0, none⟩ = some (.bool false) ∧ W'.cell? ⟨gsz, 1, none⟩ = some (.slice pa na ca) ∧ W'.cell? ⟨gsz, 2, none⟩ = some (.int .i64 e) ∧ W'.cell? ⟨ghi, 0, none⟩ = some (.bool s16) ∧ W'.cell? ⟨ghi, 1, none⟩ = some (.slice p16 m16 m16) ∧ W'.cell? ⟨ghi, 2, none⟩ = some (.int .i64 e16)) v18) := ⟨Xlo.out.c0, Xlo.out.c1, Xlo.out.c2, Xsz.out.c0, Xsz.out.c1, Xsz.out.c2, Xhi.out.c0, Xhi.out.c1, Xhi.out.c2⟩
              refine hK _ _ HJ.out ?_
              clear hK
              refine wpJ_take (i := 6) (v := ?v53x6) rfl (by kernel_rfl) (by kernel_rfl) (by kernel_rfl) (fun _ _ _ h => h) (by kernel_rfl) ?hy53x6 HJ.out ?rest53x6
              case hy53x6 => (intro W' hJ; obtain ⟨j0, j1, j2, j3, j4, j5, j6, j7, j8⟩ := hJ; go_simp; first | done | with_reducible rfl)
              refine wpJ_take (i := 7) (v := ?v54x7) rfl (by kernel_rfl) (by kernel_rfl) (by kernel_rfl) (fun _ _ _ h => h) (by kernel_rfl) ?hy54x7 HJ.out ?rest54x7
              case hy54x7 => (intro W' hJ; obtain ⟨j0, j1, j2, j3, j4, j5, j6, j7, j8⟩ := hJ; go_simp; first | done | with_reducible rfl)
              refine wpJ_done (by kernel_rfl) ?_ _
              clear HJ
              go_wp2_with fail
              go_ret
              exact ⟨rfl, hbw⟩
            · have HC1 : Hid (dv z15 e15 = dv X1 e) := h1
              have HC2 : Hid (dv X1 e = dv z16 e16) := h2
              clear h1 h2
              obtain ⟨W17, hW17⟩ : ∃ W1, W1 = Whi.drew := ⟨_, rfl⟩
              have hbd : Below Whi.heap.size Whi W17 := by rw [hW17]; exact bDrew1 (Below.refl _ _)
              replace Xa : Hid _ := Xa.out.below hbd
              replace Xsz : Hid _ := Xsz.out.below hbd
              replace Xs : Hid _ := Xs.out.below hbd
              replace Xlo : Hid _ := Xlo.out.below hbd
              replace Xhi : Hid _ := Xhi.out.below hbd
              replace DS : Hid _ := DS.out.below hbd
              replace D15 : Hid _ := D15.out.below hbd
              replace D16 : Hid _ := D16.out.below hbd
              replace hbw := Below.on hbw hbd
              clear hbd
              have HJ : Hid ((fun W' : World => W'.cell? ⟨glo, 0, none⟩ = some (.bool s15) ∧ W'.cell? ⟨glo, 1, none⟩ = some (.slice p15 m15 m15) ∧ W'.cell? ⟨glo, 2, none⟩ = some (.int .i64 e15) ∧ W'.cell? ⟨gsz, 0, none⟩ = some (.bool false) ∧ W'.cell? ⟨gsz, 1, none⟩ = some (.slice pa na ca) ∧ W'.cell? ⟨gsz, 2, none⟩ = some (.int .i64 e) ∧ W'.cell? ⟨ghi, 0, none⟩ = some (.bool s16) ∧ W'.cell? ⟨ghi, 1, none⟩ = some (.slice p16 m16 m16) ∧ W'.cell? ⟨ghi, 2, none⟩ = some (.int .i64 e16)) W17) := ⟨Xlo.out.c0, Xlo.out.c1, Xlo.out.c2, Xsz.out.c0, Xsz.out.c1, Xsz.out.c2, Xhi.out.c0, Xhi.out.c1, Xhi.out.c2⟩
              refine wp_region_J (fun W' => W'.cell? ⟨glo, 0, none⟩ = some (.bool s15) ∧ W'.cell? ⟨glo, 1, none⟩ = some (.slice p15 m15 m15) ∧ W'.cell? ⟨glo, 2, none⟩ = some (.int .i64 e15) ∧ W'.cell? ⟨gsz, 0, none⟩ = some (.bool false) ∧ W'.cell? ⟨gsz, 1, none⟩ = some (.slice pa na ca) ∧ W'.cell? ⟨gsz, 2, none⟩ = some (.int .i64 e) ∧ W'.cell? ⟨ghi, 0, none⟩ = some (.bool s16) ∧ W'.cell? ⟨ghi, 1, none⟩ = some (.slice p16 m16 m16) ∧ W'.cell? ⟨ghi, 2, none⟩ = some (.int .i64 e16)) (by kernel_rfl) ?_
              rw [← hW17]
              clear hW17
              refine wpJ_take (i := 0) (v := ?v55x0) rfl (by kernel_rfl) (by kernel_rfl) (by kernel_rfl) (fun _ _ _ h => h) (by kernel_rfl) ?hy55x0 HJ.out ?rest55x0
              case hy55x0 => (intro W' hJ; obtain ⟨j0, j1, j2, j3, j4, j5, j6, j7, j8⟩ := hJ; go_simp; first | done | with_reducible rfl)
              refine wpJ_take (i := 1) (v := ?v56x1) rfl (by kernel_rfl) (by kernel_rfl) (by kernel_rfl) (fun _ _ _ h => h) (by kernel_rfl) ?hy56x1 HJ.out ?rest56x1
              case hy56x1 => (intro W' hJ; obtain ⟨j0, j1, j2, j3, j4, j5, j6, j7, j8⟩ := hJ; go_simp; first | done | with_reducible rfl)
              refine wpJ_take (i := 3) (v := ?v57x3) rfl (by kernel_rfl) (by kernel_rfl) (by kernel_rfl) (fun _ _ _ h => h) (by kernel_rfl) ?hy57x3 HJ.out ?rest57x3
              case hy57x3 => (intro W' hJ; obtain ⟨j0, j1, j2, j3, j4, j5, j6, j7, j8⟩ := hJ; go_simp; first | done | with_reducible rfl)
              refine wpJ_take (i := 4) (v := ?v58x4) rfl (by kernel_rfl) (by kernel_rfl) (by kernel_rfl) (fun _ _ _ h => h) (by kernel_rfl) ?hy58x4 HJ.out ?rest58x4
              case hy58x4 => (intro W' hJ; obtain ⟨j0, j1, j2, j3, j4, j5, j6, j7, j8⟩ := hJ; go_simp; first | done | with_reducible rfl)
              refine wpJ_one (i := 2) (by kernel_rfl) rfl (by kernel_rfl) (fun KJ hK => ?_)
              go_simp
              refine (at8 D15.out DS.out).mono ?_
              rintro e v17 ⟨rfl, hb17⟩
              rw [cmp_e HC1.out]
              replace Xa : Hid _ := Xa.out.below hb17
              replace Xsz : Hid _ := Xsz.out.below hb17
              replace Xs : Hid _ := Xs.out.below hb17
              replace Xlo : Hid _ := Xlo.out.below hb17
              replace Xhi : Hid _ := Xhi.out.below hb17
              replace DS : Hid _ := DS.out.below hb17
              replace D15 : Hid _ := D15.out.below hb17
              replace D16 : Hid _ := D16.out.below hb17
              replace hbw := Below.on hbw hb17
              clear hb17
              refine hK _ _ ⟨Xlo.out.c0, Xlo.out.c1, Xlo.out.c2, Xsz.out.c0, Xsz.out.c1, Xsz.out.c2, Xhi.out.c0, Xhi.out.c1, Xhi.out.c2⟩ ?_
              clear hK
              refine wpJ_one (i := 5) (by kernel_rfl) rfl (by kernel_rfl) (fun KJ hK => ?_)
              go_simp
              refine (at8 DS.out D16.out).mono ?_
              rintro e v18 ⟨rfl, hb18⟩
              rw [cmp_e HC2.out]
              replace Xa : Hid _ := Xa.out.below hb18
              replace Xsz : Hid _ := Xsz.out.below hb18
              replace Xs : Hid _ := Xs.out.below hb18
              replace Xlo : Hid _ := Xlo.out.below hb18
              replace Xhi : Hid _ := Xhi.out.below hb18
              replace DS : Hid _ := DS.out.below hb18
              replace D15 : Hid _ := D15.out.below hb18
              replace D16 : Hid _ := D16.out.below hb18
              replace hbw := Below.on hbw hb18
              clear hb18
              clear HJ
              have HJ : Hid ((fun W' : World => W'.cell? ⟨glo, 0, none⟩ = some (.bool s15) ∧ W'.cell? ⟨glo, 1, none⟩ = some (.slice p15 m15 m15) ∧ W'.cell? ⟨glo, 2, none⟩ = some (.int .i64 e15) ∧ W'.cell? ⟨gsz, 0, none⟩ = some (.bool false) ∧ W'.cell? ⟨gsz, 1, none⟩ = some (.slice pa na ca) ∧ W'.cell? ⟨gsz, 2, none⟩ = some (.int .i64 e) ∧ W'.cell? ⟨ghi, 0, none⟩ = some (.bool s16) ∧ W'.cell? ⟨ghi, 1, none⟩ = some (.slice p16 m16 m16) ∧ W'.cell? ⟨ghi, 2, none⟩ = some (.int .i64 e16)) v18) := ⟨Xlo.out.c0, Xlo.out.c1, Xlo.out.c2, Xsz.out.c0, Xsz.out.c1, Xsz.out.c2, Xhi.out.c0, Xhi.out.c1, Xhi.out.c2⟩
              refine hK _ _ HJ.out ?_
              clear hK
              refine wpJ_take (i := 6) (v := ?v59x6) rfl (by kernel_rfl) (by kernel_rfl) (by kernel_rfl) (fun _ _ _ h => h) (by kernel_rfl) ?hy59x6 HJ.out ?rest59x6
              case hy59x6 => (intro W' hJ; obtain ⟨j0, j1, j2, j3, j4, j5, j6, j7, j8⟩ := hJ; go_simp; first | done | with_reducible rfl)
              refine wpJ_take (i := 7) (v := ?v60x7) rfl (by kernel_rfl) (by kernel_rfl) (by kernel_rfl) (fun _ _ _ h => h) (by kernel_rfl) ?hy60x7 HJ.out ?rest60x7
              case hy60x7 => (intro W' hJ; obtain ⟨j0, j1, j2, j3, j4, j5, j6, j7, j8⟩ := hJ; go_simp; first | done | with_reducible rfl)
              refine wpJ_done (by kernel_rfl) ?_ _
              clear HJ
              go_wp2_with fail
              go_ret
              exact ⟨rfl, hbw⟩
        · refine (hN _ HRS.out.1).mono ?_
          rintro e2 v13 ⟨rfl, hb13⟩
          rw [decide_eq_false h1, decide_eq_false h2]
          clear hN h1 h2
          replace Xa : Hid _ := Xa.out.below hb13
          replace Xsz : Hid _ := Xsz.out.below hb13
          replace DS : Hid _ := DS.out.below hb13
          replace hbw := Below.on hbw hb13
          clear hb13
          obtain ⟨csz0, csz1, csz2, fsz0, fsz1, fsz2⟩ := Xsz.out
          have hnesz : gsz < v13.heap.size := World.block_lt_of_cell? v13 _ csz0
          go_wp2_with fail
          clear csz0 csz1 csz2 fsz0 fsz1 fsz2 hnesz
          go_ret
          exact ⟨rfl, hbw⟩
theorem roundRooted_w (single : Bool) {pa : Option Addr} {na ca : Nat} {xs : List Nat} {w : World} {e : Int} {s : Bool} (h : At w pa na ca xs) (hT : Tab w) :
    Calls Tryz.prog 5 #[.bool single, DV s pa na ca e] w fun en w' => en = .returned (.bool true) ∧ Below w.heap.size w w' := by
  cases single
  · exact roundRooted_x jn_64 (by decide) lq_64 h hT
  · exact roundRooted_x jn_32 (by decide) lq_32 h hT
end Go.Proofs.YtfofoookdlaipaaGreatDoor

