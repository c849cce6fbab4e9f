import Derived.Test.YtfofoookdlaipaaGreatDoorJ32
import Derived.Test.YtfofoookdlaipaaGreatDoorJ23
import Derived.Test.YtfofoookdlaipaaGreatDoorJ21
namespace Go.Proofs.YtfofoookdlaipaaGreatDoor
open Go.RowKit Go.Shelf

set_option maxRecDepth 20000 in
set_option maxHeartbeats 8000000 in
theorem roundQuoted_x {single : Bool} {f p m l : Int} {S I H sd : Nat} {Be : Int} (J : Jn f p m l S I H sd Be) (hmd : m = (sd : Int) + 1) (L : Lq single f S I) {pa pb : Option Addr} {na ca nb cb : Nat} {xs ys : List Nat} {w : World} {e g : Int} {s t : Bool} (h : At w pa na ca xs) (k : At w pb nb cb ys) (hT : Tab w) :
    Calls Tryz.prog 4 #[.bool single, DV s pa na ca e, DV t pb nb cb g] w fun en w' => en = .returned (.bool true) ∧ Below w.heap.size w w' := by
  have HJN : Hid (Jn f p m l S I H sd Be) := J
  have HMD : Hid (m = (sd : Int) + 1) := hmd
  have HLW : Hid (Lq single f S I) := L
  have A : Hid (At w pa na ca xs) := h
  have B : Hid (At w pb nb cb ys) := k
  have TB : Hid (Tab w) := hT
  clear J hmd L h k hT
  go_enter Tryz.func4, Tryz.ntmps4
  go_wp2_with fail
  obtain ⟨W0, hW0⟩ : ∃ W0, W0 = ((w.alloc (.cells #[.bool s, .slice pa na ca, .int .i64 e] 34)).alloc (.cells #[.bool t, .slice pb nb cb, .int .i64 g] 34)) := ⟨_, rfl⟩
  have Xa : Hid (B3q W0 (w.heap.size) (.bool s) (.slice pa na ca) (.int .i64 e)) := by rw [hW0]; exact ⟨by go_simp, by go_simp, by go_simp, by go_simp, by go_simp, by go_simp⟩
  have Xb : Hid (B3q W0 (w.heap.size + 1) (.bool t) (.slice pb nb cb) (.int .i64 g)) := by rw [hW0]; exact ⟨by go_simp, by go_simp, by go_simp, by go_simp, by go_simp, by go_simp⟩
  have hb0 : Below w.heap.size w W0 := by rw [hW0]; exact below2 w _ _
  rw [← hW0]
  clear hW0
  have hbw : Below w.heap.size w w := Below.refl _ _
  obtain ⟨gb, hgb⟩ : ∃ g, g = w.heap.size + 1 := ⟨_, rfl⟩
  have HGb : Hid (w.heap.size ≤ gb) := by rw [hgb]; show _ ≤ _; omega
  rw [← hgb] at Xb
  try rw [← hgb]
  obtain ⟨ga, hga⟩ : ∃ g, g = w.heap.size := ⟨_, rfl⟩
  have HGa : Hid (w.heap.size ≤ ga) := by rw [hga]; show _ ≤ _; omega
  rw [← hga] at Xa
  try rw [← hga]
  have HGD : Hid (ga ≠ gb ∧ gb ≠ ga) := by rw [hga, hgb]; exact ⟨by omega, by omega⟩
  clear hga hgb
  replace hbw := Below.on hbw hb0
  clear hb0
  refine (HLW.out.fmt _).mono ?_
  rintro e v1 ⟨rfl, hb1⟩
  replace Xa : Hid _ := Xa.out.below hb1
  replace Xb : Hid _ := Xb.out.below hb1
  replace hbw := Below.on hbw hb1
  clear hb1
  obtain ⟨ca0, ca1, ca2, fa0, fa1, fa2⟩ := Xa.out
  have hnea : ga < v1.heap.size := World.block_lt_of_cell? v1 _ ca0
  obtain ⟨cb0, cb1, cb2, fb0, fb1, fb2⟩ := Xb.out
  have hneb : gb < v1.heap.size := World.block_lt_of_cell? v1 _ cb0
  go_wp2_with fail
  clear ca0 ca1 ca2 fa0 fa1 fa2 hnea
  clear cb0 cb1 cb2 fb0 fb1 fb2 hneb
  refine (num8 (1) (0) (by decide) (by decide) (by decide)).mono ?_
  rintro e2 v2 ⟨s2, g2, m2, c2, rfl, _, hd2, hb2⟩
  replace Xa : Hid _ := Xa.out.below hb2
  replace Xb : Hid _ := Xb.out.below hb2
  replace hbw := Below.on hbw hb2
  clear hb2
  have D2 : Hid (DN v2 s2 (some ⟨g2, 0, none⟩) m2 c2 (0) (1)) := hd2
  clear hd2
  obtain ⟨ca0, ca1, ca2, fa0, fa1, fa2⟩ := Xa.out
  have hnea : ga < v2.heap.size := World.block_lt_of_cell? v2 _ ca0
  obtain ⟨cb0, cb1, cb2, fb0, fb1, fb2⟩ := Xb.out
  have hneb : gb < v2.heap.size := World.block_lt_of_cell? v2 _ cb0
  go_wp2_with fail
  clear ca0 ca1 ca2 fa0 fa1 fa2 hnea
  clear cb0 cb1 cb2 fb0 fb1 fb2 hneb
  refine (num8 (3) (0) (by decide) (by decide) (by decide)).mono ?_
  rintro e2 v3 ⟨s3, g3, m3, c3, rfl, _, hd3, hb3⟩
  replace Xa : Hid _ := Xa.out.below hb3
  replace Xb : Hid _ := Xb.out.below hb3
  replace D2 : Hid _ := D2.out.below hb3
  replace hbw := Below.on hbw hb3
  clear hb3
  have D3 : Hid (DN v3 s3 (some ⟨g3, 0, none⟩) m3 c3 (0) (3)) := hd3
  clear hd3
  obtain ⟨ca0, ca1, ca2, fa0, fa1, fa2⟩ := Xa.out
  have hnea : ga < v3.heap.size := World.block_lt_of_cell? v3 _ ca0
  obtain ⟨cb0, cb1, cb2, fb0, fb1, fb2⟩ := Xb.out
  have hneb : gb < v3.heap.size := World.block_lt_of_cell? v3 _ cb0
  go_wp2_with fail
  clear ca0 ca1 ca2 fa0 fa1 fa2 hnea
  clear cb0 cb1 cb2 fb0 fb1 fb2 hneb
  refine (quotient_n jn_32 (by decide) D2.out D3.out (len_one D2.out (by decide)) (len_one D3.out (by decide)) (TB.out.below hbw) (by decide) (by decide)).mono ?_
  rintro e2 v4 ⟨b4, Z4, V4, rfl, k1, k2, k3, hb4⟩
  obtain rfl : b4 = 1051372203 := third D2.out.zn.sg D3.out.zn.sg k1 k2 k3
  clear k1 k2 k3
  replace Xa : Hid _ := Xa.out.below hb4
  replace Xb : Hid _ := Xb.out.below hb4
  replace D2 : Hid _ := D2.out.below hb4
  replace D3 : Hid _ := D3.out.below hb4
  replace hbw := Below.on hbw hb4
  clear hb4
  clear D2
  clear D3
  obtain ⟨ca0, ca1, ca2, fa0, fa1, fa2⟩ := Xa.out
  have hnea : ga < v4.heap.size := World.block_lt_of_cell? v4 _ ca0
  obtain ⟨cb0, cb1, cb2, fb0, fb1, fb2⟩ := Xb.out
  have hneb : gb < v4.heap.size := World.block_lt_of_cell? v4 _ cb0
  go_wp2_with fail
  clear ca0 ca1 ca2 fa0 fa1 fa2 hnea
  clear cb0 cb1 cb2 fb0 fb1 fb2 hneb
  refine (awake8 _ (TB.out.below hbw)).mono ?_
  rintro e v5 ⟨rfl, hb5⟩
  replace Xa : Hid _ := Xa.out.below hb5
  replace Xb : Hid _ := Xb.out.below hb5
  replace hbw := Below.on hbw hb5
  clear hb5
  obtain ⟨ca0, ca1, ca2, fa0, fa1, fa2⟩ := Xa.out
  have hnea : ga < v5.heap.size := World.block_lt_of_cell? v5 _ ca0
  obtain ⟨cb0, cb1, cb2, fb0, fb1, fb2⟩ := Xb.out
  have hneb : gb < v5.heap.size := World.block_lt_of_cell? v5 _ cb0
  go_wp2_with fail
  clear ca0 ca1 ca2 fa0 fa1 fa2 hnea
  clear cb0 cb1 cb2 fb0 fb1 fb2 hneb
  refine (easy8 s (A.out.below hbw)).mono ?_
  rintro e2 v6 ⟨⟨bo6, rfl, hbo6⟩, hb6⟩
  replace Xa : Hid _ := Xa.out.below hb6
  replace Xb : Hid _ := Xb.out.below hb6
  replace hbw := Below.on hbw hb6
  clear hb6
  cases bo6
  · clear hbo6
    obtain ⟨ca0, ca1, ca2, fa0, fa1, fa2⟩ := Xa.out
    have hnea : ga < v6.heap.size := World.block_lt_of_cell? v6 _ ca0
    obtain ⟨cb0, cb1, cb2, fb0, fb1, fb2⟩ := Xb.out
    have hneb : gb < v6.heap.size := World.block_lt_of_cell? v6 _ cb0
    go_wp2_with fail
    clear ca0 ca1 ca2 fa0 fa1 fa2 hnea
    clear cb0 cb1 cb2 fb0 fb1 fb2 hneb
    go_ret
    exact ⟨rfl, hbw⟩
  · have ha6 := hbo6 rfl
    obtain ⟨hda6, hba6⟩ := easy_db A.out ha6
    obtain ⟨x, hx6⟩ : ∃ x, x = iv s (valB B64 xs) := ⟨_, rfl⟩
    rw [← hx6] at hda6 hba6
    have HDA : Hid (DN w s pa na ca e x) := hda6
    have HBA : Hid (DB x e 19200 5000) := hba6
    have HNA : Hid (na ≤ 4096) := Nat.le_trans ha6.2.1 (by decide)
    clear hbo6 ha6 hda6 hba6 hx6
    obtain ⟨ca0, ca1, ca2, fa0, fa1, fa2⟩ := Xa.out
    have hnea : ga < v6.heap.size := World.block_lt_of_cell? v6 _ ca0
    obtain ⟨cb0, cb1, cb2, fb0, fb1, fb2⟩ := Xb.out
    have hneb : gb < v6.heap.size := World.block_lt_of_cell? v6 _ cb0
    go_wp2_with fail
    clear ca0 ca1 ca2 fa0 fa1 fa2 hnea
    clear cb0 cb1 cb2 fb0 fb1 fb2 hneb
    refine (easy8 t (B.out.below hbw)).mono ?_
    rintro e2 v7 ⟨⟨bo7, rfl, hbo7⟩, hb7⟩
    replace Xa : Hid _ := Xa.out.below hb7
    replace Xb : Hid _ := Xb.out.below hb7
    replace hbw := Below.on hbw hb7
    clear hb7
    cases bo7
    · clear hbo7
      obtain ⟨ca0, ca1, ca2, fa0, fa1, fa2⟩ := Xa.out
      have hnea : ga < v7.heap.size := World.block_lt_of_cell? v7 _ ca0
      obtain ⟨cb0, cb1, cb2, fb0, fb1, fb2⟩ := Xb.out
      have hneb : gb < v7.heap.size := World.block_lt_of_cell? v7 _ cb0
      go_wp2_with fail
      clear ca0 ca1 ca2 fa0 fa1 fa2 hnea
      clear cb0 cb1 cb2 fb0 fb1 fb2 hneb
      go_ret
      exact ⟨rfl, hbw⟩
    · have ha7 := hbo7 rfl
      obtain ⟨hda7, hba7⟩ := easy_db B.out ha7
      obtain ⟨y, hx7⟩ : ∃ x, x = iv t (valB B64 ys) := ⟨_, rfl⟩
      rw [← hx7] at hda7 hba7
      have HDB : Hid (DN w t pb nb cb g y) := hda7
      have HBB : Hid (DB y g 19200 5000) := hba7
      have HNB : Hid (nb ≤ 4096) := Nat.le_trans ha7.2.1 (by decide)
      clear hbo7 ha7 hda7 hba7 hx7
      obtain ⟨ca0, ca1, ca2, fa0, fa1, fa2⟩ := Xa.out
      have hnea : ga < v7.heap.size := World.block_lt_of_cell? v7 _ ca0
      obtain ⟨cb0, cb1, cb2, fb0, fb1, fb2⟩ := Xb.out
      have hneb : gb < v7.heap.size := World.block_lt_of_cell? v7 _ cb0
      go_wp2_with fail
      clear ca0 ca1 ca2 fa0 fa1 fa2 hnea
      clear cb0 cb1 cb2 fb0 fb1 fb2 hneb
      by_cases h0 : y = 0
      · have HY0 : Hid (y = 0) := h0
        have hn0 : nb = 0 := by obtain ⟨_, hY⟩ := HDB.out.zn.ex; exact hY.zero.2 (by rw [h0]; rfl)
        subst hn0
        clear h0
        refine (quotient_e HJN.out HMD.out (HDA.out.below hbw) (HDB.out.below hbw) HNA.out HNB.out (TB.out.below hbw) HY0.out).mono ?_
        rintro e v8 ⟨rfl, hb8⟩
        replace Xa : Hid _ := Xa.out.below hb8
        replace Xb : Hid _ := Xb.out.below hb8
        replace hbw := Below.on hbw hb8
        clear hb8
        obtain ⟨ca0, ca1, ca2, fa0, fa1, fa2⟩ := Xa.out
        have hnea : ga < v8.heap.size := World.block_lt_of_cell? v8 _ ca0
        obtain ⟨cb0, cb1, cb2, fb0, fb1, fb2⟩ := Xb.out
        have hneb : gb < v8.heap.size := World.block_lt_of_cell? v8 _ cb0
        go_wp2_with fail
        clear ca0 ca1 ca2 fa0 fa1 fa2 hnea
        clear cb0 cb1 cb2 fb0 fb1 fb2 hneb
        refine (nought8_z).mono ?_
        rintro e v9 ⟨rfl, hb9⟩
        replace Xa : Hid _ := Xa.out.below hb9
        replace Xb : Hid _ := Xb.out.below hb9
        replace hbw := Below.on hbw hb9
        clear hb9
        obtain ⟨ca0, ca1, ca2, fa0, fa1, fa2⟩ := Xa.out
        have hnea : ga < v9.heap.size := World.block_lt_of_cell? v9 _ ca0
        obtain ⟨cb0, cb1, cb2, fb0, fb1, fb2⟩ := Xb.out
        have hneb : gb < v9.heap.size := World.block_lt_of_cell? v9 _ cb0
        go_wp2_with fail
        clear ca0 ca1 ca2 fa0 fa1 fa2 hnea
        clear cb0 cb1 cb2 fb0 fb1 fb2 hneb
        go_ret
        exact ⟨rfl, hbw⟩
      · have HY0 : Hid (y ≠ 0) := h0
        have HNP : Hid (0 < nb) := by
          obtain ⟨_, hY⟩ := HDB.out.zn.ex
          have h9 := hY.zero
          show 0 < nb
          rcases Nat.eq_zero_or_pos nb with h8 | h8
          · have := h9.1 h8; omega
          · exact h8
        clear h0
        by_cases h0 : x = 0
        · have HX0 : Hid (x = 0) := h0
          have hn0 : na = 0 := by obtain ⟨_, hY⟩ := HDA.out.zn.ex; exact hY.zero.2 (by rw [h0]; rfl)
          subst hn0
          clear h0
          refine (quotient_z HJN.out HMD.out (HDA.out.below hbw) (HDB.out.below hbw) HNA.out HNB.out (TB.out.below hbw) HY0.out HX0.out).mono ?_
          rintro e v8 ⟨rfl, hb8⟩
          replace Xa : Hid _ := Xa.out.below hb8
          replace Xb : Hid _ := Xb.out.below hb8
          replace hbw := Below.on hbw hb8
          clear hb8
          obtain ⟨ca0, ca1, ca2, fa0, fa1, fa2⟩ := Xa.out
          have hnea : ga < v8.heap.size := World.block_lt_of_cell? v8 _ ca0
          obtain ⟨cb0, cb1, cb2, fb0, fb1, fb2⟩ := Xb.out
          have hneb : gb < v8.heap.size := World.block_lt_of_cell? v8 _ cb0
          go_wp2_with fail
          clear ca0 ca1 ca2 fa0 fa1 fa2 hnea
          clear cb0 cb1 cb2 fb0 fb1 fb2 hneb
          refine (nought5 HNP.out).mono ?_
          rintro e v9 ⟨rfl, hb9⟩
          replace Xa : Hid _ := Xa.out.below hb9
          replace Xb : Hid _ := Xb.out.below hb9
          replace hbw := Below.on hbw hb9
          clear hb9
          obtain ⟨ca0, ca1, ca2, fa0, fa1, fa2⟩ := Xa.out
          have hnea : ga < v9.heap.size := World.block_lt_of_cell? v9 _ ca0
          obtain ⟨cb0, cb1, cb2, fb0, fb1, fb2⟩ := Xb.out
          have hneb : gb < v9.heap.size := World.block_lt_of_cell? v9 _ cb0
          go_wp2_with fail
          clear ca0 ca1 ca2 fa0 fa1 fa2 hnea
          clear cb0 cb1 cb2 fb0 fb1 fb2 hneb
          refine (dmul_b (HDA.out.below hbw) (HDB.out.below hbw) HBA.out HBB.out (by decide) (by decide) (TB.out.below hbw)).mono ?_
          rintro e2 v10 ⟨v, zo, eo, rfl, hv, hdb, hdv, hb10⟩
          obtain ⟨s10, p10, m10, rfl, hd10⟩ := hv.dn hdb.fm
          clear hv
          replace Xa : Hid _ := Xa.out.below hb10
          replace Xb : Hid _ := Xb.out.below hb10
          replace hbw := Below.on hbw hb10
          clear hb10
          have D10 : Hid (DN v10 s10 p10 m10 m10 eo zo) := hd10
          have HB10 : Hid (DB zo eo (19200 + 19200) (5000 + 5000 + 19200 + 19200)) := hdb
          have HZ0 : Hid (zo = 0) := by
            rw [HX0.out, Int.zero_mul, dv_zero] at hdv
            exact dv_eq_zero hdv
          clear hd10 hdb hdv
          obtain ⟨ca0, ca1, ca2, fa0, fa1, fa2⟩ := Xa.out
          have hnea : ga < v10.heap.size := World.block_lt_of_cell? v10 _ ca0
          obtain ⟨cb0, cb1, cb2, fb0, fb1, fb2⟩ := Xb.out
          have hneb : gb < v10.heap.size := World.block_lt_of_cell? v10 _ cb0
          go_wp2_with fail
          clear ca0 ca1 ca2 fa0 fa1 fa2 hnea
          clear cb0 cb1 cb2 fb0 fb1 fb2 hneb
          have Xp0 : Hid (B3q (v10.alloc (.cells #[.bool s10, .slice p10 m10 m10, .int .i64 eo] 34)) v10.heap.size (.bool s10) (.slice p10 m10 m10) (.int .i64 eo)) := B3q.new v10 _ _ _ _
          have hbn : Below v10.heap.size v10 (v10.alloc (.cells #[.bool s10, .slice p10 m10 m10, .int .i64 eo] 34)) := below1 v10 _
          generalize v10.alloc (.cells #[.bool s10, .slice p10 m10 m10, .int .i64 eo] 34) = Wp at *
          have HGp : Hid (w.heap.size ≤ v10.heap.size) := hbw.size
          replace Xa : Hid _ := Xa.out.below hbn
          replace Xb : Hid _ := Xb.out.below hbn
          replace D10 : Hid _ := D10.out.below hbn
          replace hbw := Below.on hbw hbn
          clear hbn
          generalize v10.heap.size = gp at *
          have Xp := Xp0
          clear Xp0
          refine (quotient_z HJN.out HMD.out D10.out (HDB.out.below hbw) (len_db D10.out HB10.out (by decide)) HNB.out (TB.out.below hbw) HY0.out HZ0.out).mono ?_
          rintro e v11 ⟨rfl, hb11⟩
          replace Xa : Hid _ := Xa.out.below hb11
          replace Xb : Hid _ := Xb.out.below hb11
          replace Xp : Hid _ := Xp.out.below hb11
          replace D10 : Hid _ := D10.out.below hb11
          replace hbw := Below.on hbw hb11
          clear hb11
          clear D10
          obtain ⟨ca0, ca1, ca2, fa0, fa1, fa2⟩ := Xa.out
          have hnea : ga < v11.heap.size := World.block_lt_of_cell? v11 _ ca0
          obtain ⟨cb0, cb1, cb2, fb0, fb1, fb2⟩ := Xb.out
          have hneb : gb < v11.heap.size := World.block_lt_of_cell? v11 _ cb0
          go_wp2_with fail
          clear ca0 ca1 ca2 fa0 fa1 fa2 hnea
          clear cb0 cb1 cb2 fb0 fb1 fb2 hneb
          refine (rnearest HJN.out (HDA.out.below hbw) (TB.out.below hbw)).mono ?_
          rintro e v12 ⟨rfl, hb12⟩
          rw [show rnp l sd Be S I x e = 0 from by unfold rnp; rw [if_pos HX0.out]]
          replace Xa : Hid _ := Xa.out.below hb12
          replace Xb : Hid _ := Xb.out.below hb12
          replace Xp : Hid _ := Xp.out.below hb12
          replace hbw := Below.on hbw hb12
          clear hb12
          obtain ⟨ca0, ca1, ca2, fa0, fa1, fa2⟩ := Xa.out
          have hnea : ga < v12.heap.size := World.block_lt_of_cell? v12 _ ca0
          obtain ⟨cb0, cb1, cb2, fb0, fb1, fb2⟩ := Xb.out
          have hneb : gb < v12.heap.size := World.block_lt_of_cell? v12 _ cb0
          go_wp2_with fail
          clear ca0 ca1 ca2 fa0 fa1 fa2 hnea
          clear cb0 cb1 cb2 fb0 fb1 fb2 hneb
          refine (nought8_z).mono ?_
          rintro e v13 ⟨rfl, hb13⟩
          replace Xa : Hid _ := Xa.out.below hb13
          replace Xb : Hid _ := Xb.out.below hb13
          replace Xp : Hid _ := Xp.out.below hb13
          replace hbw := Below.on hbw hb13
          clear hb13
          obtain ⟨ca0, ca1, ca2, fa0, fa1, fa2⟩ := Xa.out
          have hnea : ga < v13.heap.size := World.block_lt_of_cell? v13 _ ca0
          obtain ⟨cb0, cb1, cb2, fb0, fb1, fb2⟩ := Xb.out
          have hneb : gb < v13.heap.size := World.block_lt_of_cell? v13 _ cb0
          go_wp2_with fail
          clear ca0 ca1 ca2 fa0 fa1 fa2 hnea
          clear cb0 cb1 cb2 fb0 fb1 fb2 hneb
          go_ret
          exact ⟨rfl, hbw⟩
        · have HX0 : Hid (x ≠ 0) := h0
          have HNQ : Hid (0 < na) := by
            obtain ⟨_, hY⟩ := HDA.out.zn.ex
            have h9 := hY.zero
            show 0 < na
            rcases Nat.eq_zero_or_pos na with h8 | h8
            · have := h9.1 h8; omega
            · exact h8
          clear h0
          refine (quotient_n HJN.out HMD.out (HDA.out.below hbw) (HDB.out.below hbw) HNA.out HNB.out (TB.out.below hbw) HY0.out HX0.out).mono ?_
          rintro e2 v8 ⟨q, Zq, Vq, rfl, k1, k2, k3, hb8⟩
          have HQ : Hid (SgB S s t q Zq ∧ RNz H l I Vq Zq ∧ Mk H l I (fun τ => (y.natAbs : Int) * τ) (dv (x.natAbs : Int) (e - g)) Vq) := ⟨k1, k2, k3⟩
          clear k1 k2 k3
          replace Xa : Hid _ := Xa.out.below hb8
          replace Xb : Hid _ := Xb.out.below hb8
          replace hbw := Below.on hbw hb8
          clear hb8
          obtain ⟨ca0, ca1, ca2, fa0, fa1, fa2⟩ := Xa.out
          have hnea : ga < v8.heap.size := World.block_lt_of_cell? v8 _ ca0
          obtain ⟨cb0, cb1, cb2, fb0, fb1, fb2⟩ := Xb.out
          have hneb : gb < v8.heap.size := World.block_lt_of_cell? v8 _ cb0
          go_wp2_with fail
          clear ca0 ca1 ca2 fa0 fa1 fa2 hnea
          clear cb0 cb1 cb2 fb0 fb1 fb2 hneb
          refine (nought5 HNP.out).mono ?_
          rintro e v9 ⟨rfl, hb9⟩
          replace Xa : Hid _ := Xa.out.below hb9
          replace Xb : Hid _ := Xb.out.below hb9
          replace hbw := Below.on hbw hb9
          clear hb9
          obtain ⟨ca0, ca1, ca2, fa0, fa1, fa2⟩ := Xa.out
          have hnea : ga < v9.heap.size := World.block_lt_of_cell? v9 _ ca0
          obtain ⟨cb0, cb1, cb2, fb0, fb1, fb2⟩ := Xb.out
          have hneb : gb < v9.heap.size := World.block_lt_of_cell? v9 _ cb0
          go_wp2_with fail
          clear ca0 ca1 ca2 fa0 fa1 fa2 hnea
          clear cb0 cb1 cb2 fb0 fb1 fb2 hneb
          refine (dmul_b (HDA.out.below hbw) (HDB.out.below hbw) HBA.out HBB.out (by decide) (by decide) (TB.out.below hbw)).mono ?_
          rintro e2 v10 ⟨v, zo, eo, rfl, hv, hdb, hdv, hb10⟩
          obtain ⟨s10, p10, m10, rfl, hd10⟩ := hv.dn hdb.fm
          clear hv
          replace Xa : Hid _ := Xa.out.below hb10
          replace Xb : Hid _ := Xb.out.below hb10
          replace hbw := Below.on hbw hb10
          clear hb10
          have D10 : Hid (DN v10 s10 p10 m10 m10 eo zo) := hd10
          have HB10 : Hid (DB zo eo (19200 + 19200) (5000 + 5000 + 19200 + 19200)) := hdb
          obtain ⟨rfl, rfl⟩ := prod_form HBA.out HBB.out HX0.out HY0.out (by decide) hdb.fm hdv
          have HZ0 : Hid (x * y ≠ 0) := Int.mul_ne_zero HX0.out HY0.out
          clear hd10 hdb hdv
          obtain ⟨ca0, ca1, ca2, fa0, fa1, fa2⟩ := Xa.out
          have hnea : ga < v10.heap.size := World.block_lt_of_cell? v10 _ ca0
          obtain ⟨cb0, cb1, cb2, fb0, fb1, fb2⟩ := Xb.out
          have hneb : gb < v10.heap.size := World.block_lt_of_cell? v10 _ cb0
          go_wp2_with fail
          clear ca0 ca1 ca2 fa0 fa1 fa2 hnea
          clear cb0 cb1 cb2 fb0 fb1 fb2 hneb
          have Xp0 : Hid (B3q (v10.alloc (.cells #[.bool s10, .slice p10 m10 m10, .int .i64 (e + g)] 34)) v10.heap.size (.bool s10) (.slice p10 m10 m10) (.int .i64 (e + g))) := B3q.new v10 _ _ _ _
          have hbn : Below v10.heap.size v10 (v10.alloc (.cells #[.bool s10, .slice p10 m10 m10, .int .i64 (e + g)] 34)) := below1 v10 _
          generalize v10.alloc (.cells #[.bool s10, .slice p10 m10 m10, .int .i64 (e + g)] 34) = Wp at *
          have HGp : Hid (w.heap.size ≤ v10.heap.size) := hbw.size
          replace Xa : Hid _ := Xa.out.below hbn
          replace Xb : Hid _ := Xb.out.below hbn
          replace D10 : Hid _ := D10.out.below hbn
          replace hbw := Below.on hbw hbn
          clear hbn
          generalize v10.heap.size = gp at *
          have Xp := Xp0
          clear Xp0
          obtain ⟨wt, hwt⟩ : ∃ wt, wt = rnp l sd Be S I x e := ⟨_, rfl⟩
          have HWT : Hid (rnp l sd Be S I x e = wt) := hwt.symm
          clear hwt
          refine (quotient_n HJN.out HMD.out D10.out (HDB.out.below hbw) (len_db D10.out HB10.out (by decide)) HNB.out (TB.out.below hbw) HY0.out HZ0.out).mono ?_
          rintro e2 v11 ⟨b11, Z11, V11, rfl, k1, k2, k3, hb11⟩
          obtain rfl : b11 = wt := (back_ok HJN.out (by have := HBA.out.lo; omega) HX0.out HY0.out D10.out.zn.sg HDB.out.zn.sg k1 k2 k3).trans HWT.out
          clear k1 k2 k3
          replace Xa : Hid _ := Xa.out.below hb11
          replace Xb : Hid _ := Xb.out.below hb11
          replace Xp : Hid _ := Xp.out.below hb11
          replace D10 : Hid _ := D10.out.below hb11
          replace hbw := Below.on hbw hb11
          clear hb11
          clear D10
          obtain ⟨ca0, ca1, ca2, fa0, fa1, fa2⟩ := Xa.out
          have hnea : ga < v11.heap.size := World.block_lt_of_cell? v11 _ ca0
          obtain ⟨cb0, cb1, cb2, fb0, fb1, fb2⟩ := Xb.out
          have hneb : gb < v11.heap.size := World.block_lt_of_cell? v11 _ cb0
          go_wp2_with fail
          clear ca0 ca1 ca2 fa0 fa1 fa2 hnea
          clear cb0 cb1 cb2 fb0 fb1 fb2 hneb
          refine (rnearest HJN.out (HDA.out.below hbw) (TB.out.below hbw)).mono ?_
          rintro e v12 ⟨rfl, hb12⟩
          rw [HWT.out]
          replace Xa : Hid _ := Xa.out.below hb12
          replace Xb : Hid _ := Xb.out.below hb12
          replace Xp : Hid _ := Xp.out.below hb12
          replace hbw := Below.on hbw hb12
          clear hb12
          obtain ⟨ca0, ca1, ca2, fa0, fa1, fa2⟩ := Xa.out
          have hnea : ga < v12.heap.size := World.block_lt_of_cell? v12 _ ca0
          obtain ⟨cb0, cb1, cb2, fb0, fb1, fb2⟩ := Xb.out
          have hneb : gb < v12.heap.size := World.block_lt_of_cell? v12 _ cb0
          go_wp2_with fail
          clear ca0 ca1 ca2 fa0 fa1 fa2 hnea
          clear cb0 cb1 cb2 fb0 fb1 fb2 hneb
          refine (nought5 HNQ.out).mono ?_
          rintro e v13 ⟨rfl, hb13⟩
          replace Xa : Hid _ := Xa.out.below hb13
          replace Xb : Hid _ := Xb.out.below hb13
          replace Xp : Hid _ := Xp.out.below hb13
          replace hbw := Below.on hbw hb13
          clear hb13
          clear Xp
          obtain ⟨ca0, ca1, ca2, fa0, fa1, fa2⟩ := Xa.out
          have hnea : ga < v13.heap.size := World.block_lt_of_cell? v13 _ ca0
          obtain ⟨cb0, cb1, cb2, fb0, fb1, fb2⟩ := Xb.out
          have hneb : gb < v13.heap.size := World.block_lt_of_cell? v13 _ cb0
          go_wp2_with fail
          clear ca0 ca1 ca2 fa0 fa1 fa2 hnea
          clear cb0 cb1 cb2 fb0 fb1 fb2 hneb
          obtain ⟨X9, Y9, L9, hw9⟩ := wb_ex x y 70
          obtain ⟨zl, el, zh, eh, hq9⟩ := qf_any (HBA.out.mono (by decide) (by decide)) (HBB.out.mono (by decide) (by decide)) HY0.out ⟨by decide, by decide⟩ hw9
          have HW9 : Hid (WB x y 70 X9 Y9 L9) := hw9
          have HQ9 : Hid (QF x e y g 70 X9 Y9 L9 zl el zh eh) := hq9
          clear hw9 hq9
          have hN := qf_od (HDA.out.below hbw) (HDB.out.below hbw) HY0.out HNA.out HNB.out (P := 70) (by decide) HW9.out rfl rfl (TB.out.below hbw)
          rw [show ((70 : Nat) : Int) = 70 from rfl] at hN
          refine hN.mono ?_
          rintro e2 v14 ⟨hv, hb14⟩
          obtain ⟨v, rfl, hv2⟩ := hv.form HQ9.out.fl HQ9.out.vl
          obtain ⟨s14, p14, m14, rfl, hd14⟩ := hv2.dn HQ9.out.fl
          clear hv hv2 hN
          replace Xa : Hid _ := Xa.out.below hb14
          replace Xb : Hid _ := Xb.out.below hb14
          replace hbw := Below.on hbw hb14
          clear hb14
          have D14 : Hid (DN v14 s14 p14 m14 m14 el zl) := hd14
          clear hd14
          obtain ⟨ca0, ca1, ca2, fa0, fa1, fa2⟩ := Xa.out
          have hnea : ga < v14.heap.size := World.block_lt_of_cell? v14 _ ca0
          obtain ⟨cb0, cb1, cb2, fb0, fb1, fb2⟩ := Xb.out
          have hneb : gb < v14.heap.size := World.block_lt_of_cell? v14 _ cb0
          go_wp2_with fail
          clear ca0 ca1 ca2 fa0 fa1 fa2 hnea
          clear cb0 cb1 cb2 fb0 fb1 fb2 hneb
          have Xl140 : Hid (B3q (v14.alloc (.cells #[.bool s14, .slice p14 m14 m14, .int .i64 el] 34)) v14.heap.size (.bool s14) (.slice p14 m14 m14) (.int .i64 el)) := B3q.new v14 _ _ _ _
          have hbn : Below v14.heap.size v14 (v14.alloc (.cells #[.bool s14, .slice p14 m14 m14, .int .i64 el] 34)) := below1 v14 _
          generalize v14.alloc (.cells #[.bool s14, .slice p14 m14 m14, .int .i64 el] 34) = Wl14 at *
          have HGl14 : Hid (w.heap.size ≤ v14.heap.size) := hbw.size
          replace Xa : Hid _ := Xa.out.below hbn
          replace Xb : Hid _ := Xb.out.below hbn
          replace D14 : Hid _ := D14.out.below hbn
          replace hbw := Below.on hbw hbn
          clear hbn
          generalize v14.heap.size = gl14 at *
          have Xl14 := Xl140
          clear Xl140
          have hN := qf_ou (HDA.out.below hbw) (HDB.out.below hbw) HY0.out HNA.out HNB.out (P := 70) (by decide) HW9.out rfl rfl (TB.out.below hbw)
          rw [show ((70 : Nat) : Int) = 70 from rfl] at hN
          refine hN.mono ?_
          rintro e2 v15 ⟨hv, hb15⟩
          obtain ⟨v, rfl, hv2⟩ := hv.form HQ9.out.fh HQ9.out.vh
          obtain ⟨s15, p15, m15, rfl, hd15⟩ := hv2.dn HQ9.out.fh
          clear hv hv2 hN
          replace Xa : Hid _ := Xa.out.below hb15
          replace Xb : Hid _ := Xb.out.below hb15
          replace Xl14 : Hid _ := Xl14.out.below hb15
          replace D14 : Hid _ := D14.out.below hb15
          replace hbw := Below.on hbw hb15
          clear hb15
          have D15 : Hid (DN v15 s15 p15 m15 m15 eh zh) := hd15
          clear hd15
          obtain ⟨ca0, ca1, ca2, fa0, fa1, fa2⟩ := Xa.out
          have hnea : ga < v15.heap.size := World.block_lt_of_cell? v15 _ ca0
          obtain ⟨cb0, cb1, cb2, fb0, fb1, fb2⟩ := Xb.out
          have hneb : gb < v15.heap.size := World.block_lt_of_cell? v15 _ cb0
          obtain ⟨cl140, cl141, cl142, fl140, fl141, fl142⟩ := Xl14.out
          have hnel14 : gl14 < v15.heap.size := World.block_lt_of_cell? v15 _ cl140
          go_wp2_with fail
          clear ca0 ca1 ca2 fa0 fa1 fa2 hnea
          clear cb0 cb1 cb2 fb0 fb1 fb2 hneb
          clear cl140 cl141 cl142 fl140 fl141 fl142 hnel14
          have Xl150 : Hid (B3q (v15.alloc (.cells #[.bool s15, .slice p15 m15 m15, .int .i64 eh] 34)) v15.heap.size (.bool s15) (.slice p15 m15 m15) (.int .i64 eh)) := B3q.new v15 _ _ _ _
          have hbn : Below v15.heap.size v15 (v15.alloc (.cells #[.bool s15, .slice p15 m15 m15, .int .i64 eh] 34)) := below1 v15 _
          generalize v15.alloc (.cells #[.bool s15, .slice p15 m15 m15, .int .i64 eh] 34) = Wl15 at *
          have HGl15 : Hid (w.heap.size ≤ v15.heap.size) := hbw.size
          replace Xa : Hid _ := Xa.out.below hbn
          replace Xb : Hid _ := Xb.out.below hbn
          replace Xl14 : Hid _ := Xl14.out.below hbn
          replace D14 : Hid _ := D14.out.below hbn
          replace D15 : Hid _ := D15.out.below hbn
          replace hbw := Below.on hbw hbn
          clear hbn
          generalize v15.heap.size = gl15 at *
          have Xl15 := Xl150
          clear Xl150
          obtain ⟨rl, hrl⟩ : ∃ r, r = rnp l sd Be S I zl el := ⟨_, rfl⟩
          obtain ⟨Zrl, arl1, arl2, arl3, arl4⟩ := rk_rnp HJN.out (x := zl) (e := el) (by have := HQ9.out.dl.lo; omega)
          have Hrl : Hid (rnp l sd Be S I zl el = rl) := hrl.symm
          rw [← hrl] at arl2 arl3 arl4
          have HFrl : Hid (RNz H l I (dv (zl.natAbs : Int) el) Zrl ∧ rl < 2 * S ∧ rl % S ≤ I ∧ rkS S rl = (if zl < 0 then -(Zrl : Int) else (Zrl : Int))) := ⟨arl1, arl2, arl3, arl4⟩
          clear hrl arl1 arl2 arl3 arl4
          refine (rnearest HJN.out D14.out (TB.out.below hbw)).mono ?_
          rintro e v16 ⟨rfl, hb16⟩
          rw [Hrl.out]
          replace Xa : Hid _ := Xa.out.below hb16
          replace Xb : Hid _ := Xb.out.below hb16
          replace Xl14 : Hid _ := Xl14.out.below hb16
          replace Xl15 : Hid _ := Xl15.out.below hb16
          replace D14 : Hid _ := D14.out.below hb16
          replace D15 : Hid _ := D15.out.below hb16
          replace hbw := Below.on hbw hb16
          clear hb16
          obtain ⟨ca0, ca1, ca2, fa0, fa1, fa2⟩ := Xa.out
          have hnea : ga < v16.heap.size := World.block_lt_of_cell? v16 _ ca0
          obtain ⟨cb0, cb1, cb2, fb0, fb1, fb2⟩ := Xb.out
          have hneb : gb < v16.heap.size := World.block_lt_of_cell? v16 _ cb0
          obtain ⟨cl140, cl141, cl142, fl140, fl141, fl142⟩ := Xl14.out
          have hnel14 : gl14 < v16.heap.size := World.block_lt_of_cell? v16 _ cl140
          obtain ⟨cl150, cl151, cl152, fl150, fl151, fl152⟩ := Xl15.out
          have hnel15 : gl15 < v16.heap.size := World.block_lt_of_cell? v16 _ cl150
          go_wp2_with fail
          clear ca0 ca1 ca2 fa0 fa1 fa2 hnea
          clear cb0 cb1 cb2 fb0 fb1 fb2 hneb
          clear cl140 cl141 cl142 fl140 fl141 fl142 hnel14
          clear cl150 cl151 cl152 fl150 fl151 fl152 hnel15
          obtain ⟨rh, hrh⟩ : ∃ r, r = rnp l sd Be S I zh eh := ⟨_, rfl⟩
          obtain ⟨Zrh, arh1, arh2, arh3, arh4⟩ := rk_rnp HJN.out (x := zh) (e := eh) (by have := HQ9.out.dh.lo; omega)
          have Hrh : Hid (rnp l sd Be S I zh eh = rh) := hrh.symm
          rw [← hrh] at arh2 arh3 arh4
          have HFrh : Hid (RNz H l I (dv (zh.natAbs : Int) eh) Zrh ∧ rh < 2 * S ∧ rh % S ≤ I ∧ rkS S rh = (if zh < 0 then -(Zrh : Int) else (Zrh : Int))) := ⟨arh1, arh2, arh3, arh4⟩
          clear hrh arh1 arh2 arh3 arh4
          refine (rnearest HJN.out D15.out (TB.out.below hbw)).mono ?_
          rintro e v17 ⟨rfl, hb17⟩
          rw [Hrh.out]
          replace Xa : Hid _ := Xa.out.below hb17
          replace Xb : Hid _ := Xb.out.below hb17
          replace Xl14 : Hid _ := Xl14.out.below hb17
          replace Xl15 : Hid _ := Xl15.out.below hb17
          replace D14 : Hid _ := D14.out.below hb17
          replace D15 : Hid _ := D15.out.below hb17
          replace hbw := Below.on hbw hb17
          clear hb17
          obtain ⟨ca0, ca1, ca2, fa0, fa1, fa2⟩ := Xa.out
          have hnea : ga < v17.heap.size := World.block_lt_of_cell? v17 _ ca0
          obtain ⟨cb0, cb1, cb2, fb0, fb1, fb2⟩ := Xb.out
          have hneb : gb < v17.heap.size := World.block_lt_of_cell? v17 _ cb0
          obtain ⟨cl140, cl141, cl142, fl140, fl141, fl142⟩ := Xl14.out
          have hnel14 : gl14 < v17.heap.size := World.block_lt_of_cell? v17 _ cl140
          obtain ⟨cl150, cl151, cl152, fl150, fl151, fl152⟩ := Xl15.out
          have hnel15 : gl15 < v17.heap.size := World.block_lt_of_cell? v17 _ cl150
          go_wp2_with fail
          clear ca0 ca1 ca2 fa0 fa1 fa2 hnea
          clear cb0 cb1 cb2 fb0 fb1 fb2 hneb
          clear cl140 cl141 cl142 fl140 fl141 fl142 hnel14
          clear cl150 cl151 cl152 fl150 fl151 fl152 hnel15
          have hsf := sgb_facts HJN.out HQ.out.1 HQ.out.2.1.le
          have HSF : Hid (q < 2 * S ∧ q % S ≤ I) := ⟨hsf.1, by rw [hsf.2.1]; exact HQ.out.2.1.le⟩
          have hle := qf_le HQ9.out (by have := HBA.out.lo; have := HBA.out.hi; omega) (by have := HBB.out.lo; have := HBB.out.hi; omega)
          have hlo : rkS S rl ≤ rkS S q := by
            rw [HFrl.out.2.2.2, hsf.2.2, HDA.out.zn.sg, HDB.out.zn.sg]
            exact rank_lo HX0.out HY0.out (fun h => (hle.1 h).1) (fun h => (hle.2 h).2) HQ.out.2.2 HQ.out.2.1 HFrl.out.1
          have hhi : rkS S q ≤ rkS S rh := by
            rw [HFrh.out.2.2.2, hsf.2.2, HDA.out.zn.sg, HDB.out.zn.sg]
            exact rank_hi HJN.out HX0.out HY0.out (fun h => (hle.1 h).2) (fun h => (hle.2 h).1) HQ.out.2.2 HQ.out.2.1 HFrh.out.1
          obtain ⟨k1, hk1⟩ : ∃ k1, k1 = rkS S rl := ⟨_, rfl⟩
          obtain ⟨kq, hkq⟩ : ∃ kq, kq = rkS S q := ⟨_, rfl⟩
          obtain ⟨k2, hk2⟩ : ∃ k2, k2 = rkS S rh := ⟨_, rfl⟩
          rw [← hk1, ← hkq] at hlo
          rw [← hk2, ← hkq] at hhi
          have HK : Hid (rkS S rl = k1 ∧ rkS S q = kq ∧ rkS S rh = k2) := ⟨hk1.symm, hkq.symm, hk2.symm⟩
          have d1 : decide (kq < k1) = false := decide_eq_false (by omega)
          have d2 : decide (k2 < kq) = false := decide_eq_false (by omega)
          have d3 : ¬ kq < k1 := by omega
          have d4 : ¬ k2 < kq := by omega
          clear hsf hle hlo hhi hk1 hkq hk2
          refine (rank8 HJN.out.jm.pm.fm rl HFrl.out.2.1 HFrl.out.2.2.1 _).mono ?_
          rintro e v18 ⟨rfl, hb18⟩
          rw [HK.out.1]
          replace Xa : Hid _ := Xa.out.below hb18
          replace Xb : Hid _ := Xb.out.below hb18
          replace Xl14 : Hid _ := Xl14.out.below hb18
          replace Xl15 : Hid _ := Xl15.out.below hb18
          replace D14 : Hid _ := D14.out.below hb18
          replace D15 : Hid _ := D15.out.below hb18
          replace hbw := Below.on hbw hb18
          clear hb18
          obtain ⟨ca0, ca1, ca2, fa0, fa1, fa2⟩ := Xa.out
          have hnea : ga < v18.heap.size := World.block_lt_of_cell? v18 _ ca0
          obtain ⟨cb0, cb1, cb2, fb0, fb1, fb2⟩ := Xb.out
          have hneb : gb < v18.heap.size := World.block_lt_of_cell? v18 _ cb0
          go_wp2_with fail
          clear ca0 ca1 ca2 fa0 fa1 fa2 hnea
          clear cb0 cb1 cb2 fb0 fb1 fb2 hneb
          refine (rank8 HJN.out.jm.pm.fm q HSF.out.1 HSF.out.2 _).mono ?_
          rintro e v19 ⟨rfl, hb19⟩
          rw [HK.out.2.1]
          replace Xa : Hid _ := Xa.out.below hb19
          replace Xb : Hid _ := Xb.out.below hb19
          replace Xl14 : Hid _ := Xl14.out.below hb19
          replace Xl15 : Hid _ := Xl15.out.below hb19
          replace D14 : Hid _ := D14.out.below hb19
          replace D15 : Hid _ := D15.out.below hb19
          replace hbw := Below.on hbw hb19
          clear hb19
          obtain ⟨ca0, ca1, ca2, fa0, fa1, fa2⟩ := Xa.out
          have hnea : ga < v19.heap.size := World.block_lt_of_cell? v19 _ ca0
          obtain ⟨cb0, cb1, cb2, fb0, fb1, fb2⟩ := Xb.out
          have hneb : gb < v19.heap.size := World.block_lt_of_cell? v19 _ cb0
          go_wp2_with fail
          clear ca0 ca1 ca2 fa0 fa1 fa2 hnea
          clear cb0 cb1 cb2 fb0 fb1 fb2 hneb
          refine (rank8 HJN.out.jm.pm.fm q HSF.out.1 HSF.out.2 _).mono ?_
          rintro e v20 ⟨rfl, hb20⟩
          rw [HK.out.2.1]
          replace Xa : Hid _ := Xa.out.below hb20
          replace Xb : Hid _ := Xb.out.below hb20
          replace Xl14 : Hid _ := Xl14.out.below hb20
          replace Xl15 : Hid _ := Xl15.out.below hb20
          replace D14 : Hid _ := D14.out.below hb20
          replace D15 : Hid _ := D15.out.below hb20
          replace hbw := Below.on hbw hb20
          clear hb20
          obtain ⟨ca0, ca1, ca2, fa0, fa1, fa2⟩ := Xa.out
          have hnea : ga < v20.heap.size := World.block_lt_of_cell? v20 _ ca0
          obtain ⟨cb0, cb1, cb2, fb0, fb1, fb2⟩ := Xb.out
          have hneb : gb < v20.heap.size := World.block_lt_of_cell? v20 _ cb0
          go_wp2_with fail
          clear ca0 ca1 ca2 fa0 fa1 fa2 hnea
          clear cb0 cb1 cb2 fb0 fb1 fb2 hneb
          refine (rank8 HJN.out.jm.pm.fm rh HFrh.out.2.1 HFrh.out.2.2.1 _).mono ?_
          rintro e v21 ⟨rfl, hb21⟩
          rw [HK.out.2.2]
          replace Xa : Hid _ := Xa.out.below hb21
          replace Xb : Hid _ := Xb.out.below hb21
          replace Xl14 : Hid _ := Xl14.out.below hb21
          replace Xl15 : Hid _ := Xl15.out.below hb21
          replace D14 : Hid _ := D14.out.below hb21
          replace D15 : Hid _ := D15.out.below hb21
          replace hbw := Below.on hbw hb21
          clear hb21
          clear D14
          clear D15
          clear Xl14
          clear Xl15
          obtain ⟨ca0, ca1, ca2, fa0, fa1, fa2⟩ := Xa.out
          have hnea : ga < v21.heap.size := World.block_lt_of_cell? v21 _ ca0
          obtain ⟨cb0, cb1, cb2, fb0, fb1, fb2⟩ := Xb.out
          have hneb : gb < v21.heap.size := World.block_lt_of_cell? v21 _ cb0
          go_wp2_with fail
          clear ca0 ca1 ca2 fa0 fa1 fa2 hnea
          clear cb0 cb1 cb2 fb0 fb1 fb2 hneb
          refine (dneg (HDA.out.below hbw)).mono ?_
          rintro e2 v22 ⟨v, rfl, hv, hfm, hb22⟩
          obtain ⟨s22, p22, m22, rfl, hd22⟩ := hv.dn hfm
          clear hv hfm
          replace Xa : Hid _ := Xa.out.below hb22
          replace Xb : Hid _ := Xb.out.below hb22
          replace hbw := Below.on hbw hb22
          clear hb22
          have D22 : Hid (DN v22 s22 p22 m22 m22 e (-x)) := hd22
          clear hd22
          obtain ⟨ca0, ca1, ca2, fa0, fa1, fa2⟩ := Xa.out
          have hnea : ga < v22.heap.size := World.block_lt_of_cell? v22 _ ca0
          obtain ⟨cb0, cb1, cb2, fb0, fb1, fb2⟩ := Xb.out
          have hneb : gb < v22.heap.size := World.block_lt_of_cell? v22 _ cb0
          go_wp2_with fail
          clear ca0 ca1 ca2 fa0 fa1 fa2 hnea
          clear cb0 cb1 cb2 fb0 fb1 fb2 hneb
          have Xn0 : Hid (B3q (v22.alloc (.cells #[.bool s22, .slice p22 m22 m22, .int .i64 e] 34)) v22.heap.size (.bool s22) (.slice p22 m22 m22) (.int .i64 e)) := B3q.new v22 _ _ _ _
          have hbn : Below v22.heap.size v22 (v22.alloc (.cells #[.bool s22, .slice p22 m22 m22, .int .i64 e] 34)) := below1 v22 _
          generalize v22.alloc (.cells #[.bool s22, .slice p22 m22 m22, .int .i64 e] 34) = Wn at *
          have HGn : Hid (w.heap.size ≤ v22.heap.size) := hbw.size
          replace Xa : Hid _ := Xa.out.below hbn
          replace Xb : Hid _ := Xb.out.below hbn
          replace D22 : Hid _ := D22.out.below hbn
          replace hbw := Below.on hbw hbn
          clear hbn
          generalize v22.heap.size = gn at *
          have Xn := Xn0
          clear Xn0
          refine (quotient_n HJN.out HMD.out D22.out (HDB.out.below hbw) (len_db D22.out HBA.out.neg (by decide)) HNB.out (TB.out.below hbw) HY0.out (by have := HX0.out; omega)).mono ?_
          rintro e2 v23 ⟨o, Zo, Vo, rfl, k1', k2', k3', hb23⟩
          rw [Int.natAbs_neg] at k3'
          obtain rfl : o = xsS S q := neg_ok HJN.out HX0.out HDA.out.zn.sg D22.out.zn.sg HQ.out.1 HQ.out.2.1 HQ.out.2.2 k1' k2' k3'
          clear k1' k2' k3'
          replace Xa : Hid _ := Xa.out.below hb23
          replace Xb : Hid _ := Xb.out.below hb23
          replace Xn : Hid _ := Xn.out.below hb23
          replace D22 : Hid _ := D22.out.below hb23
          replace hbw := Below.on hbw hb23
          clear hb23
          obtain ⟨ca0, ca1, ca2, fa0, fa1, fa2⟩ := Xa.out
          have hnea : ga < v23.heap.size := World.block_lt_of_cell? v23 _ ca0
          obtain ⟨cb0, cb1, cb2, fb0, fb1, fb2⟩ := Xb.out
          have hneb : gb < v23.heap.size := World.block_lt_of_cell? v23 _ cb0
          go_wp2_with fail
          clear ca0 ca1 ca2 fa0 fa1 fa2 hnea
          clear cb0 cb1 cb2 fb0 fb1 fb2 hneb
          have ax := HLW.out.xr q HSF.out.1
          generalize xsS S q = xo at *
          refine (HLW.out.sg _).mono ?_
          rintro e v24 ⟨rfl, hb24⟩
          replace Xa : Hid _ := Xa.out.below hb24
          replace Xb : Hid _ := Xb.out.below hb24
          replace Xn : Hid _ := Xn.out.below hb24
          replace D22 : Hid _ := D22.out.below hb24
          replace hbw := Below.on hbw hb24
          clear hb24
          obtain ⟨ca0, ca1, ca2, fa0, fa1, fa2⟩ := Xa.out
          have hnea : ga < v24.heap.size := World.block_lt_of_cell? v24 _ ca0
          obtain ⟨cb0, cb1, cb2, fb0, fb1, fb2⟩ := Xb.out
          have hneb : gb < v24.heap.size := World.block_lt_of_cell? v24 _ cb0
          go_wp2_with fail
          clear ca0 ca1 ca2 fa0 fa1 fa2 hnea
          clear cb0 cb1 cb2 fb0 fb1 fb2 hneb
          go_ret
          exact ⟨rfl, hbw⟩
theorem roundQuoted_w (single : Bool) {pa pb : Option Addr} {na ca nb cb : Nat} {xs ys : List Nat} {w : World} {e g : Int} {s t : Bool} (h : At w pa na ca xs) (k : At w pb nb cb ys) (hT : Tab w) :
    Calls Tryz.prog 4 #[.bool single, DV s pa na ca e, DV t pb nb cb g] w fun en w' => en = .returned (.bool true) ∧ Below w.heap.size w w' := by
  cases single
  · exact roundQuoted_x jn_64 (by decide) lq_64 h k hT
  · exact roundQuoted_x jn_32 (by decide) lq_32 h k hT
end Go.Proofs.YtfofoookdlaipaaGreatDoor

