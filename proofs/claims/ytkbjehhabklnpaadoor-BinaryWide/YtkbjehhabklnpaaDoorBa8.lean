import Derived.Test.YtkbjehhabklnpaaDoorJ13
namespace Go.Proofs.YtkbjehhabklnpaaDoor
open Go.RowKit Go.Shelf

set_option maxRecDepth 20000 in
set_option maxHeartbeats 8000000 in
theorem clsof_32 (b : Nat) (hb : b < 2 * 2147483648) (w : World) :
    Calls Tryd.prog 10 #[.int .i64 32, U b] w fun en w' => en = .returned (.tuple #[.int .i64 (clsN 8388608 2139095040 (b % 2147483648)), .int .i64 0]) ∧ Below w.heap.size w w' := by
  have hbw : Below w.heap.size w w := Below.refl _ _
  obtain ⟨z, hz⟩ : ∃ z : Nat, z = b % 2147483648 := ⟨_, rfl⟩
  obtain ⟨s, hs⟩ : ∃ s, s = decide (2147483648 ≤ b) := ⟨_, rfl⟩
  obtain ⟨c, hc⟩ : ∃ c, c = clsN 8388608 2139095040 z := ⟨_, rfl⟩
  have HPT : Hid (∀ w, Calls Tryd.prog 27 #[.int .i64 32, U b] w fun e w' => e = .returned (.tuple #[PV 32 24 (-149) s z, .int .i64 0]) ∧ Below w.heap.size w w') := by rw [hz, hs]; exact fun w => fm_32.pat b w hb
  rw [← hz, ← hc]
  have HC : Hid (clsN 8388608 2139095040 z = c) := hc.symm
  clear hz hs hc hb
  go_enter Tryd.func10, Tryd.ntmps10
  go_wp2_with fail
  refine (HPT.out _).mono ?_
  rintro e v1 ⟨rfl, hb1⟩
  replace hbw := Below.on hbw hb1
  clear hb1
  go_wp2_with fail
  have Xp0 : Hid (B5q (v1.alloc (.cells #[.int .i64 32, .int .i64 24, .int .i64 (-149), .bool s, U z] 58)) v1.heap.size (.int .i64 32) (.int .i64 24) (.int .i64 (-149)) (.bool s) (U z)) := B5q.new v1 _ _ _ _ _ _
  have hbn : Below v1.heap.size v1 (v1.alloc (.cells #[.int .i64 32, .int .i64 24, .int .i64 (-149), .bool s, U z] 58)) := below1 v1 _
  generalize v1.alloc (.cells #[.int .i64 32, .int .i64 24, .int .i64 (-149), .bool s, U z] 58) = Wp at *
  have HGp : Hid (w.heap.size ≤ v1.heap.size) := hbw.size
  replace hbw := Below.on hbw hbn
  clear hbn
  generalize v1.heap.size = gp at *
  have Xp := Xp0
  clear Xp0
  refine (class_32 rfl s z _).mono ?_
  rintro e2 v2 ⟨rfl, hb2⟩
  rw [HC.out]
  replace Xp : Hid _ := Xp.out.below hb2
  replace hbw := Below.on hbw hb2
  clear hb2
  go_wp2_with fail
  go_ret2
  exact ⟨rfl, hbw⟩
set_option maxRecDepth 20000 in
set_option maxHeartbeats 8000000 in
theorem clsof_64 (b : Nat) (hb : b < 2 * 9223372036854775808) (w : World) :
    Calls Tryd.prog 10 #[.int .i64 64, U b] w fun en w' => en = .returned (.tuple #[.int .i64 (clsN 4503599627370496 9218868437227405312 (b % 9223372036854775808)), .int .i64 0]) ∧ Below w.heap.size w w' := by
  have hbw : Below w.heap.size w w := Below.refl _ _
  obtain ⟨z, hz⟩ : ∃ z : Nat, z = b % 9223372036854775808 := ⟨_, rfl⟩
  obtain ⟨s, hs⟩ : ∃ s, s = decide (9223372036854775808 ≤ b) := ⟨_, rfl⟩
  obtain ⟨c, hc⟩ : ∃ c, c = clsN 4503599627370496 9218868437227405312 z := ⟨_, rfl⟩
  have HPT : Hid (∀ w, Calls Tryd.prog 27 #[.int .i64 64, U b] w fun e w' => e = .returned (.tuple #[PV 64 53 (-1074) s z, .int .i64 0]) ∧ Below w.heap.size w w') := by rw [hz, hs]; exact fun w => fm_64.pat b w hb
  rw [← hz, ← hc]
  have HC : Hid (clsN 4503599627370496 9218868437227405312 z = c) := hc.symm
  clear hz hs hc hb
  go_enter Tryd.func10, Tryd.ntmps10
  go_wp2_with fail
  refine (HPT.out _).mono ?_
  rintro e v1 ⟨rfl, hb1⟩
  replace hbw := Below.on hbw hb1
  clear hb1
  go_wp2_with fail
  have Xp0 : Hid (B5q (v1.alloc (.cells #[.int .i64 64, .int .i64 53, .int .i64 (-1074), .bool s, U z] 58)) v1.heap.size (.int .i64 64) (.int .i64 53) (.int .i64 (-1074)) (.bool s) (U z)) := B5q.new v1 _ _ _ _ _ _
  have hbn : Below v1.heap.size v1 (v1.alloc (.cells #[.int .i64 64, .int .i64 53, .int .i64 (-1074), .bool s, U z] 58)) := below1 v1 _
  generalize v1.alloc (.cells #[.int .i64 64, .int .i64 53, .int .i64 (-1074), .bool s, U z] 58) = Wp at *
  have HGp : Hid (w.heap.size ≤ v1.heap.size) := hbw.size
  replace hbw := Below.on hbw hbn
  clear hbn
  generalize v1.heap.size = gp at *
  have Xp := Xp0
  clear Xp0
  refine (class_64 rfl s z _).mono ?_
  rintro e2 v2 ⟨rfl, hb2⟩
  rw [HC.out]
  replace Xp : Hid _ := Xp.out.below hb2
  replace hbw := Below.on hbw hb2
  clear hb2
  go_wp2_with fail
  go_ret2
  exact ⟨rfl, hbw⟩
set_option maxRecDepth 20000 in
set_option maxHeartbeats 8000000 in
theorem same7 {p q : Option Addr} {m c n d : Nat} {w : World} {z e : Int} {s t : Bool} (h : DN w s p m c e z) (k : DN w t q n d e z) :
    Calls Tryd.prog 12 #[DV s p m c e, DV t q n d e] w fun en w' => en = .returned (.bool true) ∧ Below w.heap.size w w' := by
  obtain rfl : s = t := by rw [h.zn.sg, k.zn.sg]
  have H : Hid (DN w s p m c e z) := h
  have K : Hid (DN w s q n d e z) := k
  have hbb : (s == s) = true := by simp
  have hee : (e == e) = true := by simp
  clear h k
  go_enter Tryd.func12, Tryd.ntmps12
  go_wp2_with fail
  obtain ⟨W0, hW0⟩ : ∃ W0, W0 = ((w.alloc (.cells #[.bool s, .slice p m c, .int .i64 e] 36)).alloc (.cells #[.bool s, .slice q n d, .int .i64 e] 36)) := ⟨_, rfl⟩
  have Xa : Hid (B3q W0 (w.heap.size) (.bool s) (.slice p m c) (.int .i64 e)) := by rw [hW0]; exact ⟨by go_simp, by go_simp, by go_simp, by go_simp, by go_simp, by go_simp⟩
  have Xb : Hid (B3q W0 (w.heap.size + 1) (.bool s) (.slice q n d) (.int .i64 e)) := by rw [hW0]; exact ⟨by go_simp, by go_simp, by go_simp, by go_simp, by go_simp, by go_simp⟩
  have hb0 : Below w.heap.size w W0 := by rw [hW0]; exact below2 w _ _
  rw [← hW0]
  clear hW0
  have hbw : Below w.heap.size w w := Below.refl _ _
  obtain ⟨gb, hgb⟩ : ∃ g, g = w.heap.size + 1 := ⟨_, rfl⟩
  have HGb : Hid (w.heap.size ≤ gb) := by rw [hgb]; show _ ≤ _; omega
  rw [← hgb] at Xb
  try rw [← hgb]
  obtain ⟨ga, hga⟩ : ∃ g, g = w.heap.size := ⟨_, rfl⟩
  have HGa : Hid (w.heap.size ≤ ga) := by rw [hga]; show _ ≤ _; omega
  rw [← hga] at Xa
  try rw [← hga]
  have HGD : Hid (ga ≠ gb ∧ gb ≠ ga) := by rw [hga, hgb]; exact ⟨by omega, by omega⟩
  clear hga hgb
  replace hbw := Below.on hbw hb0
  clear hb0
  obtain ⟨xs, hX⟩ := (H.out.zn.below hbw).ex
  obtain ⟨ys, hY⟩ := (K.out.zn.below hbw).ex
  obtain rfl := hX.nf.inj B64_one hY.nf
  refine (same_t hX.at_ hY.at_).mono ?_
  rintro e2 v1 ⟨rfl, hb1⟩
  clear hX hY
  replace Xa : Hid _ := Xa.out.below hb1
  replace Xb : Hid _ := Xb.out.below hb1
  replace hbw := Below.on hbw hb1
  clear hb1
  obtain ⟨ca0, ca1, ca2, fa0, fa1, fa2⟩ := Xa.out
  have hnea : ga < v1.heap.size := World.block_lt_of_cell? v1 _ ca0
  obtain ⟨cb0, cb1, cb2, fb0, fb1, fb2⟩ := Xb.out
  have hneb : gb < v1.heap.size := World.block_lt_of_cell? v1 _ cb0
  go_wp2_with fail
  clear ca0 ca1 ca2 fa0 fa1 fa2 hnea
  clear cb0 cb1 cb2 fb0 fb1 fb2 hneb
  go_ret
  exact ⟨rfl, hbw⟩
set_option maxRecDepth 20000 in
set_option maxHeartbeats 8000000 in
theorem binaryWide_w (a0 b0 : Nat) (w : World) (hT : Tab w) :
    Calls Tryd.prog 3 #[U a0, U b0] w fun en w' => en = .returned (.bool true) ∧ Below w.heap.size w w' := by
  have hbw : Below w.heap.size w w := Below.refl _ _
  have TB : Hid (Tab w) := hT
  obtain ⟨a, hae⟩ : ∃ a, a = a0 % 4294967296 := ⟨_, rfl⟩
  obtain ⟨b, hbe⟩ : ∃ b, b = b0 % 4294967296 := ⟨_, rfl⟩
  have ha2 : a < 4294967296 := by omega
  have hb2 : b < 4294967296 := by omega
  have m1 : (a0 : Int).tmod 4294967296 = (a : Int) := by rw [Int.tmod_eq_emod_of_nonneg (by omega), hae]; omega
  have m2 : (b0 : Int).tmod 4294967296 = (b : Int) := by rw [Int.tmod_eq_emod_of_nonneg (by omega), hbe]; omega
  have m3 : (a0 : Int) % 4294967296 = (a : Int) := by rw [hae]; omega
  have m4 : (b0 : Int) % 4294967296 = (b : Int) := by rw [hbe]; omega
  have HAB : Hid (a < 4294967296 ∧ b < 4294967296) := ⟨ha2, hb2⟩
  clear hT hae hbe ha2 hb2
  go_enter Tryd.func3, Tryd.ntmps3
  go_wp2_with fail
  refine (awake7 _ (TB.out.below hbw)).mono ?_
  rintro e v1 ⟨rfl, hb1⟩
  replace hbw := Below.on hbw hb1
  clear hb1
  go_wp2_with fail
  clear m1 m2 m3 m4
  obtain ⟨x, hwx, hcx⟩ := widen_any HAB.out.1
  obtain ⟨y, hwy, hcy⟩ := widen_any HAB.out.2
  have WX : Hid (WF a x) := hwx
  have WY : Hid (WF b y) := hwy
  have CX : Hid (∀ w, Tab w → Calls Tryd.prog 8 #[U a] w fun e w' => e = .returned (.tuple #[U x, .int .i64 0]) ∧ Below w.heap.size w w') := hcx
  have CY : Hid (∀ w, Tab w → Calls Tryd.prog 8 #[U b] w fun e w' => e = .returned (.tuple #[U y, .int .i64 0]) ∧ Below w.heap.size w w') := hcy
  clear hwx hwy hcx hcy
  refine (CX.out _ (TB.out.below hbw)).mono ?_
  rintro e v2 ⟨rfl, hb2⟩
  replace hbw := Below.on hbw hb2
  clear hb2
  go_wp2_with fail
  refine (CY.out _ (TB.out.below hbw)).mono ?_
  rintro e v3 ⟨rfl, hb3⟩
  replace hbw := Below.on hbw hb3
  clear hb3
  go_wp2_with fail
  refine (lf_32.fin a _ (by rw [B64_eq]; have := HAB.out; omega)).mono ?_
  rintro e v4 ⟨rfl, hb4⟩
  replace hbw := Below.on hbw hb4
  clear hb4
  by_cases hfa : a < 2 * 2147483648 ∧ a % 2147483648 < 2139095040
  · rw [decide_eq_true hfa]
    have FA : Hid (a % 2147483648 < 2139095040) := hfa.2
    clear hfa
    go_wp2_with fail
    refine (lf_32.fin b _ (by rw [B64_eq]; have := HAB.out; omega)).mono ?_
    rintro e v5 ⟨rfl, hb5⟩
    replace hbw := Below.on hbw hb5
    clear hb5
    by_cases hfb : b < 2 * 2147483648 ∧ b % 2147483648 < 2139095040
    · rw [decide_eq_true hfb]
      have FB : Hid (b % 2147483648 < 2139095040) := hfb.2
      clear hfb
      go_wp2_with fail
      obtain ⟨za, ea, hva, _⟩ := vf_ex pm_32 FA.out
      have VA : Hid (VF 2147483648 8388608 (-149) a za ea) := hva
      have VX : Hid (VF 9223372036854775808 4503599627370496 (-1074) x za ea) := WX.out.val FA.out hva
      have FX : Hid (x % 9223372036854775808 = wV (a % 2147483648) ∧ (9223372036854775808 ≤ x ↔ 2147483648 ≤ a)) := WX.out.fin FA.out
      have FY : Hid (y % 9223372036854775808 = wV (b % 2147483648)) := (WY.out.fin FB.out).1
      have KA : Hid (wV (a % 2147483648) < 9218868437227405312 ∧ (a % 2147483648 = 0 → wV (a % 2147483648) = 0) ∧ (a % 2147483648 ≠ 0 → 4503599627370496 ≤ wV (a % 2147483648))) := wV_cls FA.out
      have KB : Hid (wV (b % 2147483648) < 9218868437227405312) := (wV_cls FB.out).1
      clear hva
      refine (value_v pm_32 (by have := HAB.out; omega) FA.out VA.out _ (TB.out.below hbw)).mono ?_
      rintro e2 v11 ⟨v, rfl, hv, hb11⟩
      obtain ⟨s11, p11, m11, rfl, hd11⟩ := hv.dn (VA.out.fm)
      clear hv
      replace hbw := Below.on hbw hb11
      clear hb11
      have D11 : Hid (DN v11 s11 p11 m11 m11 (ea) (za)) := hd11
      clear hd11
      go_wp2_with fail
      have Xv0 : Hid (B3q (v11.alloc (.cells #[.bool s11, .slice p11 m11 m11, .int .i64 (ea)] 36)) v11.heap.size (.bool s11) (.slice p11 m11 m11) (.int .i64 (ea))) := B3q.new v11 _ _ _ _
      have hbn : Below v11.heap.size v11 (v11.alloc (.cells #[.bool s11, .slice p11 m11 m11, .int .i64 (ea)] 36)) := below1 v11 _
      generalize v11.alloc (.cells #[.bool s11, .slice p11 m11 m11, .int .i64 (ea)] 36) = Wv at *
      have HGv : Hid (w.heap.size ≤ v11.heap.size) := hbw.size
      replace D11 : Hid _ := D11.out.below hbn
      replace hbw := Below.on hbw hbn
      clear hbn
      generalize v11.heap.size = gv at *
      have Xv := Xv0
      clear Xv0
      refine (value_v pm_64 WX.out.lt (by have h1 := FX.out.1; have h2 := KA.out.1; rw [h1]; exact h2) VX.out _ (TB.out.below hbw)).mono ?_
      rintro e2 v12 ⟨v, rfl, hv, hb12⟩
      obtain ⟨s12, p12, m12, rfl, hd12⟩ := hv.dn (VA.out.fm)
      clear hv
      replace Xv : Hid _ := Xv.out.below hb12
      replace D11 : Hid _ := D11.out.below hb12
      replace hbw := Below.on hbw hb12
      clear hb12
      have D12 : Hid (DN v12 s12 p12 m12 m12 (ea) (za)) := hd12
      clear hd12
      go_wp2_with fail
      have Xu0 : Hid (B3q (v12.alloc (.cells #[.bool s12, .slice p12 m12 m12, .int .i64 (ea)] 36)) v12.heap.size (.bool s12) (.slice p12 m12 m12) (.int .i64 (ea))) := B3q.new v12 _ _ _ _
      have hbn : Below v12.heap.size v12 (v12.alloc (.cells #[.bool s12, .slice p12 m12 m12, .int .i64 (ea)] 36)) := below1 v12 _
      generalize v12.alloc (.cells #[.bool s12, .slice p12 m12 m12, .int .i64 (ea)] 36) = Wu at *
      have HGu : Hid (w.heap.size ≤ v12.heap.size) := hbw.size
      replace Xv : Hid _ := Xv.out.below hbn
      replace D11 : Hid _ := D11.out.below hbn
      replace D12 : Hid _ := D12.out.below hbn
      replace hbw := Below.on hbw hbn
      clear hbn
      generalize v12.heap.size = gu at *
      have Xu := Xu0
      clear Xu0
      obtain ⟨d1, hd1⟩ : ∃ c, c = clsN 4503599627370496 9218868437227405312 (x % 9223372036854775808) := ⟨_, rfl⟩
      obtain ⟨xm, hxm⟩ : ∃ xm : Nat, xm = x % 9223372036854775808 := ⟨_, rfl⟩
      have HD1 : Hid (clsN 4503599627370496 9218868437227405312 (x % 9223372036854775808) = d1) := hd1.symm
      have hor : xm = 0 ∨ d1 = 2 := by
        rw [hxm, hd1, FX.out.1]
        by_cases h0 : a % 2147483648 = 0
        · exact .inl (KA.out.2.1 h0)
        · refine .inr ?_
          have h1 := KA.out.2.2 h0
          have h2 := KA.out.1
          unfold clsN
          rw [if_neg (by omega), if_neg (by omega), if_pos h2]
      have HOR : Hid (xm = 0 ∨ d1 = 2) := hor
      have HXM : Hid (xm = x % 9223372036854775808) := hxm
      clear hd1 hor hxm
      refine (clsof_64 x WX.out.lt _).mono ?_
      rintro e v13 ⟨rfl, hb13⟩
      rw [HD1.out]
      replace Xv : Hid _ := Xv.out.below hb13
      replace Xu : Hid _ := Xu.out.below hb13
      replace D11 : Hid _ := D11.out.below hb13
      replace D12 : Hid _ := D12.out.below hb13
      replace hbw := Below.on hbw hb13
      clear hb13
      obtain ⟨cv0, cv1, cv2, fv0, fv1, fv2⟩ := Xv.out
      have hnev : gv < v13.heap.size := World.block_lt_of_cell? v13 _ cv0
      obtain ⟨cu0, cu1, cu2, fu0, fu1, fu2⟩ := Xu.out
      have hneu : gu < v13.heap.size := World.block_lt_of_cell? v13 _ cu0
      go_wp2_with fail
      clear cv0 cv1 cv2 fv0 fv1 fv2 hnev
      clear cu0 cu1 cu2 fu0 fu1 fu2 hneu
      refine (same7 D11.out D12.out).mono ?_
      rintro e v14 ⟨rfl, hb14⟩
      replace Xv : Hid _ := Xv.out.below hb14
      replace Xu : Hid _ := Xu.out.below hb14
      replace D11 : Hid _ := D11.out.below hb14
      replace D12 : Hid _ := D12.out.below hb14
      replace hbw := Below.on hbw hb14
      clear hb14
      have x1 : (x : Int).tmod 9223372036854775808 = (xm : Int) := by rw [Int.tmod_eq_emod_of_nonneg (by omega), HXM.out]; omega
      have x2 : (x : Int) % 9223372036854775808 = (xm : Int) := by rw [HXM.out]; omega
      by_cases hs : 2147483648 ≤ a
      · have s1 : (2147483648 : Int) ≤ a := by omega
        have s2 : (9223372036854775808 : Int) ≤ x := by have := FX.out.2.2 hs; omega
        clear hs
        rcases HOR.out with h0 | h0
        · have z1 : ((xm : Int) == 0) = true := by simp [h0]
          have z2 : ((xm : Int) != 0) = false := by simp [h0]
          clear h0
          by_cases h9 : d1 = 2
          · have y1 : (d1 == 2) = true := by simp [h9]
            have y2 : (d1 != 2) = false := by simp [h9]
            clear h9
            go_wp2_with fail
            clear z1 z2 y1 y2 s1 s2 x1 x2
            obtain ⟨r1, hr1⟩ : ∃ r, r = rkS 2147483648 a := ⟨_, rfl⟩
            have HRr : Hid ((if 2147483648 ≤ a then -((a % 2147483648 : Nat) : Int) else ((a % 2147483648 : Nat) : Int)) = r1 ∧ rkS 2147483648 a = r1) := ⟨hr1.symm, hr1.symm⟩
            clear hr1
            refine (rank_ok fm_32 a (by have := HAB.out; omega) (Nat.le_of_lt FA.out) _).mono ?_
            rintro e v21 ⟨rfl, hb21⟩
            rw [HRr.out.1]
            replace Xv : Hid _ := Xv.out.below hb21
            replace Xu : Hid _ := Xu.out.below hb21
            replace D11 : Hid _ := D11.out.below hb21
            replace D12 : Hid _ := D12.out.below hb21
            replace hbw := Below.on hbw hb21
            clear hb21
            go_wp2_with fail
            obtain ⟨s1, hs1⟩ : ∃ r, r = rkS 2147483648 b := ⟨_, rfl⟩
            have HRs : Hid ((if 2147483648 ≤ b then -((b % 2147483648 : Nat) : Int) else ((b % 2147483648 : Nat) : Int)) = s1 ∧ rkS 2147483648 b = s1) := ⟨hs1.symm, hs1.symm⟩
            clear hs1
            refine (rank_ok fm_32 b (by have := HAB.out; omega) (Nat.le_of_lt FB.out) _).mono ?_
            rintro e v22 ⟨rfl, hb22⟩
            rw [HRs.out.1]
            replace Xv : Hid _ := Xv.out.below hb22
            replace Xu : Hid _ := Xu.out.below hb22
            replace D11 : Hid _ := D11.out.below hb22
            replace D12 : Hid _ := D12.out.below hb22
            replace hbw := Below.on hbw hb22
            clear hb22
            go_wp2_with fail
            obtain ⟨t1, ht1⟩ : ∃ r, r = rkS 9223372036854775808 x := ⟨_, rfl⟩
            have HRt : Hid ((if 9223372036854775808 ≤ x then -((x % 9223372036854775808 : Nat) : Int) else ((x % 9223372036854775808 : Nat) : Int)) = t1 ∧ rkS 9223372036854775808 x = t1) := ⟨ht1.symm, ht1.symm⟩
            clear ht1
            refine (rank_ok fm_64 x (WX.out.lt) (by rw [FX.out.1]; exact Nat.le_of_lt KA.out.1) _).mono ?_
            rintro e v23 ⟨rfl, hb23⟩
            rw [HRt.out.1]
            replace Xv : Hid _ := Xv.out.below hb23
            replace Xu : Hid _ := Xu.out.below hb23
            replace D11 : Hid _ := D11.out.below hb23
            replace D12 : Hid _ := D12.out.below hb23
            replace hbw := Below.on hbw hb23
            clear hb23
            go_wp2_with fail
            obtain ⟨u1, hu1⟩ : ∃ r, r = rkS 9223372036854775808 y := ⟨_, rfl⟩
            have HRu : Hid ((if 9223372036854775808 ≤ y then -((y % 9223372036854775808 : Nat) : Int) else ((y % 9223372036854775808 : Nat) : Int)) = u1 ∧ rkS 9223372036854775808 y = u1) := ⟨hu1.symm, hu1.symm⟩
            clear hu1
            refine (rank_ok fm_64 y (WY.out.lt) (by rw [FY.out]; exact Nat.le_of_lt KB.out) _).mono ?_
            rintro e v24 ⟨rfl, hb24⟩
            rw [HRu.out.1]
            replace Xv : Hid _ := Xv.out.below hb24
            replace Xu : Hid _ := Xu.out.below hb24
            replace D11 : Hid _ := D11.out.below hb24
            replace D12 : Hid _ := D12.out.below hb24
            replace hbw := Below.on hbw hb24
            clear hb24
            have o1 := WX.out.rank WY.out FA.out FB.out
            have o2 := WY.out.rank WX.out FB.out FA.out
            rw [HRr.out.2, HRs.out.2, HRt.out.2, HRu.out.2] at o1 o2
            rcases Int.lt_trichotomy r1 s1 with h | h | h
            · have p1 : t1 < u1 := o1.1 h
              have p2 : ¬ s1 < r1 := by omega
              have p3 : ¬ u1 < t1 := by omega
              have HW9 : Hid ((decide (s1 < r1) == decide (u1 < t1)) = true) := by rw [decide_eq_false p2, decide_eq_false p3]; rfl
              clear o1 o2
              go_wp2_with fail
              first
              | (go_ret; exact ⟨rfl, hbw⟩)
              | (go_ret; refine ⟨?_, hbw⟩; show Ending.returned (.bool (decide (s1 < r1) == decide (u1 < t1))) = _; rw [HW9.out])
            · have p0 : ¬ r1 < s1 := by omega
              have p2 : ¬ s1 < r1 := by omega
              have p1 : ¬ t1 < u1 := fun h9 => p0 (o1.2 h9)
              have p3 : ¬ u1 < t1 := fun h9 => p2 (o2.2 h9)
              clear h
              have HW9 : Hid ((decide (s1 < r1) == decide (u1 < t1)) = true) := by rw [decide_eq_false p2, decide_eq_false p3]; rfl
              clear o1 o2
              go_wp2_with fail
              first
              | (go_ret; exact ⟨rfl, hbw⟩)
              | (go_ret; refine ⟨?_, hbw⟩; show Ending.returned (.bool (decide (s1 < r1) == decide (u1 < t1))) = _; rw [HW9.out])
            · have p1 : u1 < t1 := o2.1 h
              have p2 : ¬ r1 < s1 := by omega
              have p3 : ¬ t1 < u1 := by omega
              have HW9 : Hid ((decide (s1 < r1) == decide (u1 < t1)) = true) := by rw [decide_eq_true h, decide_eq_true p1]; rfl
              clear o1 o2
              go_wp2_with fail
              first
              | (go_ret; exact ⟨rfl, hbw⟩)
              | (go_ret; refine ⟨?_, hbw⟩; show Ending.returned (.bool (decide (s1 < r1) == decide (u1 < t1))) = _; rw [HW9.out])
          · have y1 : (d1 == 2) = false := by simp [h9]
            have y2 : (d1 != 2) = true := by simp [h9]
            clear h9
            go_wp2_with fail
            clear z1 z2 y1 y2 s1 s2 x1 x2
            obtain ⟨r1, hr1⟩ : ∃ r, r = rkS 2147483648 a := ⟨_, rfl⟩
            have HRr : Hid ((if 2147483648 ≤ a then -((a % 2147483648 : Nat) : Int) else ((a % 2147483648 : Nat) : Int)) = r1 ∧ rkS 2147483648 a = r1) := ⟨hr1.symm, hr1.symm⟩
            clear hr1
            refine (rank_ok fm_32 a (by have := HAB.out; omega) (Nat.le_of_lt FA.out) _).mono ?_
            rintro e v21 ⟨rfl, hb21⟩
            rw [HRr.out.1]
            replace Xv : Hid _ := Xv.out.below hb21
            replace Xu : Hid _ := Xu.out.below hb21
            replace D11 : Hid _ := D11.out.below hb21
            replace D12 : Hid _ := D12.out.below hb21
            replace hbw := Below.on hbw hb21
            clear hb21
            go_wp2_with fail
            obtain ⟨s1, hs1⟩ : ∃ r, r = rkS 2147483648 b := ⟨_, rfl⟩
            have HRs : Hid ((if 2147483648 ≤ b then -((b % 2147483648 : Nat) : Int) else ((b % 2147483648 : Nat) : Int)) = s1 ∧ rkS 2147483648 b = s1) := ⟨hs1.symm, hs1.symm⟩
            clear hs1
            refine (rank_ok fm_32 b (by have := HAB.out; omega) (Nat.le_of_lt FB.out) _).mono ?_
            rintro e v22 ⟨rfl, hb22⟩
            rw [HRs.out.1]
            replace Xv : Hid _ := Xv.out.below hb22
            replace Xu : Hid _ := Xu.out.below hb22
            replace D11 : Hid _ := D11.out.below hb22
            replace D12 : Hid _ := D12.out.below hb22
            replace hbw := Below.on hbw hb22
            clear hb22
            go_wp2_with fail
            obtain ⟨t1, ht1⟩ : ∃ r, r = rkS 9223372036854775808 x := ⟨_, rfl⟩
            have HRt : Hid ((if 9223372036854775808 ≤ x then -((x % 9223372036854775808 : Nat) : Int) else ((x % 9223372036854775808 : Nat) : Int)) = t1 ∧ rkS 9223372036854775808 x = t1) := ⟨ht1.symm, ht1.symm⟩
            clear ht1
            refine (rank_ok fm_64 x (WX.out.lt) (by rw [FX.out.1]; exact Nat.le_of_lt KA.out.1) _).mono ?_
            rintro e v23 ⟨rfl, hb23⟩
            rw [HRt.out.1]
            replace Xv : Hid _ := Xv.out.below hb23
            replace Xu : Hid _ := Xu.out.below hb23
            replace D11 : Hid _ := D11.out.below hb23
            replace D12 : Hid _ := D12.out.below hb23
            replace hbw := Below.on hbw hb23
            clear hb23
            go_wp2_with fail
            obtain ⟨u1, hu1⟩ : ∃ r, r = rkS 9223372036854775808 y := ⟨_, rfl⟩
            have HRu : Hid ((if 9223372036854775808 ≤ y then -((y % 9223372036854775808 : Nat) : Int) else ((y % 9223372036854775808 : Nat) : Int)) = u1 ∧ rkS 9223372036854775808 y = u1) := ⟨hu1.symm, hu1.symm⟩
            clear hu1
            refine (rank_ok fm_64 y (WY.out.lt) (by rw [FY.out]; exact Nat.le_of_lt KB.out) _).mono ?_
            rintro e v24 ⟨rfl, hb24⟩
            rw [HRu.out.1]
            replace Xv : Hid _ := Xv.out.below hb24
            replace Xu : Hid _ := Xu.out.below hb24
            replace D11 : Hid _ := D11.out.below hb24
            replace D12 : Hid _ := D12.out.below hb24
            replace hbw := Below.on hbw hb24
            clear hb24
            have o1 := WX.out.rank WY.out FA.out FB.out
            have o2 := WY.out.rank WX.out FB.out FA.out
            rw [HRr.out.2, HRs.out.2, HRt.out.2, HRu.out.2] at o1 o2
            rcases Int.lt_trichotomy r1 s1 with h | h | h
            · have p1 : t1 < u1 := o1.1 h
              have p2 : ¬ s1 < r1 := by omega
              have p3 : ¬ u1 < t1 := by omega
              have HW9 : Hid ((decide (s1 < r1) == decide (u1 < t1)) = true) := by rw [decide_eq_false p2, decide_eq_false p3]; rfl
              clear o1 o2
              go_wp2_with fail
              first
              | (go_ret; exact ⟨rfl, hbw⟩)
              | (go_ret; refine ⟨?_, hbw⟩; show Ending.returned (.bool (decide (s1 < r1) == decide (u1 < t1))) = _; rw [HW9.out])
            · have p0 : ¬ r1 < s1 := by omega
              have p2 : ¬ s1 < r1 := by omega
              have p1 : ¬ t1 < u1 := fun h9 => p0 (o1.2 h9)
              have p3 : ¬ u1 < t1 := fun h9 => p2 (o2.2 h9)
              clear h
              have HW9 : Hid ((decide (s1 < r1) == decide (u1 < t1)) = true) := by rw [decide_eq_false p2, decide_eq_false p3]; rfl
              clear o1 o2
              go_wp2_with fail
              first
              | (go_ret; exact ⟨rfl, hbw⟩)
              | (go_ret; refine ⟨?_, hbw⟩; show Ending.returned (.bool (decide (s1 < r1) == decide (u1 < t1))) = _; rw [HW9.out])
            · have p1 : u1 < t1 := o2.1 h
              have p2 : ¬ r1 < s1 := by omega
              have p3 : ¬ t1 < u1 := by omega
              have HW9 : Hid ((decide (s1 < r1) == decide (u1 < t1)) = true) := by rw [decide_eq_true h, decide_eq_true p1]; rfl
              clear o1 o2
              go_wp2_with fail
              first
              | (go_ret; exact ⟨rfl, hbw⟩)
              | (go_ret; refine ⟨?_, hbw⟩; show Ending.returned (.bool (decide (s1 < r1) == decide (u1 < t1))) = _; rw [HW9.out])
        · have z1 : (d1 == 2) = true := by simp [h0]
          have z2 : (d1 != 2) = false := by simp [h0]
          clear h0
          go_wp2_with fail
          clear z1 z2 s1 s2 x1 x2
          obtain ⟨r1, hr1⟩ : ∃ r, r = rkS 2147483648 a := ⟨_, rfl⟩
          have HRr : Hid ((if 2147483648 ≤ a then -((a % 2147483648 : Nat) : Int) else ((a % 2147483648 : Nat) : Int)) = r1 ∧ rkS 2147483648 a = r1) := ⟨hr1.symm, hr1.symm⟩
          clear hr1
          refine (rank_ok fm_32 a (by have := HAB.out; omega) (Nat.le_of_lt FA.out) _).mono ?_
          rintro e v21 ⟨rfl, hb21⟩
          rw [HRr.out.1]
          replace Xv : Hid _ := Xv.out.below hb21
          replace Xu : Hid _ := Xu.out.below hb21
          replace D11 : Hid _ := D11.out.below hb21
          replace D12 : Hid _ := D12.out.below hb21
          replace hbw := Below.on hbw hb21
          clear hb21
          go_wp2_with fail
          obtain ⟨s1, hs1⟩ : ∃ r, r = rkS 2147483648 b := ⟨_, rfl⟩
          have HRs : Hid ((if 2147483648 ≤ b then -((b % 2147483648 : Nat) : Int) else ((b % 2147483648 : Nat) : Int)) = s1 ∧ rkS 2147483648 b = s1) := ⟨hs1.symm, hs1.symm⟩
          clear hs1
          refine (rank_ok fm_32 b (by have := HAB.out; omega) (Nat.le_of_lt FB.out) _).mono ?_
          rintro e v22 ⟨rfl, hb22⟩
          rw [HRs.out.1]
          replace Xv : Hid _ := Xv.out.below hb22
          replace Xu : Hid _ := Xu.out.below hb22
          replace D11 : Hid _ := D11.out.below hb22
          replace D12 : Hid _ := D12.out.below hb22
          replace hbw := Below.on hbw hb22
          clear hb22
          go_wp2_with fail
          obtain ⟨t1, ht1⟩ : ∃ r, r = rkS 9223372036854775808 x := ⟨_, rfl⟩
          have HRt : Hid ((if 9223372036854775808 ≤ x then -((x % 9223372036854775808 : Nat) : Int) else ((x % 9223372036854775808 : Nat) : Int)) = t1 ∧ rkS 9223372036854775808 x = t1) := ⟨ht1.symm, ht1.symm⟩
          clear ht1
          refine (rank_ok fm_64 x (WX.out.lt) (by rw [FX.out.1]; exact Nat.le_of_lt KA.out.1) _).mono ?_
          rintro e v23 ⟨rfl, hb23⟩
          rw [HRt.out.1]
          replace Xv : Hid _ := Xv.out.below hb23
          replace Xu : Hid _ := Xu.out.below hb23
          replace D11 : Hid _ := D11.out.below hb23
          replace D12 : Hid _ := D12.out.below hb23
          replace hbw := Below.on hbw hb23
          clear hb23
          go_wp2_with fail
          obtain ⟨u1, hu1⟩ : ∃ r, r = rkS 9223372036854775808 y := ⟨_, rfl⟩
          have HRu : Hid ((if 9223372036854775808 ≤ y then -((y % 9223372036854775808 : Nat) : Int) else ((y % 9223372036854775808 : Nat) : Int)) = u1 ∧ rkS 9223372036854775808 y = u1) := ⟨hu1.symm, hu1.symm⟩
          clear hu1
          refine (rank_ok fm_64 y (WY.out.lt) (by rw [FY.out]; exact Nat.le_of_lt KB.out) _).mono ?_
          rintro e v24 ⟨rfl, hb24⟩
          rw [HRu.out.1]
          replace Xv : Hid _ := Xv.out.below hb24
          replace Xu : Hid _ := Xu.out.below hb24
          replace D11 : Hid _ := D11.out.below hb24
          replace D12 : Hid _ := D12.out.below hb24
          replace hbw := Below.on hbw hb24
          clear hb24
          have o1 := WX.out.rank WY.out FA.out FB.out
          have o2 := WY.out.rank WX.out FB.out FA.out
          rw [HRr.out.2, HRs.out.2, HRt.out.2, HRu.out.2] at o1 o2
          rcases Int.lt_trichotomy r1 s1 with h | h | h
          · have p1 : t1 < u1 := o1.1 h
            have p2 : ¬ s1 < r1 := by omega
            have p3 : ¬ u1 < t1 := by omega
            have HW9 : Hid ((decide (s1 < r1) == decide (u1 < t1)) = true) := by rw [decide_eq_false p2, decide_eq_false p3]; rfl
            clear o1 o2
            go_wp2_with fail
            first
            | (go_ret; exact ⟨rfl, hbw⟩)
            | (go_ret; refine ⟨?_, hbw⟩; show Ending.returned (.bool (decide (s1 < r1) == decide (u1 < t1))) = _; rw [HW9.out])
          · have p0 : ¬ r1 < s1 := by omega
            have p2 : ¬ s1 < r1 := by omega
            have p1 : ¬ t1 < u1 := fun h9 => p0 (o1.2 h9)
            have p3 : ¬ u1 < t1 := fun h9 => p2 (o2.2 h9)
            clear h
            have HW9 : Hid ((decide (s1 < r1) == decide (u1 < t1)) = true) := by rw [decide_eq_false p2, decide_eq_false p3]; rfl
            clear o1 o2
            go_wp2_with fail
            first
            | (go_ret; exact ⟨rfl, hbw⟩)
            | (go_ret; refine ⟨?_, hbw⟩; show Ending.returned (.bool (decide (s1 < r1) == decide (u1 < t1))) = _; rw [HW9.out])
          · have p1 : u1 < t1 := o2.1 h
            have p2 : ¬ r1 < s1 := by omega
            have p3 : ¬ t1 < u1 := by omega
            have HW9 : Hid ((decide (s1 < r1) == decide (u1 < t1)) = true) := by rw [decide_eq_true h, decide_eq_true p1]; rfl
            clear o1 o2
            go_wp2_with fail
            first
            | (go_ret; exact ⟨rfl, hbw⟩)
            | (go_ret; refine ⟨?_, hbw⟩; show Ending.returned (.bool (decide (s1 < r1) == decide (u1 < t1))) = _; rw [HW9.out])
      · have t1 : ¬ (2147483648 : Int) ≤ a := by omega
        have t2 : ¬ (9223372036854775808 : Int) ≤ x := by have h9 := FX.out.2.1; intro h8; exact hs (h9 (by omega))
        have s1 : decide ((2147483648 : Int) ≤ (a : Int)) = false := decide_eq_false t1
        have s2 : decide ((9223372036854775808 : Int) ≤ (x : Int)) = false := decide_eq_false t2
        clear hs t1 t2
        rcases HOR.out with h0 | h0
        · have z1 : ((xm : Int) == 0) = true := by simp [h0]
          have z2 : ((xm : Int) != 0) = false := by simp [h0]
          clear h0
          by_cases h9 : d1 = 2
          · have y1 : (d1 == 2) = true := by simp [h9]
            have y2 : (d1 != 2) = false := by simp [h9]
            clear h9
            go_wp2_with fail
            clear z1 z2 y1 y2 s1 s2 x1 x2
            obtain ⟨r1, hr1⟩ : ∃ r, r = rkS 2147483648 a := ⟨_, rfl⟩
            have HRr : Hid ((if 2147483648 ≤ a then -((a % 2147483648 : Nat) : Int) else ((a % 2147483648 : Nat) : Int)) = r1 ∧ rkS 2147483648 a = r1) := ⟨hr1.symm, hr1.symm⟩
            clear hr1
            refine (rank_ok fm_32 a (by have := HAB.out; omega) (Nat.le_of_lt FA.out) _).mono ?_
            rintro e v21 ⟨rfl, hb21⟩
            rw [HRr.out.1]
            replace Xv : Hid _ := Xv.out.below hb21
            replace Xu : Hid _ := Xu.out.below hb21
            replace D11 : Hid _ := D11.out.below hb21
            replace D12 : Hid _ := D12.out.below hb21
            replace hbw := Below.on hbw hb21
            clear hb21
            go_wp2_with fail
            obtain ⟨s1, hs1⟩ : ∃ r, r = rkS 2147483648 b := ⟨_, rfl⟩
            have HRs : Hid ((if 2147483648 ≤ b then -((b % 2147483648 : Nat) : Int) else ((b % 2147483648 : Nat) : Int)) = s1 ∧ rkS 2147483648 b = s1) := ⟨hs1.symm, hs1.symm⟩
            clear hs1
            refine (rank_ok fm_32 b (by have := HAB.out; omega) (Nat.le_of_lt FB.out) _).mono ?_
            rintro e v22 ⟨rfl, hb22⟩
            rw [HRs.out.1]
            replace Xv : Hid _ := Xv.out.below hb22
            replace Xu : Hid _ := Xu.out.below hb22
            replace D11 : Hid _ := D11.out.below hb22
            replace D12 : Hid _ := D12.out.below hb22
            replace hbw := Below.on hbw hb22
            clear hb22
            go_wp2_with fail
            obtain ⟨t1, ht1⟩ : ∃ r, r = rkS 9223372036854775808 x := ⟨_, rfl⟩
            have HRt : Hid ((if 9223372036854775808 ≤ x then -((x % 9223372036854775808 : Nat) : Int) else ((x % 9223372036854775808 : Nat) : Int)) = t1 ∧ rkS 9223372036854775808 x = t1) := ⟨ht1.symm, ht1.symm⟩
            clear ht1
            refine (rank_ok fm_64 x (WX.out.lt) (by rw [FX.out.1]; exact Nat.le_of_lt KA.out.1) _).mono ?_
            rintro e v23 ⟨rfl, hb23⟩
            rw [HRt.out.1]
            replace Xv : Hid _ := Xv.out.below hb23
            replace Xu : Hid _ := Xu.out.below hb23
            replace D11 : Hid _ := D11.out.below hb23
            replace D12 : Hid _ := D12.out.below hb23
            replace hbw := Below.on hbw hb23
            clear hb23
            go_wp2_with fail
            obtain ⟨u1, hu1⟩ : ∃ r, r = rkS 9223372036854775808 y := ⟨_, rfl⟩
            have HRu : Hid ((if 9223372036854775808 ≤ y then -((y % 9223372036854775808 : Nat) : Int) else ((y % 9223372036854775808 : Nat) : Int)) = u1 ∧ rkS 9223372036854775808 y = u1) := ⟨hu1.symm, hu1.symm⟩
            clear hu1
            refine (rank_ok fm_64 y (WY.out.lt) (by rw [FY.out]; exact Nat.le_of_lt KB.out) _).mono ?_
            rintro e v24 ⟨rfl, hb24⟩
            rw [HRu.out.1]
            replace Xv : Hid _ := Xv.out.below hb24
            replace Xu : Hid _ := Xu.out.below hb24
            replace D11 : Hid _ := D11.out.below hb24
            replace D12 : Hid _ := D12.out.below hb24
            replace hbw := Below.on hbw hb24
            clear hb24
            have o1 := WX.out.rank WY.out FA.out FB.out
            have o2 := WY.out.rank WX.out FB.out FA.out
            rw [HRr.out.2, HRs.out.2, HRt.out.2, HRu.out.2] at o1 o2
            rcases Int.lt_trichotomy r1 s1 with h | h | h
            · have p1 : t1 < u1 := o1.1 h
              have p2 : ¬ s1 < r1 := by omega
              have p3 : ¬ u1 < t1 := by omega
              have HW9 : Hid ((decide (s1 < r1) == decide (u1 < t1)) = true) := by rw [decide_eq_false p2, decide_eq_false p3]; rfl
              clear o1 o2
              go_wp2_with fail
              first
              | (go_ret; exact ⟨rfl, hbw⟩)
              | (go_ret; refine ⟨?_, hbw⟩; show Ending.returned (.bool (decide (s1 < r1) == decide (u1 < t1))) = _; rw [HW9.out])
            · have p0 : ¬ r1 < s1 := by omega
              have p2 : ¬ s1 < r1 := by omega
              have p1 : ¬ t1 < u1 := fun h9 => p0 (o1.2 h9)
              have p3 : ¬ u1 < t1 := fun h9 => p2 (o2.2 h9)
              clear h
              have HW9 : Hid ((decide (s1 < r1) == decide (u1 < t1)) = true) := by rw [decide_eq_false p2, decide_eq_false p3]; rfl
              clear o1 o2
              go_wp2_with fail
              first
              | (go_ret; exact ⟨rfl, hbw⟩)
              | (go_ret; refine ⟨?_, hbw⟩; show Ending.returned (.bool (decide (s1 < r1) == decide (u1 < t1))) = _; rw [HW9.out])
            · have p1 : u1 < t1 := o2.1 h
              have p2 : ¬ r1 < s1 := by omega
              have p3 : ¬ t1 < u1 := by omega
              have HW9 : Hid ((decide (s1 < r1) == decide (u1 < t1)) = true) := by rw [decide_eq_true h, decide_eq_true p1]; rfl
              clear o1 o2
              go_wp2_with fail
              first
              | (go_ret; exact ⟨rfl, hbw⟩)
              | (go_ret; refine ⟨?_, hbw⟩; show Ending.returned (.bool (decide (s1 < r1) == decide (u1 < t1))) = _; rw [HW9.out])
          · have y1 : (d1 == 2) = false := by simp [h9]
            have y2 : (d1 != 2) = true := by simp [h9]
            clear h9
            go_wp2_with fail
            clear z1 z2 y1 y2 s1 s2 x1 x2
            obtain ⟨r1, hr1⟩ : ∃ r, r = rkS 2147483648 a := ⟨_, rfl⟩
            have HRr : Hid ((if 2147483648 ≤ a then -((a % 2147483648 : Nat) : Int) else ((a % 2147483648 : Nat) : Int)) = r1 ∧ rkS 2147483648 a = r1) := ⟨hr1.symm, hr1.symm⟩
            clear hr1
            refine (rank_ok fm_32 a (by have := HAB.out; omega) (Nat.le_of_lt FA.out) _).mono ?_
            rintro e v21 ⟨rfl, hb21⟩
            rw [HRr.out.1]
            replace Xv : Hid _ := Xv.out.below hb21
            replace Xu : Hid _ := Xu.out.below hb21
            replace D11 : Hid _ := D11.out.below hb21
            replace D12 : Hid _ := D12.out.below hb21
            replace hbw := Below.on hbw hb21
            clear hb21
            go_wp2_with fail
            obtain ⟨s1, hs1⟩ : ∃ r, r = rkS 2147483648 b := ⟨_, rfl⟩
            have HRs : Hid ((if 2147483648 ≤ b then -((b % 2147483648 : Nat) : Int) else ((b % 2147483648 : Nat) : Int)) = s1 ∧ rkS 2147483648 b = s1) := ⟨hs1.symm, hs1.symm⟩
            clear hs1
            refine (rank_ok fm_32 b (by have := HAB.out; omega) (Nat.le_of_lt FB.out) _).mono ?_
            rintro e v22 ⟨rfl, hb22⟩
            rw [HRs.out.1]
            replace Xv : Hid _ := Xv.out.below hb22
            replace Xu : Hid _ := Xu.out.below hb22
            replace D11 : Hid _ := D11.out.below hb22
            replace D12 : Hid _ := D12.out.below hb22
            replace hbw := Below.on hbw hb22
            clear hb22
            go_wp2_with fail
            obtain ⟨t1, ht1⟩ : ∃ r, r = rkS 9223372036854775808 x := ⟨_, rfl⟩
            have HRt : Hid ((if 9223372036854775808 ≤ x then -((x % 9223372036854775808 : Nat) : Int) else ((x % 9223372036854775808 : Nat) : Int)) = t1 ∧ rkS 9223372036854775808 x = t1) := ⟨ht1.symm, ht1.symm⟩
            clear ht1
            refine (rank_ok fm_64 x (WX.out.lt) (by rw [FX.out.1]; exact Nat.le_of_lt KA.out.1) _).mono ?_
            rintro e v23 ⟨rfl, hb23⟩
            rw [HRt.out.1]
            replace Xv : Hid _ := Xv.out.below hb23
            replace Xu : Hid _ := Xu.out.below hb23
            replace D11 : Hid _ := D11.out.below hb23
            replace D12 : Hid _ := D12.out.below hb23
            replace hbw := Below.on hbw hb23
            clear hb23
            go_wp2_with fail
            obtain ⟨u1, hu1⟩ : ∃ r, r = rkS 9223372036854775808 y := ⟨_, rfl⟩
            have HRu : Hid ((if 9223372036854775808 ≤ y then -((y % 9223372036854775808 : Nat) : Int) else ((y % 9223372036854775808 : Nat) : Int)) = u1 ∧ rkS 9223372036854775808 y = u1) := ⟨hu1.symm, hu1.symm⟩
            clear hu1
            refine (rank_ok fm_64 y (WY.out.lt) (by rw [FY.out]; exact Nat.le_of_lt KB.out) _).mono ?_
            rintro e v24 ⟨rfl, hb24⟩
            rw [HRu.out.1]
            replace Xv : Hid _ := Xv.out.below hb24
            replace Xu : Hid _ := Xu.out.below hb24
            replace D11 : Hid _ := D11.out.below hb24
            replace D12 : Hid _ := D12.out.below hb24
            replace hbw := Below.on hbw hb24
            clear hb24
            have o1 := WX.out.rank WY.out FA.out FB.out
            have o2 := WY.out.rank WX.out FB.out FA.out
            rw [HRr.out.2, HRs.out.2, HRt.out.2, HRu.out.2] at o1 o2
            rcases Int.lt_trichotomy r1 s1 with h | h | h
            · have p1 : t1 < u1 := o1.1 h
              have p2 : ¬ s1 < r1 := by omega
              have p3 : ¬ u1 < t1 := by omega
              have HW9 : Hid ((decide (s1 < r1) == decide (u1 < t1)) = true) := by rw [decide_eq_false p2, decide_eq_false p3]; rfl
              clear o1 o2
              go_wp2_with fail
              first
              | (go_ret; exact ⟨rfl, hbw⟩)
              | (go_ret; refine ⟨?_, hbw⟩; show Ending.returned (.bool (decide (s1 < r1) == decide (u1 < t1))) = _; rw [HW9.out])
            · have p0 : ¬ r1 < s1 := by omega
              have p2 : ¬ s1 < r1 := by omega
              have p1 : ¬ t1 < u1 := fun h9 => p0 (o1.2 h9)
              have p3 : ¬ u1 < t1 := fun h9 => p2 (o2.2 h9)
              clear h
              have HW9 : Hid ((decide (s1 < r1) == decide (u1 < t1)) = true) := by rw [decide_eq_false p2, decide_eq_false p3]; rfl
              clear o1 o2
              go_wp2_with fail
              first
              | (go_ret; exact ⟨rfl, hbw⟩)
              | (go_ret; refine ⟨?_, hbw⟩; show Ending.returned (.bool (decide (s1 < r1) == decide (u1 < t1))) = _; rw [HW9.out])
            · have p1 : u1 < t1 := o2.1 h
              have p2 : ¬ r1 < s1 := by omega
              have p3 : ¬ t1 < u1 := by omega
              have HW9 : Hid ((decide (s1 < r1) == decide (u1 < t1)) = true) := by rw [decide_eq_true h, decide_eq_true p1]; rfl
              clear o1 o2
              go_wp2_with fail
              first
              | (go_ret; exact ⟨rfl, hbw⟩)
              | (go_ret; refine ⟨?_, hbw⟩; show Ending.returned (.bool (decide (s1 < r1) == decide (u1 < t1))) = _; rw [HW9.out])
        · have z1 : (d1 == 2) = true := by simp [h0]
          have z2 : (d1 != 2) = false := by simp [h0]
          clear h0
          go_wp2_with fail
          clear z1 z2 s1 s2 x1 x2
          obtain ⟨r1, hr1⟩ : ∃ r, r = rkS 2147483648 a := ⟨_, rfl⟩
          have HRr : Hid ((if 2147483648 ≤ a then -((a % 2147483648 : Nat) : Int) else ((a % 2147483648 : Nat) : Int)) = r1 ∧ rkS 2147483648 a = r1) := ⟨hr1.symm, hr1.symm⟩
          clear hr1
          refine (rank_ok fm_32 a (by have := HAB.out; omega) (Nat.le_of_lt FA.out) _).mono ?_
          rintro e v21 ⟨rfl, hb21⟩
          rw [HRr.out.1]
          replace Xv : Hid _ := Xv.out.below hb21
          replace Xu : Hid _ := Xu.out.below hb21
          replace D11 : Hid _ := D11.out.below hb21
          replace D12 : Hid _ := D12.out.below hb21
          replace hbw := Below.on hbw hb21
          clear hb21
          go_wp2_with fail
          obtain ⟨s1, hs1⟩ : ∃ r, r = rkS 2147483648 b := ⟨_, rfl⟩
          have HRs : Hid ((if 2147483648 ≤ b then -((b % 2147483648 : Nat) : Int) else ((b % 2147483648 : Nat) : Int)) = s1 ∧ rkS 2147483648 b = s1) := ⟨hs1.symm, hs1.symm⟩
          clear hs1
          refine (rank_ok fm_32 b (by have := HAB.out; omega) (Nat.le_of_lt FB.out) _).mono ?_
          rintro e v22 ⟨rfl, hb22⟩
          rw [HRs.out.1]
          replace Xv : Hid _ := Xv.out.below hb22
          replace Xu : Hid _ := Xu.out.below hb22
          replace D11 : Hid _ := D11.out.below hb22
          replace D12 : Hid _ := D12.out.below hb22
          replace hbw := Below.on hbw hb22
          clear hb22
          go_wp2_with fail
          obtain ⟨t1, ht1⟩ : ∃ r, r = rkS 9223372036854775808 x := ⟨_, rfl⟩
          have HRt : Hid ((if 9223372036854775808 ≤ x then -((x % 9223372036854775808 : Nat) : Int) else ((x % 9223372036854775808 : Nat) : Int)) = t1 ∧ rkS 9223372036854775808 x = t1) := ⟨ht1.symm, ht1.symm⟩
          clear ht1
          refine (rank_ok fm_64 x (WX.out.lt) (by rw [FX.out.1]; exact Nat.le_of_lt KA.out.1) _).mono ?_
          rintro e v23 ⟨rfl, hb23⟩
          rw [HRt.out.1]
          replace Xv : Hid _ := Xv.out.below hb23
          replace Xu : Hid _ := Xu.out.below hb23
          replace D11 : Hid _ := D11.out.below hb23
          replace D12 : Hid _ := D12.out.below hb23
          replace hbw := Below.on hbw hb23
          clear hb23
          go_wp2_with fail
          obtain ⟨u1, hu1⟩ : ∃ r, r = rkS 9223372036854775808 y := ⟨_, rfl⟩
          have HRu : Hid ((if 9223372036854775808 ≤ y then -((y % 9223372036854775808 : Nat) : Int) else ((y % 9223372036854775808 : Nat) : Int)) = u1 ∧ rkS 9223372036854775808 y = u1) := ⟨hu1.symm, hu1.symm⟩
          clear hu1
          refine (rank_ok fm_64 y (WY.out.lt) (by rw [FY.out]; exact Nat.le_of_lt KB.out) _).mono ?_
          rintro e v24 ⟨rfl, hb24⟩
          rw [HRu.out.1]
          replace Xv : Hid _ := Xv.out.below hb24
          replace Xu : Hid _ := Xu.out.below hb24
          replace D11 : Hid _ := D11.out.below hb24
          replace D12 : Hid _ := D12.out.below hb24
          replace hbw := Below.on hbw hb24
          clear hb24
          have o1 := WX.out.rank WY.out FA.out FB.out
          have o2 := WY.out.rank WX.out FB.out FA.out
          rw [HRr.out.2, HRs.out.2, HRt.out.2, HRu.out.2] at o1 o2
          rcases Int.lt_trichotomy r1 s1 with h | h | h
          · have p1 : t1 < u1 := o1.1 h
            have p2 : ¬ s1 < r1 := by omega
            have p3 : ¬ u1 < t1 := by omega
            have HW9 : Hid ((decide (s1 < r1) == decide (u1 < t1)) = true) := by rw [decide_eq_false p2, decide_eq_false p3]; rfl
            clear o1 o2
            go_wp2_with fail
            first
            | (go_ret; exact ⟨rfl, hbw⟩)
            | (go_ret; refine ⟨?_, hbw⟩; show Ending.returned (.bool (decide (s1 < r1) == decide (u1 < t1))) = _; rw [HW9.out])
          · have p0 : ¬ r1 < s1 := by omega
            have p2 : ¬ s1 < r1 := by omega
            have p1 : ¬ t1 < u1 := fun h9 => p0 (o1.2 h9)
            have p3 : ¬ u1 < t1 := fun h9 => p2 (o2.2 h9)
            clear h
            have HW9 : Hid ((decide (s1 < r1) == decide (u1 < t1)) = true) := by rw [decide_eq_false p2, decide_eq_false p3]; rfl
            clear o1 o2
            go_wp2_with fail
            first
            | (go_ret; exact ⟨rfl, hbw⟩)
            | (go_ret; refine ⟨?_, hbw⟩; show Ending.returned (.bool (decide (s1 < r1) == decide (u1 < t1))) = _; rw [HW9.out])
          · have p1 : u1 < t1 := o2.1 h
            have p2 : ¬ r1 < s1 := by omega
            have p3 : ¬ t1 < u1 := by omega
            have HW9 : Hid ((decide (s1 < r1) == decide (u1 < t1)) = true) := by rw [decide_eq_true h, decide_eq_true p1]; rfl
            clear o1 o2
            go_wp2_with fail
            first
            | (go_ret; exact ⟨rfl, hbw⟩)
            | (go_ret; refine ⟨?_, hbw⟩; show Ending.returned (.bool (decide (s1 < r1) == decide (u1 < t1))) = _; rw [HW9.out])
    · rw [decide_eq_false hfb]
      clear hfb
      go_wp2_with fail
      obtain ⟨c1, hc1⟩ : ∃ c, c = clsN 8388608 2139095040 (a % 2147483648) := ⟨_, rfl⟩
      obtain ⟨d1, hd1⟩ : ∃ c, c = clsN 4503599627370496 9218868437227405312 (x % 9223372036854775808) := ⟨_, rfl⟩
      obtain ⟨q1, q2⟩ := WX.out.cls
      rw [← hc1, ← hd1] at q1 q2
      have HC1 : Hid (clsN 8388608 2139095040 (a % 2147483648) = c1) := hc1.symm
      have HD1 : Hid (clsN 4503599627370496 9218868437227405312 (x % 9223372036854775808) = d1) := hd1.symm
      have Q1 : Hid ((c1 == 4) = (d1 == 4) ∧ (c1 == 3) = (d1 == 3)) := ⟨q1, q2⟩
      clear hc1 hd1 q1 q2
      refine (clsof_32 a (by have := HAB.out; omega) _).mono ?_
      rintro e v6 ⟨rfl, hb6⟩
      rw [HC1.out]
      replace hbw := Below.on hbw hb6
      clear hb6
      go_wp2_with fail
      refine (clsof_64 x WX.out.lt _).mono ?_
      rintro e v7 ⟨rfl, hb7⟩
      rw [HD1.out]
      replace hbw := Below.on hbw hb7
      clear hb7
      have g1 : ((c1 == 4) == (d1 == 4)) = true := by rw [Q1.out.1]; simp
      have g2 : ((c1 == 3) == (d1 == 3)) = true := by rw [Q1.out.2]; simp
      go_wp2_with fail
      go_ret
      exact ⟨rfl, hbw⟩
  · rw [decide_eq_false hfa]
    clear hfa
    go_wp2_with fail
    obtain ⟨c1, hc1⟩ : ∃ c, c = clsN 8388608 2139095040 (a % 2147483648) := ⟨_, rfl⟩
    obtain ⟨d1, hd1⟩ : ∃ c, c = clsN 4503599627370496 9218868437227405312 (x % 9223372036854775808) := ⟨_, rfl⟩
    obtain ⟨q1, q2⟩ := WX.out.cls
    rw [← hc1, ← hd1] at q1 q2
    have HC1 : Hid (clsN 8388608 2139095040 (a % 2147483648) = c1) := hc1.symm
    have HD1 : Hid (clsN 4503599627370496 9218868437227405312 (x % 9223372036854775808) = d1) := hd1.symm
    have Q1 : Hid ((c1 == 4) = (d1 == 4) ∧ (c1 == 3) = (d1 == 3)) := ⟨q1, q2⟩
    clear hc1 hd1 q1 q2
    refine (clsof_32 a (by have := HAB.out; omega) _).mono ?_
    rintro e v6 ⟨rfl, hb6⟩
    rw [HC1.out]
    replace hbw := Below.on hbw hb6
    clear hb6
    go_wp2_with fail
    refine (clsof_64 x WX.out.lt _).mono ?_
    rintro e v7 ⟨rfl, hb7⟩
    rw [HD1.out]
    replace hbw := Below.on hbw hb7
    clear hb7
    have g1 : ((c1 == 4) == (d1 == 4)) = true := by rw [Q1.out.1]; simp
    have g2 : ((c1 == 3) == (d1 == 3)) = true := by rw [Q1.out.2]; simp
    go_wp2_with fail
    go_ret
    exact ⟨rfl, hbw⟩
end Go.Proofs.YtkbjehhabklnpaaDoor

