import Derived.Test.YtoalblaklcekeaaGreatDoorTn7
import Derived.Test.YtoalblaklcekeaaGreatDoorJ15
import Derived.Test.YtoalblaklcekeaaGreatDoorJ19
namespace Go.Proofs.YtoalblaklcekeaaGreatDoor
open Go.RowKit Go.Shelf

theorem whole_form {zk ek K : Int} (hf : DFm zk ek) (hv : dv zk ek = 4 * K * UQ) : 0 ≤ ek ∧ zk * ((2 ^ ek.toNat : Nat) : Int) = K := by
  have h0 : 0 ≤ ek := by
    rcases hf with ⟨_, h⟩ | ⟨h1, h2, h3⟩
    · omega
    · rcases Int.lt_or_le ek 0 with hn | hn
      · exfalso
        rw [← dv_w, dv_shift (z := K) (e := 0) (f := ek) (by omega) (by omega)] at hv
        unfold dv at hv
        have h5 := Int.eq_of_mul_eq_mul_right (pow_pos_int _) hv
        rw [show (0 - ek).toNat = (0 - ek).toNat - 1 + 1 from by omega, Nat.pow_succ, Int.natCast_mul, ← Int.mul_assoc] at h5
        generalize K * ((2 ^ ((0 - ek).toNat - 1) : Nat) : Int) = N at h5
        omega
      · exact hn
  refine ⟨h0, ?_⟩
  rw [← dv_w, dv_shift (z := zk) (e := ek) (f := 0) h0 (by decide), Int.sub_zero] at hv
  exact dv0_inj hv
theorem four_of {zk ek K : Int} (h2 : 2 ≤ ek) (h : zk * ((2 ^ ek.toNat : Nat) : Int) = K) : K % 4 = 0 := by
  rw [← h, show ek.toNat = (ek.toNat - 2) + 2 from by omega, Nat.pow_add, show 2 ^ 2 = 4 from rfl, Int.natCast_mul, ← Int.mul_assoc]
  exact Int.mul_emod_left _ _
set_option maxRecDepth 20000 in
set_option maxHeartbeats 8000000 in
theorem splits_c (b : Nat) (hb : b < 2 * 9223372036854775808) (h : ¬ b % 9223372036854775808 < 9218868437227405312) (w : World) (hT : Tab w) :
    Calls Tryz.prog 3 #[U b] w fun en w' => en = .returned (.bool true) ∧ Below w.heap.size w w' := by
  have hbw : Below w.heap.size w w := Below.refl _ _
  have TB : Hid (Tab w) := hT
  have HF : Hid (b < 2 * 9223372036854775808 ∧ ¬ b % 9223372036854775808 < 9218868437227405312 ∧ 9218868437227405312 ≤ b % 9223372036854775808) := ⟨hb, h, by omega⟩
  clear hT h hb
  go_enter Tryz.func3, Tryz.ntmps3
  go_wp2_with fail
  refine (awake17 _ (TB.out.below hbw)).mono ?_
  rintro e v1 ⟨rfl, hb1⟩
  replace hbw := Below.on hbw hb1
  clear hb1
  go_wp2_with fail
  refine (reduce_c HF.out.1 HF.out.2.2 _).mono ?_
  rintro e v2 ⟨rfl, hb2⟩
  replace hbw := Below.on hbw hb2
  clear hb2
  go_wp2_with fail
  have Xr0 : Hid (B3q (v2.alloc (.cells #[.bool false, .slice none 0 0, .int .i64 0] 28)) v2.heap.size (.bool false) (.slice none 0 0) (.int .i64 0)) := B3q.new v2 _ _ _ _
  have hbn : Below v2.heap.size v2 (v2.alloc (.cells #[.bool false, .slice none 0 0, .int .i64 0] 28)) := below1 v2 _
  generalize v2.alloc (.cells #[.bool false, .slice none 0 0, .int .i64 0] 28) = Wr at *
  have HGr : Hid (w.heap.size ≤ v2.heap.size) := hbw.size
  replace hbw := Below.on hbw hbn
  clear hbn
  generalize v2.heap.size = gr at *
  have Xr := Xr0
  clear Xr0
  refine (fin17_f b HF.out.2.1 _).mono ?_
  rintro e v3 ⟨rfl, hb3⟩
  replace Xr : Hid _ := Xr.out.below hb3
  replace hbw := Below.on hbw hb3
  clear hb3
  obtain ⟨cr0, cr1, cr2, fr0, fr1, fr2⟩ := Xr.out
  have hner : gr < v3.heap.size := World.block_lt_of_cell? v3 _ cr0
  go_wp2_with fail
  clear cr0 cr1 cr2 fr0 fr1 fr2 hner
  refine (sameD (DO.zero 0 _).dn (DO.zero 0 _).dn).mono ?_
  rintro e v4 ⟨rfl, hb4⟩
  replace Xr : Hid _ := Xr.out.below hb4
  replace hbw := Below.on hbw hb4
  clear hb4
  go_wp2_with fail
  go_ret
  exact ⟨rfl, hbw⟩
set_option maxRecDepth 20000 in
set_option maxHeartbeats 8000000 in
theorem splits_f (b : Nat) (hb : b < 2 * 9223372036854775808) (h : b % 9223372036854775808 < 9218868437227405312) (w : World) (hT : Tab w) :
    Calls Tryz.prog 3 #[U b] w fun en w' => en = .returned (.bool true) ∧ Below w.heap.size w w' := by
  have hbw : Below w.heap.size w w := Below.refl _ _
  have TB : Hid (Tab w) := hT
  obtain ⟨z, e, hv, _⟩ := vf_ex pm_64 h
  have HF : Hid (b < 2 * 9223372036854775808 ∧ b % 9223372036854775808 < 9218868437227405312) := ⟨hb, h⟩
  have HV : Hid (VF 9223372036854775808 4503599627370496 (-1074) b z e ∧ DB z e 128 1430) := ⟨hv, vf_dbt jn_64 h hv⟩
  clear hT h hb hv
  go_enter Tryz.func3, Tryz.ntmps3
  go_wp2_with fail
  refine (awake17 _ (TB.out.below hbw)).mono ?_
  rintro e v1 ⟨rfl, hb1⟩
  replace hbw := Below.on hbw hb1
  clear hb1
  go_wp2_with fail
  refine (reduce_f HF.out.1 HF.out.2 HV.out.1 _ (TB.out.below hbw)).mono ?_
  rintro e9 v2 ⟨K, s2, p2, m2, zr, er, rfl, ho2, hrd, hdb, hb2⟩
  replace hbw := Below.on hbw hb2
  clear hb2
  have D2 : Hid (DN v2 s2 p2 m2 m2 er zr) := ho2.dn
  have HC : Hid (Rdc z e K zr er ∧ DB zr er 11838 16261) := ⟨hrd, hdb⟩
  obtain ⟨q, hq⟩ : ∃ q, q = K % 4 := ⟨_, rfl⟩
  rw [← hq]
  have HQ : Hid (q = K % 4) := hq
  clear hq ho2 hrd hdb
  go_wp2_with fail
  have Xr0 : Hid (B3q (v2.alloc (.cells #[.bool s2, .slice p2 m2 m2, .int .i64 er] 28)) v2.heap.size (.bool s2) (.slice p2 m2 m2) (.int .i64 er)) := B3q.new v2 _ _ _ _
  have hbn : Below v2.heap.size v2 (v2.alloc (.cells #[.bool s2, .slice p2 m2 m2, .int .i64 er] 28)) := below1 v2 _
  generalize v2.alloc (.cells #[.bool s2, .slice p2 m2 m2, .int .i64 er] 28) = Wr at *
  have HGr : Hid (w.heap.size ≤ v2.heap.size) := hbw.size
  replace D2 : Hid _ := D2.out.below hbn
  replace hbw := Below.on hbw hbn
  clear hbn
  generalize v2.heap.size = gr at *
  have Xr := Xr0
  clear Xr0
  refine (fin17_t b HF.out.2 _).mono ?_
  rintro e v3 ⟨rfl, hb3⟩
  replace Xr : Hid _ := Xr.out.below hb3
  replace D2 : Hid _ := D2.out.below hb3
  replace hbw := Below.on hbw hb3
  clear hb3
  go_wp2_with fail
  refine (value_v pm_64 HF.out.1 HF.out.2 HV.out.1 _ (TB.out.below hbw)).mono ?_
  rintro e9 v4 ⟨v, rfl, hv, hb4⟩
  obtain ⟨s4, p4, m4, rfl, hd4⟩ := hv.dn HV.out.1.fm
  clear hv
  replace Xr : Hid _ := Xr.out.below hb4
  replace D2 : Hid _ := D2.out.below hb4
  replace hbw := Below.on hbw hb4
  clear hb4
  have D4 : Hid (DN v4 s4 p4 m4 m4 e z) := hd4
  clear hd4
  obtain ⟨cr0, cr1, cr2, fr0, fr1, fr2⟩ := Xr.out
  have hner : gr < v4.heap.size := World.block_lt_of_cell? v4 _ cr0
  go_wp2_with fail
  clear cr0 cr1 cr2 fr0 fr1 fr2 hner
  have Xx0 : Hid (B3q (v4.alloc (.cells #[.bool s4, .slice p4 m4 m4, .int .i64 e] 28)) v4.heap.size (.bool s4) (.slice p4 m4 m4) (.int .i64 e)) := B3q.new v4 _ _ _ _
  have hbn : Below v4.heap.size v4 (v4.alloc (.cells #[.bool s4, .slice p4 m4 m4, .int .i64 e] 28)) := below1 v4 _
  generalize v4.alloc (.cells #[.bool s4, .slice p4 m4 m4, .int .i64 e] 28) = Wx at *
  have HGx : Hid (w.heap.size ≤ v4.heap.size) := hbw.size
  replace Xr : Hid _ := Xr.out.below hbn
  replace D2 : Hid _ := D2.out.below hbn
  replace D4 : Hid _ := D4.out.below hbn
  replace hbw := Below.on hbw hbn
  clear hbn
  generalize v4.heap.size = gx at *
  have Xx := Xx0
  clear Xx0
  refine (dsub_b D4.out D2.out (HV.out.2.mono (by decide) (by decide)) HC.out.2 (by decide) (TB.out.below hbw)).mono ?_
  rintro e9 v5 ⟨v, z5, e5, rfl, hv, hd5, hq5, hb5⟩
  obtain ⟨s5, p5, m5, rfl, hn5⟩ := hv.dn hd5.fm
  replace Xr : Hid _ := Xr.out.below hb5
  replace Xx : Hid _ := Xx.out.below hb5
  replace D2 : Hid _ := D2.out.below hb5
  replace D4 : Hid _ := D4.out.below hb5
  replace hbw := Below.on hbw hb5
  clear hb5
  have D5 : Hid (DN v5 s5 p5 m5 m5 e5 z5) := hn5
  have C5 : Hid (DB z5 e5 44361 60622 ∧ dv z5 e5 = 2 * K * UQ) := ⟨hd5, by rw [hq5, HC.out.1.v]; omega⟩
  clear hv hd5 hq5 hn5
  clear D4
  go_wp2_with fail
  have Xh0 : Hid (B3q (v5.alloc (.cells #[.bool s5, .slice p5 m5 m5, .int .i64 e5] 28)) v5.heap.size (.bool s5) (.slice p5 m5 m5) (.int .i64 e5)) := B3q.new v5 _ _ _ _
  have hbn : Below v5.heap.size v5 (v5.alloc (.cells #[.bool s5, .slice p5 m5 m5, .int .i64 e5] 28)) := below1 v5 _
  generalize v5.alloc (.cells #[.bool s5, .slice p5 m5 m5, .int .i64 e5] 28) = Wh at *
  have HGh : Hid (w.heap.size ≤ v5.heap.size) := hbw.size
  replace Xr : Hid _ := Xr.out.below hbn
  replace Xx : Hid _ := Xx.out.below hbn
  replace D2 : Hid _ := D2.out.below hbn
  replace D5 : Hid _ := D5.out.below hbn
  replace hbw := Below.on hbw hbn
  clear hbn
  generalize v5.heap.size = gh at *
  have Xh := Xh0
  clear Xh0
  refine (dscale_v (N := 1) D5.out (fun _ => by have := C5.out.1.lo; have := C5.out.1.hi; omega)).mono ?_
  rintro e9 v6 ⟨s6, p6, m6, z6, e6, rfl, ho6, hc6, hb6⟩
  replace Xr : Hid _ := Xr.out.below hb6
  replace Xx : Hid _ := Xx.out.below hb6
  replace Xh : Hid _ := Xh.out.below hb6
  replace D2 : Hid _ := D2.out.below hb6
  replace D5 : Hid _ := D5.out.below hb6
  replace hbw := Below.on hbw hb6
  clear hb6
  have D6 : Hid (DN v6 s6 p6 m6 m6 e6 z6) := ho6.dn
  have C6 : Hid (DB z6 e6 44361 60623 ∧ 0 ≤ e6 ∧ z6 * ((2 ^ e6.toNat : Nat) : Int) = K ∧ DFm z6 e6) := by
    have h7 := C5.out.1.sc (by decide) (by decide) hc6
    have h8 := twice_dv (by have := C5.out.1.lo; omega) hc6
    rw [C5.out.2] at h8
    exact ⟨h7, (whole_form h7.fm (by rw [h8, ← Int.mul_assoc, ← Int.mul_assoc]; rfl)).1, (whole_form h7.fm (by rw [h8, ← Int.mul_assoc, ← Int.mul_assoc]; rfl)).2, h7.fm⟩
  clear ho6 hc6
  clear D5
  obtain ⟨cr0, cr1, cr2, fr0, fr1, fr2⟩ := Xr.out
  have hner : gr < v6.heap.size := World.block_lt_of_cell? v6 _ cr0
  go_wp2_with fail
  clear cr0 cr1 cr2 fr0 fr1 fr2 hner
  have Xk0 : Hid (B3q (v6.alloc (.cells #[.bool s6, .slice p6 m6 m6, .int .i64 e6] 28)) v6.heap.size (.bool s6) (.slice p6 m6 m6) (.int .i64 e6)) := B3q.new v6 _ _ _ _
  have hbn : Below v6.heap.size v6 (v6.alloc (.cells #[.bool s6, .slice p6 m6 m6, .int .i64 e6] 28)) := below1 v6 _
  generalize v6.alloc (.cells #[.bool s6, .slice p6 m6 m6, .int .i64 e6] 28) = Wk at *
  have HGk : Hid (w.heap.size ≤ v6.heap.size) := hbw.size
  replace Xr : Hid _ := Xr.out.below hbn
  replace Xx : Hid _ := Xx.out.below hbn
  replace Xh : Hid _ := Xh.out.below hbn
  replace D2 : Hid _ := D2.out.below hbn
  replace D6 : Hid _ := D6.out.below hbn
  replace hbw := Below.on hbw hbn
  clear hbn
  generalize v6.heap.size = gk at *
  have Xk := Xk0
  clear Xk0
  obtain ⟨xs, hX⟩ := D2.out.zn.ex
  have hfd : formD s2 xs er = true := dn_formD D2.out hX
  refine (docformd s2 hX.at_).mono ?_
  rintro e9 v7 ⟨rfl, hb7⟩
  rw [hfd]
  clear hX hfd
  replace Xr : Hid _ := Xr.out.below hb7
  replace Xx : Hid _ := Xx.out.below hb7
  replace Xh : Hid _ := Xh.out.below hb7
  replace Xk : Hid _ := Xk.out.below hb7
  replace D2 : Hid _ := D2.out.below hb7
  replace D6 : Hid _ := D6.out.below hb7
  replace hbw := Below.on hbw hb7
  clear hb7
  go_wp2_with fail
  refine (dof_v (z := 1) (zo := 1) (eo := 0) (by decide) (.inr (by decide)) rfl (TB.out.below hbw)).mono ?_
  rintro e9 v8 ⟨s8, p8, m8, rfl, ho8, hb8⟩
  replace Xr : Hid _ := Xr.out.below hb8
  replace Xx : Hid _ := Xx.out.below hb8
  replace Xh : Hid _ := Xh.out.below hb8
  replace Xk : Hid _ := Xk.out.below hb8
  replace D2 : Hid _ := D2.out.below hb8
  replace D6 : Hid _ := D6.out.below hb8
  replace hbw := Below.on hbw hb8
  clear hb8
  have D8 : Hid (DN v8 s8 p8 m8 m8 0 1) := ho8.dn
  clear ho8
  go_wp2_with fail
  refine (dscale_v (N := -2) D8.out (fun _ => by decide)).mono ?_
  rintro e9 v9 ⟨s9, p9, m9, z9, e9', rfl, ho9, hc9, hb9⟩
  obtain ⟨rfl, rfl⟩ : z9 = 1 ∧ e9' = -2 := by rcases hc9 with ⟨h, _⟩ | ⟨_, h1, h2⟩; (exact absurd h (by decide)); exact ⟨h1, h2⟩
  replace Xr : Hid _ := Xr.out.below hb9
  replace Xx : Hid _ := Xx.out.below hb9
  replace Xh : Hid _ := Xh.out.below hb9
  replace Xk : Hid _ := Xk.out.below hb9
  replace D2 : Hid _ := D2.out.below hb9
  replace D6 : Hid _ := D6.out.below hb9
  replace D8 : Hid _ := D8.out.below hb9
  replace hbw := Below.on hbw hb9
  clear hb9
  have D9 : Hid (DN v9 s9 p9 m9 m9 (-2) 1) := ho9.dn
  clear ho9 hc9
  clear D8
  go_wp2_with fail
  have Xu0 : Hid (B3q (v9.alloc (.cells #[.bool s9, .slice p9 m9 m9, .int .i64 (-2)] 28)) v9.heap.size (.bool s9) (.slice p9 m9 m9) (.int .i64 (-2))) := B3q.new v9 _ _ _ _
  have hbn : Below v9.heap.size v9 (v9.alloc (.cells #[.bool s9, .slice p9 m9 m9, .int .i64 (-2)] 28)) := below1 v9 _
  generalize v9.alloc (.cells #[.bool s9, .slice p9 m9 m9, .int .i64 (-2)] 28) = Wu at *
  have HGu : Hid (w.heap.size ≤ v9.heap.size) := hbw.size
  replace Xr : Hid _ := Xr.out.below hbn
  replace Xx : Hid _ := Xx.out.below hbn
  replace Xh : Hid _ := Xh.out.below hbn
  replace Xk : Hid _ := Xk.out.below hbn
  replace D2 : Hid _ := D2.out.below hbn
  replace D6 : Hid _ := D6.out.below hbn
  replace D9 : Hid _ := D9.out.below hbn
  replace hbw := Below.on hbw hbn
  clear hbn
  generalize v9.heap.size = gu at *
  have Xu := Xu0
  clear Xu0
  refine (dneg D9.out).mono ?_
  rintro e9 v10 ⟨v, rfl, hv, hf10, hb10⟩
  obtain ⟨s10, p10, m10, rfl, hn10⟩ := hv.dn hf10
  replace Xr : Hid _ := Xr.out.below hb10
  replace Xx : Hid _ := Xx.out.below hb10
  replace Xh : Hid _ := Xh.out.below hb10
  replace Xk : Hid _ := Xk.out.below hb10
  replace Xu : Hid _ := Xu.out.below hb10
  replace D2 : Hid _ := D2.out.below hb10
  replace D6 : Hid _ := D6.out.below hb10
  replace D9 : Hid _ := D9.out.below hb10
  replace hbw := Below.on hbw hb10
  clear hb10
  have D10 : Hid (DN v10 s10 p10 m10 m10 (-2) (-1)) := hn10
  clear hv hf10 hn10
  obtain ⟨cr0, cr1, cr2, fr0, fr1, fr2⟩ := Xr.out
  have hner : gr < v10.heap.size := World.block_lt_of_cell? v10 _ cr0
  go_wp2_with fail
  clear cr0 cr1 cr2 fr0 fr1 fr2 hner
  have Xl0 : Hid (B3q (v10.alloc (.cells #[.bool s10, .slice p10 m10 m10, .int .i64 (-2)] 28)) v10.heap.size (.bool s10) (.slice p10 m10 m10) (.int .i64 (-2))) := B3q.new v10 _ _ _ _
  have hbn : Below v10.heap.size v10 (v10.alloc (.cells #[.bool s10, .slice p10 m10 m10, .int .i64 (-2)] 28)) := below1 v10 _
  generalize v10.alloc (.cells #[.bool s10, .slice p10 m10 m10, .int .i64 (-2)] 28) = Wl at *
  have HGl : Hid (w.heap.size ≤ v10.heap.size) := hbw.size
  replace Xr : Hid _ := Xr.out.below hbn
  replace Xx : Hid _ := Xx.out.below hbn
  replace Xh : Hid _ := Xh.out.below hbn
  replace Xk : Hid _ := Xk.out.below hbn
  replace Xu : Hid _ := Xu.out.below hbn
  replace D2 : Hid _ := D2.out.below hbn
  replace D6 : Hid _ := D6.out.below hbn
  replace D9 : Hid _ := D9.out.below hbn
  replace D10 : Hid _ := D10.out.below hbn
  replace hbw := Below.on hbw hbn
  clear hbn
  generalize v10.heap.size = gl at *
  have Xl := Xl0
  clear Xl0
  refine (dcmp D2.out D10.out).mono ?_
  rintro e v11 ⟨rfl, hb11⟩
  obtain ⟨c, hc⟩ : ∃ c, c = cmpI (dv zr er) (dv (-1) (-2)) := ⟨_, rfl⟩
  rw [← hc]
  have HCC : Hid (0 ≤ c) := by rw [hc]; refine cmpI_ge ?_; rw [dv_q]; have := HC.out.1.lo; omega
  clear hc
  replace Xr : Hid _ := Xr.out.below hb11
  replace Xx : Hid _ := Xx.out.below hb11
  replace Xh : Hid _ := Xh.out.below hb11
  replace Xk : Hid _ := Xk.out.below hb11
  replace Xu : Hid _ := Xu.out.below hb11
  replace Xl : Hid _ := Xl.out.below hb11
  replace D2 : Hid _ := D2.out.below hb11
  replace D6 : Hid _ := D6.out.below hb11
  replace D9 : Hid _ := D9.out.below hb11
  replace D10 : Hid _ := D10.out.below hb11
  replace hbw := Below.on hbw hb11
  clear hb11
  obtain ⟨cr0, cr1, cr2, fr0, fr1, fr2⟩ := Xr.out
  have hner : gr < v11.heap.size := World.block_lt_of_cell? v11 _ cr0
  obtain ⟨cu0, cu1, cu2, fu0, fu1, fu2⟩ := Xu.out
  have hneu : gu < v11.heap.size := World.block_lt_of_cell? v11 _ cu0
  go_wp2_with fail
  clear cr0 cr1 cr2 fr0 fr1 fr2 hner
  clear cu0 cu1 cu2 fu0 fu1 fu2 hneu
  refine (dcmp D2.out D9.out).mono ?_
  rintro e v12 ⟨rfl, hb12⟩
  rw [show cmpI (dv zr er) (dv 1 (-2)) = -1 from cmp_l HC.out.1.hi]
  replace Xr : Hid _ := Xr.out.below hb12
  replace Xx : Hid _ := Xx.out.below hb12
  replace Xh : Hid _ := Xh.out.below hb12
  replace Xk : Hid _ := Xk.out.below hb12
  replace Xu : Hid _ := Xu.out.below hb12
  replace Xl : Hid _ := Xl.out.below hb12
  replace D2 : Hid _ := D2.out.below hb12
  replace D6 : Hid _ := D6.out.below hb12
  replace D9 : Hid _ := D9.out.below hb12
  replace D10 : Hid _ := D10.out.below hb12
  replace hbw := Below.on hbw hb12
  clear hb12
  have c0 : decide (c < 0) = false := decide_eq_false (by have := HCC.out; omega)
  by_cases hk : 2 ≤ e6 ∨ z6 = 0
  · have hq0 : (q == 0) = true := by
      rw [HQ.out]
      have h9 := C6.out.2.2.1
      rcases hk with h | h
      · rw [four_of h h9]; rfl
      · rw [h, Int.zero_mul] at h9; rw [← h9]; rfl
    have d0 : decide (e6 < 0) = false := decide_eq_false (by have := C6.out.2.1; omega)
    by_cases hk2 : 2 ≤ e6
    · have d1 : decide (2 ≤ e6) = true := decide_eq_true hk2
      clear hk hk2
      obtain ⟨ck0, ck1, ck2, fk0, fk1, fk2⟩ := Xk.out
      have hnek : gk < v12.heap.size := World.block_lt_of_cell? v12 _ ck0
      go_wp2_with fail
      clear ck0 ck1 ck2 fk0 fk1 fk2 hnek
      go_ret
      exact ⟨rfl, hbw⟩
    · have d1 : decide (2 ≤ e6) = false := decide_eq_false hk2
      obtain rfl : m6 = 0 := D6.out.len0.2 (by rcases hk with h | h; (exact absurd h hk2); exact h)
      clear hk hk2
      obtain ⟨ck0, ck1, ck2, fk0, fk1, fk2⟩ := Xk.out
      have hnek : gk < v12.heap.size := World.block_lt_of_cell? v12 _ ck0
      go_wp2_with fail
      clear ck0 ck1 ck2 fk0 fk1 fk2 hnek
      go_ret
      exact ⟨rfl, hbw⟩
  · have hm6 : m6 ≠ 0 := fun h0 => hk (.inr (D6.out.len0.1 h0))
    have hm1 : ((m6 : Int) == 0) = false := by simp; omega
    have hm2 : decide (m6 = 0) = false := decide_eq_false hm6
    have d0 : decide (e6 < 0) = false := decide_eq_false (by have := C6.out.2.1; omega)
    have d1 : decide (2 ≤ e6) = false := decide_eq_false (fun h => hk (.inl h))
    obtain ⟨N, hN⟩ : ∃ N : Nat, N = e6.toNat := ⟨_, rfl⟩
    have HNE : Hid (e6 = (N : Int)) := by have := C6.out.2.1; show _ = _; omega
    have HN : Hid (N ≤ 1 ∧ z6 * 2 ^ N = K ∧ (z6 * 2 ^ N).natAbs < LIM ∧ 0 ≤ K % 4 ∧ K % 4 < 4) := by
      have h9 := C6.out.2.2.1
      rw [← hN] at h9
      have h10 := HNE.out
      exact ⟨by omega, by rw [pow_cast]; exact h9, lt_LIM (shl_bound C6.out.1.sz (show N ≤ 1 by omega)) (by decide), by omega, by omega⟩
    clear hk hm6 hN
    obtain ⟨ck0, ck1, ck2, fk0, fk1, fk2⟩ := Xk.out
    have hnek : gk < v12.heap.size := World.block_lt_of_cell? v12 _ ck0
    go_wp2_with fail
    clear ck0 ck1 ck2 fk0 fk1 fk2 hnek
    rw [HNE.out]
    refine (zshl D6.out.zn N (by have := HN.out.1; omega)).mono ?_
    rintro e v13 ⟨ha, hb13⟩
    obtain ⟨s13, p13, m13, rfl, hz⟩ := ha.got (HN.out.2.2.1)
    clear ha
    replace Xr : Hid _ := Xr.out.below hb13
    replace Xx : Hid _ := Xx.out.below hb13
    replace Xh : Hid _ := Xh.out.below hb13
    replace Xk : Hid _ := Xk.out.below hb13
    replace Xu : Hid _ := Xu.out.below hb13
    replace Xl : Hid _ := Xl.out.below hb13
    replace D2 : Hid _ := D2.out.below hb13
    replace D6 : Hid _ := D6.out.below hb13
    replace D9 : Hid _ := D9.out.below hb13
    replace D10 : Hid _ := D10.out.below hb13
    replace hbw := Below.on hbw hb13
    clear hb13
    have hz := hz.cast (z' := K) (HN.out.2.1)
    have Za : Hid (ZN v13 s13 p13 m13 m13 (K)) := hz
    clear hz
    go_wp2_with fail
    have Xa0 : Hid (Box (v13.alloc (.cells #[.bool s13, .slice p13 m13 m13] 26)) v13.heap.size (.bool s13) (.slice p13 m13 m13)) := Box.new v13 _ _ _
    have hbn : Below v13.heap.size v13 (v13.alloc (.cells #[.bool s13, .slice p13 m13 m13] 26)) := below1 v13 _
    generalize v13.alloc (.cells #[.bool s13, .slice p13 m13 m13] 26) = Wa at *
    have HGa : Hid (w.heap.size ≤ v13.heap.size) := hbw.size
    replace Xr : Hid _ := Xr.out.below hbn
    replace Xx : Hid _ := Xx.out.below hbn
    replace Xh : Hid _ := Xh.out.below hbn
    replace Xk : Hid _ := Xk.out.below hbn
    replace Xu : Hid _ := Xu.out.below hbn
    replace Xl : Hid _ := Xl.out.below hbn
    replace D2 : Hid _ := D2.out.below hbn
    replace D6 : Hid _ := D6.out.below hbn
    replace D9 : Hid _ := D9.out.below hbn
    replace D10 : Hid _ := D10.out.below hbn
    replace Za : Hid _ := Za.out.below hbn
    replace hbw := Below.on hbw hbn
    clear hbn
    generalize v13.heap.size = ga at *
    have Xa := Xa0
    clear Xa0
    obtain ⟨Wr0, hWr0⟩ : ∃ W1, W1 = Wa.drew := ⟨_, rfl⟩
    have hbd : Below Wa.heap.size Wa Wr0 := by rw [hWr0]; exact bDrew1 (Below.refl _ _)
    replace Xr : Hid _ := Xr.out.below hbd
    replace Xx : Hid _ := Xx.out.below hbd
    replace Xh : Hid _ := Xh.out.below hbd
    replace Xk : Hid _ := Xk.out.below hbd
    replace Xu : Hid _ := Xu.out.below hbd
    replace Xl : Hid _ := Xl.out.below hbd
    replace Xa : Hid _ := Xa.out.below hbd
    replace D2 : Hid _ := D2.out.below hbd
    replace D6 : Hid _ := D6.out.below hbd
    replace D9 : Hid _ := D9.out.below hbd
    replace D10 : Hid _ := D10.out.below hbd
    replace Za : Hid _ := Za.out.below hbd
    replace hbw := Below.on hbw hbd
    clear hbd
    have HJ : Hid ((fun W' : World => W'.cell? ⟨ga, 0, none⟩ = some (.bool s13) ∧ W'.cell? ⟨ga, 1, none⟩ = some (.slice p13 m13 m13)) Wr0) := ⟨Xa.out.c0, Xa.out.c1⟩
    refine wp_region_J (fun W' => W'.cell? ⟨ga, 0, none⟩ = some (.bool s13) ∧ W'.cell? ⟨ga, 1, none⟩ = some (.slice p13 m13 m13)) (by kernel_rfl) ?_
    rw [← hWr0]
    clear hWr0
    refine wpJ_take (i := 0) (v := ?v1x0) rfl (by kernel_rfl) (by kernel_rfl) (by kernel_rfl) (fun _ _ _ h => h) (by kernel_rfl) ?hy1x0 HJ.out ?rest1x0
    case hy1x0 => (intro W' hJ; obtain ⟨j0, j1⟩ := hJ; go_simp; first | done | with_reducible rfl)
    obtain ⟨RQ, HRQ, HRP⟩ : ∃ RQ : Act → Act → World → Prop, Hid (∀ a1 a2 a3, (fun a0 a' W' => ∃ gd sF pF mF sR pR mR, a' = (((((((a0.put (some 144) (ZV sF pF mF mF)).put (some 145) (.tuple #[ZV sR pR mR mR, .int .i64 0])).put (some 142) (.tuple #[ZV sR pR mR mR, .int .i64 0])).put (some 146) (ZV sR pR mR mR)).put (some 147) (.int .i64 0)).put (some 23) (.int .i64 0)).put (some 22) (.pointer (some ⟨gd, 0, none⟩))) ∧ Box W' gd (.bool sR) (.slice pR mR mR) ∧ B3q W' gr (.bool s2) (.slice p2 m2 m2) (.int .i64 er) ∧ B3q W' gx (.bool s4) (.slice p4 m4 m4) (.int .i64 e) ∧ B3q W' gh (.bool s5) (.slice p5 m5 m5) (.int .i64 e5) ∧ B3q W' gk (.bool s6) (.slice p6 m6 m6) (.int .i64 e6) ∧ B3q W' gu (.bool s9) (.slice p9 m9 m9) (.int .i64 (-2)) ∧ B3q W' gl (.bool s10) (.slice p10 m10 m10) (.int .i64 (-2)) ∧ Box W' ga (.bool s13) (.slice p13 m13 m13) ∧ ZN W' sR pR mR mR (K % 4) ∧ w.heap.size ≤ gd ∧ gr ≠ gd ∧ gx ≠ gd ∧ gh ≠ gd ∧ gk ≠ gd ∧ gu ≠ gd ∧ gl ≠ gd ∧ ga ≠ gd ∧ Below w.heap.size w W') a1 a2 a3 → RQ a1 a2 a3) ∧ Hid (∀ a1 a2 a3, RQ a1 a2 a3 → (fun a0 a' W' => ∃ gd sF pF mF sR pR mR, a' = (((((((a0.put (some 144) (ZV sF pF mF mF)).put (some 145) (.tuple #[ZV sR pR mR mR, .int .i64 0])).put (some 142) (.tuple #[ZV sR pR mR mR, .int .i64 0])).put (some 146) (ZV sR pR mR mR)).put (some 147) (.int .i64 0)).put (some 23) (.int .i64 0)).put (some 22) (.pointer (some ⟨gd, 0, none⟩))) ∧ Box W' gd (.bool sR) (.slice pR mR mR) ∧ B3q W' gr (.bool s2) (.slice p2 m2 m2) (.int .i64 er) ∧ B3q W' gx (.bool s4) (.slice p4 m4 m4) (.int .i64 e) ∧ B3q W' gh (.bool s5) (.slice p5 m5 m5) (.int .i64 e5) ∧ B3q W' gk (.bool s6) (.slice p6 m6 m6) (.int .i64 e6) ∧ B3q W' gu (.bool s9) (.slice p9 m9 m9) (.int .i64 (-2)) ∧ B3q W' gl (.bool s10) (.slice p10 m10 m10) (.int .i64 (-2)) ∧ Box W' ga (.bool s13) (.slice p13 m13 m13) ∧ ZN W' sR pR mR mR (K % 4) ∧ w.heap.size ≤ gd ∧ gr ≠ gd ∧ gx ≠ gd ∧ gh ≠ gd ∧ gk ≠ gd ∧ gu ≠ gd ∧ gl ≠ gd ∧ ga ≠ gd ∧ Below w.heap.size w W') a1 a2 a3) := ⟨_, fun _ _ _ h => h, fun _ _ _ h => h⟩
    refine wpJ_cutA RQ ?_ ?_
    · intro a' Wc hrq
      obtain ⟨gd, sF, pF, mF, sR, pR, mR, rfl, xb, xr, xx, xh, xk, xu, xl, xa, rr, hg, hdr, hdx, hdh, hdk, hdu, hdl, hda, hbc⟩ := HRP.out _ _ _ hrq
      clear hrq HRP HRQ
      clear hbw HJ Xr Xx Xh Xk Xu Xl Xa D2 D6 D9 D10 Za
      have hbw := hbc
      have Xd : Hid (Box Wc gd (.bool sR) (.slice pR mR mR)) := xb
      have Xr : Hid (B3q Wc gr (.bool s2) (.slice p2 m2 m2) (.int .i64 er)) := xr
      have Xx : Hid (B3q Wc gx (.bool s4) (.slice p4 m4 m4) (.int .i64 e)) := xx
      have Xh : Hid (B3q Wc gh (.bool s5) (.slice p5 m5 m5) (.int .i64 e5)) := xh
      have Xk : Hid (B3q Wc gk (.bool s6) (.slice p6 m6 m6) (.int .i64 e6)) := xk
      have Xu : Hid (B3q Wc gu (.bool s9) (.slice p9 m9 m9) (.int .i64 (-2))) := xu
      have Xl : Hid (B3q Wc gl (.bool s10) (.slice p10 m10 m10) (.int .i64 (-2))) := xl
      have Xa : Hid (Box Wc ga (.bool s13) (.slice p13 m13 m13)) := xa
      have RR : Hid (ZN Wc sR pR mR mR (K % 4)) := rr
      have HGd : Hid (w.heap.size ≤ gd) := hg
      have HDrd : Hid (gr ≠ gd) := hdr
      have HDxd : Hid (gx ≠ gd) := hdx
      have HDhd : Hid (gh ≠ gd) := hdh
      have HDkd : Hid (gk ≠ gd) := hdk
      have HDud : Hid (gu ≠ gd) := hdu
      have HDld : Hid (gl ≠ gd) := hdl
      have HDad : Hid (ga ≠ gd) := hda
      clear xb xr xx xh xk xu xl xa rr hg hdr hdx hdh hdk hdu hdl hda hbc
      obtain ⟨cd0, cd1, fd0, fd1⟩ := Xd.out
      have hned := Xd.out.lt
      go_wp2_with fail
      clear cd0 cd1 fd0 fd1 hned
      refine (zsmall RR.out).mono ?_
      rintro e9 v16 ⟨rfl, hb16⟩
      rw [if_pos ⟨by have := HN.out; omega, by have := HN.out; omega⟩, ← HQ.out]
      replace Xd : Hid _ := Xd.out.below hb16
      replace Xr : Hid _ := Xr.out.below hb16
      replace Xx : Hid _ := Xx.out.below hb16
      replace Xh : Hid _ := Xh.out.below hb16
      replace Xk : Hid _ := Xk.out.below hb16
      replace Xu : Hid _ := Xu.out.below hb16
      replace Xl : Hid _ := Xl.out.below hb16
      replace Xa : Hid _ := Xa.out.below hb16
      replace RR : Hid _ := RR.out.below hb16
      replace hbw := Below.on hbw hb16
      clear hb16
      go_wp2_with fail
      go_ret
      exact ⟨rfl, hbw⟩
    · skip
      refine wpJ_two (i := 1) (k := 6) (by kernel_rfl) rfl rfl (by kernel_rfl) (by kernel_rfl) (fun KJ hK => ?_) (fun KJ hK => ?_)
      · go_simp
        refine (zof 4 _ (by decide) (by decide)).mono ?_
        rintro e9 u1 ⟨sF, pF, mF, rfl, hzF, hbF⟩
        replace Xr : Hid _ := Xr.out.below hbF
        replace Xx : Hid _ := Xx.out.below hbF
        replace Xh : Hid _ := Xh.out.below hbF
        replace Xk : Hid _ := Xk.out.below hbF
        replace Xu : Hid _ := Xu.out.below hbF
        replace Xl : Hid _ := Xl.out.below hbF
        replace Xa : Hid _ := Xa.out.below hbF
        replace D2 : Hid _ := D2.out.below hbF
        replace D6 : Hid _ := D6.out.below hbF
        replace D9 : Hid _ := D9.out.below hbF
        replace D10 : Hid _ := D10.out.below hbF
        replace Za : Hid _ := Za.out.below hbF
        replace hbw := Below.on hbw hbF
        clear hbF
        have ZF : Hid (ZN u1 sF pF mF mF 4) := hzF
        clear hzF
        clear HJ
        have HJ : Hid ((fun W' : World => W'.cell? ⟨ga, 0, none⟩ = some (.bool s13) ∧ W'.cell? ⟨ga, 1, none⟩ = some (.slice p13 m13 m13)) u1) := ⟨Xa.out.c0, Xa.out.c1⟩
        refine hK _ _ HJ.out ?_
        clear hK
        refine wpJ_two (i := 2) (k := 6) (by kernel_rfl) rfl rfl (by kernel_rfl) (by kernel_rfl) (fun KJ hK => ?_) (fun KJ hK => ?_)
        · go_simp
          refine (zmod4 Za.out ZF.out).mono ?_
          rintro e9 u2 ⟨sR, pR, mR, rfl, hoR, hbR⟩
          replace Xr : Hid _ := Xr.out.below hbR
          replace Xx : Hid _ := Xx.out.below hbR
          replace Xh : Hid _ := Xh.out.below hbR
          replace Xk : Hid _ := Xk.out.below hbR
          replace Xu : Hid _ := Xu.out.below hbR
          replace Xl : Hid _ := Xl.out.below hbR
          replace Xa : Hid _ := Xa.out.below hbR
          replace D2 : Hid _ := D2.out.below hbR
          replace D6 : Hid _ := D6.out.below hbR
          replace D9 : Hid _ := D9.out.below hbR
          replace D10 : Hid _ := D10.out.below hbR
          replace Za : Hid _ := Za.out.below hbR
          replace ZF : Hid _ := ZF.out.below hbR
          replace hbw := Below.on hbw hbR
          clear hbR
          have RR : Hid (ZO u1.heap.size u2 sR pR mR (K % 4)) := hoR
          clear hoR
          clear ZF
          clear HJ
          have HJ : Hid ((fun W' : World => W'.cell? ⟨ga, 0, none⟩ = some (.bool s13) ∧ W'.cell? ⟨ga, 1, none⟩ = some (.slice p13 m13 m13)) u2) := ⟨Xa.out.c0, Xa.out.c1⟩
          refine hK _ _ HJ.out ?_
          clear hK
          refine wpJ_take (i := 3) (v := ?v2x3) rfl (by kernel_rfl) (by kernel_rfl) (by kernel_rfl) (fun _ _ _ h => by cases h.1) (by kernel_rfl) ?hy2x3 HJ.out ?rest2x3
          case hy2x3 => (intro W' hJ; obtain ⟨j0, j1⟩ := hJ; go_simp; first | done | with_reducible rfl)
          refine wpJ_take (i := 4) (v := ?v3x4) rfl (by kernel_rfl) (by kernel_rfl) (by kernel_rfl) (fun _ _ _ h => by cases h.1) (by kernel_rfl) ?hy3x4 HJ.out ?rest3x4
          case hy3x4 => (intro W' hJ; obtain ⟨j0, j1⟩ := hJ; go_simp; first | done | with_reducible rfl)
          refine wpJ_take (i := 5) (v := ?v4x5) rfl (by kernel_rfl) (by kernel_rfl) (by kernel_rfl) (fun _ _ _ h => by cases h.1) (by kernel_rfl) ?hy4x5 HJ.out ?rest4x5
          case hy4x5 => (intro W' hJ; obtain ⟨j0, j1⟩ := hJ; go_simp; first | done | with_reducible rfl)
          refine wpJ_one (i := 6) (by kernel_rfl) rfl (by kernel_rfl) (fun KJ hK => ?_)
          go_simp
          have HDrd : Hid (gr ≠ u2.heap.size) := Nat.ne_of_lt Xr.out.lt
          have HDxd : Hid (gx ≠ u2.heap.size) := Nat.ne_of_lt Xx.out.lt
          have HDhd : Hid (gh ≠ u2.heap.size) := Nat.ne_of_lt Xh.out.lt
          have HDkd : Hid (gk ≠ u2.heap.size) := Nat.ne_of_lt Xk.out.lt
          have HDud : Hid (gu ≠ u2.heap.size) := Nat.ne_of_lt Xu.out.lt
          have HDld : Hid (gl ≠ u2.heap.size) := Nat.ne_of_lt Xl.out.lt
          have HDad : Hid (ga ≠ u2.heap.size) := Nat.ne_of_lt Xa.out.lt
          have HLS : Hid (∀ v0 v1, ZN (((u2.alloc (.cells #[.bool false, .slice none 0 0] 26)).setCell ⟨u2.heap.size, 0, none⟩ v0).setCell ⟨u2.heap.size, 1, none⟩ v1) sR pR mR mR (K % 4)) := fun v0 v1 => RR.out.zn.below (bSet (bSet (below1 _ _) _ _ _ (Nat.le_refl _)) _ _ _ (Nat.le_refl _))
          have Xd0 : Hid (Box (u2.alloc (.cells #[.bool false, .slice none 0 0] 26)) u2.heap.size (.bool false) (.slice none 0 0)) := Box.new u2 _ _ _
          have hbn : Below u2.heap.size u2 (u2.alloc (.cells #[.bool false, .slice none 0 0] 26)) := below1 u2 _
          generalize u2.alloc (.cells #[.bool false, .slice none 0 0] 26) = Wn at *
          have HGd : Hid (w.heap.size ≤ u2.heap.size) := hbw.size
          replace Xr : Hid _ := Xr.out.below hbn
          replace Xx : Hid _ := Xx.out.below hbn
          replace Xh : Hid _ := Xh.out.below hbn
          replace Xk : Hid _ := Xk.out.below hbn
          replace Xu : Hid _ := Xu.out.below hbn
          replace Xl : Hid _ := Xl.out.below hbn
          replace Xa : Hid _ := Xa.out.below hbn
          replace D2 : Hid _ := D2.out.below hbn
          replace D6 : Hid _ := D6.out.below hbn
          replace D9 : Hid _ := D9.out.below hbn
          replace D10 : Hid _ := D10.out.below hbn
          replace Za : Hid _ := Za.out.below hbn
          replace RR : Hid (ZO u1.heap.size Wn sR pR mR (K % 4)) := RR.out.below hbn
          replace hbw := Below.on hbw hbn
          clear hbn
          generalize u2.heap.size = gd at *
          have Xd := Xd0
          clear Xd0
          refine hK _ _ ⟨Xa.out.c0, Xa.out.c1⟩ ?_
          clear hK
          obtain ⟨cd0, cd1, fd0, fd1⟩ := Xd.out
          have hned := Xd.out.lt
          obtain ⟨cr0, cr1, cr2, fr0, fr1, fr2⟩ := Xr.out
          have hner : gr < Wn.heap.size := World.block_lt_of_cell? Wn _ cr0
          obtain ⟨cx0, cx1, cx2, fx0, fx1, fx2⟩ := Xx.out
          have hnex : gx < Wn.heap.size := World.block_lt_of_cell? Wn _ cx0
          obtain ⟨ch0, ch1, ch2, fh0, fh1, fh2⟩ := Xh.out
          have hneh : gh < Wn.heap.size := World.block_lt_of_cell? Wn _ ch0
          obtain ⟨ck0, ck1, ck2, fk0, fk1, fk2⟩ := Xk.out
          have hnek : gk < Wn.heap.size := World.block_lt_of_cell? Wn _ ck0
          obtain ⟨cu0, cu1, cu2, fu0, fu1, fu2⟩ := Xu.out
          have hneu : gu < Wn.heap.size := World.block_lt_of_cell? Wn _ cu0
          obtain ⟨cl0, cl1, cl2, fl0, fl1, fl2⟩ := Xl.out
          have hnel : gl < Wn.heap.size := World.block_lt_of_cell? Wn _ cl0
          obtain ⟨ca0, ca1, fa0, fa1⟩ := Xa.out
          have hnea := Xa.out.lt
          have qar : gr ≠ gd := HDrd.out
          have qbr : gd ≠ gr := fun h => qar h.symm
          have qax : gx ≠ gd := HDxd.out
          have qbx : gd ≠ gx := fun h => qax h.symm
          have qah : gh ≠ gd := HDhd.out
          have qbh : gd ≠ gh := fun h => qah h.symm
          have qak : gk ≠ gd := HDkd.out
          have qbk : gd ≠ gk := fun h => qak h.symm
          have qau : gu ≠ gd := HDud.out
          have qbu : gd ≠ gu := fun h => qau h.symm
          have qal : gl ≠ gd := HDld.out
          have qbl : gd ≠ gl := fun h => qal h.symm
          have qaa : ga ≠ gd := HDad.out
          have qba : gd ≠ ga := fun h => qaa h.symm
          refine wpJ_one (i := 7) (by kernel_rfl) rfl (by kernel_rfl) (fun KJ hK => ?_)
          go_simp
          have HJ2 : Hid ((fun W' : World => W'.cell? ⟨ga, 0, none⟩ = some (.bool s13) ∧ W'.cell? ⟨ga, 1, none⟩ = some (.slice p13 m13 m13)) ((Wn.setCell ⟨gd, 0, none⟩ (.bool sR)).setCell ⟨gd, 1, none⟩ (.slice pR mR mR))) := ⟨by go_simp, by go_simp⟩
          have Xd2 : Hid (Box ((Wn.setCell ⟨gd, 0, none⟩ (.bool sR)).setCell ⟨gd, 1, none⟩ (.slice pR mR mR)) gd (.bool sR) (.slice pR mR mR)) := ⟨by go_simp, by go_simp, by go_simp, by go_simp⟩
          have Xr2 : Hid (B3q ((Wn.setCell ⟨gd, 0, none⟩ (.bool sR)).setCell ⟨gd, 1, none⟩ (.slice pR mR mR)) gr (.bool s2) (.slice p2 m2 m2) (.int .i64 er)) := ⟨by go_simp, by go_simp, by go_simp, by go_simp, by go_simp, by go_simp⟩
          have Xx2 : Hid (B3q ((Wn.setCell ⟨gd, 0, none⟩ (.bool sR)).setCell ⟨gd, 1, none⟩ (.slice pR mR mR)) gx (.bool s4) (.slice p4 m4 m4) (.int .i64 e)) := ⟨by go_simp, by go_simp, by go_simp, by go_simp, by go_simp, by go_simp⟩
          have Xh2 : Hid (B3q ((Wn.setCell ⟨gd, 0, none⟩ (.bool sR)).setCell ⟨gd, 1, none⟩ (.slice pR mR mR)) gh (.bool s5) (.slice p5 m5 m5) (.int .i64 e5)) := ⟨by go_simp, by go_simp, by go_simp, by go_simp, by go_simp, by go_simp⟩
          have Xk2 : Hid (B3q ((Wn.setCell ⟨gd, 0, none⟩ (.bool sR)).setCell ⟨gd, 1, none⟩ (.slice pR mR mR)) gk (.bool s6) (.slice p6 m6 m6) (.int .i64 e6)) := ⟨by go_simp, by go_simp, by go_simp, by go_simp, by go_simp, by go_simp⟩
          have Xu2 : Hid (B3q ((Wn.setCell ⟨gd, 0, none⟩ (.bool sR)).setCell ⟨gd, 1, none⟩ (.slice pR mR mR)) gu (.bool s9) (.slice p9 m9 m9) (.int .i64 (-2))) := ⟨by go_simp, by go_simp, by go_simp, by go_simp, by go_simp, by go_simp⟩
          have Xl2 : Hid (B3q ((Wn.setCell ⟨gd, 0, none⟩ (.bool sR)).setCell ⟨gd, 1, none⟩ (.slice pR mR mR)) gl (.bool s10) (.slice p10 m10 m10) (.int .i64 (-2))) := ⟨by go_simp, by go_simp, by go_simp, by go_simp, by go_simp, by go_simp⟩
          have Xa2 : Hid (Box ((Wn.setCell ⟨gd, 0, none⟩ (.bool sR)).setCell ⟨gd, 1, none⟩ (.slice pR mR mR)) ga (.bool s13) (.slice p13 m13 m13)) := ⟨by go_simp, by go_simp, by go_simp, by go_simp⟩
          have RR2 : Hid (ZN ((Wn.setCell ⟨gd, 0, none⟩ (.bool sR)).setCell ⟨gd, 1, none⟩ (.slice pR mR mR)) sR pR mR mR (K % 4)) := HLS.out _ _
          have hbw2 : Below w.heap.size w ((Wn.setCell ⟨gd, 0, none⟩ (.bool sR)).setCell ⟨gd, 1, none⟩ (.slice pR mR mR)) := bSet (bSet hbw _ _ _ HGd.out) _ _ _ HGd.out
          refine hK _ _ HJ2.out ?_
          clear hK HJ
          have HJ := HJ2
          clear HJ2
          refine wpJ_take (i := 8) (v := ?v5x8) rfl (by kernel_rfl) (by kernel_rfl) (by kernel_rfl) (fun _ _ _ h => by cases h.1) (by kernel_rfl) ?hy5x8 HJ.out ?rest5x8
          case hy5x8 => (intro W' hJ; obtain ⟨j0, j1⟩ := hJ; go_simp; first | done | with_reducible rfl)
          refine wpJ_done (by kernel_rfl) ?_ _
          exact ⟨rfl, HRQ.out _ _ _ ⟨gd, sF, pF, mF, sR, pR, mR, by kernel_rfl, Xd2.out, Xr2.out, Xx2.out, Xh2.out, Xk2.out, Xu2.out, Xl2.out, Xa2.out, RR2.out, HGd.out, HDrd.out, HDxd.out, HDhd.out, HDkd.out, HDud.out, HDld.out, HDad.out, hbw2⟩⟩
        · go_simp
          have HDrd : Hid (gr ≠ u1.heap.size) := Nat.ne_of_lt Xr.out.lt
          have HDxd : Hid (gx ≠ u1.heap.size) := Nat.ne_of_lt Xx.out.lt
          have HDhd : Hid (gh ≠ u1.heap.size) := Nat.ne_of_lt Xh.out.lt
          have HDkd : Hid (gk ≠ u1.heap.size) := Nat.ne_of_lt Xk.out.lt
          have HDud : Hid (gu ≠ u1.heap.size) := Nat.ne_of_lt Xu.out.lt
          have HDld : Hid (gl ≠ u1.heap.size) := Nat.ne_of_lt Xl.out.lt
          have HDad : Hid (ga ≠ u1.heap.size) := Nat.ne_of_lt Xa.out.lt
          have Xd0 : Hid (Box (u1.alloc (.cells #[.bool false, .slice none 0 0] 26)) u1.heap.size (.bool false) (.slice none 0 0)) := Box.new u1 _ _ _
          have hbn : Below u1.heap.size u1 (u1.alloc (.cells #[.bool false, .slice none 0 0] 26)) := below1 u1 _
          generalize u1.alloc (.cells #[.bool false, .slice none 0 0] 26) = Wn at *
          have HGd : Hid (w.heap.size ≤ u1.heap.size) := hbw.size
          replace Xr : Hid _ := Xr.out.below hbn
          replace Xx : Hid _ := Xx.out.below hbn
          replace Xh : Hid _ := Xh.out.below hbn
          replace Xk : Hid _ := Xk.out.below hbn
          replace Xu : Hid _ := Xu.out.below hbn
          replace Xl : Hid _ := Xl.out.below hbn
          replace Xa : Hid _ := Xa.out.below hbn
          replace D2 : Hid _ := D2.out.below hbn
          replace D6 : Hid _ := D6.out.below hbn
          replace D9 : Hid _ := D9.out.below hbn
          replace D10 : Hid _ := D10.out.below hbn
          replace Za : Hid _ := Za.out.below hbn
          replace ZF : Hid _ := ZF.out.below hbn
          replace hbw := Below.on hbw hbn
          clear hbn
          generalize u1.heap.size = gd at *
          have Xd := Xd0
          clear Xd0
          refine hK _ _ ⟨Xa.out.c0, Xa.out.c1⟩ ?_
          clear hK
          refine wpJ_one (i := 2) (by kernel_rfl) rfl (by kernel_rfl) (fun KJ hK => ?_)
          go_simp
          have HLT : Hid (gd < Wn.heap.size) := Xd.out.lt
          refine (zmod4 Za.out ZF.out).mono ?_
          rintro e9 u2 ⟨sR, pR, mR, rfl, hoR, hbR⟩
          replace Xr : Hid _ := Xr.out.below hbR
          replace Xx : Hid _ := Xx.out.below hbR
          replace Xh : Hid _ := Xh.out.below hbR
          replace Xk : Hid _ := Xk.out.below hbR
          replace Xu : Hid _ := Xu.out.below hbR
          replace Xl : Hid _ := Xl.out.below hbR
          replace Xa : Hid _ := Xa.out.below hbR
          replace Xd : Hid _ := Xd.out.below hbR
          replace D2 : Hid _ := D2.out.below hbR
          replace D6 : Hid _ := D6.out.below hbR
          replace D9 : Hid _ := D9.out.below hbR
          replace D10 : Hid _ := D10.out.below hbR
          replace Za : Hid _ := Za.out.below hbR
          replace ZF : Hid _ := ZF.out.below hbR
          replace hbw := Below.on hbw hbR
          clear hbR
          have RR : Hid (ZO Wn.heap.size u2 sR pR mR (K % 4)) := hoR
          clear hoR
          clear ZF
          clear HJ
          have HJ : Hid ((fun W' : World => W'.cell? ⟨ga, 0, none⟩ = some (.bool s13) ∧ W'.cell? ⟨ga, 1, none⟩ = some (.slice p13 m13 m13)) u2) := ⟨Xa.out.c0, Xa.out.c1⟩
          refine hK _ _ HJ.out ?_
          clear hK
          refine wpJ_take (i := 3) (v := ?v6x3) rfl (by kernel_rfl) (by kernel_rfl) (by kernel_rfl) (fun _ _ _ h => by cases h.1) (by kernel_rfl) ?hy6x3 HJ.out ?rest6x3
          case hy6x3 => (intro W' hJ; obtain ⟨j0, j1⟩ := hJ; go_simp; first | done | with_reducible rfl)
          refine wpJ_take (i := 4) (v := ?v7x4) rfl (by kernel_rfl) (by kernel_rfl) (by kernel_rfl) (fun _ _ _ h => by cases h.1) (by kernel_rfl) ?hy7x4 HJ.out ?rest7x4
          case hy7x4 => (intro W' hJ; obtain ⟨j0, j1⟩ := hJ; go_simp; first | done | with_reducible rfl)
          refine wpJ_take (i := 5) (v := ?v8x5) rfl (by kernel_rfl) (by kernel_rfl) (by kernel_rfl) (fun _ _ _ h => by cases h.1) (by kernel_rfl) ?hy8x5 HJ.out ?rest8x5
          case hy8x5 => (intro W' hJ; obtain ⟨j0, j1⟩ := hJ; go_simp; first | done | with_reducible rfl)
          obtain ⟨cd0, cd1, fd0, fd1⟩ := Xd.out
          have hned := Xd.out.lt
          obtain ⟨cr0, cr1, cr2, fr0, fr1, fr2⟩ := Xr.out
          have hner : gr < u2.heap.size := World.block_lt_of_cell? u2 _ cr0
          obtain ⟨cx0, cx1, cx2, fx0, fx1, fx2⟩ := Xx.out
          have hnex : gx < u2.heap.size := World.block_lt_of_cell? u2 _ cx0
          obtain ⟨ch0, ch1, ch2, fh0, fh1, fh2⟩ := Xh.out
          have hneh : gh < u2.heap.size := World.block_lt_of_cell? u2 _ ch0
          obtain ⟨ck0, ck1, ck2, fk0, fk1, fk2⟩ := Xk.out
          have hnek : gk < u2.heap.size := World.block_lt_of_cell? u2 _ ck0
          obtain ⟨cu0, cu1, cu2, fu0, fu1, fu2⟩ := Xu.out
          have hneu : gu < u2.heap.size := World.block_lt_of_cell? u2 _ cu0
          obtain ⟨cl0, cl1, cl2, fl0, fl1, fl2⟩ := Xl.out
          have hnel : gl < u2.heap.size := World.block_lt_of_cell? u2 _ cl0
          obtain ⟨ca0, ca1, fa0, fa1⟩ := Xa.out
          have hnea := Xa.out.lt
          have qar : gr ≠ gd := HDrd.out
          have qbr : gd ≠ gr := fun h => qar h.symm
          have qax : gx ≠ gd := HDxd.out
          have qbx : gd ≠ gx := fun h => qax h.symm
          have qah : gh ≠ gd := HDhd.out
          have qbh : gd ≠ gh := fun h => qah h.symm
          have qak : gk ≠ gd := HDkd.out
          have qbk : gd ≠ gk := fun h => qak h.symm
          have qau : gu ≠ gd := HDud.out
          have qbu : gd ≠ gu := fun h => qau h.symm
          have qal : gl ≠ gd := HDld.out
          have qbl : gd ≠ gl := fun h => qal h.symm
          have qaa : ga ≠ gd := HDad.out
          have qba : gd ≠ ga := fun h => qaa h.symm
          refine wpJ_one (i := 7) (by kernel_rfl) rfl (by kernel_rfl) (fun KJ hK => ?_)
          go_simp
          have HJ2 : Hid ((fun W' : World => W'.cell? ⟨ga, 0, none⟩ = some (.bool s13) ∧ W'.cell? ⟨ga, 1, none⟩ = some (.slice p13 m13 m13)) ((u2.setCell ⟨gd, 0, none⟩ (.bool sR)).setCell ⟨gd, 1, none⟩ (.slice pR mR mR))) := ⟨by go_simp, by go_simp⟩
          have Xd2 : Hid (Box ((u2.setCell ⟨gd, 0, none⟩ (.bool sR)).setCell ⟨gd, 1, none⟩ (.slice pR mR mR)) gd (.bool sR) (.slice pR mR mR)) := ⟨by go_simp, by go_simp, by go_simp, by go_simp⟩
          have Xr2 : Hid (B3q ((u2.setCell ⟨gd, 0, none⟩ (.bool sR)).setCell ⟨gd, 1, none⟩ (.slice pR mR mR)) gr (.bool s2) (.slice p2 m2 m2) (.int .i64 er)) := ⟨by go_simp, by go_simp, by go_simp, by go_simp, by go_simp, by go_simp⟩
          have Xx2 : Hid (B3q ((u2.setCell ⟨gd, 0, none⟩ (.bool sR)).setCell ⟨gd, 1, none⟩ (.slice pR mR mR)) gx (.bool s4) (.slice p4 m4 m4) (.int .i64 e)) := ⟨by go_simp, by go_simp, by go_simp, by go_simp, by go_simp, by go_simp⟩
          have Xh2 : Hid (B3q ((u2.setCell ⟨gd, 0, none⟩ (.bool sR)).setCell ⟨gd, 1, none⟩ (.slice pR mR mR)) gh (.bool s5) (.slice p5 m5 m5) (.int .i64 e5)) := ⟨by go_simp, by go_simp, by go_simp, by go_simp, by go_simp, by go_simp⟩
          have Xk2 : Hid (B3q ((u2.setCell ⟨gd, 0, none⟩ (.bool sR)).setCell ⟨gd, 1, none⟩ (.slice pR mR mR)) gk (.bool s6) (.slice p6 m6 m6) (.int .i64 e6)) := ⟨by go_simp, by go_simp, by go_simp, by go_simp, by go_simp, by go_simp⟩
          have Xu2 : Hid (B3q ((u2.setCell ⟨gd, 0, none⟩ (.bool sR)).setCell ⟨gd, 1, none⟩ (.slice pR mR mR)) gu (.bool s9) (.slice p9 m9 m9) (.int .i64 (-2))) := ⟨by go_simp, by go_simp, by go_simp, by go_simp, by go_simp, by go_simp⟩
          have Xl2 : Hid (B3q ((u2.setCell ⟨gd, 0, none⟩ (.bool sR)).setCell ⟨gd, 1, none⟩ (.slice pR mR mR)) gl (.bool s10) (.slice p10 m10 m10) (.int .i64 (-2))) := ⟨by go_simp, by go_simp, by go_simp, by go_simp, by go_simp, by go_simp⟩
          have Xa2 : Hid (Box ((u2.setCell ⟨gd, 0, none⟩ (.bool sR)).setCell ⟨gd, 1, none⟩ (.slice pR mR mR)) ga (.bool s13) (.slice p13 m13 m13)) := ⟨by go_simp, by go_simp, by go_simp, by go_simp⟩
          have RR2 : Hid (ZN ((u2.setCell ⟨gd, 0, none⟩ (.bool sR)).setCell ⟨gd, 1, none⟩ (.slice pR mR mR)) sR pR mR mR (K % 4)) := ((RR.out.set _ _ _ HLT.out).set _ _ _ HLT.out).zn
          have hbw2 : Below w.heap.size w ((u2.setCell ⟨gd, 0, none⟩ (.bool sR)).setCell ⟨gd, 1, none⟩ (.slice pR mR mR)) := bSet (bSet hbw _ _ _ HGd.out) _ _ _ HGd.out
          refine hK _ _ HJ2.out ?_
          clear hK HJ
          have HJ := HJ2
          clear HJ2
          refine wpJ_take (i := 8) (v := ?v9x8) rfl (by kernel_rfl) (by kernel_rfl) (by kernel_rfl) (fun _ _ _ h => by cases h.1) (by kernel_rfl) ?hy9x8 HJ.out ?rest9x8
          case hy9x8 => (intro W' hJ; obtain ⟨j0, j1⟩ := hJ; go_simp; first | done | with_reducible rfl)
          refine wpJ_done (by kernel_rfl) ?_ _
          exact ⟨rfl, HRQ.out _ _ _ ⟨gd, sF, pF, mF, sR, pR, mR, by kernel_rfl, Xd2.out, Xr2.out, Xx2.out, Xh2.out, Xk2.out, Xu2.out, Xl2.out, Xa2.out, RR2.out, HGd.out, HDrd.out, HDxd.out, HDhd.out, HDkd.out, HDud.out, HDld.out, HDad.out, hbw2⟩⟩
      · go_simp
        have HDrd : Hid (gr ≠ Wr0.heap.size) := Nat.ne_of_lt Xr.out.lt
        have HDxd : Hid (gx ≠ Wr0.heap.size) := Nat.ne_of_lt Xx.out.lt
        have HDhd : Hid (gh ≠ Wr0.heap.size) := Nat.ne_of_lt Xh.out.lt
        have HDkd : Hid (gk ≠ Wr0.heap.size) := Nat.ne_of_lt Xk.out.lt
        have HDud : Hid (gu ≠ Wr0.heap.size) := Nat.ne_of_lt Xu.out.lt
        have HDld : Hid (gl ≠ Wr0.heap.size) := Nat.ne_of_lt Xl.out.lt
        have HDad : Hid (ga ≠ Wr0.heap.size) := Nat.ne_of_lt Xa.out.lt
        have Xd0 : Hid (Box (Wr0.alloc (.cells #[.bool false, .slice none 0 0] 26)) Wr0.heap.size (.bool false) (.slice none 0 0)) := Box.new Wr0 _ _ _
        have hbn : Below Wr0.heap.size Wr0 (Wr0.alloc (.cells #[.bool false, .slice none 0 0] 26)) := below1 Wr0 _
        generalize Wr0.alloc (.cells #[.bool false, .slice none 0 0] 26) = Wn at *
        have HGd : Hid (w.heap.size ≤ Wr0.heap.size) := hbw.size
        replace Xr : Hid _ := Xr.out.below hbn
        replace Xx : Hid _ := Xx.out.below hbn
        replace Xh : Hid _ := Xh.out.below hbn
        replace Xk : Hid _ := Xk.out.below hbn
        replace Xu : Hid _ := Xu.out.below hbn
        replace Xl : Hid _ := Xl.out.below hbn
        replace Xa : Hid _ := Xa.out.below hbn
        replace D2 : Hid _ := D2.out.below hbn
        replace D6 : Hid _ := D6.out.below hbn
        replace D9 : Hid _ := D9.out.below hbn
        replace D10 : Hid _ := D10.out.below hbn
        replace Za : Hid _ := Za.out.below hbn
        replace hbw := Below.on hbw hbn
        clear hbn
        generalize Wr0.heap.size = gd at *
        have Xd := Xd0
        clear Xd0
        refine hK _ _ ⟨Xa.out.c0, Xa.out.c1⟩ ?_
        clear hK
        refine wpJ_one (i := 1) (by kernel_rfl) rfl (by kernel_rfl) (fun KJ hK => ?_)
        go_simp
        refine (zof 4 _ (by decide) (by decide)).mono ?_
        rintro e9 u1 ⟨sF, pF, mF, rfl, hzF, hbF⟩
        replace Xr : Hid _ := Xr.out.below hbF
        replace Xx : Hid _ := Xx.out.below hbF
        replace Xh : Hid _ := Xh.out.below hbF
        replace Xk : Hid _ := Xk.out.below hbF
        replace Xu : Hid _ := Xu.out.below hbF
        replace Xl : Hid _ := Xl.out.below hbF
        replace Xa : Hid _ := Xa.out.below hbF
        replace Xd : Hid _ := Xd.out.below hbF
        replace D2 : Hid _ := D2.out.below hbF
        replace D6 : Hid _ := D6.out.below hbF
        replace D9 : Hid _ := D9.out.below hbF
        replace D10 : Hid _ := D10.out.below hbF
        replace Za : Hid _ := Za.out.below hbF
        replace hbw := Below.on hbw hbF
        clear hbF
        have ZF : Hid (ZN u1 sF pF mF mF 4) := hzF
        clear hzF
        refine hK _ _ ⟨Xa.out.c0, Xa.out.c1⟩ ?_
        clear hK
        refine wpJ_one (i := 2) (by kernel_rfl) rfl (by kernel_rfl) (fun KJ hK => ?_)
        go_simp
        have HLT : Hid (gd < u1.heap.size) := Xd.out.lt
        refine (zmod4 Za.out ZF.out).mono ?_
        rintro e9 u2 ⟨sR, pR, mR, rfl, hoR, hbR⟩
        replace Xr : Hid _ := Xr.out.below hbR
        replace Xx : Hid _ := Xx.out.below hbR
        replace Xh : Hid _ := Xh.out.below hbR
        replace Xk : Hid _ := Xk.out.below hbR
        replace Xu : Hid _ := Xu.out.below hbR
        replace Xl : Hid _ := Xl.out.below hbR
        replace Xa : Hid _ := Xa.out.below hbR
        replace Xd : Hid _ := Xd.out.below hbR
        replace D2 : Hid _ := D2.out.below hbR
        replace D6 : Hid _ := D6.out.below hbR
        replace D9 : Hid _ := D9.out.below hbR
        replace D10 : Hid _ := D10.out.below hbR
        replace Za : Hid _ := Za.out.below hbR
        replace ZF : Hid _ := ZF.out.below hbR
        replace hbw := Below.on hbw hbR
        clear hbR
        have RR : Hid (ZO u1.heap.size u2 sR pR mR (K % 4)) := hoR
        clear hoR
        clear ZF
        clear HJ
        have HJ : Hid ((fun W' : World => W'.cell? ⟨ga, 0, none⟩ = some (.bool s13) ∧ W'.cell? ⟨ga, 1, none⟩ = some (.slice p13 m13 m13)) u2) := ⟨Xa.out.c0, Xa.out.c1⟩
        refine hK _ _ HJ.out ?_
        clear hK
        refine wpJ_take (i := 3) (v := ?v10x3) rfl (by kernel_rfl) (by kernel_rfl) (by kernel_rfl) (fun _ _ _ h => by cases h.1) (by kernel_rfl) ?hy10x3 HJ.out ?rest10x3
        case hy10x3 => (intro W' hJ; obtain ⟨j0, j1⟩ := hJ; go_simp; first | done | with_reducible rfl)
        refine wpJ_take (i := 4) (v := ?v11x4) rfl (by kernel_rfl) (by kernel_rfl) (by kernel_rfl) (fun _ _ _ h => by cases h.1) (by kernel_rfl) ?hy11x4 HJ.out ?rest11x4
        case hy11x4 => (intro W' hJ; obtain ⟨j0, j1⟩ := hJ; go_simp; first | done | with_reducible rfl)
        refine wpJ_take (i := 5) (v := ?v12x5) rfl (by kernel_rfl) (by kernel_rfl) (by kernel_rfl) (fun _ _ _ h => by cases h.1) (by kernel_rfl) ?hy12x5 HJ.out ?rest12x5
        case hy12x5 => (intro W' hJ; obtain ⟨j0, j1⟩ := hJ; go_simp; first | done | with_reducible rfl)
        obtain ⟨cd0, cd1, fd0, fd1⟩ := Xd.out
        have hned := Xd.out.lt
        obtain ⟨cr0, cr1, cr2, fr0, fr1, fr2⟩ := Xr.out
        have hner : gr < u2.heap.size := World.block_lt_of_cell? u2 _ cr0
        obtain ⟨cx0, cx1, cx2, fx0, fx1, fx2⟩ := Xx.out
        have hnex : gx < u2.heap.size := World.block_lt_of_cell? u2 _ cx0
        obtain ⟨ch0, ch1, ch2, fh0, fh1, fh2⟩ := Xh.out
        have hneh : gh < u2.heap.size := World.block_lt_of_cell? u2 _ ch0
        obtain ⟨ck0, ck1, ck2, fk0, fk1, fk2⟩ := Xk.out
        have hnek : gk < u2.heap.size := World.block_lt_of_cell? u2 _ ck0
        obtain ⟨cu0, cu1, cu2, fu0, fu1, fu2⟩ := Xu.out
        have hneu : gu < u2.heap.size := World.block_lt_of_cell? u2 _ cu0
        obtain ⟨cl0, cl1, cl2, fl0, fl1, fl2⟩ := Xl.out
        have hnel : gl < u2.heap.size := World.block_lt_of_cell? u2 _ cl0
        obtain ⟨ca0, ca1, fa0, fa1⟩ := Xa.out
        have hnea := Xa.out.lt
        have qar : gr ≠ gd := HDrd.out
        have qbr : gd ≠ gr := fun h => qar h.symm
        have qax : gx ≠ gd := HDxd.out
        have qbx : gd ≠ gx := fun h => qax h.symm
        have qah : gh ≠ gd := HDhd.out
        have qbh : gd ≠ gh := fun h => qah h.symm
        have qak : gk ≠ gd := HDkd.out
        have qbk : gd ≠ gk := fun h => qak h.symm
        have qau : gu ≠ gd := HDud.out
        have qbu : gd ≠ gu := fun h => qau h.symm
        have qal : gl ≠ gd := HDld.out
        have qbl : gd ≠ gl := fun h => qal h.symm
        have qaa : ga ≠ gd := HDad.out
        have qba : gd ≠ ga := fun h => qaa h.symm
        refine wpJ_one (i := 7) (by kernel_rfl) rfl (by kernel_rfl) (fun KJ hK => ?_)
        go_simp
        have HJ2 : Hid ((fun W' : World => W'.cell? ⟨ga, 0, none⟩ = some (.bool s13) ∧ W'.cell? ⟨ga, 1, none⟩ = some (.slice p13 m13 m13)) ((u2.setCell ⟨gd, 0, none⟩ (.bool sR)).setCell ⟨gd, 1, none⟩ (.slice pR mR mR))) := ⟨by go_simp, by go_simp⟩
        have Xd2 : Hid (Box ((u2.setCell ⟨gd, 0, none⟩ (.bool sR)).setCell ⟨gd, 1, none⟩ (.slice pR mR mR)) gd (.bool sR) (.slice pR mR mR)) := ⟨by go_simp, by go_simp, by go_simp, by go_simp⟩
        have Xr2 : Hid (B3q ((u2.setCell ⟨gd, 0, none⟩ (.bool sR)).setCell ⟨gd, 1, none⟩ (.slice pR mR mR)) gr (.bool s2) (.slice p2 m2 m2) (.int .i64 er)) := ⟨by go_simp, by go_simp, by go_simp, by go_simp, by go_simp, by go_simp⟩
        have Xx2 : Hid (B3q ((u2.setCell ⟨gd, 0, none⟩ (.bool sR)).setCell ⟨gd, 1, none⟩ (.slice pR mR mR)) gx (.bool s4) (.slice p4 m4 m4) (.int .i64 e)) := ⟨by go_simp, by go_simp, by go_simp, by go_simp, by go_simp, by go_simp⟩
        have Xh2 : Hid (B3q ((u2.setCell ⟨gd, 0, none⟩ (.bool sR)).setCell ⟨gd, 1, none⟩ (.slice pR mR mR)) gh (.bool s5) (.slice p5 m5 m5) (.int .i64 e5)) := ⟨by go_simp, by go_simp, by go_simp, by go_simp, by go_simp, by go_simp⟩
        have Xk2 : Hid (B3q ((u2.setCell ⟨gd, 0, none⟩ (.bool sR)).setCell ⟨gd, 1, none⟩ (.slice pR mR mR)) gk (.bool s6) (.slice p6 m6 m6) (.int .i64 e6)) := ⟨by go_simp, by go_simp, by go_simp, by go_simp, by go_simp, by go_simp⟩
        have Xu2 : Hid (B3q ((u2.setCell ⟨gd, 0, none⟩ (.bool sR)).setCell ⟨gd, 1, none⟩ (.slice pR mR mR)) gu (.bool s9) (.slice p9 m9 m9) (.int .i64 (-2))) := ⟨by go_simp, by go_simp, by go_simp, by go_simp, by go_simp, by go_simp⟩
        have Xl2 : Hid (B3q ((u2.setCell ⟨gd, 0, none⟩ (.bool sR)).setCell ⟨gd, 1, none⟩ (.slice pR mR mR)) gl (.bool s10) (.slice p10 m10 m10) (.int .i64 (-2))) := ⟨by go_simp, by go_simp, by go_simp, by go_simp, by go_simp, by go_simp⟩
        have Xa2 : Hid (Box ((u2.setCell ⟨gd, 0, none⟩ (.bool sR)).setCell ⟨gd, 1, none⟩ (.slice pR mR mR)) ga (.bool s13) (.slice p13 m13 m13)) := ⟨by go_simp, by go_simp, by go_simp, by go_simp⟩
        have RR2 : Hid (ZN ((u2.setCell ⟨gd, 0, none⟩ (.bool sR)).setCell ⟨gd, 1, none⟩ (.slice pR mR mR)) sR pR mR mR (K % 4)) := ((RR.out.set _ _ _ HLT.out).set _ _ _ HLT.out).zn
        have hbw2 : Below w.heap.size w ((u2.setCell ⟨gd, 0, none⟩ (.bool sR)).setCell ⟨gd, 1, none⟩ (.slice pR mR mR)) := bSet (bSet hbw _ _ _ HGd.out) _ _ _ HGd.out
        refine hK _ _ HJ2.out ?_
        clear hK HJ
        have HJ := HJ2
        clear HJ2
        refine wpJ_take (i := 8) (v := ?v13x8) rfl (by kernel_rfl) (by kernel_rfl) (by kernel_rfl) (fun _ _ _ h => by cases h.1) (by kernel_rfl) ?hy13x8 HJ.out ?rest13x8
        case hy13x8 => (intro W' hJ; obtain ⟨j0, j1⟩ := hJ; go_simp; first | done | with_reducible rfl)
        refine wpJ_done (by kernel_rfl) ?_ _
        exact ⟨rfl, HRQ.out _ _ _ ⟨gd, sF, pF, mF, sR, pR, mR, by kernel_rfl, Xd2.out, Xr2.out, Xx2.out, Xh2.out, Xk2.out, Xu2.out, Xl2.out, Xa2.out, RR2.out, HGd.out, HDrd.out, HDxd.out, HDhd.out, HDkd.out, HDud.out, HDld.out, HDad.out, hbw2⟩⟩
theorem turnSplits_w (b : Nat) (hb : b < B64) (w : World) (hT : Tab w) : Calls Tryz.prog 3 #[U b] w fun en w' => en = .returned (.bool true) ∧ Below w.heap.size w w' := by
  rw [B64_eq] at hb
  by_cases hf : b % 9223372036854775808 < 9218868437227405312
  · exact splits_f b (by omega) hf w hT
  · exact splits_c b (by omega) hf w hT
end Go.Proofs.YtoalblaklcekeaaGreatDoor

