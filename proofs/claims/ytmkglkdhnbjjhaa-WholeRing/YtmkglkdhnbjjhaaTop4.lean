import Derived.Test.YtmkglkdhnbjjhaaTop0
namespace Go.Proofs.Ytmkglkdhnbjjhaa
open Go.RowKit Go.Shelf

theorem bitsN_shr (a n : Nat) : bitsN (a / 2 ^ n) = bitsN a - n := by
  have hp := Nat.two_pow_pos n
  have h1 := Nat.div_add_mod a (2 ^ n)
  have h2 := Nat.mod_lt a hp
  by_cases h0 : a / 2 ^ n = 0
  · rw [h0]
    have : bitsN a ≤ n := by
      rw [← lt_pow_bits]
      rw [h0, Nat.mul_zero, Nat.zero_add] at h1
      omega
    rw [show bitsN a - n = 0 by omega]; rfl
  · have h3 : bitsN a = n + bitsN (a / 2 ^ n) := by
      have := bitsN_top (lo := a % 2 ^ n) (k := n) (x := a / 2 ^ n) h2 (bitsN_lt _) (bitsN_le _ h0) (by have := bitsN_pos h0; omega)
      rw [Nat.add_comm (a % 2 ^ n), h1] at this; exact this
    omega
theorem cut_le (a n : Nat) : 2 ^ n * (a / 2 ^ n) ≤ a := Nat.mul_div_le a (2 ^ n)

theorem dw_le (a v : Nat) : a / v * v ≤ a := Nat.div_mul_le_self a v

theorem dw_fix (a v : Nat) : a / v * v + a % v = a := by rw [Nat.mul_comm]; exact Nat.div_add_mod a v

set_option maxRecDepth 20000 in
set_option maxHeartbeats 4000000 in
theorem ringwords_any {p : Option Addr} {n c : Nat} {xs : List Nat} {a i : Nat} {w : World} (hi : i = 250) (h : Num w p n c xs a) (ha : a < B64 ^ i) (v : Nat) (hv : v < B64) (k : Nat) (hk : k < 20000) :
    Calls Try.prog 18 #[.slice p n c, U v, .int .i64 k] w fun e w' => e = .returned (.bool true) ∧ Below w.heap.size w w' := by
  have A : Hid (Num w p n c xs a) := h
  have HV : Hid (v < B64) := hv
  have L1 : Hid (a * v < LIM) := lim_of (i + 1) (lim_mul i 1 ha (by rw [Nat.pow_one]; exact hv)) (by omega)
  have L0 : Hid (a < LIM) := lim_of i ha (by omega)
  have hk2 : k ≤ 9223372036854775807 := by omega
  have hbl : bitsN (a % 2 ^ k) ≤ k := by rw [← lt_pow_bits]; exact Nat.mod_lt _ (Nat.two_pow_pos _)
  have hbb : bitsN a ≤ 524288 := by rw [← lim_bits]; exact L0.out
  have HBS : Hid (bitsN (a / 2 ^ k) = bitsN a - k) := bitsN_shr a k
  clear hi h ha hv
  go_enter Try.func18, Try.ntmps18
  go_wp2_with fail
  refine (mulw_nf A.out.at_ A.out.nf A.out.le v HV.out).mono ?_
  rintro e v1 ⟨ha1, hb1⟩
  obtain ⟨r1, t1, y1, rfl, ho1, hn1, hm1⟩ := ha1.ok L1.out
  have UP : Hid (Num v1 r1 t1 t1 y1 (a * v)) := Num.of ho1 hn1 hm1
  clear ha1 ho1 hn1
  have Ax : Hid (Num v1 p n c xs a) := A.out.below hb1
  clear A
  have A := Ax
  clear Ax
  have hbw := hb1
  clear hb1
  go_wp2_with fail
  refine (word_any v v1 HV.out).mono ?_
  rintro e v2 ⟨r2, t2, y2, rfl, ho2, hn2, hm2, hb2⟩
  have WD : Hid (Num v2 r2 t2 t2 y2 v) := Num.of ho2 hn2 (by omega)
  clear ho2 hn2
  have Ax : Hid (Num v2 p n c xs a) := A.out.below hb2
  clear A
  have A := Ax
  clear Ax
  have UPx : Hid (Num v2 r1 t1 t1 y1 (a * v)) := UP.out.below hb2
  clear UP
  have UP := UPx
  clear UPx
  have hbwy := Below.on hbw hb2
  clear hbw
  have hbw := hbwy
  clear hbwy
  clear hb2
  go_wp2_with fail
  refine (mul_any A.out.at_ WD.out.at_ A.out.nf WD.out.nf A.out.le WD.out.le).mono ?_
  rintro e v3 ⟨ha3, hb3⟩
  obtain ⟨r3, t3, y3, rfl, ho3, hn3, hm3⟩ := ha3.ok L1.out
  have BY : Hid (Num v3 r3 t3 t3 y3 (a * v)) := Num.of ho3 hn3 hm3
  clear ha3 ho3 hn3
  have Ax : Hid (Num v3 p n c xs a) := A.out.below hb3
  clear A
  have A := Ax
  clear Ax
  have UPx : Hid (Num v3 r1 t1 t1 y1 (a * v)) := UP.out.below hb3
  clear UP
  have UP := UPx
  clear UPx
  have WDx : Hid (Num v3 r2 t2 t2 y2 (v)) := WD.out.below hb3
  clear WD
  have WD := WDx
  clear WDx
  have hbwy := Below.on hbw hb3
  clear hbw
  have hbw := hbwy
  clear hbwy
  clear hb3
  clear WD
  obtain rfl : y1 = y3 := UP.out.nf.inj B64_one BY.out.nf
  go_wp2_with fail
  refine (tsame_t UP.out.at_ BY.out.at_).mono ?_
  rintro e v4 ⟨rfl, hb4⟩
  have Ax : Hid (Num v4 p n c xs a) := A.out.below hb4
  clear A
  have A := Ax
  clear Ax
  have UPx : Hid (Num v4 r1 t1 t1 y1 (a * v)) := UP.out.below hb4
  clear UP
  have UP := UPx
  clear UPx
  have BYx : Hid (Num v4 r3 t3 t3 y1 (a * v)) := BY.out.below hb4
  clear BY
  have BY := BYx
  clear BYx
  have hbwy := Below.on hbw hb4
  clear hbw
  have hbw := hbwy
  clear hbwy
  clear hb4
  clear BY
  by_cases hv0 : v = 0
  · subst hv0
    clear UP
    go_wp2_with fail
    refine (shr_nf A.out.at_ A.out.nf A.out.le k hk2).mono ?_
    rintro e v20 ⟨⟨r20, t20, y20, rfl, ho20, hn20, hm20⟩, hb20⟩
    have HI : Hid (Num v20 r20 t20 t20 y20 (a / 2 ^ k)) := Num.of ho20 hn20 hm20
    clear ho20 hn20
    have Ax : Hid (Num v20 p n c xs a) := A.out.below hb20
    clear A
    have A := Ax
    clear Ax
    have hbwy := Below.on hbw hb20
    clear hbw
    have hbw := hbwy
    clear hbwy
    clear hb20
    go_wp2_with fail
    refine (low_nf A.out.at_ A.out.nf A.out.le k hk2).mono ?_
    rintro e v21 ⟨⟨r21, t21, y21, rfl, ho21, hn21, hm21⟩, hb21⟩
    have LO : Hid (Num v21 r21 t21 t21 y21 (a % 2 ^ k)) := Num.of ho21 hn21 hm21
    clear ho21 hn21
    have Ax : Hid (Num v21 p n c xs a) := A.out.below hb21
    clear A
    have A := Ax
    clear Ax
    have HIx : Hid (Num v21 r20 t20 t20 y20 (a / 2 ^ k)) := HI.out.below hb21
    clear HI
    have HI := HIx
    clear HIx
    have hbwy := Below.on hbw hb21
    clear hbw
    have hbw := hbwy
    clear hbwy
    clear hb21
    go_wp2_with fail
    refine (shl_nf HI.out.at_ HI.out.nf HI.out.le k hk2).mono ?_
    rintro e v22 ⟨ha22, hb22⟩
    obtain ⟨r22, t22, y22, rfl, ho22, hn22, hm22⟩ := ha22.ok (Nat.lt_of_le_of_lt (cut_le a k) L0.out)
    have BK : Hid (Num v22 r22 t22 t22 y22 (2 ^ k * (a / 2 ^ k))) := Num.of ho22 hn22 hm22
    clear ha22 ho22 hn22
    have Ax : Hid (Num v22 p n c xs a) := A.out.below hb22
    clear A
    have A := Ax
    clear Ax
    have HIx : Hid (Num v22 r20 t20 t20 y20 (a / 2 ^ k)) := HI.out.below hb22
    clear HI
    have HI := HIx
    clear HIx
    have LOx : Hid (Num v22 r21 t21 t21 y21 (a % 2 ^ k)) := LO.out.below hb22
    clear LO
    have LO := LOx
    clear LOx
    have hbwy := Below.on hbw hb22
    clear hbw
    have hbw := hbwy
    clear hbwy
    clear hb22
    go_wp2_with fail
    refine (add_ord BK.out.at_ LO.out.at_ BK.out.nf LO.out.nf BK.out.le LO.out.le).mono ?_
    rintro e v23 ⟨ha23, hb23⟩
    rw [Nat.div_add_mod] at ha23
    obtain ⟨r23, t23, y23, rfl, ho23, hn23, hm23⟩ := ha23.ok L0.out
    have SS : Hid (Num v23 r23 t23 t23 y23 (a)) := Num.of ho23 hn23 hm23
    clear ha23 ho23 hn23
    have Ax : Hid (Num v23 p n c xs a) := A.out.below hb23
    clear A
    have A := Ax
    clear Ax
    have HIx : Hid (Num v23 r20 t20 t20 y20 (a / 2 ^ k)) := HI.out.below hb23
    clear HI
    have HI := HIx
    clear HIx
    have LOx : Hid (Num v23 r21 t21 t21 y21 (a % 2 ^ k)) := LO.out.below hb23
    clear LO
    have LO := LOx
    clear LOx
    have BKx : Hid (Num v23 r22 t22 t22 y22 (2 ^ k * (a / 2 ^ k))) := BK.out.below hb23
    clear BK
    have BK := BKx
    clear BKx
    have hbwy := Below.on hbw hb23
    clear hbw
    have hbw := hbwy
    clear hbwy
    clear hb23
    clear BK
    obtain rfl : y23 = xs := SS.out.nf.inj B64_one A.out.nf
    go_wp2_with fail
    refine (tsame_t SS.out.at_ A.out.at_).mono ?_
    rintro e v24 ⟨rfl, hb24⟩
    have Ax : Hid (Num v24 p n c y23 a) := A.out.below hb24
    clear A
    have A := Ax
    clear Ax
    have HIx : Hid (Num v24 r20 t20 t20 y20 (a / 2 ^ k)) := HI.out.below hb24
    clear HI
    have HI := HIx
    clear HIx
    have LOx : Hid (Num v24 r21 t21 t21 y21 (a % 2 ^ k)) := LO.out.below hb24
    clear LO
    have LO := LOx
    clear LOx
    have SSx : Hid (Num v24 r23 t23 t23 y23 (a)) := SS.out.below hb24
    clear SS
    have SS := SSx
    clear SSx
    have hbwy := Below.on hbw hb24
    clear hbw
    have hbw := hbwy
    clear hbwy
    clear hb24
    clear SS
    go_wp2_with fail
    refine (bits_any LO.out.at_ (by have := LO.out.le; omega)).mono ?_
    rintro e w' ⟨rfl, hw⟩
    obtain rfl := hw.symm
    clear hw
    rw [LO.out.nf.val]
    have hdl : decide (((bitsN (a % 2 ^ k) : Nat) : Int) ≤ (k : Int)) = true := decide_eq_true (by omega)
    go_wp2_with fail
    refine (bits_any HI.out.at_ (by have := HI.out.le; omega)).mono ?_
    rintro e w' ⟨rfl, hw⟩
    obtain rfl := hw.symm
    clear hw
    rw [HI.out.nf.val]
    go_wp2_with fail
    refine (bits_any A.out.at_ (by have := A.out.le; omega)).mono ?_
    rintro e w' ⟨rfl, hw⟩
    obtain rfl := hw.symm
    clear hw
    rw [A.out.nf.val]
    go_wp2_with fail
    go_ret
    exact ⟨ret_bool (by have := HBS.out; simp; omega), hbw⟩
  · have hv0' : ((v : Int) == 0) = false := by simp; omega
    have hv1 : decide ((0 : Int) < (v : Int)) = true := decide_eq_true (by omega)
    have HV0 : Hid (v ≠ 0) := hv0
    go_wp2_with fail
    refine (divw_nf UP.out.at_ UP.out.nf UP.out.le v HV.out HV0.out).mono ?_
    rintro e v5 ⟨⟨r5, t5, y5, rfl, ho5, hn5, hm5⟩, hb5⟩
    rw [Nat.mul_div_cancel a (Nat.pos_of_ne_zero HV0.out)] at hn5
    have Q1 : Hid (Num v5 r5 t5 t5 y5 (a)) := Num.of ho5 hn5 hm5
    clear ho5 hn5
    have Ax : Hid (Num v5 p n c xs a) := A.out.below hb5
    clear A
    have A := Ax
    clear Ax
    have UPx : Hid (Num v5 r1 t1 t1 y1 (a * v)) := UP.out.below hb5
    clear UP
    have UP := UPx
    clear UPx
    have hbwy := Below.on hbw hb5
    clear hbw
    have hbw := hbwy
    clear hbwy
    clear hb5
    clear UP
    rw [Nat.mul_mod_left]
    obtain rfl : y5 = xs := Q1.out.nf.inj B64_one A.out.nf
    go_wp2_with fail
    refine (tsame_t Q1.out.at_ A.out.at_).mono ?_
    rintro e v6 ⟨rfl, hb6⟩
    have Ax : Hid (Num v6 p n c y5 a) := A.out.below hb6
    clear A
    have A := Ax
    clear Ax
    have Q1x : Hid (Num v6 r5 t5 t5 y5 (a)) := Q1.out.below hb6
    clear Q1
    have Q1 := Q1x
    clear Q1x
    have hbwy := Below.on hbw hb6
    clear hbw
    have hbw := hbwy
    clear hbwy
    clear hb6
    clear Q1
    go_wp2_with fail
    refine (divw_nf A.out.at_ A.out.nf A.out.le v HV.out HV0.out).mono ?_
    rintro e v7 ⟨⟨r7, t7, y7, rfl, ho7, hn7, hm7⟩, hb7⟩
    have Q2 : Hid (Num v7 r7 t7 t7 y7 (a / v)) := Num.of ho7 hn7 hm7
    clear ho7 hn7
    have Ax : Hid (Num v7 p n c y5 a) := A.out.below hb7
    clear A
    have A := Ax
    clear Ax
    have hbwy := Below.on hbw hb7
    clear hbw
    have hbw := hbwy
    clear hbwy
    clear hb7
    have hrv : a % v < v := Nat.mod_lt _ (by omega)
    obtain ⟨re, hre⟩ : ∃ re, re = a % v := ⟨_, rfl⟩
    rw [← hre] at hrv ⊢
    have HRE : Hid (re = a % v) := hre
    clear hre
    have hdr : decide ((v : Int) ≤ (re : Int)) = false := decide_eq_false (by omega)
    go_wp2_with fail
    refine (mulw_nf Q2.out.at_ Q2.out.nf Q2.out.le v HV.out).mono ?_
    rintro e v8 ⟨ha8, hb8⟩
    obtain ⟨r8, t8, y8, rfl, ho8, hn8, hm8⟩ := ha8.ok (Nat.lt_of_le_of_lt (dw_le a v) L0.out)
    have M : Hid (Num v8 r8 t8 t8 y8 (a / v * v)) := Num.of ho8 hn8 hm8
    clear ha8 ho8 hn8
    have Ax : Hid (Num v8 p n c y5 a) := A.out.below hb8
    clear A
    have A := Ax
    clear Ax
    have Q2x : Hid (Num v8 r7 t7 t7 y7 (a / v)) := Q2.out.below hb8
    clear Q2
    have Q2 := Q2x
    clear Q2x
    have hbwy := Below.on hbw hb8
    clear hbw
    have hbw := hbwy
    clear hbwy
    clear hb8
    clear Q2
    go_wp2_with fail
    refine (word_any re v8 (Nat.lt_trans hrv HV.out)).mono ?_
    rintro e v9 ⟨r9, t9, y9, rfl, ho9, hn9, hm9, hb9⟩
    have RE : Hid (Num v9 r9 t9 t9 y9 re) := Num.of ho9 hn9 (by omega)
    clear ho9 hn9
    have Ax : Hid (Num v9 p n c y5 a) := A.out.below hb9
    clear A
    have A := Ax
    clear Ax
    have Mx : Hid (Num v9 r8 t8 t8 y8 (a / v * v)) := M.out.below hb9
    clear M
    have M := Mx
    clear Mx
    have hbwy := Below.on hbw hb9
    clear hbw
    have hbw := hbwy
    clear hbwy
    clear hb9
    have hfix : a / v * v + re = a := by rw [HRE.out]; exact dw_fix a v
    go_wp2_with fail
    refine (add_ord M.out.at_ RE.out.at_ M.out.nf RE.out.nf M.out.le RE.out.le).mono ?_
    rintro e v10 ⟨ha10, hb10⟩
    rw [hfix] at ha10
    obtain ⟨r10, t10, y10, rfl, ho10, hn10, hm10⟩ := ha10.ok L0.out
    have S : Hid (Num v10 r10 t10 t10 y10 (a)) := Num.of ho10 hn10 hm10
    clear ha10 ho10 hn10
    have Ax : Hid (Num v10 p n c y5 a) := A.out.below hb10
    clear A
    have A := Ax
    clear Ax
    have Mx : Hid (Num v10 r8 t8 t8 y8 (a / v * v)) := M.out.below hb10
    clear M
    have M := Mx
    clear Mx
    have REx : Hid (Num v10 r9 t9 t9 y9 (re)) := RE.out.below hb10
    clear RE
    have RE := REx
    clear REx
    have hbwy := Below.on hbw hb10
    clear hbw
    have hbw := hbwy
    clear hbwy
    clear hb10
    clear M
    clear RE
    clear hfix
    obtain rfl : y10 = y5 := S.out.nf.inj B64_one A.out.nf
    go_wp2_with fail
    refine (tsame_t S.out.at_ A.out.at_).mono ?_
    rintro e v11 ⟨rfl, hb11⟩
    have Ax : Hid (Num v11 p n c y10 a) := A.out.below hb11
    clear A
    have A := Ax
    clear Ax
    have Sx : Hid (Num v11 r10 t10 t10 y10 (a)) := S.out.below hb11
    clear S
    have S := Sx
    clear Sx
    have hbwy := Below.on hbw hb11
    clear hbw
    have hbw := hbwy
    clear hbwy
    clear hb11
    clear S
    go_wp2_with fail
    refine (shr_nf A.out.at_ A.out.nf A.out.le k hk2).mono ?_
    rintro e v20 ⟨⟨r20, t20, y20, rfl, ho20, hn20, hm20⟩, hb20⟩
    have HI : Hid (Num v20 r20 t20 t20 y20 (a / 2 ^ k)) := Num.of ho20 hn20 hm20
    clear ho20 hn20
    have Ax : Hid (Num v20 p n c y10 a) := A.out.below hb20
    clear A
    have A := Ax
    clear Ax
    have hbwy := Below.on hbw hb20
    clear hbw
    have hbw := hbwy
    clear hbwy
    clear hb20
    go_wp2_with fail
    refine (low_nf A.out.at_ A.out.nf A.out.le k hk2).mono ?_
    rintro e v21 ⟨⟨r21, t21, y21, rfl, ho21, hn21, hm21⟩, hb21⟩
    have LO : Hid (Num v21 r21 t21 t21 y21 (a % 2 ^ k)) := Num.of ho21 hn21 hm21
    clear ho21 hn21
    have Ax : Hid (Num v21 p n c y10 a) := A.out.below hb21
    clear A
    have A := Ax
    clear Ax
    have HIx : Hid (Num v21 r20 t20 t20 y20 (a / 2 ^ k)) := HI.out.below hb21
    clear HI
    have HI := HIx
    clear HIx
    have hbwy := Below.on hbw hb21
    clear hbw
    have hbw := hbwy
    clear hbwy
    clear hb21
    go_wp2_with fail
    refine (shl_nf HI.out.at_ HI.out.nf HI.out.le k hk2).mono ?_
    rintro e v22 ⟨ha22, hb22⟩
    obtain ⟨r22, t22, y22, rfl, ho22, hn22, hm22⟩ := ha22.ok (Nat.lt_of_le_of_lt (cut_le a k) L0.out)
    have BK : Hid (Num v22 r22 t22 t22 y22 (2 ^ k * (a / 2 ^ k))) := Num.of ho22 hn22 hm22
    clear ha22 ho22 hn22
    have Ax : Hid (Num v22 p n c y10 a) := A.out.below hb22
    clear A
    have A := Ax
    clear Ax
    have HIx : Hid (Num v22 r20 t20 t20 y20 (a / 2 ^ k)) := HI.out.below hb22
    clear HI
    have HI := HIx
    clear HIx
    have LOx : Hid (Num v22 r21 t21 t21 y21 (a % 2 ^ k)) := LO.out.below hb22
    clear LO
    have LO := LOx
    clear LOx
    have hbwy := Below.on hbw hb22
    clear hbw
    have hbw := hbwy
    clear hbwy
    clear hb22
    go_wp2_with fail
    refine (add_ord BK.out.at_ LO.out.at_ BK.out.nf LO.out.nf BK.out.le LO.out.le).mono ?_
    rintro e v23 ⟨ha23, hb23⟩
    rw [Nat.div_add_mod] at ha23
    obtain ⟨r23, t23, y23, rfl, ho23, hn23, hm23⟩ := ha23.ok L0.out
    have SS : Hid (Num v23 r23 t23 t23 y23 (a)) := Num.of ho23 hn23 hm23
    clear ha23 ho23 hn23
    have Ax : Hid (Num v23 p n c y10 a) := A.out.below hb23
    clear A
    have A := Ax
    clear Ax
    have HIx : Hid (Num v23 r20 t20 t20 y20 (a / 2 ^ k)) := HI.out.below hb23
    clear HI
    have HI := HIx
    clear HIx
    have LOx : Hid (Num v23 r21 t21 t21 y21 (a % 2 ^ k)) := LO.out.below hb23
    clear LO
    have LO := LOx
    clear LOx
    have BKx : Hid (Num v23 r22 t22 t22 y22 (2 ^ k * (a / 2 ^ k))) := BK.out.below hb23
    clear BK
    have BK := BKx
    clear BKx
    have hbwy := Below.on hbw hb23
    clear hbw
    have hbw := hbwy
    clear hbwy
    clear hb23
    clear BK
    obtain rfl : y23 = y10 := SS.out.nf.inj B64_one A.out.nf
    go_wp2_with fail
    refine (tsame_t SS.out.at_ A.out.at_).mono ?_
    rintro e v24 ⟨rfl, hb24⟩
    have Ax : Hid (Num v24 p n c y23 a) := A.out.below hb24
    clear A
    have A := Ax
    clear Ax
    have HIx : Hid (Num v24 r20 t20 t20 y20 (a / 2 ^ k)) := HI.out.below hb24
    clear HI
    have HI := HIx
    clear HIx
    have LOx : Hid (Num v24 r21 t21 t21 y21 (a % 2 ^ k)) := LO.out.below hb24
    clear LO
    have LO := LOx
    clear LOx
    have SSx : Hid (Num v24 r23 t23 t23 y23 (a)) := SS.out.below hb24
    clear SS
    have SS := SSx
    clear SSx
    have hbwy := Below.on hbw hb24
    clear hbw
    have hbw := hbwy
    clear hbwy
    clear hb24
    clear SS
    go_wp2_with fail
    refine (bits_any LO.out.at_ (by have := LO.out.le; omega)).mono ?_
    rintro e w' ⟨rfl, hw⟩
    obtain rfl := hw.symm
    clear hw
    rw [LO.out.nf.val]
    have hdl : decide (((bitsN (a % 2 ^ k) : Nat) : Int) ≤ (k : Int)) = true := decide_eq_true (by omega)
    go_wp2_with fail
    refine (bits_any HI.out.at_ (by have := HI.out.le; omega)).mono ?_
    rintro e w' ⟨rfl, hw⟩
    obtain rfl := hw.symm
    clear hw
    rw [HI.out.nf.val]
    go_wp2_with fail
    refine (bits_any A.out.at_ (by have := A.out.le; omega)).mono ?_
    rintro e w' ⟨rfl, hw⟩
    obtain rfl := hw.symm
    clear hw
    rw [A.out.nf.val]
    go_wp2_with fail
    go_ret
    exact ⟨ret_bool (by have := HBS.out; simp; omega), hbw⟩
end Go.Proofs.Ytmkglkdhnbjjhaa
