import Derived.Test.YtjkhpkjpiifhoaaRShl
namespace Go.Proofs.Ytjkhpkjpiifhoaa
open Go.RowKit Go.Shelf

set_option maxRecDepth 20000 in
set_option maxHeartbeats 4000000 in
theorem squares_walk {p : Option Addr} {n c : Nat} {xs : List Nat} {w : World} (h : At w p n c xs) (_hn : n ≤ 17592186044416) :
    Calls Try.prog 8 #[.slice p n c] w fun e w' => e = .returned (.bool true) ∧ Below w.heap.size w w' := by
  go_enter Try.func8, Try.ntmps8
  go_wp2_with fail
  refine (awake3_any w).mono ?_
  rintro e w1 ⟨rfl, hb1⟩
  have h1 := h.below hb1
  have hbw := hb1
  clear h hb1
  go_wp2_with fail
  refine (docform_any h1).mono ?_
  rintro e w' ⟨rfl, hw⟩
  obtain rfl := hw.symm
  clear hw
  cases fx : formB xs
  · clear fx
    go_wp2_with fail
    go_ret
    exact ⟨rfl, hbw⟩
  have NX := formB_nf fx h1.dig
  have hn8 : n ≤ 8192 := by rw [← h1.len]; exact NX.2
  obtain ⟨A, eA⟩ : ∃ A, A = valB B64 xs := ⟨_, rfl⟩
  rw [← eA] at NX
  have X : Hid (Num w1 p n c xs A) := ⟨h1, NX.1, hn8⟩
  clear h1 NX fx eA _hn
  go_wp2_with fail
  refine (twin3_num X.out).mono ?_
  rintro e v5 ⟨r5, rfl, hN5, hb5⟩
  have TX : Hid (Num v5 r5 n n xs A) := hN5
  clear hN5
  have Xx : Hid (Num v5 p n c xs A) := X.out.below hb5
  clear X
  have X := Xx
  clear Xx
  have hbwy := Below.on hbw hb5
  clear hbw
  have hbw := hbwy
  clear hbwy
  clear hb5
  go_wp2_with fail
  refine (root_any TX.out).mono ?_
  rintro e v7 ⟨x1, x2, rfl, hD7⟩
  obtain ⟨S, pd, md, zd, po, mo, zo, hs1, hs2, rfl, od, nd, ld, rfl, oo, no, lo⟩ := hD7.val
  have hb7 := hD7.bel
  obtain ⟨R, eR⟩ : ∃ R, R = A - S * S := ⟨_, rfl⟩
  rw [← eR] at no
  have HDM : Hid (S * S + R = A) := by show _ = _; omega
  have HML : Hid (R ≤ 2 * S) := by show _ ≤ _; omega
  have DQ : Hid (Num v7 pd md md zd S) := Num.of od nd ld
  have DR : Hid (Num v7 po mo mo zo R) := Num.of oo no lo
  clear hD7 od nd oo no eR hs1 hs2
  clear TX
  have Xx : Hid (Num v7 p n c xs A) := X.out.below hb7
  clear X
  have X := Xx
  clear Xx
  have hbwy := Below.on hbw hb7
  clear hbw
  have hbw := hbwy
  clear hbwy
  clear hb7
  go_wp2_with fail
  refine (docform_t DQ.out).mono ?_
  rintro e w' ⟨rfl, hw⟩
  obtain rfl := hw.symm
  clear hw
  go_wp2_with fail
  refine (docform_t DR.out).mono ?_
  rintro e w' ⟨rfl, hw⟩
  obtain rfl := hw.symm
  clear hw
  go_wp2_with fail
  refine (from32 DQ.out).mono ?_
  rintro e v8 ⟨r8, t8, y8, rfl, A8, hb8⟩
  have FD : Hid (Num32 v8 r8 t8 y8 S) := A8
  clear A8
  have Xx : Hid (Num v8 p n c xs A) := X.out.below hb8
  clear X
  have X := Xx
  clear Xx
  have DQx : Hid (Num v8 pd md md zd S) := DQ.out.below hb8
  clear DQ
  have DQ := DQx
  clear DQx
  have DRx : Hid (Num v8 po mo mo zo R) := DR.out.below hb8
  clear DR
  have DR := DRx
  clear DRx
  have hbwy := Below.on hbw hb8
  clear hbw
  have hbw := hbwy
  clear hbwy
  clear hb8
  go_wp2_with fail
  refine (rmul_any FD.out.at_ FD.out.at_ FD.out.nf FD.out.nf (by have := FD.out.le; omega) (by have := FD.out.le; omega)).mono ?_
  rintro e v10 ⟨r10, t10, y10, rfl, A10, N10, B10, hb10⟩
  have MU : Hid (At32 v10 r10 t10 t10 y10) := A10
  have MUn : Hid (Nf B32 y10 (S * S)) := N10
  clear A10 N10
  have Xx : Hid (Num v10 p n c xs A) := X.out.below hb10
  clear X
  have X := Xx
  clear Xx
  have DQx : Hid (Num v10 pd md md zd S) := DQ.out.below hb10
  clear DQ
  have DQ := DQx
  clear DQx
  have DRx : Hid (Num v10 po mo mo zo R) := DR.out.below hb10
  clear DR
  have DR := DRx
  clear DRx
  have FDx : Hid (Num32 v10 r8 t8 y8 S) := FD.out.below hb10
  clear FD
  have FD := FDx
  clear FDx
  have hbwy := Below.on hbw hb10
  clear hbw
  have hbw := hbwy
  clear hbwy
  clear hb10
  have hB10 : t10 ≤ 131072 := by have := FD.out.le; omega
  clear B10
  go_wp2_with fail
  refine (from32 DR.out).mono ?_
  rintro e v11 ⟨r11, t11, y11, rfl, A11, hb11⟩
  have FR : Hid (Num32 v11 r11 t11 y11 R) := A11
  clear A11
  have Xx : Hid (Num v11 p n c xs A) := X.out.below hb11
  clear X
  have X := Xx
  clear Xx
  have DQx : Hid (Num v11 pd md md zd S) := DQ.out.below hb11
  clear DQ
  have DQ := DQx
  clear DQx
  have DRx : Hid (Num v11 po mo mo zo R) := DR.out.below hb11
  clear DR
  have DR := DRx
  clear DRx
  have FDx : Hid (Num32 v11 r8 t8 y8 S) := FD.out.below hb11
  clear FD
  have FD := FDx
  clear FDx
  have MUx : Hid (At32 v11 r10 t10 t10 y10) := MU.out.below hb11
  clear MU
  have MU := MUx
  clear MUx
  have hbwy := Below.on hbw hb11
  clear hbw
  have hbw := hbwy
  clear hbwy
  clear hb11
  go_wp2_with fail
  refine (radd_any MU.out FR.out.at_ MUn.out FR.out.nf (by omega) (by have := FR.out.le; omega)).mono ?_
  rintro e v12 ⟨r12, t12, y12, rfl, A12, N12, hb12⟩
  have SU : Hid (At32 v12 r12 t12 t12 y12) := A12
  have SUn : Hid (Nf B32 y12 (S * S + R)) := N12
  clear A12 N12
  have Xx : Hid (Num v12 p n c xs A) := X.out.below hb12
  clear X
  have X := Xx
  clear Xx
  have DQx : Hid (Num v12 pd md md zd S) := DQ.out.below hb12
  clear DQ
  have DQ := DQx
  clear DQx
  have DRx : Hid (Num v12 po mo mo zo R) := DR.out.below hb12
  clear DR
  have DR := DRx
  clear DRx
  have FDx : Hid (Num32 v12 r8 t8 y8 S) := FD.out.below hb12
  clear FD
  have FD := FDx
  clear FDx
  have MUx : Hid (At32 v12 r10 t10 t10 y10) := MU.out.below hb12
  clear MU
  have MU := MUx
  clear MUx
  have FRx : Hid (Num32 v12 r11 t11 y11 R) := FR.out.below hb12
  clear FR
  have FR := FRx
  clear FRx
  have hbwy := Below.on hbw hb12
  clear hbw
  have hbw := hbwy
  clear hbwy
  clear hb12
  clear MU
  clear FR
  clear MUn
  go_wp2_with fail
  refine (from32 X.out).mono ?_
  rintro e v13 ⟨r13, t13, y13, rfl, A13, hb13⟩
  have FA : Hid (Num32 v13 r13 t13 y13 A) := A13
  clear A13
  have Xx : Hid (Num v13 p n c xs A) := X.out.below hb13
  clear X
  have X := Xx
  clear Xx
  have DQx : Hid (Num v13 pd md md zd S) := DQ.out.below hb13
  clear DQ
  have DQ := DQx
  clear DQx
  have DRx : Hid (Num v13 po mo mo zo R) := DR.out.below hb13
  clear DR
  have DR := DRx
  clear DRx
  have FDx : Hid (Num32 v13 r8 t8 y8 S) := FD.out.below hb13
  clear FD
  have FD := FDx
  clear FDx
  have SUx : Hid (At32 v13 r12 t12 t12 y12) := SU.out.below hb13
  clear SU
  have SU := SUx
  clear SUx
  have hbwy := Below.on hbw hb13
  clear hbw
  have hbw := hbwy
  clear hbwy
  clear hb13
  go_wp2_with fail
  have hsn := SUn.out
  rw [HDM.out] at hsn
  refine (rcmp_w SU.out FA.out.at_ hsn FA.out.nf).mono ?_
  rintro e v14 ⟨rfl, hb14⟩
  rw [cmpN_eq rfl]
  clear hsn SUn
  have Xx : Hid (Num v14 p n c xs A) := X.out.below hb14
  clear X
  have X := Xx
  clear Xx
  have DQx : Hid (Num v14 pd md md zd S) := DQ.out.below hb14
  clear DQ
  have DQ := DQx
  clear DQx
  have DRx : Hid (Num v14 po mo mo zo R) := DR.out.below hb14
  clear DR
  have DR := DRx
  clear DRx
  have FDx : Hid (Num32 v14 r8 t8 y8 S) := FD.out.below hb14
  clear FD
  have FD := FDx
  clear FDx
  have SUx : Hid (At32 v14 r12 t12 t12 y12) := SU.out.below hb14
  clear SU
  have SU := SUx
  clear SUx
  have FAx : Hid (Num32 v14 r13 t13 y13 A) := FA.out.below hb14
  clear FA
  have FA := FAx
  clear FAx
  have hbwy := Below.on hbw hb14
  clear hbw
  have hbw := hbwy
  clear hbwy
  clear hb14
  clear SU
  clear FA
  go_wp2_with fail
  refine (from32 DR.out).mono ?_
  rintro e v15 ⟨r15, t15, y15, rfl, A15, hb15⟩
  have FR : Hid (Num32 v15 r15 t15 y15 R) := A15
  clear A15
  have Xx : Hid (Num v15 p n c xs A) := X.out.below hb15
  clear X
  have X := Xx
  clear Xx
  have DQx : Hid (Num v15 pd md md zd S) := DQ.out.below hb15
  clear DQ
  have DQ := DQx
  clear DQx
  have DRx : Hid (Num v15 po mo mo zo R) := DR.out.below hb15
  clear DR
  have DR := DRx
  clear DRx
  have FDx : Hid (Num32 v15 r8 t8 y8 S) := FD.out.below hb15
  clear FD
  have FD := FDx
  clear FDx
  have hbwy := Below.on hbw hb15
  clear hbw
  have hbw := hbwy
  clear hbwy
  clear hb15
  go_wp2_with fail
  refine (rshl1_any FD.out).mono ?_
  rintro e v16 ⟨r16, t16, y16, rfl, A16, N16, hb16⟩
  have SH : Hid (At32 v16 r16 t16 t16 y16) := A16
  have SHn : Hid (Nf B32 y16 (2 * S)) := N16
  clear A16 N16
  have Xx : Hid (Num v16 p n c xs A) := X.out.below hb16
  clear X
  have X := Xx
  clear Xx
  have DQx : Hid (Num v16 pd md md zd S) := DQ.out.below hb16
  clear DQ
  have DQ := DQx
  clear DQx
  have DRx : Hid (Num v16 po mo mo zo R) := DR.out.below hb16
  clear DR
  have DR := DRx
  clear DRx
  have FDx : Hid (Num32 v16 r8 t8 y8 S) := FD.out.below hb16
  clear FD
  have FD := FDx
  clear FDx
  have FRx : Hid (Num32 v16 r15 t15 y15 R) := FR.out.below hb16
  clear FR
  have FR := FRx
  clear FRx
  have hbwy := Below.on hbw hb16
  clear hbw
  have hbw := hbwy
  clear hbwy
  clear hb16
  go_wp2_with fail
  refine (rcmp_w FR.out.at_ SH.out FR.out.nf SHn.out).mono ?_
  rintro e v17 ⟨rfl, hb17⟩
  obtain ⟨cc, hcc⟩ : ∃ cc, cc = cmpN R (2 * S) := ⟨_, rfl⟩
  rw [← hcc]
  have hle : decide (cc ≤ 0) = true := by
    refine decide_eq_true ?_
    rcases Nat.lt_or_ge R (2 * S) with e | e
    · rw [hcc, cmpN_lt e]; decide
    · rw [hcc, cmpN_eq (by have := HML.out; omega)]; decide
  clear hcc
  have Xx : Hid (Num v17 p n c xs A) := X.out.below hb17
  clear X
  have X := Xx
  clear Xx
  have DQx : Hid (Num v17 pd md md zd S) := DQ.out.below hb17
  clear DQ
  have DQ := DQx
  clear DQx
  have DRx : Hid (Num v17 po mo mo zo R) := DR.out.below hb17
  clear DR
  have DR := DRx
  clear DRx
  have FDx : Hid (Num32 v17 r8 t8 y8 S) := FD.out.below hb17
  clear FD
  have FD := FDx
  clear FDx
  have FRx : Hid (Num32 v17 r15 t15 y15 R) := FR.out.below hb17
  clear FR
  have FR := FRx
  clear FRx
  have SHx : Hid (At32 v17 r16 t16 t16 y16) := SH.out.below hb17
  clear SH
  have SH := SHx
  clear SHx
  have hbwy := Below.on hbw hb17
  clear hbw
  have hbw := hbwy
  clear hbwy
  clear hb17
  go_wp2_with fail
  go_ret
  exact ⟨ret_bool (by first | rfl | (simp; exact of_decide_eq_true hle)), hbw⟩
end Go.Proofs.Ytjkhpkjpiifhoaa
