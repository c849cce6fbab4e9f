import Derived.Test.YtjkhpkjpiifhoaaRAdd
namespace Go.Proofs.Ytjkhpkjpiifhoaa
open Go.RowKit Go.Shelf

/-- A slice of digits that reads a natural. -/
structure Num32 (w : World) (p : Option Addr) (m : Nat) (xs : List Nat) (a : Nat) : Prop where
  at_ : At32 w p m m xs
  nf : Nf B32 xs a
  le : m ≤ 65536
theorem Num32.below {w w' : World} {p : Option Addr} {m : Nat} {xs : List Nat} {a : Nat} (h : Num32 w p m xs a) (hb : Below w.heap.size w w') : Num32 w' p m xs a := ⟨h.at_.below hb, h.nf, h.le⟩
theorem from32 {p : Option Addr} {n c : Nat} {xs : List Nat} {a : Nat} {w : World} (h : Num w p n c xs a) :
    Calls Try.prog 31 #[.slice p n c] w fun e w' => ∃ p' m zs, e = .returned (.slice p' m m) ∧ Num32 w' p' m zs a ∧ Below w.heap.size w w' := by
  refine (from_any h.at_ (by have := h.le; omega)).mono ?_
  rintro e w' ⟨g, zs, rfl, hg, hblk, hnf, hl, hb⟩
  have h8 := h.le
  rw [h.nf.val] at hnf
  exact ⟨_, _, zs, rfl, ⟨hblk.at_ hnf.dig rfl (by unfold maxLen; omega), hnf, by omega⟩, hb⟩
theorem docform_t {p : Option Addr} {n c : Nat} {xs : List Nat} {a : Nat} {w : World} (h : Num w p n c xs a) :
    Calls Try.prog 29 #[.slice p n c] w fun e w' => e = .returned (.bool true) ∧ w' = w := by
  have := docform_any h.at_
  rw [h.nf.form (by rw [h.at_.len]; exact h.le)] at this; exact this

set_option maxRecDepth 20000 in
set_option maxHeartbeats 4000000 in
theorem divides_walk {p q : Option Addr} {n m c d : Nat} {xs ys : List Nat} {w : World} (h : At w p n c xs) (_hn : n ≤ 17592186044416) (k : At w q m d ys) (_hm : m ≤ 17592186044416) :
    Calls Try.prog 7 #[.slice p n c, .slice q m d] w fun e w' => e = .returned (.bool true) ∧ Below w.heap.size w w' := by
  go_enter Try.func7, Try.ntmps7
  go_wp2_with fail
  refine (awake3_any w).mono ?_
  rintro e w1 ⟨rfl, hb1⟩
  have h1 := h.below hb1; have k1 := k.below hb1
  have hbw := hb1
  clear h k hb1
  go_wp2_with fail
  refine (docform_any h1).mono ?_
  rintro e w' ⟨rfl, hw⟩
  obtain rfl := hw.symm
  clear hw
  cases fx : formB xs
  · clear fx
    go_wp2_with fail
    go_ret
    exact ⟨rfl, hbw⟩
  go_wp2_with fail
  refine (docform_any k1).mono ?_
  rintro e w' ⟨rfl, hw⟩
  obtain rfl := hw.symm
  clear hw
  cases fy : formB ys
  · clear fy
    go_wp2_with fail
    go_ret
    exact ⟨rfl, hbw⟩
  have NX := formB_nf fx h1.dig
  have NY := formB_nf fy k1.dig
  have hn8 : n ≤ 8192 := by rw [← h1.len]; exact NX.2
  have hm8 : m ≤ 8192 := by rw [← k1.len]; exact NY.2
  obtain ⟨A, eA⟩ : ∃ A, A = valB B64 xs := ⟨_, rfl⟩
  obtain ⟨D, eD⟩ : ∃ D, D = valB B64 ys := ⟨_, rfl⟩
  rw [← eA] at NX
  rw [← eD] at NY
  have X : Hid (Num w1 p n c xs A) := ⟨h1, NX.1, hn8⟩
  have Y : Hid (Num w1 q m d ys D) := ⟨k1, NY.1, hm8⟩
  clear h1 k1 NX NY fx fy eA eD _hn _hm
  by_cases hm0 : m = 0
  · subst hm0
    go_wp2_with fail
    go_ret
    exact ⟨rfl, hbw⟩
  · have hm0' : ((m : Int) == 0) = false := by simp; omega
    have HD0 : Hid (D ≠ 0) := fun e => hm0 (by have := (Y.out.nf.zero_iff B64_one).2 e; rw [← Y.out.at_.len, this]; rfl)
    clear hm0
    go_wp2_with fail
    refine (twin3_num X.out).mono ?_
    rintro e v5 ⟨r5, rfl, hN5, hb5⟩
    have TX : Hid (Num v5 r5 n n xs A) := hN5
    clear hN5
    have Xx : Hid (Num v5 p n c xs A) := X.out.below hb5
    clear X
    have X := Xx
    clear Xx
    have Yx : Hid (Num v5 q m d ys D) := Y.out.below hb5
    clear Y
    have Y := Yx
    clear Yx
    have hbwy := Below.on hbw hb5
    clear hbw
    have hbw := hbwy
    clear hbwy
    clear hb5
    go_wp2_with fail
    refine (twin3_num Y.out).mono ?_
    rintro e v6 ⟨r6, rfl, hN6, hb6⟩
    have TY : Hid (Num v6 r6 m m ys D) := hN6
    clear hN6
    have Xx : Hid (Num v6 p n c xs A) := X.out.below hb6
    clear X
    have X := Xx
    clear Xx
    have Yx : Hid (Num v6 q m d ys D) := Y.out.below hb6
    clear Y
    have Y := Yx
    clear Yx
    have TXx : Hid (Num v6 r5 n n xs A) := TX.out.below hb6
    clear TX
    have TX := TXx
    clear TXx
    have hbwy := Below.on hbw hb6
    clear hbw
    have hbw := hbwy
    clear hbwy
    clear hb6
    have HDM : Hid (A / D * D + A % D = A) := by show _ = _; rw [Nat.mul_comm]; exact Nat.div_add_mod _ _
    have HML : Hid (A % D < D) := Nat.mod_lt _ (by have := HD0.out; omega)
    go_wp2_with fail
    refine (quorem_any TX.out.at_ TY.out.at_ TX.out.nf TY.out.nf TX.out.le TY.out.le HD0.out).mono ?_
    rintro e v7 ⟨x1, x2, rfl, hD7⟩
    obtain ⟨pd, md, zd, rfl, od, nd, ld⟩ := hD7.quo
    obtain ⟨po, mo, zo, rfl, oo, no, lo⟩ := hD7.rem
    have hb7 := hD7.bel
    obtain ⟨Q, eQ⟩ : ∃ Q, Q = A / D := ⟨_, rfl⟩
    obtain ⟨R, eR⟩ : ∃ R, R = A % D := ⟨_, rfl⟩
    rw [← eQ] at nd HDM
    rw [← eR] at no HDM HML
    have DQ : Hid (Num v7 pd md md zd Q) := Num.of od nd ld
    have DR : Hid (Num v7 po mo mo zo R) := Num.of oo no lo
    clear hD7 od nd oo no eQ eR
    clear TX
    clear TY
    have Xx : Hid (Num v7 p n c xs A) := X.out.below hb7
    clear X
    have X := Xx
    clear Xx
    have Yx : Hid (Num v7 q m d ys D) := Y.out.below hb7
    clear Y
    have Y := Yx
    clear Yx
    have hbwy := Below.on hbw hb7
    clear hbw
    have hbw := hbwy
    clear hbwy
    clear hb7
    go_wp2_with fail
    refine (docform_t DQ.out).mono ?_
    rintro e w' ⟨rfl, hw⟩
    obtain rfl := hw.symm
    clear hw
    go_wp2_with fail
    refine (docform_t DR.out).mono ?_
    rintro e w' ⟨rfl, hw⟩
    obtain rfl := hw.symm
    clear hw
    go_wp2_with fail
    refine (from32 Y.out).mono ?_
    rintro e v8 ⟨r8, t8, y8, rfl, A8, hb8⟩
    have FD : Hid (Num32 v8 r8 t8 y8 D) := A8
    clear A8
    have Xx : Hid (Num v8 p n c xs A) := X.out.below hb8
    clear X
    have X := Xx
    clear Xx
    have Yx : Hid (Num v8 q m d ys D) := Y.out.below hb8
    clear Y
    have Y := Yx
    clear Yx
    have DQx : Hid (Num v8 pd md md zd Q) := DQ.out.below hb8
    clear DQ
    have DQ := DQx
    clear DQx
    have DRx : Hid (Num v8 po mo mo zo R) := DR.out.below hb8
    clear DR
    have DR := DRx
    clear DRx
    have hbwy := Below.on hbw hb8
    clear hbw
    have hbw := hbwy
    clear hbwy
    clear hb8
    go_wp2_with fail
    refine (from32 DQ.out).mono ?_
    rintro e v9 ⟨r9, t9, y9, rfl, A9, hb9⟩
    have FQ : Hid (Num32 v9 r9 t9 y9 Q) := A9
    clear A9
    have Xx : Hid (Num v9 p n c xs A) := X.out.below hb9
    clear X
    have X := Xx
    clear Xx
    have Yx : Hid (Num v9 q m d ys D) := Y.out.below hb9
    clear Y
    have Y := Yx
    clear Yx
    have DQx : Hid (Num v9 pd md md zd Q) := DQ.out.below hb9
    clear DQ
    have DQ := DQx
    clear DQx
    have DRx : Hid (Num v9 po mo mo zo R) := DR.out.below hb9
    clear DR
    have DR := DRx
    clear DRx
    have FDx : Hid (Num32 v9 r8 t8 y8 D) := FD.out.below hb9
    clear FD
    have FD := FDx
    clear FDx
    have hbwy := Below.on hbw hb9
    clear hbw
    have hbw := hbwy
    clear hbwy
    clear hb9
    go_wp2_with fail
    refine (rmul_any FQ.out.at_ FD.out.at_ FQ.out.nf FD.out.nf (by have := FQ.out.le; omega) (by have := FD.out.le; omega)).mono ?_
    rintro e v10 ⟨r10, t10, y10, rfl, A10, N10, B10, hb10⟩
    have MU : Hid (At32 v10 r10 t10 t10 y10) := A10
    have MUn : Hid (Nf B32 y10 (Q * D)) := N10
    clear A10 N10
    have Xx : Hid (Num v10 p n c xs A) := X.out.below hb10
    clear X
    have X := Xx
    clear Xx
    have Yx : Hid (Num v10 q m d ys D) := Y.out.below hb10
    clear Y
    have Y := Yx
    clear Yx
    have DQx : Hid (Num v10 pd md md zd Q) := DQ.out.below hb10
    clear DQ
    have DQ := DQx
    clear DQx
    have DRx : Hid (Num v10 po mo mo zo R) := DR.out.below hb10
    clear DR
    have DR := DRx
    clear DRx
    have FDx : Hid (Num32 v10 r8 t8 y8 D) := FD.out.below hb10
    clear FD
    have FD := FDx
    clear FDx
    have FQx : Hid (Num32 v10 r9 t9 y9 Q) := FQ.out.below hb10
    clear FQ
    have FQ := FQx
    clear FQx
    have hbwy := Below.on hbw hb10
    clear hbw
    have hbw := hbwy
    clear hbwy
    clear hb10
    have hB10 : t10 ≤ 131072 := by have := FQ.out.le; have := FD.out.le; omega
    clear FQ
    clear B10
    go_wp2_with fail
    refine (from32 DR.out).mono ?_
    rintro e v11 ⟨r11, t11, y11, rfl, A11, hb11⟩
    have FR : Hid (Num32 v11 r11 t11 y11 R) := A11
    clear A11
    have Xx : Hid (Num v11 p n c xs A) := X.out.below hb11
    clear X
    have X := Xx
    clear Xx
    have Yx : Hid (Num v11 q m d ys D) := Y.out.below hb11
    clear Y
    have Y := Yx
    clear Yx
    have DQx : Hid (Num v11 pd md md zd Q) := DQ.out.below hb11
    clear DQ
    have DQ := DQx
    clear DQx
    have DRx : Hid (Num v11 po mo mo zo R) := DR.out.below hb11
    clear DR
    have DR := DRx
    clear DRx
    have FDx : Hid (Num32 v11 r8 t8 y8 D) := FD.out.below hb11
    clear FD
    have FD := FDx
    clear FDx
    have MUx : Hid (At32 v11 r10 t10 t10 y10) := MU.out.below hb11
    clear MU
    have MU := MUx
    clear MUx
    have hbwy := Below.on hbw hb11
    clear hbw
    have hbw := hbwy
    clear hbwy
    clear hb11
    go_wp2_with fail
    refine (radd_any MU.out FR.out.at_ MUn.out FR.out.nf (by omega) (by have := FR.out.le; omega)).mono ?_
    rintro e v12 ⟨r12, t12, y12, rfl, A12, N12, hb12⟩
    have SU : Hid (At32 v12 r12 t12 t12 y12) := A12
    have SUn : Hid (Nf B32 y12 (Q * D + R)) := N12
    clear A12 N12
    have Xx : Hid (Num v12 p n c xs A) := X.out.below hb12
    clear X
    have X := Xx
    clear Xx
    have Yx : Hid (Num v12 q m d ys D) := Y.out.below hb12
    clear Y
    have Y := Yx
    clear Yx
    have DQx : Hid (Num v12 pd md md zd Q) := DQ.out.below hb12
    clear DQ
    have DQ := DQx
    clear DQx
    have DRx : Hid (Num v12 po mo mo zo R) := DR.out.below hb12
    clear DR
    have DR := DRx
    clear DRx
    have FDx : Hid (Num32 v12 r8 t8 y8 D) := FD.out.below hb12
    clear FD
    have FD := FDx
    clear FDx
    have MUx : Hid (At32 v12 r10 t10 t10 y10) := MU.out.below hb12
    clear MU
    have MU := MUx
    clear MUx
    have FRx : Hid (Num32 v12 r11 t11 y11 R) := FR.out.below hb12
    clear FR
    have FR := FRx
    clear FRx
    have hbwy := Below.on hbw hb12
    clear hbw
    have hbw := hbwy
    clear hbwy
    clear hb12
    clear MU
    clear FR
    clear MUn
    go_wp2_with fail
    refine (from32 X.out).mono ?_
    rintro e v13 ⟨r13, t13, y13, rfl, A13, hb13⟩
    have FA : Hid (Num32 v13 r13 t13 y13 A) := A13
    clear A13
    have Xx : Hid (Num v13 p n c xs A) := X.out.below hb13
    clear X
    have X := Xx
    clear Xx
    have Yx : Hid (Num v13 q m d ys D) := Y.out.below hb13
    clear Y
    have Y := Yx
    clear Yx
    have DQx : Hid (Num v13 pd md md zd Q) := DQ.out.below hb13
    clear DQ
    have DQ := DQx
    clear DQx
    have DRx : Hid (Num v13 po mo mo zo R) := DR.out.below hb13
    clear DR
    have DR := DRx
    clear DRx
    have FDx : Hid (Num32 v13 r8 t8 y8 D) := FD.out.below hb13
    clear FD
    have FD := FDx
    clear FDx
    have SUx : Hid (At32 v13 r12 t12 t12 y12) := SU.out.below hb13
    clear SU
    have SU := SUx
    clear SUx
    have hbwy := Below.on hbw hb13
    clear hbw
    have hbw := hbwy
    clear hbwy
    clear hb13
    go_wp2_with fail
    have hsn := SUn.out
    rw [HDM.out] at hsn
    refine (rcmp_w SU.out FA.out.at_ hsn FA.out.nf).mono ?_
    rintro e v14 ⟨rfl, hb14⟩
    rw [cmpN_eq rfl]
    clear hsn SUn
    have Xx : Hid (Num v14 p n c xs A) := X.out.below hb14
    clear X
    have X := Xx
    clear Xx
    have Yx : Hid (Num v14 q m d ys D) := Y.out.below hb14
    clear Y
    have Y := Yx
    clear Yx
    have DQx : Hid (Num v14 pd md md zd Q) := DQ.out.below hb14
    clear DQ
    have DQ := DQx
    clear DQx
    have DRx : Hid (Num v14 po mo mo zo R) := DR.out.below hb14
    clear DR
    have DR := DRx
    clear DRx
    have FDx : Hid (Num32 v14 r8 t8 y8 D) := FD.out.below hb14
    clear FD
    have FD := FDx
    clear FDx
    have SUx : Hid (At32 v14 r12 t12 t12 y12) := SU.out.below hb14
    clear SU
    have SU := SUx
    clear SUx
    have FAx : Hid (Num32 v14 r13 t13 y13 A) := FA.out.below hb14
    clear FA
    have FA := FAx
    clear FAx
    have hbwy := Below.on hbw hb14
    clear hbw
    have hbw := hbwy
    clear hbwy
    clear hb14
    clear SU
    clear FA
    go_wp2_with fail
    refine (from32 DR.out).mono ?_
    rintro e v15 ⟨r15, t15, y15, rfl, A15, hb15⟩
    have FR : Hid (Num32 v15 r15 t15 y15 R) := A15
    clear A15
    have Xx : Hid (Num v15 p n c xs A) := X.out.below hb15
    clear X
    have X := Xx
    clear Xx
    have Yx : Hid (Num v15 q m d ys D) := Y.out.below hb15
    clear Y
    have Y := Yx
    clear Yx
    have DQx : Hid (Num v15 pd md md zd Q) := DQ.out.below hb15
    clear DQ
    have DQ := DQx
    clear DQx
    have DRx : Hid (Num v15 po mo mo zo R) := DR.out.below hb15
    clear DR
    have DR := DRx
    clear DRx
    have FDx : Hid (Num32 v15 r8 t8 y8 D) := FD.out.below hb15
    clear FD
    have FD := FDx
    clear FDx
    have hbwy := Below.on hbw hb15
    clear hbw
    have hbw := hbwy
    clear hbwy
    clear hb15
    go_wp2_with fail
    refine (rcmp_w FR.out.at_ FD.out.at_ FR.out.nf FD.out.nf).mono ?_
    rintro e v16 ⟨rfl, hb16⟩
    rw [cmpN_lt HML.out]
    have Xx : Hid (Num v16 p n c xs A) := X.out.below hb16
    clear X
    have X := Xx
    clear Xx
    have Yx : Hid (Num v16 q m d ys D) := Y.out.below hb16
    clear Y
    have Y := Yx
    clear Yx
    have DQx : Hid (Num v16 pd md md zd Q) := DQ.out.below hb16
    clear DQ
    have DQ := DQx
    clear DQx
    have DRx : Hid (Num v16 po mo mo zo R) := DR.out.below hb16
    clear DR
    have DR := DRx
    clear DRx
    have FDx : Hid (Num32 v16 r8 t8 y8 D) := FD.out.below hb16
    clear FD
    have FD := FDx
    clear FDx
    have FRx : Hid (Num32 v16 r15 t15 y15 R) := FR.out.below hb16
    clear FR
    have FR := FRx
    clear FRx
    have hbwy := Below.on hbw hb16
    clear hbw
    have hbw := hbwy
    clear hbwy
    clear hb16
    go_wp2_with fail
    go_ret
    exact ⟨rfl, hbw⟩
end Go.Proofs.Ytjkhpkjpiifhoaa
