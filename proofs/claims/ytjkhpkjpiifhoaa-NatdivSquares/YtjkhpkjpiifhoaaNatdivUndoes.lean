import Derived.Test.YtjkhpkjpiifhoaaLaw3
namespace Go.Proofs.Ytjkhpkjpiifhoaa
open Go.RowKit Go.Shelf

theorem from_num {p : Option Addr} {n c : Nat} {xs : List Nat} {w : World} (h : At w p n c xs) (hn : n ≤ 1099511627776) :
    Calls Try.prog 31 #[.slice p n c] w fun e w' => ∃ p' m zs, e = .returned (.slice p' m m) ∧ At32 w' p' m m zs ∧ Nf B32 zs (valB B64 xs) ∧ Below w.heap.size w w' := by
  refine (from_any h hn).mono ?_
  rintro e w' ⟨g, zs, rfl, hg, hblk, hnf, hl, hb⟩
  exact ⟨_, _, zs, rfl, hblk.at_ hnf.dig rfl (by unfold maxLen; omega), hnf, hb⟩
theorem rcmp_w {p q : Option Addr} {n m c d : Nat} {xs ys : List Nat} {a b : Nat} {w : World} (h : At32 w p n c xs) (k : At32 w q m d ys) (hx : Nf B32 xs a) (hy : Nf B32 ys b) :
    Calls Try.prog 30 #[.slice p n c, .slice q m d] w fun e w' => e = .returned (.int .i64 (cmpN a b)) ∧ Below w.heap.size w w' := by
  refine (rcmp_any h k hx hy).mono ?_
  rintro e w' ⟨rfl, r, rfl⟩
  exact ⟨rfl, bDrewN (Below.refl _ _) r⟩
theorem undo_lim {us vs : List Nat} {Q D R n m : Nat} (hq : Nf B64 us Q) (hd : Nf B64 vs D) (hl : us.length = n) (hm : vs.length = m) (hr : R < D) (h : n + m < 8192) : Q * D + R < LIM := by
  have h1 := valB_lt B64_pos hq.dig
  have h2 := valB_lt B64_pos hd.dig
  rw [hq.val, hl] at h1
  rw [hd.val, hm] at h2
  have h3 : (Q + 1) * D ≤ B64 ^ n * B64 ^ m := Nat.mul_le_mul h1 (Nat.le_of_lt h2)
  rw [← Nat.pow_add] at h3
  obtain ⟨K, hK⟩ : ∃ K, K = 8192 := ⟨8192, rfl⟩
  have h4 : B64 ^ (n + m) ≤ B64 ^ K := Nat.pow_le_pow_right B64_pos (by omega)
  rw [LIM_eq K hK]
  rw [Nat.add_mul, Nat.one_mul] at h3
  omega
theorem undo_div {Q D R : Nat} (hr : R < D) : (Q * D + R) / D = Q ∧ (Q * D + R) % D = R := by
  have := quo_unique (n := Q * D + R) (q := Q) (y := D) (r := R) rfl hr
  exact ⟨this.1.symm, this.2.symm⟩

set_option maxRecDepth 20000 in
set_option maxHeartbeats 4000000 in
theorem undoes_walk {p q r : Option Addr} {n m l c d f : Nat} {xs ys zs : List Nat} {w : World} (h : At w p n c xs) (_hn : n ≤ 17592186044416) (k : At w q m d ys) (_hm : m ≤ 17592186044416) (t : At w r l f zs) (_hl : l ≤ 17592186044416) :
    Calls Try.prog 6 #[.slice p n c, .slice q m d, .slice r l f] w fun e w' => e = .returned (.bool true) ∧ Below w.heap.size w w' := by
  go_enter Try.func6, Try.ntmps6
  go_wp2_with fail
  refine (awake3_any w).mono ?_
  rintro e w1 ⟨rfl, hb1⟩
  have h1 := h.below hb1; have k1 := k.below hb1; have t1 := t.below hb1
  have hbw := hb1
  clear h k t hb1
  go_wp2_with fail
  refine (docform_any h1).mono ?_
  rintro e w' ⟨rfl, hw⟩
  obtain rfl := hw.symm
  clear hw
  cases fx : formB xs
  · clear fx
    go_wp2_with fail
    go_ret
    exact ⟨rfl, hbw⟩
  go_wp2_with fail
  refine (docform_any k1).mono ?_
  rintro e w' ⟨rfl, hw⟩
  obtain rfl := hw.symm
  clear hw
  cases fy : formB ys
  · clear fy
    go_wp2_with fail
    go_ret
    exact ⟨rfl, hbw⟩
  go_wp2_with fail
  refine (docform_any t1).mono ?_
  rintro e w' ⟨rfl, hw⟩
  obtain rfl := hw.symm
  clear hw
  cases fz : formB zs
  · clear fz
    go_wp2_with fail
    go_ret
    exact ⟨rfl, hbw⟩
  have NX := formB_nf fx h1.dig
  have NY := formB_nf fy k1.dig
  have NZ := formB_nf fz t1.dig
  have hn8 : n ≤ 8192 := by rw [← h1.len]; exact NX.2
  have hm8 : m ≤ 8192 := by rw [← k1.len]; exact NY.2
  have hl8 : l ≤ 8192 := by rw [← t1.len]; exact NZ.2
  obtain ⟨Q, eQ⟩ : ∃ Q, Q = valB B64 xs := ⟨_, rfl⟩
  obtain ⟨D, eD⟩ : ∃ D, D = valB B64 ys := ⟨_, rfl⟩
  obtain ⟨R, eR⟩ : ∃ R, R = valB B64 zs := ⟨_, rfl⟩
  rw [← eQ] at NX
  rw [← eD] at NY
  rw [← eR] at NZ
  have EQ : Hid (Q = valB B64 xs) := eQ
  have ED : Hid (D = valB B64 ys) := eD
  have ER : Hid (R = valB B64 zs) := eR
  have X : Hid (Num w1 p n c xs Q) := ⟨h1, NX.1, hn8⟩
  have Y : Hid (Num w1 q m d ys D) := ⟨k1, NY.1, hm8⟩
  have Z : Hid (Num w1 r l f zs R) := ⟨t1, NZ.1, hl8⟩
  clear h1 k1 t1 NX NY NZ fx fy fz eQ eD eR _hn _hm _hl
  go_wp2_with fail
  refine (from_num Z.out.at_ (by omega)).mono ?_
  rintro e v2 ⟨r2, t2, y2, rfl, A2, N2, hb2⟩
  rw [← ER.out] at N2
  have FZ : Hid (At32 v2 r2 t2 t2 y2) := A2
  have FZn : Hid (Nf B32 y2 R) := N2
  clear A2 N2
  have Xx : Hid (Num v2 p n c xs Q) := X.out.below hb2
  clear X
  have X := Xx
  clear Xx
  have Yx : Hid (Num v2 q m d ys D) := Y.out.below hb2
  clear Y
  have Y := Yx
  clear Yx
  have Zx : Hid (Num v2 r l f zs R) := Z.out.below hb2
  clear Z
  have Z := Zx
  clear Zx
  have hbwy := Below.on hbw hb2
  clear hbw
  have hbw := hbwy
  clear hbwy
  clear hb2
  go_wp2_with fail
  refine (from_num Y.out.at_ (by omega)).mono ?_
  rintro e v3 ⟨r3, t3, y3, rfl, A3, N3, hb3⟩
  rw [← ED.out] at N3
  have FY : Hid (At32 v3 r3 t3 t3 y3) := A3
  have FYn : Hid (Nf B32 y3 D) := N3
  clear A3 N3
  have Xx : Hid (Num v3 p n c xs Q) := X.out.below hb3
  clear X
  have X := Xx
  clear Xx
  have Yx : Hid (Num v3 q m d ys D) := Y.out.below hb3
  clear Y
  have Y := Yx
  clear Yx
  have Zx : Hid (Num v3 r l f zs R) := Z.out.below hb3
  clear Z
  have Z := Zx
  clear Zx
  have FZx : Hid (At32 v3 r2 t2 t2 y2) := FZ.out.below hb3
  clear FZ
  have FZ := FZx
  clear FZx
  have hbwy := Below.on hbw hb3
  clear hbw
  have hbw := hbwy
  clear hbwy
  clear hb3
  go_wp2_with fail
  refine (rcmp_w FZ.out FY.out FZn.out FYn.out).mono ?_
  rintro e v4 ⟨rfl, hb4⟩
  have Xx : Hid (Num v4 p n c xs Q) := X.out.below hb4
  clear X
  have X := Xx
  clear Xx
  have Yx : Hid (Num v4 q m d ys D) := Y.out.below hb4
  clear Y
  have Y := Yx
  clear Yx
  have Zx : Hid (Num v4 r l f zs R) := Z.out.below hb4
  clear Z
  have Z := Zx
  clear Zx
  have FZx : Hid (At32 v4 r2 t2 t2 y2) := FZ.out.below hb4
  clear FZ
  have FZ := FZx
  clear FZx
  have FYx : Hid (At32 v4 r3 t3 t3 y3) := FY.out.below hb4
  clear FY
  have FY := FYx
  clear FYx
  have hbwy := Below.on hbw hb4
  clear hbw
  have hbw := hbwy
  clear hbwy
  clear hb4
  clear FZ
  clear FY
  clear FZn FYn
  obtain ⟨cc, hcc⟩ : ∃ cc, cc = cmpN R D := ⟨_, rfl⟩
  rw [← hcc]
  by_cases hRD : R < D
  · have hcn : decide ((0 : Int) ≤ cc) = false := decide_eq_false (by have := (cmpN_neg R D).2 hRD; omega)
    have HRD : Hid (R < D) := hRD
    clear hcc hRD
    by_cases hlen : n + m < 8192
    · have hcl : decide ((8192 : Int) ≤ (n : Int) + (m : Int)) = false := decide_eq_false (by omega)
      have HLIM : Hid (Q * D + R < LIM) := undo_lim X.out.nf Y.out.nf X.out.at_.len Y.out.at_.len HRD.out hlen
      have HLIM0 : Hid (Q * D < LIM) := Nat.lt_of_le_of_lt (Nat.le_add_right _ _) HLIM.out
      have HD0 : Hid (D ≠ 0) := by have := HRD.out; show _ ≠ _; omega
      have HE := undo_div (Q := Q) HRD.out
      have HE1 : Hid ((Q * D + R) / D = Q) := HE.1
      have HE2 : Hid ((Q * D + R) % D = R) := HE.2
      clear HE
      go_wp2_with fail
      refine (twin3_num X.out).mono ?_
      rintro e v5 ⟨r5, rfl, hN5, hb5⟩
      have TX : Hid (Num v5 r5 n n xs Q) := hN5
      clear hN5
      have Xx : Hid (Num v5 p n c xs Q) := X.out.below hb5
      clear X
      have X := Xx
      clear Xx
      have Yx : Hid (Num v5 q m d ys D) := Y.out.below hb5
      clear Y
      have Y := Yx
      clear Yx
      have Zx : Hid (Num v5 r l f zs R) := Z.out.below hb5
      clear Z
      have Z := Zx
      clear Zx
      have hbwy := Below.on hbw hb5
      clear hbw
      have hbw := hbwy
      clear hbwy
      clear hb5
      go_wp2_with fail
      refine (twin3_num Y.out).mono ?_
      rintro e v6 ⟨r6, rfl, hN6, hb6⟩
      have TY : Hid (Num v6 r6 m m ys D) := hN6
      clear hN6
      have Xx : Hid (Num v6 p n c xs Q) := X.out.below hb6
      clear X
      have X := Xx
      clear Xx
      have Yx : Hid (Num v6 q m d ys D) := Y.out.below hb6
      clear Y
      have Y := Yx
      clear Yx
      have Zx : Hid (Num v6 r l f zs R) := Z.out.below hb6
      clear Z
      have Z := Zx
      clear Zx
      have TXx : Hid (Num v6 r5 n n xs Q) := TX.out.below hb6
      clear TX
      have TX := TXx
      clear TXx
      have hbwy := Below.on hbw hb6
      clear hbw
      have hbw := hbwy
      clear hbwy
      clear hb6
      go_wp2_with fail
      refine (mul_any TX.out.at_ TY.out.at_ TX.out.nf TY.out.nf TX.out.le TY.out.le).mono ?_
      rintro e v7 ⟨ha7, hb7⟩
      obtain ⟨r7, t7, y7, rfl, ho7, hn7, hm7⟩ := ha7.ok HLIM0.out
      have PR : Hid (Num v7 r7 t7 t7 y7 (Q * D)) := Num.of ho7 hn7 hm7
      clear ha7 ho7 hn7
      have Xx : Hid (Num v7 p n c xs Q) := X.out.below hb7
      clear X
      have X := Xx
      clear Xx
      have Yx : Hid (Num v7 q m d ys D) := Y.out.below hb7
      clear Y
      have Y := Yx
      clear Yx
      have Zx : Hid (Num v7 r l f zs R) := Z.out.below hb7
      clear Z
      have Z := Zx
      clear Zx
      have TXx : Hid (Num v7 r5 n n xs Q) := TX.out.below hb7
      clear TX
      have TX := TXx
      clear TXx
      have TYx : Hid (Num v7 r6 m m ys D) := TY.out.below hb7
      clear TY
      have TY := TYx
      clear TYx
      have hbwy := Below.on hbw hb7
      clear hbw
      have hbw := hbwy
      clear hbwy
      clear hb7
      clear TX
      clear TY
      go_wp2_with fail
      refine (twin3_num Z.out).mono ?_
      rintro e v8 ⟨r8, rfl, hN8, hb8⟩
      have TZ : Hid (Num v8 r8 l l zs R) := hN8
      clear hN8
      have Xx : Hid (Num v8 p n c xs Q) := X.out.below hb8
      clear X
      have X := Xx
      clear Xx
      have Yx : Hid (Num v8 q m d ys D) := Y.out.below hb8
      clear Y
      have Y := Yx
      clear Yx
      have Zx : Hid (Num v8 r l f zs R) := Z.out.below hb8
      clear Z
      have Z := Zx
      clear Zx
      have PRx : Hid (Num v8 r7 t7 t7 y7 (Q * D)) := PR.out.below hb8
      clear PR
      have PR := PRx
      clear PRx
      have hbwy := Below.on hbw hb8
      clear hbw
      have hbw := hbwy
      clear hbwy
      clear hb8
      go_wp2_with fail
      refine (add_ord PR.out.at_ TZ.out.at_ PR.out.nf TZ.out.nf PR.out.le TZ.out.le).mono ?_
      rintro e v9 ⟨ha9, hb9⟩
      obtain ⟨r9, t9, y9, rfl, ho9, hn9, hm9⟩ := ha9.ok HLIM.out
      have SU : Hid (Num v9 r9 t9 t9 y9 (Q * D + R)) := Num.of ho9 hn9 hm9
      clear ha9 ho9 hn9
      have Xx : Hid (Num v9 p n c xs Q) := X.out.below hb9
      clear X
      have X := Xx
      clear Xx
      have Yx : Hid (Num v9 q m d ys D) := Y.out.below hb9
      clear Y
      have Y := Yx
      clear Yx
      have Zx : Hid (Num v9 r l f zs R) := Z.out.below hb9
      clear Z
      have Z := Zx
      clear Zx
      have PRx : Hid (Num v9 r7 t7 t7 y7 (Q * D)) := PR.out.below hb9
      clear PR
      have PR := PRx
      clear PRx
      have TZx : Hid (Num v9 r8 l l zs R) := TZ.out.below hb9
      clear TZ
      have TZ := TZx
      clear TZx
      have hbwy := Below.on hbw hb9
      clear hbw
      have hbw := hbwy
      clear hbwy
      clear hb9
      clear PR
      clear TZ
      go_wp2_with fail
      refine (twin3_num Y.out).mono ?_
      rintro e v10 ⟨r10, rfl, hN10, hb10⟩
      have TY : Hid (Num v10 r10 m m ys D) := hN10
      clear hN10
      have Xx : Hid (Num v10 p n c xs Q) := X.out.below hb10
      clear X
      have X := Xx
      clear Xx
      have Yx : Hid (Num v10 q m d ys D) := Y.out.below hb10
      clear Y
      have Y := Yx
      clear Yx
      have Zx : Hid (Num v10 r l f zs R) := Z.out.below hb10
      clear Z
      have Z := Zx
      clear Zx
      have SUx : Hid (Num v10 r9 t9 t9 y9 (Q * D + R)) := SU.out.below hb10
      clear SU
      have SU := SUx
      clear SUx
      have hbwy := Below.on hbw hb10
      clear hbw
      have hbw := hbwy
      clear hbwy
      clear hb10
      go_wp2_with fail
      refine (quorem_any SU.out.at_ TY.out.at_ SU.out.nf TY.out.nf SU.out.le TY.out.le HD0.out).mono ?_
      rintro e v11 ⟨x1, x2, rfl, hD11⟩
      obtain ⟨pd, md, zd, rfl, od, nd, ld⟩ := hD11.quo
      obtain ⟨po, mo, zo, rfl, oo, no, lo⟩ := hD11.rem
      have hb11 := hD11.bel
      rw [HE1.out] at nd
      rw [HE2.out] at no
      obtain rfl : zd = xs := nd.inj B64_one X.out.nf
      obtain rfl : zo = zs := no.inj B64_one Z.out.nf
      have DQ : Hid (Num v11 pd md md zd Q) := Num.of od nd ld
      have DR : Hid (Num v11 po mo mo zo R) := Num.of oo no lo
      clear hD11 od nd oo no
      clear SU
      clear TY
      have Xx : Hid (Num v11 p n c zd Q) := X.out.below hb11
      clear X
      have X := Xx
      clear Xx
      have Yx : Hid (Num v11 q m d ys D) := Y.out.below hb11
      clear Y
      have Y := Yx
      clear Yx
      have Zx : Hid (Num v11 r l f zo R) := Z.out.below hb11
      clear Z
      have Z := Zx
      clear Zx
      have hbwy := Below.on hbw hb11
      clear hbw
      have hbw := hbwy
      clear hbwy
      clear hb11
      go_wp2_with fail
      refine (same_t DQ.out.at_ X.out.at_).mono ?_
      rintro e v12 ⟨rfl, hb12⟩
      have Xx : Hid (Num v12 p n c zd Q) := X.out.below hb12
      clear X
      have X := Xx
      clear Xx
      have Yx : Hid (Num v12 q m d ys D) := Y.out.below hb12
      clear Y
      have Y := Yx
      clear Yx
      have Zx : Hid (Num v12 r l f zo R) := Z.out.below hb12
      clear Z
      have Z := Zx
      clear Zx
      have DQx : Hid (Num v12 pd md md zd Q) := DQ.out.below hb12
      clear DQ
      have DQ := DQx
      clear DQx
      have DRx : Hid (Num v12 po mo mo zo R) := DR.out.below hb12
      clear DR
      have DR := DRx
      clear DRx
      have hbwy := Below.on hbw hb12
      clear hbw
      have hbw := hbwy
      clear hbwy
      clear hb12
      go_wp2_with fail
      refine (same_t DR.out.at_ Z.out.at_).mono ?_
      rintro e v13 ⟨rfl, hb13⟩
      have Xx : Hid (Num v13 p n c zd Q) := X.out.below hb13
      clear X
      have X := Xx
      clear Xx
      have Yx : Hid (Num v13 q m d ys D) := Y.out.below hb13
      clear Y
      have Y := Yx
      clear Yx
      have Zx : Hid (Num v13 r l f zo R) := Z.out.below hb13
      clear Z
      have Z := Zx
      clear Zx
      have DQx : Hid (Num v13 pd md md zd Q) := DQ.out.below hb13
      clear DQ
      have DQ := DQx
      clear DQx
      have DRx : Hid (Num v13 po mo mo zo R) := DR.out.below hb13
      clear DR
      have DR := DRx
      clear DRx
      have hbwy := Below.on hbw hb13
      clear hbw
      have hbw := hbwy
      clear hbwy
      clear hb13
      go_wp2_with fail
      go_ret
      exact ⟨rfl, hbw⟩
    · have hcl : decide ((8192 : Int) ≤ (n : Int) + (m : Int)) = true := decide_eq_true (by omega)
      go_wp2_with fail
      go_ret
      exact ⟨rfl, hbw⟩
  · have hcn : decide ((0 : Int) ≤ cc) = true := decide_eq_true (by have := mt (cmpN_neg R D).1 hRD; omega)
    clear hcc hRD
    go_wp2_with fail
    go_ret
    exact ⟨rfl, hbw⟩
end Go.Proofs.Ytjkhpkjpiifhoaa
