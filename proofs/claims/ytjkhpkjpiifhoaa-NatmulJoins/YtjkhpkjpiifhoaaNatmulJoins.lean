import Derived.Test.YtjkhpkjpiifhoaaParts2
namespace Go.Proofs.Ytjkhpkjpiifhoaa
open Go.RowKit

theorem parts_arg (v1 v2 : Value) (j : Int) (w : World) (hj : j < 1 ∨ 8192 < j) :
    Calls Try.prog 24 #[v1, v2, .int .i64 j] w fun e w' => e = .returned (.tuple #[.slice none 0 0, .slice none 0 0, .slice none 0 0, .int .i64 1]) ∧ w' = w := by
  by_cases h1 : j < 1
  · have hd1 : decide (j < 1) = true := decide_eq_true h1
    go_enter Try.func24, Try.ntmps24
    go_wp2_with fail
    refine bodyPost_ret (results_tmp4 rfl _ _ _) rfl ?_
    exact ⟨rfl, rfl⟩
  · have hd1 : decide (j < 1) = false := decide_eq_false h1
    have hd2 : decide (8192 < j) = true := decide_eq_true (by omega)
    go_enter Try.func24, Try.ntmps24
    go_wp2_with fail
    refine bodyPost_ret (results_tmp4 rfl _ _ _) rfl ?_
    exact ⟨rfl, rfl⟩

theorem plus_any {p q : Option Addr} {n m c d : Nat} {xs ys : List Nat} {a b : Nat} {w : World} (h : Num w p n c xs a) (k : Num w q m d ys b) (hl : a + b < LIM) :
    Calls Try.prog 26 #[.slice p n c, .slice q m d] w fun e w' => ∃ p' m' zs, e = .returned (.slice p' m' m') ∧ Num w' p' m' m' zs (a + b) ∧ Below w.heap.size w w' := by
  have H : Hid (Num w p n c xs a) := h
  have K : Hid (Num w q m d ys b) := k
  have L : Hid (a + b < LIM) := hl
  clear h k hl
  go_enter Try.func26, Try.ntmps26
  go_wp2_with fail
  refine (add_ord H.out.at_ K.out.at_ H.out.nf K.out.nf H.out.le K.out.le).mono ?_
  rintro e w1 ⟨ha, hb⟩
  obtain ⟨p1, m1, zs, rfl, ho, hn, hm⟩ := ha.ok L.out
  have N : Hid (Num w1 p1 m1 m1 zs (a + b)) := Num.of ho hn hm
  clear ha ho hn
  go_wp2_with fail
  go_ret
  exact ⟨p1, m1, zs, rfl, N.out, hb⟩

theorem pow64 (j : Nat) : (2 : Nat) ^ (64 * j) = B64 ^ j := by rw [Nat.pow_mul, show (2 : Nat) ^ 64 = B64 from rfl]
/-- The product in its three parts. -/
theorem join_sum (P a b : Nat) : (a % P) * (b % P) + P * ((a % P) * (b / P) + (a / P) * (b % P)) + P * (P * ((a / P) * (b / P))) = a * b := by
  have h1 := Nat.div_add_mod a P
  have h2 := Nat.div_add_mod b P
  generalize a % P = a0 at *
  generalize a / P = a1 at *
  generalize b % P = b0 at *
  generalize b / P = b1 at *
  subst h1; subst h2
  simp only [Nat.mul_add, Nat.mul_comm, Nat.mul_left_comm]
  omega
theorem cross_sum (a0 a1 b0 b1 : Nat) : (a0 + a1) * (b0 + b1) = a0 * b0 + (a0 * b1 + a1 * b0) + a1 * b1 := by
  simp only [Nat.mul_add, Nat.add_mul]; omega

/-- What the law needs of the numbers when the product is within the limit. -/
structure JoinC (P a b lo mid hi : Nat) : Prop where
  f1 : lo < LIM
  f2 : mid < LIM
  f3 : hi < LIM
  f4 : P * mid < LIM
  f5 : P * hi < LIM
  f6 : P * (P * hi) < LIM
  s1 : lo + P * mid < LIM
  s2 : lo + P * mid + P * (P * hi) = a * b
  c1 : lo + mid < LIM
  c2 : lo + mid + hi < LIM
  low : lo < P * P
theorem JoinC.mk' {P a b : Nat} (hP : 0 < P) (h : a * b < LIM) : JoinC P a b ((a % P) * (b % P)) ((a % P) * (b / P) + (a / P) * (b % P)) ((a / P) * (b / P)) := by
  have e := join_sum P a b
  have hlow : (a % P) * (b % P) < P * P := Nat.mul_lt_mul'' (Nat.mod_lt _ hP) (Nat.mod_lt _ hP)
  generalize (a % P) * (b % P) = lo at *
  generalize (a % P) * (b / P) + (a / P) * (b % P) = mid at *
  generalize (a / P) * (b / P) = hi at *
  have h1 : 1 * mid ≤ P * mid := Nat.mul_le_mul_right _ hP
  have h2 : 1 * hi ≤ P * hi := Nat.mul_le_mul_right _ hP
  have h3 : 1 * (P * hi) ≤ P * (P * hi) := Nat.mul_le_mul_right _ hP
  exact ⟨by omega, by omega, by omega, by omega, by omega, by omega, by omega, e, by omega, by omega, hlow⟩

theorem wrap_mulj (c j : Nat) (h : c * j ≤ 1048576) : IntKind.i64.wrap ((c : Int) * (j : Int)) = ((c * j : Nat) : Int) := by
  have : ((c : Int) * (j : Int)) = ((c * j : Nat) : Int) := by simp
  rw [this]
  simp [IntKind.wrap, IntKind.signed, IntKind.bits]
  omega

set_option maxHeartbeats 2000000 in
theorem crossed_any {p q p1 p2 p3 : Option Addr} {n m c d n1 n2 n3 : Nat} {xs ys z1 z2 z3 : List Nat} {a b lo mid hi : Nat} {w : World} (j : Nat) (hj : 1 ≤ j) (hj2 : j ≤ 8192) (h : Num w p n c xs a) (k : Num w q m d ys b) (g1 : Num w p1 n1 n1 z1 lo) (g2 : Num w p2 n2 n2 z2 mid) (g3 : Num w p3 n3 n3 z3 hi)
    (hC : JoinC (B64 ^ j) a b lo mid hi) (e1 : lo = (a % B64 ^ j) * (b % B64 ^ j)) (e2 : mid = (a % B64 ^ j) * (b / B64 ^ j) + (a / B64 ^ j) * (b % B64 ^ j)) (e3 : hi = (a / B64 ^ j) * (b / B64 ^ j)) :
    Calls Try.prog 27 #[.slice p n c, .slice q m d, .int .i64 j, .slice p1 n1 n1, .slice p2 n2 n2, .slice p3 n3 n3] w fun e w' => e = .returned (.bool true) ∧ Below w.heap.size w w' := by
  have H : Hid (Num w p n c xs a) := h
  have K : Hid (Num w q m d ys b) := k
  have G1 : Hid (Num w p1 n1 n1 z1 lo) := g1
  have G2 : Hid (Num w p2 n2 n2 z2 mid) := g2
  have G3 : Hid (Num w p3 n3 n3 z3 hi) := g3
  have HC : Hid (JoinC (B64 ^ j) a b lo mid hi) := hC
  have hP : 0 < B64 ^ j := Nat.pow_pos B64_pos
  have hsumx : a % B64 ^ j + a / B64 ^ j < LIM := by
    have t1 := Nat.div_add_mod a (B64 ^ j); have t2 := h.lim
    have t3 : 1 * (a / B64 ^ j) ≤ B64 ^ j * (a / B64 ^ j) := Nat.mul_le_mul_right _ hP
    omega
  have hsumy : b % B64 ^ j + b / B64 ^ j < LIM := by
    have t1 := Nat.div_add_mod b (B64 ^ j); have t2 := k.lim
    have t3 : 1 * (b / B64 ^ j) ≤ B64 ^ j * (b / B64 ^ j) := Nat.mul_le_mul_right _ hP
    omega
  have hprod : (a % B64 ^ j + a / B64 ^ j) * (b % B64 ^ j + b / B64 ^ j) = lo + mid + hi := by rw [cross_sum, e1, e2, e3]
  have SX : Hid (a % B64 ^ j + a / B64 ^ j < LIM) := hsumx
  have SY : Hid (b % B64 ^ j + b / B64 ^ j < LIM) := hsumy
  have HP : Hid ((a % B64 ^ j + a / B64 ^ j) * (b % B64 ^ j + b / B64 ^ j) = lo + mid + hi) := hprod
  have hwj : IntKind.i64.wrap ((64 : Int) * (j : Int)) = ((64 * j : Nat) : Int) := wrap_mulj 64 j (by omega)
  have hj64 : 64 * j ≤ 9223372036854775807 := by omega
  clear h k g1 g2 g3 hC e1 e2 e3 hP hsumx hsumy hprod
  go_enter Try.func27, Try.ntmps27
  go_wp2_with fail
  rw [show ((64 : Int) * (j : Int)) = ((64 * j : Nat) : Int) by omega]
  refine (low_nf H.out.at_ H.out.nf H.out.le (64 * j) hj64).mono ?_
  rintro e v4 ⟨⟨r4, t4, y4, rfl, ho4, hn4, hm4⟩, hb4⟩
  rw [pow64] at hn4
  have X0 : Hid (Num v4 r4 t4 t4 y4 (a % B64 ^ j)) := Num.of ho4 hn4 hm4
  clear ho4 hn4
  have Hx : Hid (Num v4 p n c xs a) := H.out.below hb4
  clear H
  have H := Hx
  clear Hx
  have Kx : Hid (Num v4 q m d ys b) := K.out.below hb4
  clear K
  have K := Kx
  clear Kx
  have G1x : Hid (Num v4 p1 n1 n1 z1 lo) := G1.out.below hb4
  clear G1
  have G1 := G1x
  clear G1x
  have G2x : Hid (Num v4 p2 n2 n2 z2 mid) := G2.out.below hb4
  clear G2
  have G2 := G2x
  clear G2x
  have G3x : Hid (Num v4 p3 n3 n3 z3 hi) := G3.out.below hb4
  clear G3
  have G3 := G3x
  clear G3x
  have hbw := hb4
  clear hb4
  go_wp2_with fail
  rw [show ((64 : Int) * (j : Int)) = ((64 * j : Nat) : Int) by omega]
  refine (shr_nf H.out.at_ H.out.nf H.out.le (64 * j) hj64).mono ?_
  rintro e v5 ⟨⟨r5, t5, y5, rfl, ho5, hn5, hm5⟩, hb5⟩
  rw [pow64] at hn5
  have X1 : Hid (Num v5 r5 t5 t5 y5 (a / B64 ^ j)) := Num.of ho5 hn5 hm5
  clear ho5 hn5
  have Hx : Hid (Num v5 p n c xs a) := H.out.below hb5
  clear H
  have H := Hx
  clear Hx
  have Kx : Hid (Num v5 q m d ys b) := K.out.below hb5
  clear K
  have K := Kx
  clear Kx
  have G1x : Hid (Num v5 p1 n1 n1 z1 lo) := G1.out.below hb5
  clear G1
  have G1 := G1x
  clear G1x
  have G2x : Hid (Num v5 p2 n2 n2 z2 mid) := G2.out.below hb5
  clear G2
  have G2 := G2x
  clear G2x
  have G3x : Hid (Num v5 p3 n3 n3 z3 hi) := G3.out.below hb5
  clear G3
  have G3 := G3x
  clear G3x
  have X0x : Hid (Num v5 r4 t4 t4 y4 (a % B64 ^ j)) := X0.out.below hb5
  clear X0
  have X0 := X0x
  clear X0x
  have hbwy := Below.on hbw hb5
  clear hbw
  have hbw := hbwy
  clear hbwy
  clear hb5
  clear H
  go_wp2_with fail
  rw [show ((64 : Int) * (j : Int)) = ((64 * j : Nat) : Int) by omega]
  refine (low_nf K.out.at_ K.out.nf K.out.le (64 * j) hj64).mono ?_
  rintro e v6 ⟨⟨r6, t6, y6, rfl, ho6, hn6, hm6⟩, hb6⟩
  rw [pow64] at hn6
  have Y0 : Hid (Num v6 r6 t6 t6 y6 (b % B64 ^ j)) := Num.of ho6 hn6 hm6
  clear ho6 hn6
  have Kx : Hid (Num v6 q m d ys b) := K.out.below hb6
  clear K
  have K := Kx
  clear Kx
  have G1x : Hid (Num v6 p1 n1 n1 z1 lo) := G1.out.below hb6
  clear G1
  have G1 := G1x
  clear G1x
  have G2x : Hid (Num v6 p2 n2 n2 z2 mid) := G2.out.below hb6
  clear G2
  have G2 := G2x
  clear G2x
  have G3x : Hid (Num v6 p3 n3 n3 z3 hi) := G3.out.below hb6
  clear G3
  have G3 := G3x
  clear G3x
  have X0x : Hid (Num v6 r4 t4 t4 y4 (a % B64 ^ j)) := X0.out.below hb6
  clear X0
  have X0 := X0x
  clear X0x
  have X1x : Hid (Num v6 r5 t5 t5 y5 (a / B64 ^ j)) := X1.out.below hb6
  clear X1
  have X1 := X1x
  clear X1x
  have hbwy := Below.on hbw hb6
  clear hbw
  have hbw := hbwy
  clear hbwy
  clear hb6
  go_wp2_with fail
  rw [show ((64 : Int) * (j : Int)) = ((64 * j : Nat) : Int) by omega]
  refine (shr_nf K.out.at_ K.out.nf K.out.le (64 * j) hj64).mono ?_
  rintro e v7 ⟨⟨r7, t7, y7, rfl, ho7, hn7, hm7⟩, hb7⟩
  rw [pow64] at hn7
  have Y1 : Hid (Num v7 r7 t7 t7 y7 (b / B64 ^ j)) := Num.of ho7 hn7 hm7
  clear ho7 hn7
  have Kx : Hid (Num v7 q m d ys b) := K.out.below hb7
  clear K
  have K := Kx
  clear Kx
  have G1x : Hid (Num v7 p1 n1 n1 z1 lo) := G1.out.below hb7
  clear G1
  have G1 := G1x
  clear G1x
  have G2x : Hid (Num v7 p2 n2 n2 z2 mid) := G2.out.below hb7
  clear G2
  have G2 := G2x
  clear G2x
  have G3x : Hid (Num v7 p3 n3 n3 z3 hi) := G3.out.below hb7
  clear G3
  have G3 := G3x
  clear G3x
  have X0x : Hid (Num v7 r4 t4 t4 y4 (a % B64 ^ j)) := X0.out.below hb7
  clear X0
  have X0 := X0x
  clear X0x
  have X1x : Hid (Num v7 r5 t5 t5 y5 (a / B64 ^ j)) := X1.out.below hb7
  clear X1
  have X1 := X1x
  clear X1x
  have Y0x : Hid (Num v7 r6 t6 t6 y6 (b % B64 ^ j)) := Y0.out.below hb7
  clear Y0
  have Y0 := Y0x
  clear Y0x
  have hbwy := Below.on hbw hb7
  clear hbw
  have hbw := hbwy
  clear hbwy
  clear hb7
  clear K
  go_wp2_with fail
  refine (plus_any X0.out X1.out SX.out).mono ?_
  rintro e v8 ⟨r8, t8, y8, rfl, hN8, hb8⟩
  have SX2 : Hid (Num v8 r8 t8 t8 y8 (a % B64 ^ j + a / B64 ^ j)) := hN8
  clear hN8
  clear X0
  clear X1
  have G1x : Hid (Num v8 p1 n1 n1 z1 lo) := G1.out.below hb8
  clear G1
  have G1 := G1x
  clear G1x
  have G2x : Hid (Num v8 p2 n2 n2 z2 mid) := G2.out.below hb8
  clear G2
  have G2 := G2x
  clear G2x
  have G3x : Hid (Num v8 p3 n3 n3 z3 hi) := G3.out.below hb8
  clear G3
  have G3 := G3x
  clear G3x
  have Y0x : Hid (Num v8 r6 t6 t6 y6 (b % B64 ^ j)) := Y0.out.below hb8
  clear Y0
  have Y0 := Y0x
  clear Y0x
  have Y1x : Hid (Num v8 r7 t7 t7 y7 (b / B64 ^ j)) := Y1.out.below hb8
  clear Y1
  have Y1 := Y1x
  clear Y1x
  have hbwy := Below.on hbw hb8
  clear hbw
  have hbw := hbwy
  clear hbwy
  clear hb8
  go_wp2_with fail
  refine (plus_any Y0.out Y1.out SY.out).mono ?_
  rintro e v9 ⟨r9, t9, y9, rfl, hN9, hb9⟩
  have SY2 : Hid (Num v9 r9 t9 t9 y9 (b % B64 ^ j + b / B64 ^ j)) := hN9
  clear hN9
  clear Y0
  clear Y1
  have G1x : Hid (Num v9 p1 n1 n1 z1 lo) := G1.out.below hb9
  clear G1
  have G1 := G1x
  clear G1x
  have G2x : Hid (Num v9 p2 n2 n2 z2 mid) := G2.out.below hb9
  clear G2
  have G2 := G2x
  clear G2x
  have G3x : Hid (Num v9 p3 n3 n3 z3 hi) := G3.out.below hb9
  clear G3
  have G3 := G3x
  clear G3x
  have SX2x : Hid (Num v9 r8 t8 t8 y8 (a % B64 ^ j + a / B64 ^ j)) := SX2.out.below hb9
  clear SX2
  have SX2 := SX2x
  clear SX2x
  have hbwy := Below.on hbw hb9
  clear hbw
  have hbw := hbwy
  clear hbwy
  clear hb9
  go_wp2_with fail
  refine (mul_any SX2.out.at_ SY2.out.at_ SX2.out.nf SY2.out.nf SX2.out.le SY2.out.le).mono ?_
  rintro e v10 ⟨ha10, hb10⟩
  rw [HP.out] at ha10
  obtain ⟨r10, t10, y10, rfl, ho10, hn10, hm10⟩ := ha10.ok HC.out.c2
  have PR : Hid (Num v10 r10 t10 t10 y10 (lo + mid + hi)) := Num.of ho10 hn10 hm10
  clear ha10 ho10 hn10 SX2 SY2
  have G1x : Hid (Num v10 p1 n1 n1 z1 lo) := G1.out.below hb10
  clear G1
  have G1 := G1x
  clear G1x
  have G2x : Hid (Num v10 p2 n2 n2 z2 mid) := G2.out.below hb10
  clear G2
  have G2 := G2x
  clear G2x
  have G3x : Hid (Num v10 p3 n3 n3 z3 hi) := G3.out.below hb10
  clear G3
  have G3 := G3x
  clear G3x
  have hbwy := Below.on hbw hb10
  clear hbw
  have hbw := hbwy
  clear hbwy
  clear hb10
  go_wp2_with fail
  refine (plus_any G1.out G2.out HC.out.c1).mono ?_
  rintro e v11 ⟨r11, t11, y11, rfl, hN11, hb11⟩
  have T1 : Hid (Num v11 r11 t11 t11 y11 (lo + mid)) := hN11
  clear hN11
  clear G1
  clear G2
  have G3x : Hid (Num v11 p3 n3 n3 z3 hi) := G3.out.below hb11
  clear G3
  have G3 := G3x
  clear G3x
  have PRx : Hid (Num v11 r10 t10 t10 y10 (lo + mid + hi)) := PR.out.below hb11
  clear PR
  have PR := PRx
  clear PRx
  have hbwy := Below.on hbw hb11
  clear hbw
  have hbw := hbwy
  clear hbwy
  clear hb11
  go_wp2_with fail
  refine (plus_any T1.out G3.out HC.out.c2).mono ?_
  rintro e v12 ⟨r12, t12, y12, rfl, hN12, hb12⟩
  have T2 : Hid (Num v12 r12 t12 t12 y12 (lo + mid + hi)) := hN12
  clear hN12
  clear T1
  clear G3
  have PRx : Hid (Num v12 r10 t10 t10 y10 (lo + mid + hi)) := PR.out.below hb12
  clear PR
  have PR := PRx
  clear PRx
  have hbwy := Below.on hbw hb12
  clear hbw
  have hbw := hbwy
  clear hbwy
  clear hb12
  obtain rfl : y12 = y10 := T2.out.nf.inj B64_one PR.out.nf
  go_wp2_with fail
  refine (same_t PR.out.at_ T2.out.at_).mono ?_
  rintro e v13 ⟨rfl, hb13⟩
  have hbz := Below.on hbw hb13
  clear hbw hb13 PR T2
  go_wp2_with fail
  go_ret
  exact ⟨rfl, hbz⟩

/-- The law. -/
theorem nf_123 : Nf B64 [1, 2, 3] (valB B64 [1, 2, 3]) := ⟨Dig.cons (by decide) (dig2 (by decide) (by decide)), by intro x hx; simp at hx; omega, rfl⟩
theorem nf_45 : Nf B64 [4, 5] (valB B64 [4, 5]) := ⟨dig2 (by decide) (by decide), by intro x hx; simp at hx; omega, rfl⟩
theorem nf_two {x y : Nat} (hx : x < B64) (hy : y < B64) (h0 : y ≠ 0) : Nf B64 [x, y] (valB B64 [x, y]) := ⟨dig2 hx hy, by intro z hz; simp at hz; omega, rfl⟩
theorem lit_prod : valB B64 [1, 2, 3] * valB B64 [4, 5] < LIM := by
  have h : valB B64 [1, 2, 3] * valB B64 [4, 5] < B64 ^ 5 := by decide +kernel
  refine Nat.lt_of_lt_of_le h ?_
  obtain ⟨K, hK⟩ : ∃ K, K = 8192 := ⟨8192, rfl⟩
  rw [LIM_eq K hK]; exact Nat.pow_le_pow_right B64_pos (by omega)
theorem lit_lo : (valB B64 [1, 2, 3] % B64 ^ 1) * (valB B64 [4, 5] % B64 ^ 1) = 4 := by decide +kernel
theorem lit_mid : (valB B64 [1, 2, 3] % B64 ^ 1) * (valB B64 [4, 5] / B64 ^ 1) + (valB B64 [1, 2, 3] / B64 ^ 1) * (valB B64 [4, 5] % B64 ^ 1) = valB B64 [13, 12] := by decide +kernel
theorem lit_hi : (valB B64 [1, 2, 3] / B64 ^ 1) * (valB B64 [4, 5] / B64 ^ 1) = valB B64 [10, 15] := by decide +kernel
theorem PartsTo.ok {B : Nat} {w' : World} {e : Ending} {lo mid hi P a b : Nat} (h : PartsTo B w' e lo mid hi) (c : JoinC P a b lo mid hi) :
    ∃ p1 m1 z1 p2 m2 z2 p3 m3 z3, e = .returned (.tuple #[.slice p1 m1 m1, .slice p2 m2 m2, .slice p3 m3 m3, .int .i64 0]) ∧ Num w' p1 m1 m1 z1 lo ∧ Num w' p2 m2 m2 z2 mid ∧ Num w' p3 m3 m3 z3 hi := by
  rcases h with ⟨_, _, _, p1, m1, z1, p2, m2, z2, p3, m3, z3, he, h1, h2, h3, _⟩ | ⟨h | h | h, _⟩
  · exact ⟨p1, m1, z1, p2, m2, z2, p3, m3, z3, he, h1, h2, h3⟩
  · have := c.f1; omega
  · have := c.f2; omega
  · have := c.f3; omega
theorem bits_low {lo j : Nat} (h : lo < B64 ^ j * B64 ^ j) : bitsN lo ≤ 128 * j := by
  rw [← lt_pow_bits, show 128 * j = 64 * j + 64 * j by omega, Nat.pow_add, pow64]; exact h

set_option maxRecDepth 20000 in
set_option maxHeartbeats 4000000 in
theorem joins_walk {p q : Option Addr} {n m c d : Nat} {xs ys : List Nat} {w : World} (h : At w p n c xs) (hn : n ≤ 17592186044416) (k : At w q m d ys) (hm : m ≤ 17592186044416) (j : Int) (hjl : -9223372036854775808 ≤ j) (hjh : j ≤ 9223372036854775807) :
    Calls Try.prog 5 #[.slice p n c, .slice q m d, .int .i64 j] w fun e w' => e = .returned (.bool true) ∧ Below w.heap.size w w' := by
  go_enter Try.func5, Try.ntmps5
  go_wp2_with fail
  refine (norm2_any h hn).mono ?_
  rintro e w1 ⟨⟨v1, o1, rfl, H1⟩, hb1⟩
  have k1 := k.below hb1
  clear h k
  go_wp2_with fail
  refine (norm2_any k1 hm).mono ?_
  rintro e w2 ⟨⟨v2, o2, rfl, H2⟩, hb2⟩
  clear k1
  go_wp2_with fail
  rw [show Value.int IntKind.i64 1 = .int .i64 ((1 : Nat) : Int) from rfl]
  refine (parts_any ((lit_at w2 _ [1, 2, 3] 3 rfl rfl nf_123.dig (by omega)).alloc _) (lit_at1 w2 _ _ [4, 5] 2 rfl rfl nf_45.dig (by omega)) nf_123 nf_45 (by omega) (by omega) 1 (by omega) (by omega)).mono ?_
  rintro e v3 ⟨hp3, hb3⟩
  have hb23 : Below w2.heap.size w2 v3 := Below.on (below2 w2 _ _) hb3
  have hb13 : Below w1.heap.size w1 v3 := Below.on hb2 hb23
  have hbw : Below w.heap.size w v3 := Below.on hb1 hb13
  obtain ⟨p1, m1, z1, p2, m2, z2, p3, m3, z3, rfl, n1, n2, n3⟩ := hp3.ok (JoinC.mk' (Nat.pow_pos B64_pos) lit_prod)
  rw [lit_lo] at n1
  rw [lit_mid] at n2
  rw [lit_hi] at n3
  obtain rfl : z1 = [4] := n1.nf.inj B64_one (nf_one (by decide) (by decide))
  obtain rfl : z2 = [13, 12] := n2.nf.inj B64_one (nf_two (by decide) (by decide) (by decide))
  obtain rfl : z3 = [10, 15] := n3.nf.inj B64_one (nf_two (by decide) (by decide) (by decide))
  have L1 : Hid (Num v3 p1 m1 m1 [4] 4) := n1
  have L2 : Hid (Num v3 p2 m2 m2 [13, 12] (valB B64 [13, 12])) := n2
  have L3 : Hid (Num v3 p3 m3 m3 [10, 15] (valB B64 [10, 15])) := n3
  have HB13 : Hid (Below w1.heap.size w1 v3) := hb13
  have HB23 : Hid (Below w2.heap.size w2 v3) := hb23
  clear hp3 n1 n2 n3 hb1 hb2 hb3 hb13 hb23
  go_wp2_with fail
  refine (same_t (L1.out.at_.alloc _) (lit_at v3 _ [4] 1 rfl rfl (dig1 (by decide)) (by omega))).mono ?_
  rintro e v4 ⟨rfl, hb4⟩
  have hbq4 := Below.on (below1 v3 _) hb4
  clear hb4
  have hb4 := hbq4
  clear hbq4
  have HB13y : Hid (Below w1.heap.size w1 v4) := Below.on HB13.out hb4
  clear HB13
  have HB13 := HB13y
  clear HB13y
  have HB23y : Hid (Below w2.heap.size w2 v4) := Below.on HB23.out hb4
  clear HB23
  have HB23 := HB23y
  clear HB23y
  have L1x : Hid (Num v4 p1 m1 m1 [4] 4) := L1.out.below hb4
  clear L1
  have L1 := L1x
  clear L1x
  have L2x : Hid (Num v4 p2 m2 m2 [13, 12] (valB B64 [13, 12])) := L2.out.below hb4
  clear L2
  have L2 := L2x
  clear L2x
  have L3x : Hid (Num v4 p3 m3 m3 [10, 15] (valB B64 [10, 15])) := L3.out.below hb4
  clear L3
  have L3 := L3x
  clear L3x
  have hbwy := Below.on hbw hb4
  clear hbw
  have hbw := hbwy
  clear hbwy
  clear hb4
  clear L1
  go_wp2_with fail
  refine (same_t (L2.out.at_.alloc _) (lit_at v4 _ [13, 12] 2 rfl rfl (dig2 (by decide) (by decide)) (by omega))).mono ?_
  rintro e v5 ⟨rfl, hb5⟩
  have hbq5 := Below.on (below1 v4 _) hb5
  clear hb5
  have hb5 := hbq5
  clear hbq5
  have HB13y : Hid (Below w1.heap.size w1 v5) := Below.on HB13.out hb5
  clear HB13
  have HB13 := HB13y
  clear HB13y
  have HB23y : Hid (Below w2.heap.size w2 v5) := Below.on HB23.out hb5
  clear HB23
  have HB23 := HB23y
  clear HB23y
  have L2x : Hid (Num v5 p2 m2 m2 [13, 12] (valB B64 [13, 12])) := L2.out.below hb5
  clear L2
  have L2 := L2x
  clear L2x
  have L3x : Hid (Num v5 p3 m3 m3 [10, 15] (valB B64 [10, 15])) := L3.out.below hb5
  clear L3
  have L3 := L3x
  clear L3x
  have hbwy := Below.on hbw hb5
  clear hbw
  have hbw := hbwy
  clear hbwy
  clear hb5
  clear L2
  go_wp2_with fail
  refine (same_t (L3.out.at_.alloc _) (lit_at v5 _ [10, 15] 2 rfl rfl (dig2 (by decide) (by decide)) (by omega))).mono ?_
  rintro e v6 ⟨rfl, hb6⟩
  have hbq6 := Below.on (below1 v5 _) hb6
  clear hb6
  have hb6 := hbq6
  clear hbq6
  have HB13y : Hid (Below w1.heap.size w1 v6) := Below.on HB13.out hb6
  clear HB13
  have HB13 := HB13y
  clear HB13y
  have HB23y : Hid (Below w2.heap.size w2 v6) := Below.on HB23.out hb6
  clear HB23
  have HB23 := HB23y
  clear HB23y
  have L3x : Hid (Num v6 p3 m3 m3 [10, 15] (valB B64 [10, 15])) := L3.out.below hb6
  clear L3
  have L3 := L3x
  clear L3x
  have hbwy := Below.on hbw hb6
  clear hbw
  have hbw := hbwy
  clear hbwy
  clear hb6
  clear L3
  go_wp2_with fail
  refine (awake_any _).mono ?_
  rintro e v7 ⟨rfl, hb7⟩
  have HB13y : Hid (Below w1.heap.size w1 v7) := Below.on HB13.out hb7
  clear HB13
  have HB13 := HB13y
  clear HB13y
  have HB23y : Hid (Below w2.heap.size w2 v7) := Below.on HB23.out hb7
  clear HB23
  have HB23 := HB23y
  clear HB23y
  have hbwy := Below.on hbw hb7
  clear hbw
  have hbw := hbwy
  clear hbwy
  clear hb7
  cases o1
  · clear H1 H2 HB13 HB23
    go_wp2_with fail
    go_ret
    exact ⟨rfl, hbw⟩
  cases o2
  · clear H1 H2 HB13 HB23
    go_wp2_with fail
    go_ret
    exact ⟨rfl, hbw⟩
  obtain ⟨p4, m4, us, rfl, A, hm4, nA⟩ := H1.out rfl
  obtain ⟨p5, m5, vs, rfl, B, hm5, nB⟩ := H2.out rfl
  have A4 := A.below HB13.out; have B4 := B.below HB23.out
  clear H1 H2 HB13 HB23 A B
  generalize valB B64 xs = a at *
  generalize valB B64 ys = b at *
  have HX : Hid (Num v7 p4 m4 m4 us a) := ⟨A4, nA, hm4⟩
  have HY : Hid (Num v7 p5 m5 m5 vs b) := ⟨B4, nB, hm5⟩
  clear A4 B4 nA nB
  by_cases hrange : j < 1 ∨ 8192 < j
  · go_wp2_with fail
    refine (parts_arg _ _ j _ hrange).mono ?_
    rintro e w' ⟨rfl, hw⟩
    obtain rfl := hw.symm
    clear hw
    by_cases h1 : j < 1
    · have hd1 : decide (j < 1) = true := decide_eq_true h1
      go_wp2_with fail
      go_ret
      exact ⟨rfl, hbw⟩
    · have hd1 : decide (j < 1) = false := decide_eq_false h1
      have hd2 : decide (8192 < j) = true := decide_eq_true (by omega)
      go_wp2_with fail
      go_ret
      exact ⟨rfl, hbw⟩
  · obtain ⟨jn, rfl⟩ := Int.eq_ofNat_of_zero_le (show 0 ≤ j by omega)
    have hj1 : 1 ≤ jn := by omega
    have hj2 : jn ≤ 8192 := by omega
    have hd1 : decide ((jn : Int) < 1) = false := decide_eq_false (by omega)
    have hd2 : decide ((8192 : Int) < (jn : Int)) = false := decide_eq_false (by omega)
    clear hrange hjl hjh
    go_wp2_with fail
    refine (parts_any HX.out.at_ HY.out.at_ HX.out.nf HY.out.nf HX.out.le HY.out.le jn hj1 hj2).mono ?_
    rintro e v8 ⟨hp8, hb8⟩
    have HXx : Hid (Num v8 p4 m4 m4 us a) := HX.out.below hb8
    clear HX
    have HX := HXx
    clear HXx
    have HYx : Hid (Num v8 p5 m5 m5 vs b) := HY.out.below hb8
    clear HY
    have HY := HYx
    clear HYx
    have hbwy := Below.on hbw hb8
    clear hbw
    have hbw := hbwy
    clear hbwy
    clear hb8
    obtain ⟨lo, elo⟩ : ∃ x, x = (a % B64 ^ jn) * (b % B64 ^ jn) := ⟨_, rfl⟩
    obtain ⟨mid, emid⟩ : ∃ x, x = (a % B64 ^ jn) * (b / B64 ^ jn) + (a / B64 ^ jn) * (b % B64 ^ jn) := ⟨_, rfl⟩
    obtain ⟨hi, ehi⟩ : ∃ x, x = (a / B64 ^ jn) * (b / B64 ^ jn) := ⟨_, rfl⟩
    have ELO : Hid (lo = (a % B64 ^ jn) * (b % B64 ^ jn)) := elo
    have EMID : Hid (mid = (a % B64 ^ jn) * (b / B64 ^ jn) + (a / B64 ^ jn) * (b % B64 ^ jn)) := emid
    have EHI : Hid (hi = (a / B64 ^ jn) * (b / B64 ^ jn)) := ehi
    rw [← elo, ← emid, ← ehi] at hp8
    clear elo emid ehi
    by_cases hab : a * b < LIM
    · have HAB : Hid (a * b < LIM) := hab
      have hC : JoinC (B64 ^ jn) a b lo mid hi := by rw [ELO.out, EMID.out, EHI.out]; exact JoinC.mk' (Nat.pow_pos B64_pos) hab
      have HC : Hid (JoinC (B64 ^ jn) a b lo mid hi) := hC
      obtain ⟨q1, l1, s1, q2, l2, s2, q3, l3, s3, rfl, g1, g2, g3⟩ := hp8.ok hC
      have G1 : Hid (Num v8 q1 l1 l1 s1 lo) := g1
      have G2 : Hid (Num v8 q2 l2 l2 s2 mid) := g2
      have G3 : Hid (Num v8 q3 l3 l3 s3 hi) := g3
      clear hab hC hp8 g1 g2 g3
      have hj64 : 64 * jn ≤ 9223372036854775807 := by omega
      have hwj : IntKind.i64.wrap ((64 : Int) * (jn : Int)) = ((64 * jn : Nat) : Int) := wrap_mulj 64 jn (by omega)
      have hwk : IntKind.i64.wrap ((128 : Int) * (jn : Int)) = ((128 * jn : Nat) : Int) := wrap_mulj 128 jn (by omega)
      go_wp2_with fail
      refine (mul_any HX.out.at_ HY.out.at_ HX.out.nf HY.out.nf HX.out.le HY.out.le).mono ?_
      rintro e v9 ⟨ha9, hb9⟩
      obtain ⟨r9, t9, y9, rfl, ho9, hn9, hm9⟩ := ha9.ok HAB.out
      have PR : Hid (Num v9 r9 t9 t9 y9 (a * b)) := Num.of ho9 hn9 hm9
      clear ha9 ho9 hn9
      have HXx : Hid (Num v9 p4 m4 m4 us a) := HX.out.below hb9
      clear HX
      have HX := HXx
      clear HXx
      have HYx : Hid (Num v9 p5 m5 m5 vs b) := HY.out.below hb9
      clear HY
      have HY := HYx
      clear HYx
      have G1x : Hid (Num v9 q1 l1 l1 s1 lo) := G1.out.below hb9
      clear G1
      have G1 := G1x
      clear G1x
      have G2x : Hid (Num v9 q2 l2 l2 s2 mid) := G2.out.below hb9
      clear G2
      have G2 := G2x
      clear G2x
      have G3x : Hid (Num v9 q3 l3 l3 s3 hi) := G3.out.below hb9
      clear G3
      have G3 := G3x
      clear G3x
      have hbwy := Below.on hbw hb9
      clear hbw
      have hbw := hbwy
      clear hbwy
      clear hb9
      have hbl : bitsN lo ≤ 128 * jn := bits_low HC.out.low
      go_wp2_with fail
      refine (bits_any G1.out.at_ (by have := G1.out.le; omega)).mono ?_
      rintro e w' ⟨rfl, hw⟩
      obtain rfl := hw.symm
      clear hw
      rw [G1.out.nf.val]
      have hdb : decide ((128 : Int) * (jn : Int) < ((bitsN lo : Nat) : Int)) = false := decide_eq_false (by omega)
      go_wp2_with fail
      rw [show ((64 : Int) * (jn : Int)) = ((64 * jn : Nat) : Int) by omega]
      refine (shl_nf G2.out.at_ G2.out.nf G2.out.le (64 * jn) hj64).mono ?_
      rintro e v10 ⟨ha10, hb10⟩
      rw [pow64] at ha10
      obtain ⟨r10, t10, y10, rfl, ho10, hn10, hm10⟩ := ha10.ok HC.out.f4
      have M1 : Hid (Num v10 r10 t10 t10 y10 (B64 ^ jn * mid)) := Num.of ho10 hn10 hm10
      clear ha10 ho10 hn10
      have HXx : Hid (Num v10 p4 m4 m4 us a) := HX.out.below hb10
      clear HX
      have HX := HXx
      clear HXx
      have HYx : Hid (Num v10 p5 m5 m5 vs b) := HY.out.below hb10
      clear HY
      have HY := HYx
      clear HYx
      have G1x : Hid (Num v10 q1 l1 l1 s1 lo) := G1.out.below hb10
      clear G1
      have G1 := G1x
      clear G1x
      have G2x : Hid (Num v10 q2 l2 l2 s2 mid) := G2.out.below hb10
      clear G2
      have G2 := G2x
      clear G2x
      have G3x : Hid (Num v10 q3 l3 l3 s3 hi) := G3.out.below hb10
      clear G3
      have G3 := G3x
      clear G3x
      have PRx : Hid (Num v10 r9 t9 t9 y9 (a * b)) := PR.out.below hb10
      clear PR
      have PR := PRx
      clear PRx
      have hbwy := Below.on hbw hb10
      clear hbw
      have hbw := hbwy
      clear hbwy
      clear hb10
      go_wp2_with fail
      rw [show ((64 : Int) * (jn : Int)) = ((64 * jn : Nat) : Int) by omega]
      refine (shl_nf G3.out.at_ G3.out.nf G3.out.le (64 * jn) hj64).mono ?_
      rintro e v11 ⟨ha11, hb11⟩
      rw [pow64] at ha11
      obtain ⟨r11, t11, y11, rfl, ho11, hn11, hm11⟩ := ha11.ok HC.out.f5
      have M2 : Hid (Num v11 r11 t11 t11 y11 (B64 ^ jn * hi)) := Num.of ho11 hn11 hm11
      clear ha11 ho11 hn11
      have HXx : Hid (Num v11 p4 m4 m4 us a) := HX.out.below hb11
      clear HX
      have HX := HXx
      clear HXx
      have HYx : Hid (Num v11 p5 m5 m5 vs b) := HY.out.below hb11
      clear HY
      have HY := HYx
      clear HYx
      have G1x : Hid (Num v11 q1 l1 l1 s1 lo) := G1.out.below hb11
      clear G1
      have G1 := G1x
      clear G1x
      have G2x : Hid (Num v11 q2 l2 l2 s2 mid) := G2.out.below hb11
      clear G2
      have G2 := G2x
      clear G2x
      have G3x : Hid (Num v11 q3 l3 l3 s3 hi) := G3.out.below hb11
      clear G3
      have G3 := G3x
      clear G3x
      have PRx : Hid (Num v11 r9 t9 t9 y9 (a * b)) := PR.out.below hb11
      clear PR
      have PR := PRx
      clear PRx
      have M1x : Hid (Num v11 r10 t10 t10 y10 (B64 ^ jn * mid)) := M1.out.below hb11
      clear M1
      have M1 := M1x
      clear M1x
      have hbwy := Below.on hbw hb11
      clear hbw
      have hbw := hbwy
      clear hbwy
      clear hb11
      go_wp2_with fail
      rw [show ((64 : Int) * (jn : Int)) = ((64 * jn : Nat) : Int) by omega]
      refine (shl_nf M2.out.at_ M2.out.nf M2.out.le (64 * jn) hj64).mono ?_
      rintro e v12 ⟨ha12, hb12⟩
      rw [pow64] at ha12
      obtain ⟨r12, t12, y12, rfl, ho12, hn12, hm12⟩ := ha12.ok HC.out.f6
      have M3 : Hid (Num v12 r12 t12 t12 y12 (B64 ^ jn * (B64 ^ jn * hi))) := Num.of ho12 hn12 hm12
      clear ha12 ho12 hn12
      have HXx : Hid (Num v12 p4 m4 m4 us a) := HX.out.below hb12
      clear HX
      have HX := HXx
      clear HXx
      have HYx : Hid (Num v12 p5 m5 m5 vs b) := HY.out.below hb12
      clear HY
      have HY := HYx
      clear HYx
      have G1x : Hid (Num v12 q1 l1 l1 s1 lo) := G1.out.below hb12
      clear G1
      have G1 := G1x
      clear G1x
      have G2x : Hid (Num v12 q2 l2 l2 s2 mid) := G2.out.below hb12
      clear G2
      have G2 := G2x
      clear G2x
      have G3x : Hid (Num v12 q3 l3 l3 s3 hi) := G3.out.below hb12
      clear G3
      have G3 := G3x
      clear G3x
      have PRx : Hid (Num v12 r9 t9 t9 y9 (a * b)) := PR.out.below hb12
      clear PR
      have PR := PRx
      clear PRx
      have M1x : Hid (Num v12 r10 t10 t10 y10 (B64 ^ jn * mid)) := M1.out.below hb12
      clear M1
      have M1 := M1x
      clear M1x
      have M2x : Hid (Num v12 r11 t11 t11 y11 (B64 ^ jn * hi)) := M2.out.below hb12
      clear M2
      have M2 := M2x
      clear M2x
      have hbwy := Below.on hbw hb12
      clear hbw
      have hbw := hbwy
      clear hbwy
      clear hb12
      clear M2
      go_wp2_with fail
      refine (plus_any G1.out M1.out HC.out.s1).mono ?_
      rintro e v13 ⟨r13, t13, y13, rfl, hN13, hb13⟩
      have T1 : Hid (Num v13 r13 t13 t13 y13 (lo + B64 ^ jn * mid)) := hN13
      clear hN13
      have HXx : Hid (Num v13 p4 m4 m4 us a) := HX.out.below hb13
      clear HX
      have HX := HXx
      clear HXx
      have HYx : Hid (Num v13 p5 m5 m5 vs b) := HY.out.below hb13
      clear HY
      have HY := HYx
      clear HYx
      have G1x : Hid (Num v13 q1 l1 l1 s1 lo) := G1.out.below hb13
      clear G1
      have G1 := G1x
      clear G1x
      have G2x : Hid (Num v13 q2 l2 l2 s2 mid) := G2.out.below hb13
      clear G2
      have G2 := G2x
      clear G2x
      have G3x : Hid (Num v13 q3 l3 l3 s3 hi) := G3.out.below hb13
      clear G3
      have G3 := G3x
      clear G3x
      have PRx : Hid (Num v13 r9 t9 t9 y9 (a * b)) := PR.out.below hb13
      clear PR
      have PR := PRx
      clear PRx
      have M1x : Hid (Num v13 r10 t10 t10 y10 (B64 ^ jn * mid)) := M1.out.below hb13
      clear M1
      have M1 := M1x
      clear M1x
      have M3x : Hid (Num v13 r12 t12 t12 y12 (B64 ^ jn * (B64 ^ jn * hi))) := M3.out.below hb13
      clear M3
      have M3 := M3x
      clear M3x
      have hbwy := Below.on hbw hb13
      clear hbw
      have hbw := hbwy
      clear hbwy
      clear hb13
      clear M1
      go_wp2_with fail
      refine (plus_any T1.out M3.out (by rw [HC.out.s2]; exact HAB.out)).mono ?_
      rintro e v14 ⟨r14, t14, y14, rfl, hN14, hb14⟩
      have T2 : Hid (Num v14 r14 t14 t14 y14 (lo + B64 ^ jn * mid + B64 ^ jn * (B64 ^ jn * hi))) := hN14
      clear hN14
      have HXx : Hid (Num v14 p4 m4 m4 us a) := HX.out.below hb14
      clear HX
      have HX := HXx
      clear HXx
      have HYx : Hid (Num v14 p5 m5 m5 vs b) := HY.out.below hb14
      clear HY
      have HY := HYx
      clear HYx
      have G1x : Hid (Num v14 q1 l1 l1 s1 lo) := G1.out.below hb14
      clear G1
      have G1 := G1x
      clear G1x
      have G2x : Hid (Num v14 q2 l2 l2 s2 mid) := G2.out.below hb14
      clear G2
      have G2 := G2x
      clear G2x
      have G3x : Hid (Num v14 q3 l3 l3 s3 hi) := G3.out.below hb14
      clear G3
      have G3 := G3x
      clear G3x
      have PRx : Hid (Num v14 r9 t9 t9 y9 (a * b)) := PR.out.below hb14
      clear PR
      have PR := PRx
      clear PRx
      have M3x : Hid (Num v14 r12 t12 t12 y12 (B64 ^ jn * (B64 ^ jn * hi))) := M3.out.below hb14
      clear M3
      have M3 := M3x
      clear M3x
      have T1x : Hid (Num v14 r13 t13 t13 y13 (lo + B64 ^ jn * mid)) := T1.out.below hb14
      clear T1
      have T1 := T1x
      clear T1x
      have hbwy := Below.on hbw hb14
      clear hbw
      have hbw := hbwy
      clear hbwy
      clear hb14
      clear T1
      clear M3
      obtain rfl : y14 = y9 := by
        have := T2.out.nf
        rw [HC.out.s2] at this
        exact this.inj B64_one PR.out.nf
      go_wp2_with fail
      refine (same_t T2.out.at_ PR.out.at_).mono ?_
      rintro e v15 ⟨rfl, hb15⟩
      have HXx : Hid (Num v15 p4 m4 m4 us a) := HX.out.below hb15
      clear HX
      have HX := HXx
      clear HXx
      have HYx : Hid (Num v15 p5 m5 m5 vs b) := HY.out.below hb15
      clear HY
      have HY := HYx
      clear HYx
      have G1x : Hid (Num v15 q1 l1 l1 s1 lo) := G1.out.below hb15
      clear G1
      have G1 := G1x
      clear G1x
      have G2x : Hid (Num v15 q2 l2 l2 s2 mid) := G2.out.below hb15
      clear G2
      have G2 := G2x
      clear G2x
      have G3x : Hid (Num v15 q3 l3 l3 s3 hi) := G3.out.below hb15
      clear G3
      have G3 := G3x
      clear G3x
      have PRx : Hid (Num v15 r9 t9 t9 y14 (a * b)) := PR.out.below hb15
      clear PR
      have PR := PRx
      clear PRx
      have T2x : Hid (Num v15 r14 t14 t14 y14 (lo + B64 ^ jn * mid + B64 ^ jn * (B64 ^ jn * hi))) := T2.out.below hb15
      clear T2
      have T2 := T2x
      clear T2x
      have hbwy := Below.on hbw hb15
      clear hbw
      have hbw := hbwy
      clear hbwy
      clear hb15
      clear T2
      clear PR
      go_wp2_with fail
      refine (crossed_any jn hj1 hj2 HX.out HY.out G1.out G2.out G3.out HC.out ELO.out EMID.out EHI.out).mono ?_
      rintro e v16 ⟨rfl, hb16⟩
      have HXx : Hid (Num v16 p4 m4 m4 us a) := HX.out.below hb16
      clear HX
      have HX := HXx
      clear HXx
      have HYx : Hid (Num v16 p5 m5 m5 vs b) := HY.out.below hb16
      clear HY
      have HY := HYx
      clear HYx
      have G1x : Hid (Num v16 q1 l1 l1 s1 lo) := G1.out.below hb16
      clear G1
      have G1 := G1x
      clear G1x
      have G2x : Hid (Num v16 q2 l2 l2 s2 mid) := G2.out.below hb16
      clear G2
      have G2 := G2x
      clear G2x
      have G3x : Hid (Num v16 q3 l3 l3 s3 hi) := G3.out.below hb16
      clear G3
      have G3 := G3x
      clear G3x
      have hbwy := Below.on hbw hb16
      clear hbw
      have hbw := hbwy
      clear hbwy
      clear hb16
      go_wp2_with fail
      go_ret
      exact ⟨rfl, hbw⟩
    · have HAB : Hid (LIM ≤ a * b) := by show LIM ≤ a * b; omega
      clear hab
      rcases hp8 with ⟨_, _, _, q1, l1, s1, q2, l2, s2, q3, l3, s3, rfl, _, _, _, _⟩ | ⟨_, rfl⟩
      · go_wp2_with fail
        refine (mul_any HX.out.at_ HY.out.at_ HX.out.nf HY.out.nf HX.out.le HY.out.le).mono ?_
        rintro e v9 ⟨ha9, hb9⟩
        obtain rfl := ha9.no HAB.out
        clear ha9
        have HXx : Hid (Num v9 p4 m4 m4 us a) := HX.out.below hb9
        clear HX
        have HX := HXx
        clear HXx
        have HYx : Hid (Num v9 p5 m5 m5 vs b) := HY.out.below hb9
        clear HY
        have HY := HYx
        clear HYx
        have hbwy := Below.on hbw hb9
        clear hbw
        have hbw := hbwy
        clear hbwy
        clear hb9
        go_wp2_with fail
        go_ret
        exact ⟨rfl, hbw⟩
      · go_wp2_with fail
        refine (mul_any HX.out.at_ HY.out.at_ HX.out.nf HY.out.nf HX.out.le HY.out.le).mono ?_
        rintro e v9 ⟨ha9, hb9⟩
        obtain rfl := ha9.no HAB.out
        clear ha9
        have HXx : Hid (Num v9 p4 m4 m4 us a) := HX.out.below hb9
        clear HX
        have HX := HXx
        clear HXx
        have HYx : Hid (Num v9 p5 m5 m5 vs b) := HY.out.below hb9
        clear HY
        have HY := HYx
        clear HYx
        have hbwy := Below.on hbw hb9
        clear hbw
        have hbw := hbwy
        clear hbwy
        clear hb9
        go_wp2_with fail
        go_ret
        exact ⟨rfl, hbw⟩
end Go.Proofs.Ytjkhpkjpiifhoaa
