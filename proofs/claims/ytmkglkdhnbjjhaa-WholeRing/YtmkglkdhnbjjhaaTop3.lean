import Derived.Test.YtmkglkdhnbjjhaaTop0
import Derived.Test.YtmkglkdhnbjjhaaJoinMath
namespace Go.Proofs.Ytmkglkdhnbjjhaa
open Go.RowKit Go.Shelf

theorem sq64 (j : Nat) : (2 : Nat) ^ (128 * j) = B64 ^ j * B64 ^ j := by
  rw [show 128 * j = 64 * j + 64 * j by omega, Nat.pow_add, pow64]

set_option maxRecDepth 20000 in
set_option maxHeartbeats 4000000 in
theorem ringparts_any {p q : Option Addr} {n m c d : Nat} {xs ys : List Nat} {a b i : Nat} {w : World} (hi : i = 250) (h : Num w p n c xs a) (k : Num w q m d ys b) (ha : a < B64 ^ i) (hb : b < B64 ^ i) (jn : Nat) (hj1 : 1 ≤ jn) (hj2 : jn ≤ 260) :
    Calls Try.prog 16 #[.slice p n c, .slice q m d, .int .i64 jn] w fun e w' => e = .returned (.bool true) ∧ Below w.heap.size w w' := by
  have HX : Hid (Num w p n c xs a) := h
  have HY : Hid (Num w q m d ys b) := k
  have HAB : Hid (a * b < LIM) := lim_of (i + i) (lim_mul i i ha hb) (by omega)
  clear hi h k ha hb
  have hjm : jn ≤ 8192 := by omega
  have hj64 : 64 * jn ≤ 9223372036854775807 := by omega
  have hj128 : 128 * jn ≤ 9223372036854775807 := by omega
  have hwj : IntKind.i64.wrap ((64 : Int) * (jn : Int)) = ((64 * jn : Nat) : Int) := wrap_mulj 64 jn (by omega)
  have hwk : IntKind.i64.wrap ((128 : Int) * (jn : Int)) = ((128 * jn : Nat) : Int) := wrap_mulj 128 jn (by omega)
  go_enter Try.func16, Try.ntmps16
  go_wp2_with fail
  refine (parts_any HX.out.at_ HY.out.at_ HX.out.nf HY.out.nf HX.out.le HY.out.le jn hj1 hjm).mono ?_
  rintro e v8 ⟨hp8, hb8⟩
  have HXx : Hid (Num v8 p n c xs a) := HX.out.below hb8
  clear HX
  have HX := HXx
  clear HXx
  have HYx : Hid (Num v8 q m d ys b) := HY.out.below hb8
  clear HY
  have HY := HYx
  clear HYx
  have hbw := hb8
  clear hb8
  obtain ⟨lo, elo⟩ : ∃ x, x = (a % B64 ^ jn) * (b % B64 ^ jn) := ⟨_, rfl⟩
  obtain ⟨mid, emid⟩ : ∃ x, x = (a % B64 ^ jn) * (b / B64 ^ jn) + (a / B64 ^ jn) * (b % B64 ^ jn) := ⟨_, rfl⟩
  obtain ⟨hi, ehi⟩ : ∃ x, x = (a / B64 ^ jn) * (b / B64 ^ jn) := ⟨_, rfl⟩
  rw [← elo, ← emid, ← ehi] at hp8
  have hC : JoinC (B64 ^ jn) a b lo mid hi := by rw [elo, emid, ehi]; exact JoinC.mk' (Nat.pow_pos B64_pos) HAB.out
  have HC : Hid (JoinC (B64 ^ jn) a b lo mid hi) := hC
  obtain ⟨q1, l1, s1, q2, l2, s2, q3, l3, s3, rfl, g1, g2, g3⟩ := hp8.ok hC
  have G1 : Hid (Num v8 q1 l1 l1 s1 lo) := g1
  have G2 : Hid (Num v8 q2 l2 l2 s2 mid) := g2
  have G3 : Hid (Num v8 q3 l3 l3 s3 hi) := g3
  clear elo emid ehi hC hp8 g1 g2 g3
  go_wp2_with fail
  try rw [show ((64 : Int) * (jn : Int)) = ((64 * jn : Nat) : Int) by omega]
  refine (shl_nf G2.out.at_ G2.out.nf G2.out.le (64 * jn) hj64).mono ?_
  rintro e v10 ⟨ha10, hb10⟩
  rw [pow64] at ha10
  obtain ⟨r10, t10, y10, rfl, ho10, hn10, hm10⟩ := ha10.ok HC.out.f4
  have M1 : Hid (Num v10 r10 t10 t10 y10 (B64 ^ jn * mid)) := Num.of ho10 hn10 hm10
  clear ha10 ho10 hn10
  have HXx : Hid (Num v10 p n c xs a) := HX.out.below hb10
  clear HX
  have HX := HXx
  clear HXx
  have HYx : Hid (Num v10 q m d ys b) := HY.out.below hb10
  clear HY
  have HY := HYx
  clear HYx
  have G1x : Hid (Num v10 q1 l1 l1 s1 lo) := G1.out.below hb10
  clear G1
  have G1 := G1x
  clear G1x
  have G2x : Hid (Num v10 q2 l2 l2 s2 mid) := G2.out.below hb10
  clear G2
  have G2 := G2x
  clear G2x
  have G3x : Hid (Num v10 q3 l3 l3 s3 hi) := G3.out.below hb10
  clear G3
  have G3 := G3x
  clear G3x
  have hbwy := Below.on hbw hb10
  clear hbw
  have hbw := hbwy
  clear hbwy
  clear hb10
  clear G2
  go_wp2_with fail
  try rw [show ((128 : Int) * (jn : Int)) = ((128 * jn : Nat) : Int) by omega]
  refine (shl_nf G3.out.at_ G3.out.nf G3.out.le (128 * jn) hj128).mono ?_
  rintro e v12 ⟨ha12, hb12⟩
  rw [sq64, Nat.mul_assoc] at ha12
  obtain ⟨r12, t12, y12, rfl, ho12, hn12, hm12⟩ := ha12.ok HC.out.f6
  have M3 : Hid (Num v12 r12 t12 t12 y12 (B64 ^ jn * (B64 ^ jn * hi))) := Num.of ho12 hn12 hm12
  clear ha12 ho12 hn12
  have HXx : Hid (Num v12 p n c xs a) := HX.out.below hb12
  clear HX
  have HX := HXx
  clear HXx
  have HYx : Hid (Num v12 q m d ys b) := HY.out.below hb12
  clear HY
  have HY := HYx
  clear HYx
  have G1x : Hid (Num v12 q1 l1 l1 s1 lo) := G1.out.below hb12
  clear G1
  have G1 := G1x
  clear G1x
  have G3x : Hid (Num v12 q3 l3 l3 s3 hi) := G3.out.below hb12
  clear G3
  have G3 := G3x
  clear G3x
  have M1x : Hid (Num v12 r10 t10 t10 y10 (B64 ^ jn * mid)) := M1.out.below hb12
  clear M1
  have M1 := M1x
  clear M1x
  have hbwy := Below.on hbw hb12
  clear hbw
  have hbw := hbwy
  clear hbwy
  clear hb12
  clear G3
  go_wp2_with fail
  refine (add_ord G1.out.at_ M1.out.at_ G1.out.nf M1.out.nf G1.out.le M1.out.le).mono ?_
  rintro e v13 ⟨ha13, hb13⟩
  obtain ⟨r13, t13, y13, rfl, ho13, hn13, hm13⟩ := ha13.ok HC.out.s1
  have T1 : Hid (Num v13 r13 t13 t13 y13 (lo + B64 ^ jn * mid)) := Num.of ho13 hn13 hm13
  clear ha13 ho13 hn13
  have HXx : Hid (Num v13 p n c xs a) := HX.out.below hb13
  clear HX
  have HX := HXx
  clear HXx
  have HYx : Hid (Num v13 q m d ys b) := HY.out.below hb13
  clear HY
  have HY := HYx
  clear HYx
  have G1x : Hid (Num v13 q1 l1 l1 s1 lo) := G1.out.below hb13
  clear G1
  have G1 := G1x
  clear G1x
  have M1x : Hid (Num v13 r10 t10 t10 y10 (B64 ^ jn * mid)) := M1.out.below hb13
  clear M1
  have M1 := M1x
  clear M1x
  have M3x : Hid (Num v13 r12 t12 t12 y12 (B64 ^ jn * (B64 ^ jn * hi))) := M3.out.below hb13
  clear M3
  have M3 := M3x
  clear M3x
  have hbwy := Below.on hbw hb13
  clear hbw
  have hbw := hbwy
  clear hbwy
  clear hb13
  clear G1
  clear M1
  go_wp2_with fail
  refine (add_ord T1.out.at_ M3.out.at_ T1.out.nf M3.out.nf T1.out.le M3.out.le).mono ?_
  rintro e v14 ⟨ha14, hb14⟩
  obtain ⟨r14, t14, y14, rfl, ho14, hn14, hm14⟩ := ha14.ok (by rw [HC.out.s2]; exact HAB.out)
  have T2 : Hid (Num v14 r14 t14 t14 y14 (lo + B64 ^ jn * mid + B64 ^ jn * (B64 ^ jn * hi))) := Num.of ho14 hn14 hm14
  clear ha14 ho14 hn14
  have HXx : Hid (Num v14 p n c xs a) := HX.out.below hb14
  clear HX
  have HX := HXx
  clear HXx
  have HYx : Hid (Num v14 q m d ys b) := HY.out.below hb14
  clear HY
  have HY := HYx
  clear HYx
  have M3x : Hid (Num v14 r12 t12 t12 y12 (B64 ^ jn * (B64 ^ jn * hi))) := M3.out.below hb14
  clear M3
  have M3 := M3x
  clear M3x
  have T1x : Hid (Num v14 r13 t13 t13 y13 (lo + B64 ^ jn * mid)) := T1.out.below hb14
  clear T1
  have T1 := T1x
  clear T1x
  have hbwy := Below.on hbw hb14
  clear hbw
  have hbw := hbwy
  clear hbwy
  clear hb14
  clear T1
  clear M3
  go_wp2_with fail
  refine (mul_any HX.out.at_ HY.out.at_ HX.out.nf HY.out.nf HX.out.le HY.out.le).mono ?_
  rintro e v9 ⟨ha9, hb9⟩
  obtain ⟨r9, t9, y9, rfl, ho9, hn9, hm9⟩ := ha9.ok HAB.out
  have PR : Hid (Num v9 r9 t9 t9 y9 (a * b)) := Num.of ho9 hn9 hm9
  clear ha9 ho9 hn9
  have HXx : Hid (Num v9 p n c xs a) := HX.out.below hb9
  clear HX
  have HX := HXx
  clear HXx
  have HYx : Hid (Num v9 q m d ys b) := HY.out.below hb9
  clear HY
  have HY := HYx
  clear HYx
  have T2x : Hid (Num v9 r14 t14 t14 y14 (lo + B64 ^ jn * mid + B64 ^ jn * (B64 ^ jn * hi))) := T2.out.below hb9
  clear T2
  have T2 := T2x
  clear T2x
  have hbwy := Below.on hbw hb9
  clear hbw
  have hbw := hbwy
  clear hbwy
  clear hb9
  clear HX
  clear HY
  obtain rfl : y14 = y9 := by
    have := T2.out.nf
    rw [HC.out.s2] at this
    exact this.inj B64_one PR.out.nf
  go_wp2_with fail
  refine (tsame_t T2.out.at_ PR.out.at_).mono ?_
  rintro e v15 ⟨rfl, hb15⟩
  have T2x : Hid (Num v15 r14 t14 t14 y14 (lo + B64 ^ jn * mid + B64 ^ jn * (B64 ^ jn * hi))) := T2.out.below hb15
  clear T2
  have T2 := T2x
  clear T2x
  have PRx : Hid (Num v15 r9 t9 t9 y14 (a * b)) := PR.out.below hb15
  clear PR
  have PR := PRx
  clear PRx
  have hbwy := Below.on hbw hb15
  clear hbw
  have hbw := hbwy
  clear hbwy
  clear hb15
  clear T2
  clear PR
  go_wp2_with fail
  go_ret
  exact ⟨rfl, hbw⟩

theorem lim_pow {v : Nat} (hv : v < B64) (t : Nat) (ht : t ≤ 8000) : v ^ t < LIM := by
  refine lim_of (t + 1) ?_ (by omega)
  have h1 : v ^ t ≤ B64 ^ t := Nat.pow_le_pow_left (Nat.le_of_lt hv) t
  have h2 : B64 ^ t < B64 ^ (t + 1) := Nat.pow_lt_pow_right B64_one (Nat.lt_succ_self t)
  omega
theorem wrap_addij (i j : Nat) (hi : i < 40) (hj : j < 40) : IntKind.i64.wrap ((i : Int) + (j : Int)) = ((i + j : Nat) : Int) := by
  simp [IntKind.wrap, IntKind.signed, IntKind.bits]
  omega

set_option maxRecDepth 20000 in
set_option maxHeartbeats 4000000 in
theorem ringpowers_any (v : Nat) (hv : v < B64) (i j : Nat) (hi : i < 40) (hj : j < 40) (w : World) :
    Calls Try.prog 19 #[U v, .int .i64 i, .int .i64 j] w fun e w' => e = .returned (.bool true) ∧ Below w.heap.size w w' := by
  have HV : Hid (v < B64) := hv
  have L1 : Hid (v ^ i < LIM) := lim_pow hv i (by omega)
  have L2 : Hid (v ^ j < LIM) := lim_pow hv j (by omega)
  have L3 : Hid (v ^ (i + j) < LIM) := lim_pow hv (i + j) (by omega)
  have hw := wrap_addij i j hi hj
  clear hv
  go_enter Try.func19, Try.ntmps19
  go_wp2_with fail
  refine (word_any v w HV.out).mono ?_
  rintro e v1 ⟨r1, t1, y1, rfl, ho1, hn1, hm1, hb1⟩
  have A : Hid (Num v1 r1 t1 t1 y1 v) := Num.of ho1 hn1 (by omega)
  clear ho1 hn1
  have hbw := hb1
  clear hb1
  go_wp2_with fail
  refine (pow_any A.out.at_ A.out.nf A.out.le i (by omega)).mono ?_
  rintro e v2 ⟨ha2, hb2⟩
  obtain ⟨r2, t2, y2, rfl, ho2, hn2, hm2⟩ := ha2.ok L1.out
  have X : Hid (Num v2 r2 t2 t2 y2 (v ^ i)) := Num.of ho2 hn2 hm2
  clear ha2 ho2 hn2
  have Ax : Hid (Num v2 r1 t1 t1 y1 v) := A.out.below hb2
  clear A
  have A := Ax
  clear Ax
  have hbwy := Below.on hbw hb2
  clear hbw
  have hbw := hbwy
  clear hbwy
  clear hb2
  go_wp2_with fail
  refine (pow_any A.out.at_ A.out.nf A.out.le j (by omega)).mono ?_
  rintro e v3 ⟨ha3, hb3⟩
  obtain ⟨r3, t3, y3, rfl, ho3, hn3, hm3⟩ := ha3.ok L2.out
  have Y : Hid (Num v3 r3 t3 t3 y3 (v ^ j)) := Num.of ho3 hn3 hm3
  clear ha3 ho3 hn3
  have Ax : Hid (Num v3 r1 t1 t1 y1 v) := A.out.below hb3
  clear A
  have A := Ax
  clear Ax
  have Xx : Hid (Num v3 r2 t2 t2 y2 (v ^ i)) := X.out.below hb3
  clear X
  have X := Xx
  clear Xx
  have hbwy := Below.on hbw hb3
  clear hbw
  have hbw := hbwy
  clear hbwy
  clear hb3
  go_wp2_with fail
  try rw [show ((i : Int) + (j : Int)) = ((i + j : Nat) : Int) by omega]
  refine (pow_any A.out.at_ A.out.nf A.out.le (i + j) (by omega)).mono ?_
  rintro e v4 ⟨ha4, hb4⟩
  obtain ⟨r4, t4, y4, rfl, ho4, hn4, hm4⟩ := ha4.ok L3.out
  have Z : Hid (Num v4 r4 t4 t4 y4 (v ^ (i + j))) := Num.of ho4 hn4 hm4
  clear ha4 ho4 hn4
  have Ax : Hid (Num v4 r1 t1 t1 y1 v) := A.out.below hb4
  clear A
  have A := Ax
  clear Ax
  have Xx : Hid (Num v4 r2 t2 t2 y2 (v ^ i)) := X.out.below hb4
  clear X
  have X := Xx
  clear Xx
  have Yx : Hid (Num v4 r3 t3 t3 y3 (v ^ j)) := Y.out.below hb4
  clear Y
  have Y := Yx
  clear Yx
  have hbwy := Below.on hbw hb4
  clear hbw
  have hbw := hbwy
  clear hbwy
  clear hb4
  clear A
  go_wp2_with fail
  refine (mul_any X.out.at_ Y.out.at_ X.out.nf Y.out.nf X.out.le Y.out.le).mono ?_
  rintro e v5 ⟨ha5, hb5⟩
  obtain ⟨r5, t5, y5, rfl, ho5, hn5, hm5⟩ := ha5.ok (by rw [← Nat.pow_add]; exact L3.out)
  have XY : Hid (Num v5 r5 t5 t5 y5 (v ^ i * v ^ j)) := Num.of ho5 hn5 hm5
  clear ha5 ho5 hn5
  have Xx : Hid (Num v5 r2 t2 t2 y2 (v ^ i)) := X.out.below hb5
  clear X
  have X := Xx
  clear Xx
  have Yx : Hid (Num v5 r3 t3 t3 y3 (v ^ j)) := Y.out.below hb5
  clear Y
  have Y := Yx
  clear Yx
  have Zx : Hid (Num v5 r4 t4 t4 y4 (v ^ (i + j))) := Z.out.below hb5
  clear Z
  have Z := Zx
  clear Zx
  have hbwy := Below.on hbw hb5
  clear hbw
  have hbw := hbwy
  clear hbwy
  clear hb5
  clear X
  clear Y
  obtain rfl : y4 = y5 := by
    have h := XY.out.nf
    rw [← Nat.pow_add] at h
    exact Z.out.nf.inj B64_one h
  go_wp2_with fail
  refine (tsame_t Z.out.at_ XY.out.at_).mono ?_
  rintro e v6 ⟨rfl, hb6⟩
  have Zx : Hid (Num v6 r4 t4 t4 y4 (v ^ (i + j))) := Z.out.below hb6
  clear Z
  have Z := Zx
  clear Zx
  have XYx : Hid (Num v6 r5 t5 t5 y4 (v ^ i * v ^ j)) := XY.out.below hb6
  clear XY
  have XY := XYx
  clear XYx
  have hbwy := Below.on hbw hb6
  clear hbw
  have hbw := hbwy
  clear hbwy
  clear hb6
  clear Z
  clear XY
  go_wp2_with fail
  go_ret
  exact ⟨rfl, hbw⟩
end Go.Proofs.Ytmkglkdhnbjjhaa
