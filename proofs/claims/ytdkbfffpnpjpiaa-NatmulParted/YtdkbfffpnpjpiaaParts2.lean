import Derived.Test.YtdkbfffpnpjpiaaParts
import Derived.Test.YtdkbfffpnpjpiaaNums
namespace Go.Proofs.Ytdkbfffpnpjpiaa
open Go.RowKit

theorem mod_mul_div_lt {P a b : Nat} (hP : 0 < P) (hb : b < LIM) : (a % P) * (b / P) < LIM := by
  have h1 := Nat.mod_lt a hP
  have h2 : (a % P) * (b / P) ≤ P * (b / P) := Nat.mul_le_mul_right _ (by omega)
  have h3 := Nat.div_add_mod b P
  omega
set_option maxRecDepth 20000 in
set_option maxHeartbeats 1000000 in
theorem cross_any {p0 p1 q0 q1 : Option Addr} {m0 m1 n0 n1 : Nat} {x0 x1 y0 y1 : List Nat} {a0 a1 b0 b1 : Nat} {w : World} (hx0 : Num w p0 m0 m0 x0 a0) (hx1 : Num w p1 m1 m1 x1 a1) (hy0 : Num w q0 n0 n0 y0 b0) (hy1 : Num w q1 n1 n1 y1 b1) (l1 : a0 * b1 < LIM) (l2 : a1 * b0 < LIM) :
    Calls Try.prog 22 #[.slice p0 m0 m0, .slice p1 m1 m1, .slice q0 n0 n0, .slice q1 n1 n1] w fun e w' => Ans w.heap.size w' e (a0 * b1 + a1 * b0) ∧ Below w.heap.size w w' := by
  have HX0 : Hid (Num w p0 m0 m0 x0 a0) := hx0
  have HX1 : Hid (Num w p1 m1 m1 x1 a1) := hx1
  have HY0 : Hid (Num w q0 n0 n0 y0 b0) := hy0
  have HY1 : Hid (Num w q1 n1 n1 y1 b1) := hy1
  have L1 : Hid (a0 * b1 < LIM) := l1
  have L2 : Hid (a1 * b0 < LIM) := l2
  clear hx0 hx1 hy0 hy1 l1 l2
  go_enter Try.func22, Try.ntmps22
  go_wp2_with fail
  refine (mul_any HX0.out.at_ HY1.out.at_ HX0.out.nf HY1.out.nf HX0.out.le HY1.out.le).mono ?_
  rintro e w1 ⟨ha1, hb1⟩
  obtain ⟨p2, m2, z2, rfl, ho2, hn2, hm2⟩ := ha1.ok L1.out
  have HA : Hid (Num w1 p2 m2 m2 z2 (a0 * b1)) := Num.of ho2 hn2 hm2
  have HX : Hid (Num w1 p1 m1 m1 x1 a1) := HX1.out.below hb1
  have HY : Hid (Num w1 q0 n0 n0 y0 b0) := HY0.out.below hb1
  clear ha1 ho2 hn2
  go_wp2_with fail
  refine (mul_any HX.out.at_ HY.out.at_ HX.out.nf HY.out.nf HX.out.le HY.out.le).mono ?_
  rintro e w2 ⟨ha2, hb2⟩
  obtain ⟨p3, m3, z3, rfl, ho3, hn3, hm3⟩ := ha2.ok L2.out
  have HB : Hid (Num w2 p3 m3 m3 z3 (a1 * b0)) := Num.of ho3 hn3 hm3
  have HA2 : Hid (Num w2 p2 m2 m2 z2 (a0 * b1)) := HA.out.below hb2
  have hw2 := Below.on hb1 hb2
  clear ha2 ho3 hn3 hb1 hb2
  go_wp2_with fail
  refine (add_ord HA2.out.at_ HB.out.at_ HA2.out.nf HB.out.nf HA2.out.le HB.out.le).mono ?_
  rintro e w3 ⟨ha3, hb3⟩
  have hw3 := Below.on hw2 hb3
  have hsz := hw2.size
  rcases ha3 with ⟨hl, p4, m4, z4, rfl, ho4, hn4, hm4⟩ | ⟨hl, rfl⟩
  · have HL : Hid (a0 * b1 + a1 * b0 < LIM) := hl
    clear hl
    go_wp2_with fail
    go_ret2
    exact ⟨.inl ⟨HL.out, p4, m4, z4, rfl, ho4.mono hsz, hn4, hm4⟩, hw3⟩
  · have HL : Hid (LIM ≤ a0 * b1 + a1 * b0) := hl
    clear hl
    go_wp2_with fail
    go_ret2
    exact ⟨.inr ⟨HL.out, rfl⟩, hw3⟩

theorem results_tmp4 {fn : Func} {t u v x : Tmp} (h : fn.results = #[.tmp t, .tmp u, .tmp v, .tmp x]) (tmps : Array Value) (P : Program) (w : World) :
    (results fn tmps).run P w = .ok (.tuple #[tmps.getD t undef, tmps.getD u undef, tmps.getD v undef, tmps.getD x undef]) w := by
  simp [results, h]
theorem max3 (a b c : Int) (r : Int) (h : r = if (if a < b then b else a) < c then c else (if a < b then b else a)) (ts : Array TypeId) (t : TypeId) (W : World) : (Builtin.max_ ts t #[.int .i64 a, .int .i64 b, .int .i64 c]).run Try.prog W = .ok (.int .i64 r) W := by
  subst h
  simp [Builtin.max_, Builtin.max2]

/-- What Parts answers. -/
def PartsTo (B : Nat) (w' : World) (e : Ending) (lo mid hi : Nat) : Prop :=
  (lo < LIM ∧ mid < LIM ∧ hi < LIM ∧ ∃ p1 m1 z1 p2 m2 z2 p3 m3 z3, e = .returned (.tuple #[.slice p1 m1 m1, .slice p2 m2 m2, .slice p3 m3 m3, .int .i64 0]) ∧
    Num w' p1 m1 m1 z1 lo ∧ Num w' p2 m2 m2 z2 mid ∧ Num w' p3 m3 m3 z3 hi ∧ B ≤ w'.heap.size) ∨
  ((LIM ≤ lo ∨ LIM ≤ mid ∨ LIM ≤ hi) ∧ e = .returned (.tuple #[.slice none 0 0, .slice none 0 0, .slice none 0 0, .int .i64 5]))

set_option maxRecDepth 20000 in
set_option maxHeartbeats 2000000 in
theorem parts_any {p q : Option Addr} {n m c d : Nat} {xs ys : List Nat} {a b : Nat} {w : World} (h : At w p n c xs) (k : At w q m d ys) (hx : Nf B64 xs a) (hy : Nf B64 ys b) (hlx : n ≤ 8192) (hly : m ≤ 8192) (j : Nat) (hj : 1 ≤ j) (hj2 : j ≤ 8192) :
    Calls Try.prog 10 #[.slice p n c, .slice q m d, .int .i64 j] w fun e w' =>
      PartsTo w.heap.size w' e ((a % B64 ^ j) * (b % B64 ^ j)) ((a % B64 ^ j) * (b / B64 ^ j) + (a / B64 ^ j) * (b % B64 ^ j)) ((a / B64 ^ j) * (b / B64 ^ j)) ∧ Below w.heap.size w w' := by
  have fx := hx.form (by rw [h.len]; exact hlx)
  have fy := hy.form (by rw [k.len]; exact hly)
  have hP : 0 < B64 ^ j := Nat.pow_pos B64_pos
  have hal : a < LIM := hx.lim.1 (by rw [h.len]; exact hlx)
  have hbl : b < LIM := hy.lim.1 (by rw [k.len]; exact hly)
  have l1 := mod_mul_div_lt (a := a) (b := b) hP hbl
  have l2 : (a / B64 ^ j) * (b % B64 ^ j) < LIM := by rw [Nat.mul_comm]; exact mod_mul_div_lt (a := b) (b := a) hP hal
  obtain ⟨a0, ea0⟩ : ∃ x, x = a % B64 ^ j := ⟨_, rfl⟩
  obtain ⟨a1, ea1⟩ : ∃ x, x = a / B64 ^ j := ⟨_, rfl⟩
  obtain ⟨b0, eb0⟩ : ∃ x, x = b % B64 ^ j := ⟨_, rfl⟩
  obtain ⟨b1, eb1⟩ : ∃ x, x = b / B64 ^ j := ⟨_, rfl⟩
  rw [← ea0, ← eb1] at l1
  rw [← ea1, ← eb0] at l2
  rw [← ea0, ← ea1, ← eb0, ← eb1]
  have HX : Hid (Nf B64 xs a) := hx
  have HY : Hid (Nf B64 ys b) := hy
  have L1 : Hid (a0 * b1 < LIM) := l1
  have L2 : Hid (a1 * b0 < LIM) := l2
  have E0 : Hid (a0 = a % B64 ^ j) := ea0
  have E1 : Hid (a1 = a / B64 ^ j) := ea1
  have E2 : Hid (b0 = b % B64 ^ j) := eb0
  have E3 : Hid (b1 = b / B64 ^ j) := eb1
  clear hx hy hP hal hbl l1 l2 ea0 ea1 eb0 eb1
  have hd1 : decide ((j : Int) < 1) = false := decide_eq_false (by omega)
  have hd2 : decide ((8192 : Int) < (j : Int)) = false := decide_eq_false (by omega)
  go_enter Try.func10, Try.ntmps10
  go_wp2_with fail
  refine (form_true h fx).mono ?_
  rintro e w' ⟨rfl, hw⟩
  obtain rfl := hw.symm
  clear hw
  go_wp2_with fail
  refine (form_true k fy).mono ?_
  rintro e w' ⟨rfl, hw⟩
  obtain rfl := hw.symm
  clear hw fx fy
  go_wp2_with fail
  refine (halves_any h HX.out hlx j hj hj2).mono ?_
  rintro e w1 ⟨⟨p1, m1, us, p2, m2, vs, rfl, A1, A2, n1, n2, hm1, hm2⟩, hb1⟩
  rw [← E0.out] at n1
  rw [← E1.out] at n2
  have k1 := k.below hb1
  have HA0 : Hid (Num w1 p1 m1 m1 us a0) := ⟨A1, n1, hm1⟩
  have HA1 : Hid (Num w1 p2 m2 m2 vs a1) := ⟨A2, n2, hm2⟩
  clear h k A1 A2 n1 n2
  go_wp2_with fail
  refine (halves_any k1 HY.out hly j hj hj2).mono ?_
  rintro e w2 ⟨⟨q1, l1, ss, q2, l2, ts, rfl, B1, B2, n3, n4, hl1, hl2⟩, hb2⟩
  rw [← E2.out] at n3
  rw [← E3.out] at n4
  have HB0 : Hid (Num w2 q1 l1 l1 ss b0) := ⟨B1, n3, hl1⟩
  have HB1 : Hid (Num w2 q2 l2 l2 ts b1) := ⟨B2, n4, hl2⟩
  have HA0' : Hid (Num w2 p1 m1 m1 us a0) := HA0.out.below hb2
  have HA1' : Hid (Num w2 p2 m2 m2 vs a1) := HA1.out.below hb2
  have hw2 := Below.on hb1 hb2
  clear k1 B1 B2 n3 n4 hb1 hb2 HA0 HA1
  go_wp2_with fail
  refine (mul_any HA0'.out.at_ HB0.out.at_ HA0'.out.nf HB0.out.nf HA0'.out.le HB0.out.le).mono ?_
  rintro e w3 ⟨ha3, hb3⟩
  have HA03 := HA0'.out.below hb3; have HA13 := HA1'.out.below hb3; have HB03 := HB0.out.below hb3; have HB13 := HB1.out.below hb3
  have hw3 := Below.on hw2 hb3
  have K1 : Hid (Num w3 p1 m1 m1 us a0) := HA03
  have K2 : Hid (Num w3 p2 m2 m2 vs a1) := HA13
  have K3 : Hid (Num w3 q1 l1 l1 ss b0) := HB03
  have K4 : Hid (Num w3 q2 l2 l2 ts b1) := HB13
  clear HA0' HA1' HB0 HB1 HA03 HA13 HB03 HB13 hb3 hw2
  rcases ha3 with ⟨hl3, p3, m3, z3, rfl, ho3, hn3, hm3⟩ | ⟨hl3, rfl⟩
  · have N3 : Hid (Num w3 p3 m3 m3 z3 (a0 * b0)) := Num.of ho3 hn3 hm3
    have H3 : Hid (a0 * b0 < LIM) := hl3
    clear hl3 ho3 hn3
    go_wp2_with fail
    refine (cross_any K1.out K2.out K3.out K4.out L1.out L2.out).mono ?_
    rintro e w4 ⟨ha4, hb4⟩
    have hw4 := Below.on hw3 hb4
    have K2' : Hid (Num w4 p2 m2 m2 vs a1) := K2.out.below hb4
    have K4' : Hid (Num w4 q2 l2 l2 ts b1) := K4.out.below hb4
    rcases ha4 with ⟨hl4, p4, m4, z4, rfl, ho4, hn4, hm4⟩ | ⟨hl4, rfl⟩
    · have N3' : Hid (Num w4 p3 m3 m3 z3 (a0 * b0)) := N3.out.below hb4
      clear N3
      have N3 := N3'
      clear N3'
      have N4 : Hid (Num w4 p4 m4 m4 z4 (a0 * b1 + a1 * b0)) := Num.of ho4 hn4 hm4
      have H4 : Hid (a0 * b1 + a1 * b0 < LIM) := hl4
      clear hl4 ho4 hn4 hb4 K1 K2 K3 K4 hw3
      go_wp2_with fail
      refine (mul_any K2'.out.at_ K4'.out.at_ K2'.out.nf K4'.out.nf K2'.out.le K4'.out.le).mono ?_
      rintro e w5 ⟨ha5, hb5⟩
      have hw5 := Below.on hw4 hb5
      rcases ha5 with ⟨hl5, p5, m5, z5, rfl, ho5, hn5, hm5⟩ | ⟨hl5, rfl⟩
      · have N5 : Hid (Num w5 p5 m5 m5 z5 (a1 * b1)) := Num.of ho5 hn5 hm5
        have H5 : Hid (a1 * b1 < LIM) := hl5
        have N3' : Hid (Num w5 p3 m3 m3 z3 (a0 * b0)) := N3.out.below hb5
        have N4' : Hid (Num w5 p4 m4 m4 z4 (a0 * b1 + a1 * b0)) := N4.out.below hb5
        clear hl5 ho5 hn5 hb5
        have hmx : ∀ (ts : Array TypeId) (t : TypeId) (W : World), (Builtin.max_ ts t #[.int .i64 0, .int .i64 0, .int .i64 0]).run Try.prog W = .ok (.int .i64 0) W := max3 0 0 0 0 (by decide)
        go_wp2_with fail
        refine bodyPost_ret (results_tmp4 rfl _ _ _) rfl ?_
        exact ⟨.inl ⟨H3.out, H4.out, H5.out, _, _, _, _, _, _, _, _, _, rfl, N3'.out, N4'.out, N5.out, hw5.size⟩, hw5⟩
      · have H5 : Hid (LIM ≤ a1 * b1) := hl5
        clear hl5 hb5
        have hmx : ∀ (ts : Array TypeId) (t : TypeId) (W : World), (Builtin.max_ ts t #[.int .i64 0, .int .i64 0, .int .i64 5]).run Try.prog W = .ok (.int .i64 5) W := max3 0 0 5 5 (by decide)
        go_wp2_with fail
        refine bodyPost_ret (results_tmp4 rfl _ _ _) rfl ?_
        exact ⟨.inr ⟨.inr (.inr H5.out), rfl⟩, hw5⟩

    · have H4 : Hid (LIM ≤ a0 * b1 + a1 * b0) := hl4
      clear hl4 hb4 K1 K2 K3 K4 hw3
      go_wp2_with fail
      refine (mul_any K2'.out.at_ K4'.out.at_ K2'.out.nf K4'.out.nf K2'.out.le K4'.out.le).mono ?_
      rintro e w5 ⟨ha5, hb5⟩
      have hw5 := Below.on hw4 hb5
      rcases ha5 with ⟨hl5, p5, m5, z5, rfl, ho5, hn5, hm5⟩ | ⟨hl5, rfl⟩
      · have N5 : Hid (Num w5 p5 m5 m5 z5 (a1 * b1)) := Num.of ho5 hn5 hm5
        have H5 : Hid (a1 * b1 < LIM) := hl5
        clear hl5 ho5 hn5 hb5
        have hmx : ∀ (ts : Array TypeId) (t : TypeId) (W : World), (Builtin.max_ ts t #[.int .i64 0, .int .i64 5, .int .i64 0]).run Try.prog W = .ok (.int .i64 5) W := max3 0 5 0 5 (by decide)
        go_wp2_with fail
        refine bodyPost_ret (results_tmp4 rfl _ _ _) rfl ?_
        exact ⟨.inr ⟨.inr (.inl H4.out), rfl⟩, hw5⟩
      · have H5 : Hid (LIM ≤ a1 * b1) := hl5
        clear hl5 hb5
        have hmx : ∀ (ts : Array TypeId) (t : TypeId) (W : World), (Builtin.max_ ts t #[.int .i64 0, .int .i64 5, .int .i64 5]).run Try.prog W = .ok (.int .i64 5) W := max3 0 5 5 5 (by decide)
        go_wp2_with fail
        refine bodyPost_ret (results_tmp4 rfl _ _ _) rfl ?_
        exact ⟨.inr ⟨.inr (.inr H5.out), rfl⟩, hw5⟩

  · have H3 : Hid (LIM ≤ a0 * b0) := hl3
    clear hl3
    go_wp2_with fail
    refine (cross_any K1.out K2.out K3.out K4.out L1.out L2.out).mono ?_
    rintro e w4 ⟨ha4, hb4⟩
    have hw4 := Below.on hw3 hb4
    have K2' : Hid (Num w4 p2 m2 m2 vs a1) := K2.out.below hb4
    have K4' : Hid (Num w4 q2 l2 l2 ts b1) := K4.out.below hb4
    rcases ha4 with ⟨hl4, p4, m4, z4, rfl, ho4, hn4, hm4⟩ | ⟨hl4, rfl⟩
    · have N4 : Hid (Num w4 p4 m4 m4 z4 (a0 * b1 + a1 * b0)) := Num.of ho4 hn4 hm4
      have H4 : Hid (a0 * b1 + a1 * b0 < LIM) := hl4
      clear hl4 ho4 hn4 hb4 K1 K2 K3 K4 hw3
      go_wp2_with fail
      refine (mul_any K2'.out.at_ K4'.out.at_ K2'.out.nf K4'.out.nf K2'.out.le K4'.out.le).mono ?_
      rintro e w5 ⟨ha5, hb5⟩
      have hw5 := Below.on hw4 hb5
      rcases ha5 with ⟨hl5, p5, m5, z5, rfl, ho5, hn5, hm5⟩ | ⟨hl5, rfl⟩
      · have N5 : Hid (Num w5 p5 m5 m5 z5 (a1 * b1)) := Num.of ho5 hn5 hm5
        have H5 : Hid (a1 * b1 < LIM) := hl5
        clear hl5 ho5 hn5 hb5
        have hmx : ∀ (ts : Array TypeId) (t : TypeId) (W : World), (Builtin.max_ ts t #[.int .i64 5, .int .i64 0, .int .i64 0]).run Try.prog W = .ok (.int .i64 5) W := max3 5 0 0 5 (by decide)
        go_wp2_with fail
        refine bodyPost_ret (results_tmp4 rfl _ _ _) rfl ?_
        exact ⟨.inr ⟨.inl H3.out, rfl⟩, hw5⟩
      · have H5 : Hid (LIM ≤ a1 * b1) := hl5
        clear hl5 hb5
        have hmx : ∀ (ts : Array TypeId) (t : TypeId) (W : World), (Builtin.max_ ts t #[.int .i64 5, .int .i64 0, .int .i64 5]).run Try.prog W = .ok (.int .i64 5) W := max3 5 0 5 5 (by decide)
        go_wp2_with fail
        refine bodyPost_ret (results_tmp4 rfl _ _ _) rfl ?_
        exact ⟨.inr ⟨.inr (.inr H5.out), rfl⟩, hw5⟩

    · have H4 : Hid (LIM ≤ a0 * b1 + a1 * b0) := hl4
      clear hl4 hb4 K1 K2 K3 K4 hw3
      go_wp2_with fail
      refine (mul_any K2'.out.at_ K4'.out.at_ K2'.out.nf K4'.out.nf K2'.out.le K4'.out.le).mono ?_
      rintro e w5 ⟨ha5, hb5⟩
      have hw5 := Below.on hw4 hb5
      rcases ha5 with ⟨hl5, p5, m5, z5, rfl, ho5, hn5, hm5⟩ | ⟨hl5, rfl⟩
      · have N5 : Hid (Num w5 p5 m5 m5 z5 (a1 * b1)) := Num.of ho5 hn5 hm5
        have H5 : Hid (a1 * b1 < LIM) := hl5
        clear hl5 ho5 hn5 hb5
        have hmx : ∀ (ts : Array TypeId) (t : TypeId) (W : World), (Builtin.max_ ts t #[.int .i64 5, .int .i64 5, .int .i64 0]).run Try.prog W = .ok (.int .i64 5) W := max3 5 5 0 5 (by decide)
        go_wp2_with fail
        refine bodyPost_ret (results_tmp4 rfl _ _ _) rfl ?_
        exact ⟨.inr ⟨.inl H3.out, rfl⟩, hw5⟩
      · have H5 : Hid (LIM ≤ a1 * b1) := hl5
        clear hl5 hb5
        have hmx : ∀ (ts : Array TypeId) (t : TypeId) (W : World), (Builtin.max_ ts t #[.int .i64 5, .int .i64 5, .int .i64 5]).run Try.prog W = .ok (.int .i64 5) W := max3 5 5 5 5 (by decide)
        go_wp2_with fail
        refine bodyPost_ret (results_tmp4 rfl _ _ _) rfl ?_
        exact ⟨.inr ⟨.inr (.inr H5.out), rfl⟩, hw5⟩
end Go.Proofs.Ytdkbfffpnpjpiaa
