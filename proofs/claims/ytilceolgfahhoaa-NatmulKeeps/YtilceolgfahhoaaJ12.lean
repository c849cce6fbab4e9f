import Derived.Test.YtilceolgfahhoaaJ11
import Derived.Test.YtilceolgfahhoaaJ10
namespace Go.Proofs.Ytilceolgfahhoaa
open Go.RowKit Go.Shelf
set_option maxRecDepth 20000
set_option maxHeartbeats 0
def OwnL (B : Nat) (w : World) (p : Option Addr) (m N : Nat) (us : List Nat) : Prop := Own B w p m us ∧ m ≤ 8192 ∧ N = m
theorem OwnL.empty (B : Nat) (w : World) : OwnL B w none 0 0 [] := ⟨⟨rfl, Dig.nil _, .inl rfl⟩, by omega, rfl⟩
theorem mulO {p q : Option Addr} {n m c d : Nat} {xs ys : List Nat} {w : World} (h : At w p n c xs) (k : At w q m d ys) :
    Calls Try.prog 6 #[.slice p n c, .slice q m d] w fun e w' => ∃ p' m' us f, e = .returned (.tuple #[.slice p' m' m', .int .i64 f]) ∧ OwnL w.heap.size w' p' m' m' us ∧ MulIs xs ys us f ∧ Below w.heap.size w w' := by
  cases hf : (formB xs && formB ys)
  · refine (mul_noform h k hf).mono ?_
    rintro e w' ⟨rfl, hw⟩
    obtain rfl := hw.symm
    exact ⟨none, 0, [], 2, rfl, OwnL.empty _ _, .inl ⟨hf, rfl, rfl⟩, Below.refl _ _⟩
  · simp only [Bool.and_eq_true] at hf
    refine (mul_any h k (nf_of_form h.dig hf.1) (nf_of_form k.dig hf.2) (by have := form_len hf.1; rw [h.len] at this; exact this) (by have := form_len hf.2; rw [k.len] at this; exact this)).mono ?_
    rintro e w' ⟨ha, hb⟩
    rcases ha with ⟨hl, p1, m1, zs, rfl, ho, hn, hm⟩ | ⟨hl, rfl⟩
    · exact ⟨p1, m1, zs, 0, rfl, ⟨ho, hm, rfl⟩, .inr (.inl ⟨hf.1, hf.2, hl, hn, rfl⟩), hb⟩
    · exact ⟨none, 0, [], 5, rfl, OwnL.empty _ _, .inr (.inr ⟨hf.1, hf.2, hl, rfl, rfl⟩), hb⟩
theorem sqrO {p : Option Addr} {n c : Nat} {xs : List Nat} {w : World} (h : At w p n c xs) :
    Calls Try.prog 7 #[.slice p n c] w fun e w' => ∃ p' m' us f, e = .returned (.tuple #[.slice p' m' m', .int .i64 f]) ∧ OwnL w.heap.size w' p' m' m' us ∧ MulIs xs xs us f ∧ Below w.heap.size w w' := by
  go_enter Try.func7, Try.ntmps7
  go_wp2_with fail
  refine (mulO h h).mono ?_
  rintro e w' ⟨p1, m1, us, f1, rfl, hA, hM, hb⟩
  have HM : Hid (MulIs xs xs us f1) := hM
  have HA : Hid (OwnL w.heap.size w' p1 m1 m1 us) := hA
  clear hM hA
  go_wp2_with fail
  go_ret2
  exact ⟨p1, m1, us, f1, rfl, HA.out, HM.out, hb⟩

theorem powO {p : Option Addr} {n c : Nat} {xs : List Nat} {w : World} (h : At w p n c xs) (t : Int) (ht : t ≤ 9223372036854775807) :
    Calls Try.prog 27 #[.slice p n c, .int .i64 t] w fun e w' => ∃ p' m' us f, e = .returned (.tuple #[.slice p' m' m', .int .i64 f]) ∧ OwnL w.heap.size w' p' m' m' us ∧ PowIs xs t us f ∧ Below w.heap.size w w' := by
  rcases Int.lt_or_le t 0 with h0 | h0
  · refine (pow_neg _ t w h0).mono ?_
    rintro e w' ⟨rfl, hw⟩
    obtain rfl := hw.symm
    exact ⟨none, 0, [], 1, rfl, OwnL.empty _ _, .inl ⟨h0, rfl, rfl⟩, Below.refl _ _⟩
  · cases hf : formB xs
    · refine (pow_noform h t h0 hf).mono ?_
      rintro e w' ⟨rfl, hw⟩
      obtain rfl := hw.symm
      exact ⟨none, 0, [], 2, rfl, OwnL.empty _ _, .inr (.inl ⟨h0, hf, rfl, rfl⟩), Below.refl _ _⟩
    · obtain ⟨T, rfl⟩ := Int.eq_ofNat_of_zero_le h0
      refine (pow_any h (nf_of_form h.dig hf) (by have := form_len hf; rw [h.len] at this; exact this) T (by omega)).mono ?_
      rintro e w' ⟨ha, hb⟩
      rcases ha with ⟨hl, p1, m1, zs, rfl, ho, hn, hm⟩ | ⟨hl, rfl⟩
      · exact ⟨p1, m1, zs, 0, rfl, ⟨ho, hm, rfl⟩, .inr (.inr ⟨h0, hf, .inl ⟨hl, hn, rfl⟩⟩), hb⟩
      · exact ⟨none, 0, [], 5, rfl, OwnL.empty _ _, .inr (.inr ⟨h0, hf, .inr ⟨hl, rfl, rfl⟩⟩), hb⟩

theorem productO {P : Option Addr} {N C : Nat} {its : List It} {w : World} (h : LsA w P N C its) :
    Calls Try.prog 29 #[.slice P N C] w fun en w' => ∃ p m us f, en = .returned (.tuple #[.slice p m m, .int .i64 f]) ∧ OwnL w.heap.size w' p m m us ∧ PrIs its us f ∧ Below w.heap.size w w' := by
  by_cases hf : ∀ t ∈ its, formB t.xs = true
  · refine (product_any (h.nums hf)).mono ?_
    rintro e w' ⟨ha, hb⟩
    rcases ha with ⟨h1, p, m, zs, rfl, o1, n1, l1⟩ | ⟨h1, rfl⟩
    · exact ⟨p, m, zs, 0, rfl, ⟨o1, l1, rfl⟩, .inr ⟨hf, .inl ⟨h1, n1, rfl⟩⟩, hb⟩
    · exact ⟨none, 0, [], 5, rfl, OwnL.empty _ _, .inr ⟨hf, .inr ⟨h1, rfl, rfl⟩⟩, hb⟩
  · refine (product_bad h (bad_ex hf)).mono ?_
    rintro e w' ⟨rfl, hb⟩
    exact ⟨none, 0, [], 2, rfl, OwnL.empty _ _, .inl ⟨bad_ex hf, rfl, rfl⟩, hb⟩
def PartsE (B : Nat) (w' : World) (e : Ending) (lo mid hi : Nat) : Prop :=
  (lo < LIM ∧ mid < LIM ∧ hi < LIM ∧ ∃ p1 m1 z1 b1 p2 m2 z2 b2 p3 m3 z3 b3, e = .returned (.tuple #[.slice p1 m1 m1, .slice p2 m2 m2, .slice p3 m3 m3, .int .i64 0]) ∧
    (Nf B64 z1 lo ∧ Nf B64 z2 mid ∧ Nf B64 z3 hi) ∧ (EQ7 w' B p1 m1 b1 z1 ∧ EQ7 w' B p2 m2 b2 z2 ∧ EQ7 w' B p3 m3 b3 z3) ∧ (m1 ≠ 0 → m2 ≠ 0 → b1 ≠ b2) ∧ (m1 ≠ 0 → m3 ≠ 0 → b1 ≠ b3) ∧ (m2 ≠ 0 → m3 ≠ 0 → b2 ≠ b3)) ∨
  ((LIM ≤ lo ∨ LIM ≤ mid ∨ LIM ≤ hi) ∧ e = .returned (.tuple #[.slice none 0 0, .slice none 0 0, .slice none 0 0, .int .i64 5]))
theorem partsE {p q : Option Addr} {n m c d : Nat} {xs ys : List Nat} {a b : Nat} {w : World} (h : At w p n c xs) (k : At w q m d ys) (hx : Nf B64 xs a) (hy : Nf B64 ys b) (hlx : n ≤ 8192) (hly : m ≤ 8192) (j : Nat) (hj : 1 ≤ j) (hj2 : j ≤ 8192) :
    Calls Try.prog 28 #[.slice p n c, .slice q m d, .int .i64 j] w fun e w' =>
      PartsE w.heap.size w' e ((a % B64 ^ j) * (b % B64 ^ j)) ((a % B64 ^ j) * (b / B64 ^ j) + (a / B64 ^ j) * (b % B64 ^ j)) ((a / B64 ^ j) * (b / B64 ^ j)) ∧ Below w.heap.size w w' := by
  have fx := hx.form (by rw [h.len]; exact hlx)
  have fy := hy.form (by rw [k.len]; exact hly)
  have hP : 0 < B64 ^ j := Nat.pow_pos B64_pos
  have hal : a < LIM := hx.lim.1 (by rw [h.len]; exact hlx)
  have hbl : b < LIM := hy.lim.1 (by rw [k.len]; exact hly)
  have l1 := mod_mul_div_lt (a := a) (b := b) hP hbl
  have l2 : (a / B64 ^ j) * (b % B64 ^ j) < LIM := by rw [Nat.mul_comm]; exact mod_mul_div_lt (a := b) (b := a) hP hal
  obtain ⟨a0, ea0⟩ : ∃ x, x = a % B64 ^ j := ⟨_, rfl⟩
  obtain ⟨a1, ea1⟩ : ∃ x, x = a / B64 ^ j := ⟨_, rfl⟩
  obtain ⟨b0, eb0⟩ : ∃ x, x = b % B64 ^ j := ⟨_, rfl⟩
  obtain ⟨b1, eb1⟩ : ∃ x, x = b / B64 ^ j := ⟨_, rfl⟩
  rw [← ea0, ← eb1] at l1
  rw [← ea1, ← eb0] at l2
  rw [← ea0, ← ea1, ← eb0, ← eb1]
  have HX : Hid (Nf B64 xs a) := hx
  have HY : Hid (Nf B64 ys b) := hy
  have L1 : Hid (a0 * b1 < LIM) := l1
  have L2 : Hid (a1 * b0 < LIM) := l2
  have E0 : Hid (a0 = a % B64 ^ j) := ea0
  have E1 : Hid (a1 = a / B64 ^ j) := ea1
  have E2 : Hid (b0 = b % B64 ^ j) := eb0
  have E3 : Hid (b1 = b / B64 ^ j) := eb1
  clear hx hy hP hal hbl l1 l2 ea0 ea1 eb0 eb1
  have hd1 : decide ((j : Int) < 1) = false := decide_eq_false (by omega)
  have hd2 : decide ((8192 : Int) < (j : Int)) = false := decide_eq_false (by omega)
  go_enter Try.func28, Try.ntmps28
  go_wp2_with fail
  refine (form_true h fx).mono ?_
  rintro e w' ⟨rfl, hw⟩
  obtain rfl := hw.symm
  clear hw
  go_wp2_with fail
  refine (form_true k fy).mono ?_
  rintro e w' ⟨rfl, hw⟩
  obtain rfl := hw.symm
  clear hw fx fy
  go_wp2_with fail
  refine (halves_any h HX.out hlx j hj hj2).mono ?_
  rintro e w1 ⟨⟨p1, m1, us, p2, m2, vs, rfl, A1, A2, n1, n2, hm1, hm2⟩, hb1⟩
  rw [← E0.out] at n1
  rw [← E1.out] at n2
  have k1 := k.below hb1
  have HA0 : Hid (Num w1 p1 m1 m1 us a0) := ⟨A1, n1, hm1⟩
  have HA1 : Hid (Num w1 p2 m2 m2 vs a1) := ⟨A2, n2, hm2⟩
  clear h k A1 A2 n1 n2
  go_wp2_with fail
  refine (halves_any k1 HY.out hly j hj hj2).mono ?_
  rintro e w2 ⟨⟨q1, l1, ss, q2, l2, ts, rfl, B1, B2, n3, n4, hl1, hl2⟩, hb2⟩
  rw [← E2.out] at n3
  rw [← E3.out] at n4
  have HB0 : Hid (Num w2 q1 l1 l1 ss b0) := ⟨B1, n3, hl1⟩
  have HB1 : Hid (Num w2 q2 l2 l2 ts b1) := ⟨B2, n4, hl2⟩
  have HA0' : Hid (Num w2 p1 m1 m1 us a0) := HA0.out.below hb2
  have HA1' : Hid (Num w2 p2 m2 m2 vs a1) := HA1.out.below hb2
  have hw2 := Below.on hb1 hb2
  clear k1 B1 B2 n3 n4 hb1 hb2 HA0 HA1
  go_wp2_with fail
  refine (mul_any HA0'.out.at_ HB0.out.at_ HA0'.out.nf HB0.out.nf HA0'.out.le HB0.out.le).mono ?_
  rintro e w3 ⟨ha3, hb3⟩
  have HA03 := HA0'.out.below hb3; have HA13 := HA1'.out.below hb3; have HB03 := HB0.out.below hb3; have HB13 := HB1.out.below hb3
  have hw3 := Below.on hw2 hb3
  have K1 : Hid (Num w3 p1 m1 m1 us a0) := HA03
  have K2 : Hid (Num w3 p2 m2 m2 vs a1) := HA13
  have K3 : Hid (Num w3 q1 l1 l1 ss b0) := HB03
  have K4 : Hid (Num w3 q2 l2 l2 ts b1) := HB13
  clear HA0' HA1' HB0 HB1 HA03 HA13 HB03 HB13 hb3
  rcases ha3 with ⟨hl3, p3, m3, z3, rfl, ho3, hn3, hm3⟩ | ⟨hl3, rfl⟩
  · have N3 : Hid (Num w3 p3 m3 m3 z3 (a0 * b0)) := Num.of ho3 hn3 hm3
    obtain ⟨b3, hE3, hI3⟩ := eq_own7 ho3 (show w.heap.size ≤ w2.heap.size from (by first | exact hw2.size | exact hw1.size | exact hw3.size | exact hbw2.size | exact hbw.size)) hm3
    have E3 : Hid (EQ7 w3 w.heap.size p3 m3 b3 z3) := hE3
    have I3 : Hid (m3 ≠ 0 → b3 < w3.heap.size) := fun h => (hI3 h).2
    clear hE3 hI3
    have H3 : Hid (a0 * b0 < LIM) := hl3
    clear hl3 ho3 hn3
    go_wp2_with fail
    refine (cross_any K1.out K2.out K3.out K4.out L1.out L2.out).mono ?_
    rintro e w4 ⟨ha4, hb4⟩
    have hw4 := Below.on hw3 hb4
    have K2' : Hid (Num w4 p2 m2 m2 vs a1) := K2.out.below hb4
    have K4' : Hid (Num w4 q2 l2 l2 ts b1) := K4.out.below hb4
    rcases ha4 with ⟨hl4, p4, m4, z4, rfl, ho4, hn4, hm4⟩ | ⟨hl4, rfl⟩
    · replace N3 : Hid _ := N3.out.below hb4
      have N4 : Hid (Num w4 p4 m4 m4 z4 (a0 * b1 + a1 * b0)) := Num.of ho4 hn4 hm4
      obtain ⟨b4, hE4, hI4⟩ := eq_own7 ho4 (show w.heap.size ≤ w3.heap.size from hw3.size) hm4
      have E4 : Hid (EQ7 w4 w.heap.size p4 m4 b4 z4) := hE4
      have I4 : Hid ((m4 ≠ 0 → w3.heap.size ≤ b4 ∧ b4 < w4.heap.size) ∧ w3.heap.size ≤ w4.heap.size) := ⟨hI4, hb4.size⟩
      have E3' : Hid (EQ7 w4 w.heap.size p3 m3 b3 z3) := E3.out.below hb4
      clear hE4 hI4 E3
      have H4 : Hid (a0 * b1 + a1 * b0 < LIM) := hl4
      clear hl4 ho4 hn4 hb4 K1 K2 K3 K4 hw3
      go_wp2_with fail
      refine (mul_any K2'.out.at_ K4'.out.at_ K2'.out.nf K4'.out.nf K2'.out.le K4'.out.le).mono ?_
      rintro e w5 ⟨ha5, hb5⟩
      have hw5 := Below.on hw4 hb5
      rcases ha5 with ⟨hl5, p5, m5, z5, rfl, ho5, hn5, hm5⟩ | ⟨hl5, rfl⟩
      · obtain ⟨b5, hE5, hI5⟩ := eq_own7 ho5 (show w.heap.size ≤ w4.heap.size from hw4.size) hm5
        have E5 : Hid (EQ7 w5 w.heap.size p5 m5 b5 z5) := hE5
        have I5 : Hid (m5 ≠ 0 → w4.heap.size ≤ b5) := fun h => (hI5 h).1
        have E3 : Hid (EQ7 w5 w.heap.size p3 m3 b3 z3) := E3'.out.below hb5
        have E4' : Hid (EQ7 w5 w.heap.size p4 m4 b4 z4) := E4.out.below hb5
        clear hE5 hI5 E3' E4
        have N5 : Hid (Num w5 p5 m5 m5 z5 (a1 * b1)) := Num.of ho5 hn5 hm5
        have H5 : Hid (a1 * b1 < LIM) := hl5
        have N3' : Hid (Num w5 p3 m3 m3 z3 (a0 * b0)) := N3.out.below hb5
        have N4' : Hid (Num w5 p4 m4 m4 z4 (a0 * b1 + a1 * b0)) := N4.out.below hb5
        clear hl5 ho5 hn5 hb5
        have hmx : ∀ (ts : Array TypeId) (t : TypeId) (W : World), (Builtin.max_ ts t #[.int .i64 0, .int .i64 0, .int .i64 0]).run Try.prog W = .ok (.int .i64 0) W := max3 0 0 0 0 (by decide)
        go_wp2_with fail
        refine bodyPost_ret (results_tmp4 rfl _ _ _) rfl ?_
        exact ⟨.inl ⟨H3.out, H4.out, H5.out, _, _, _, _, _, _, _, _, _, _, _, _, rfl, ⟨N3'.out.nf, N4'.out.nf, N5.out.nf⟩, ⟨E3.out, E4'.out, E5.out⟩, (fun h1 h2 => by have := I3.out h1; have := I4.out.1 h2; omega), (fun h1 h2 => by have := I3.out h1; have := I5.out h2; have := I4.out.2; omega), (fun h1 h2 => by have := I4.out.1 h1; have := I5.out h2; omega)⟩, hw5⟩
      · have H5 : Hid (LIM ≤ a1 * b1) := hl5
        clear hl5 hb5
        have hmx : ∀ (ts : Array TypeId) (t : TypeId) (W : World), (Builtin.max_ ts t #[.int .i64 0, .int .i64 0, .int .i64 5]).run Try.prog W = .ok (.int .i64 5) W := max3 0 0 5 5 (by decide)
        go_wp2_with fail
        refine bodyPost_ret (results_tmp4 rfl _ _ _) rfl ?_
        exact ⟨.inr ⟨.inr (.inr H5.out), rfl⟩, hw5⟩

    · have H4 : Hid (LIM ≤ a0 * b1 + a1 * b0) := hl4
      clear hl4 hb4 K1 K2 K3 K4 hw3
      go_wp2_with fail
      refine (mul_any K2'.out.at_ K4'.out.at_ K2'.out.nf K4'.out.nf K2'.out.le K4'.out.le).mono ?_
      rintro e w5 ⟨ha5, hb5⟩
      have hw5 := Below.on hw4 hb5
      rcases ha5 with ⟨hl5, p5, m5, z5, rfl, ho5, hn5, hm5⟩ | ⟨hl5, rfl⟩
      · have N5 : Hid (Num w5 p5 m5 m5 z5 (a1 * b1)) := Num.of ho5 hn5 hm5
        have H5 : Hid (a1 * b1 < LIM) := hl5
        clear hl5 ho5 hn5 hb5
        have hmx : ∀ (ts : Array TypeId) (t : TypeId) (W : World), (Builtin.max_ ts t #[.int .i64 0, .int .i64 5, .int .i64 0]).run Try.prog W = .ok (.int .i64 5) W := max3 0 5 0 5 (by decide)
        go_wp2_with fail
        refine bodyPost_ret (results_tmp4 rfl _ _ _) rfl ?_
        exact ⟨.inr ⟨.inr (.inl H4.out), rfl⟩, hw5⟩
      · have H5 : Hid (LIM ≤ a1 * b1) := hl5
        clear hl5 hb5
        have hmx : ∀ (ts : Array TypeId) (t : TypeId) (W : World), (Builtin.max_ ts t #[.int .i64 0, .int .i64 5, .int .i64 5]).run Try.prog W = .ok (.int .i64 5) W := max3 0 5 5 5 (by decide)
        go_wp2_with fail
        refine bodyPost_ret (results_tmp4 rfl _ _ _) rfl ?_
        exact ⟨.inr ⟨.inr (.inr H5.out), rfl⟩, hw5⟩

  · have H3 : Hid (LIM ≤ a0 * b0) := hl3
    clear hl3
    go_wp2_with fail
    refine (cross_any K1.out K2.out K3.out K4.out L1.out L2.out).mono ?_
    rintro e w4 ⟨ha4, hb4⟩
    have hw4 := Below.on hw3 hb4
    have K2' : Hid (Num w4 p2 m2 m2 vs a1) := K2.out.below hb4
    have K4' : Hid (Num w4 q2 l2 l2 ts b1) := K4.out.below hb4
    rcases ha4 with ⟨hl4, p4, m4, z4, rfl, ho4, hn4, hm4⟩ | ⟨hl4, rfl⟩
    · have N4 : Hid (Num w4 p4 m4 m4 z4 (a0 * b1 + a1 * b0)) := Num.of ho4 hn4 hm4
      have H4 : Hid (a0 * b1 + a1 * b0 < LIM) := hl4
      clear hl4 ho4 hn4 hb4 K1 K2 K3 K4 hw3
      go_wp2_with fail
      refine (mul_any K2'.out.at_ K4'.out.at_ K2'.out.nf K4'.out.nf K2'.out.le K4'.out.le).mono ?_
      rintro e w5 ⟨ha5, hb5⟩
      have hw5 := Below.on hw4 hb5
      rcases ha5 with ⟨hl5, p5, m5, z5, rfl, ho5, hn5, hm5⟩ | ⟨hl5, rfl⟩
      · have N5 : Hid (Num w5 p5 m5 m5 z5 (a1 * b1)) := Num.of ho5 hn5 hm5
        have H5 : Hid (a1 * b1 < LIM) := hl5
        clear hl5 ho5 hn5 hb5
        have hmx : ∀ (ts : Array TypeId) (t : TypeId) (W : World), (Builtin.max_ ts t #[.int .i64 5, .int .i64 0, .int .i64 0]).run Try.prog W = .ok (.int .i64 5) W := max3 5 0 0 5 (by decide)
        go_wp2_with fail
        refine bodyPost_ret (results_tmp4 rfl _ _ _) rfl ?_
        exact ⟨.inr ⟨.inl H3.out, rfl⟩, hw5⟩
      · have H5 : Hid (LIM ≤ a1 * b1) := hl5
        clear hl5 hb5
        have hmx : ∀ (ts : Array TypeId) (t : TypeId) (W : World), (Builtin.max_ ts t #[.int .i64 5, .int .i64 0, .int .i64 5]).run Try.prog W = .ok (.int .i64 5) W := max3 5 0 5 5 (by decide)
        go_wp2_with fail
        refine bodyPost_ret (results_tmp4 rfl _ _ _) rfl ?_
        exact ⟨.inr ⟨.inr (.inr H5.out), rfl⟩, hw5⟩

    · have H4 : Hid (LIM ≤ a0 * b1 + a1 * b0) := hl4
      clear hl4 hb4 K1 K2 K3 K4 hw3
      go_wp2_with fail
      refine (mul_any K2'.out.at_ K4'.out.at_ K2'.out.nf K4'.out.nf K2'.out.le K4'.out.le).mono ?_
      rintro e w5 ⟨ha5, hb5⟩
      have hw5 := Below.on hw4 hb5
      rcases ha5 with ⟨hl5, p5, m5, z5, rfl, ho5, hn5, hm5⟩ | ⟨hl5, rfl⟩
      · have N5 : Hid (Num w5 p5 m5 m5 z5 (a1 * b1)) := Num.of ho5 hn5 hm5
        have H5 : Hid (a1 * b1 < LIM) := hl5
        clear hl5 ho5 hn5 hb5
        have hmx : ∀ (ts : Array TypeId) (t : TypeId) (W : World), (Builtin.max_ ts t #[.int .i64 5, .int .i64 5, .int .i64 0]).run Try.prog W = .ok (.int .i64 5) W := max3 5 5 0 5 (by decide)
        go_wp2_with fail
        refine bodyPost_ret (results_tmp4 rfl _ _ _) rfl ?_
        exact ⟨.inr ⟨.inl H3.out, rfl⟩, hw5⟩
      · have H5 : Hid (LIM ≤ a1 * b1) := hl5
        clear hl5 hb5
        have hmx : ∀ (ts : Array TypeId) (t : TypeId) (W : World), (Builtin.max_ ts t #[.int .i64 5, .int .i64 5, .int .i64 5]).run Try.prog W = .ok (.int .i64 5) W := max3 5 5 5 5 (by decide)
        go_wp2_with fail
        refine bodyPost_ret (results_tmp4 rfl _ _ _) rfl ?_
        exact ⟨.inr ⟨.inr (.inr H5.out), rfl⟩, hw5⟩
def ThreeE (B : Nat) (w' : World) (p1 : Option Addr) (m1 : Nat) (z1 : List Nat) (b1 : Nat) (p2 : Option Addr) (m2 : Nat) (z2 : List Nat) (b2 : Nat) (p3 : Option Addr) (m3 : Nat) (z3 : List Nat) (b3 : Nat) : Prop :=
  (EQ7 w' B p1 m1 b1 z1 ∧ EQ7 w' B p2 m2 b2 z2 ∧ EQ7 w' B p3 m3 b3 z3) ∧ (m1 ≠ 0 → m2 ≠ 0 → b1 ≠ b2) ∧ (m1 ≠ 0 → m3 ≠ 0 → b1 ≠ b3) ∧ (m2 ≠ 0 → m3 ≠ 0 → b2 ≠ b3)
theorem EQ7.empty (B : Nat) (w : World) : EQ7 w B none 0 B [] := ⟨.inl rfl, fun _ => rfl, ⟨rfl, Dig.nil _, fun j hj => absurd hj (Nat.not_lt_zero _), fun j hj => absurd hj (Nat.not_lt_zero _)⟩, Nat.le_refl _, by omega⟩
theorem ThreeE.empty (B : Nat) (w : World) : ThreeE B w none 0 [] B none 0 [] B none 0 [] B := ⟨⟨EQ7.empty B w, EQ7.empty B w, EQ7.empty B w⟩, fun h => absurd rfl h, fun h => absurd rfl h, fun h => absurd rfl h⟩
theorem partsO {p q : Option Addr} {n m c d : Nat} {xs ys : List Nat} {w : World} (h : At w p n c xs) (k : At w q m d ys) (t : Int) (ht : -9223372036854775808 ≤ t ∧ t ≤ 9223372036854775807) :
    Calls Try.prog 28 #[.slice p n c, .slice q m d, .int .i64 t] w fun e w' => ∃ p1 m1 u1 b1 p2 m2 u2 b2 p3 m3 u3 b3 f, e = .returned (.tuple #[.slice p1 m1 m1, .slice p2 m2 m2, .slice p3 m3 m3, .int .i64 f]) ∧ ThreeE w.heap.size w' p1 m1 u1 b1 p2 m2 u2 b2 p3 m3 u3 b3 ∧ PartsIs xs ys t u1 u2 u3 f ∧ Below w.heap.size w w' := by
  have HA : Hid (At w p n c xs) := h
  have HB : Hid (At w q m d ys) := k
  clear h k
  rcases Int.lt_or_le t 1 with h0 | h0
  · have h1 : decide (t < 1) = true := decide_eq_true h0
    go_enter Try.func28, Try.ntmps28
    go_wp2_with fail
    refine bodyPost_ret (results_tmp4 rfl _ _ _) rfl ?_
    exact ⟨none, 0, [], _, none, 0, [], _, none, 0, [], _, 1, rfl, ThreeE.empty _ _, .inl ⟨.inl h0, rfl, rfl, rfl, rfl⟩, Below.refl _ _⟩
  · have h1 : decide (t < 1) = false := decide_eq_false (by omega)
    rcases Int.lt_or_le 8192 t with h2 | h2
    · have h3 : decide (8192 < t) = true := decide_eq_true h2
      go_enter Try.func28, Try.ntmps28
      go_wp2_with fail
      refine bodyPost_ret (results_tmp4 rfl _ _ _) rfl ?_
      exact ⟨none, 0, [], _, none, 0, [], _, none, 0, [], _, 1, rfl, ThreeE.empty _ _, .inl ⟨.inr h2, rfl, rfl, rfl, rfl⟩, Below.refl _ _⟩
    · have h3 : decide (8192 < t) = false := decide_eq_false (by omega)
      have HT : Hid (¬ (t < 1 ∨ 8192 < t)) := by show ¬ _; omega
      cases hx : formB xs
      · have HF : Hid ((formB xs && formB ys) = false) := by show _ = _; rw [hx]; rfl
        go_enter Try.func28, Try.ntmps28
        go_wp2_with fail
        refine (form_any HA.out).mono ?_
        rintro e w1 ⟨rfl, hw⟩
        rw [hx]
        obtain rfl := hw.symm
        clear hw
        go_wp2_with fail
        refine bodyPost_ret (results_tmp4 rfl _ _ _) rfl ?_
        exact ⟨none, 0, [], _, none, 0, [], _, none, 0, [], _, 2, rfl, ThreeE.empty _ _, .inr (.inl ⟨HT.out, HF.out, rfl, rfl, rfl, rfl⟩), Below.refl _ _⟩
      · cases hy : formB ys
        · have HF : Hid ((formB xs && formB ys) = false) := by show _ = _; rw [hx, hy]; rfl
          go_enter Try.func28, Try.ntmps28
          go_wp2_with fail
          refine (form_any HA.out).mono ?_
          rintro e w1 ⟨rfl, hw⟩
          rw [hx]
          obtain rfl := hw.symm
          clear hw
          go_wp2_with fail
          refine (form_any HB.out).mono ?_
          rintro e w1 ⟨rfl, hw⟩
          rw [hy]
          obtain rfl := hw.symm
          clear hw
          go_wp2_with fail
          refine bodyPost_ret (results_tmp4 rfl _ _ _) rfl ?_
          exact ⟨none, 0, [], _, none, 0, [], _, none, 0, [], _, 2, rfl, ThreeE.empty _ _, .inr (.inl ⟨HT.out, HF.out, rfl, rfl, rfl, rfl⟩), Below.refl _ _⟩
        · have HFF : Hid ((formB xs && formB ys) = true) := by show _ = _; rw [hx, hy]; rfl
          obtain ⟨T, hT⟩ := Int.eq_ofNat_of_zero_le (show 0 ≤ t by omega)
          subst hT
          refine (partsE HA.out HB.out (nf_of_form HA.out.dig hx) (nf_of_form HB.out.dig hy) (by have := form_len hx; rw [HA.out.len] at this; exact this) (by have := form_len hy; rw [HB.out.len] at this; exact this) T (by omega) (by omega)).mono ?_
          rintro e w' ⟨ha, hb⟩
          rcases ha with ⟨l1, l2, l3, p1, m1, z1, b1, p2, m2, z2, b2, p3, m3, z3, b3, rfl, ⟨n1, n2, n3⟩, hE, hP⟩ | ⟨hl, rfl⟩
          · exact ⟨p1, m1, z1, b1, p2, m2, z2, b2, p3, m3, z3, b3, 0, rfl, ⟨hE, hP⟩, .inr (.inr ⟨HT.out, HFF.out, _, _, _, rfl, rfl, rfl, .inl ⟨l1, l2, l3, n1, n2, n3, rfl⟩⟩), hb⟩
          · exact ⟨none, 0, [], _, none, 0, [], _, none, 0, [], _, 5, rfl, ThreeE.empty _ _, .inr (.inr ⟨HT.out, HFF.out, _, _, _, rfl, rfl, rfl, .inr ⟨hl, rfl, rfl, rfl, rfl⟩⟩), hb⟩
def MK : Nat := 11944390636716687360
def spl (xs : List Nat) : List Nat := xs ++ (List.range 80).map (fun j => MK + (xs.length + j))
theorem spl_len (xs : List Nat) : (spl xs).length = xs.length + 80 := by simp [spl]
theorem spl_lo {xs : List Nat} {i : Nat} (h : i < xs.length) : (spl xs).getD i 0 = xs.getD i 0 := by
  unfold spl
  rw [List.getD_eq_getElem?_getD, List.getElem?_append_left h, ← List.getD_eq_getElem?_getD]
theorem spl_hi {xs : List Nat} {i : Nat} (h : xs.length ≤ i) (h2 : i < xs.length + 80) : (spl xs).getD i 0 = MK + i := by
  unfold spl
  rw [List.getD_eq_getElem?_getD, List.getElem?_append_right h, List.getElem?_map, List.getElem?_range (by omega)]
  show MK + (xs.length + (i - xs.length)) = MK + i
  omega
theorem spl_eq {xs zs : List Nat} (hl : zs.length = xs.length + 80) (h1 : ∀ i, i < xs.length → zs.getD i 0 = xs.getD i 0) (h2 : ∀ i, xs.length ≤ i → i < xs.length + 80 → zs.getD i 0 = MK + i) : zs = spl xs := by
  refine List.ext_getElem (by rw [hl, spl_len]) fun i hi1 hi2 => ?_
  have e : zs.getD i 0 = (spl xs).getD i 0 := by
    rcases Nat.lt_or_ge i xs.length with h | h
    · rw [h1 i h, spl_lo h]
    · rw [h2 i h (by omega), spl_hi h (by omega)]
  rw [List.getD_eq_getElem?_getD, List.getD_eq_getElem?_getD, List.getElem?_eq_getElem hi1, List.getElem?_eq_getElem hi2] at e
  exact e
theorem mark_m1 (j : Nat) (hj : j < 1000000000000000000) {w : World} :
    Calls Try.prog 26 #[.int .i64 (-1), .int .i64 j] w fun en w' => en = .returned (U (MK + j)) ∧ w' = w := by
  have h1 : IntKind.u64.wrap (j : Int) = (j : Int) := by rw [IntKind.wrap_u64]; omega
  have h2 : IntKind.u64.wrap (11944390636716687360 + (j : Int)) = ((MK + j : Nat) : Int) := by rw [IntKind.wrap_u64]; unfold MK; omega
  clear hj
  go_enter Try.func26, Try.ntmps26
  go_wp2_with fail
  go_ret
  exact ⟨rfl, rfl⟩
theorem spare_ok {p : Option Addr} {n c : Nat} {xs : List Nat} {w : World} (h : At w p n c xs) (hn : n ≤ 17592186044416) :
    Calls Try.prog 11 #[.slice p n c] w fun en w' => ∃ g, en = .returned (.tuple #[.slice (some ⟨g, 0, none⟩) n (n + 80), .slice (some ⟨g, 0, none⟩) (n + 80) (n + 80)]) ∧ w.heap.size ≤ g ∧ Row w' g 0 (n + 80) (spl xs) ∧ Below w.heap.size w w' := by
  obtain ⟨i0, hi, hz0, hz1, hz2⟩ := info_parts Try.infoU64
  have hl := h.len
  have HX : Hid (At w p n c xs) := h
  have cap := h.cap; have big := h.big
  unfold maxLen at big
  have wn : wrap64 ((n : Int) + 80) = ((n + 80 : Nat) : Int) := by simp only [wrap64]; omega
  go_enter Try.func11, Try.ntmps11
  go_wp2_with (first
    | (at_make; refine wpList_make_full _ rfl _ _ 24 rfl w.heap.size 23 i0 (.int .u64 0) 1 Try.underlying24 hi hz0 hz1 _ _ _ _ (n + 80) rfl rfl (by omega) (by omega) (by rw [hz2]; omega) (by unfold maxLen; omega) (Nat.le_refl _) ?_; intro w1 hown hgrow; have hb := made_blk hown hgrow; clear hown hgrow)
    | (refine wpList_copy_splice rfl (.tmp 10) (.tmp 11) 24 24 rfl 23 Try.underlying24 Try.sizeU64 (some ⟨w.heap.size, 0, none⟩) p (n + 80) (n + 80) n c rfl rfl w.heap.size 0 (cellsU (List.replicate (n + 80) 0)) 23 hb.1 (cellsU xs) (by rw [cellsU_length, hl]; exact (Nat.min_eq_left (by omega)).symm) (fun h0 => ⟨rfl, (h.below hb.2).src (by rw [cellsU_length] at h0; omega)⟩) (by simp [cellsU_length]; omega) (cellsU_one xs) w.heap.size w hb.2 (Nat.le_refl _) ?_; intro w2 hg2 hb2))
  rw [splice_cellsU, hl, show n + 80 - n = 80 by omega] at hg2
  have hR : Row w2 w.heap.size 0 (n + 80) (xs ++ List.replicate 80 0) := by have h1 := Blk.row hg2 (h.dig.append (Dig.replicate _ _ B64_pos)); rw [List.length_append, List.length_replicate, hl] at h1; exact h1
  have RW : Hid (Row w2 w.heap.size 0 (n + 80) (xs ++ List.replicate 80 0)) := hR
  have hbw := hb2
  obtain ⟨g, hg⟩ : ∃ g, g = w.heap.size := ⟨_, rfl⟩
  have HG : Hid (w.heap.size ≤ g) := by rw [hg]; exact Nat.le_refl _
  rw [← hg] at RW
  rw [← hg]
  clear hR hg2 hb2 hb hg h wn
  go_loopg [5] 80 (fun gk jv wr => ∃ (j : Nat) (zs : List Nat), j + gk = n + 80 ∧ n ≤ j ∧ jv = .int .i64 j ∧ Row wr g 0 (n + 80) zs ∧ ((∀ i, i < n → zs.getD i 0 = xs.getD i 0) ∧ ∀ i, n ≤ i → i < j → zs.getD i 0 = MK + i) ∧ Below w.heap.size w wr)
  case atStart => exact ⟨n, _, by omega, Nat.le_refl _, rfl, RW.out, ⟨fun i hi => by rw [List.getD_eq_getElem?_getD, List.getElem?_append_left (by omega), ← List.getD_eq_getElem?_getD], fun i h1 h2 => by omega⟩, hbw⟩
  case round =>
    obtain ⟨j, zs, hjg, hnj, rfl, xr, xz, hbr⟩ := hrel
    clear RW hbw
    have RW : Hid (Row wr g 0 (n + 80) zs) := xr
    have HZ : Hid ((∀ i, i < n → zs.getD i 0 = xs.getD i 0) ∧ ∀ i, n ≤ i → i < j → zs.getD i 0 = MK + i) := xz
    have hbw := hbr
    clear xr xz hbr
    cases gk with
    | zero =>
      obtain rfl : j = n + 80 := by omega
      have hnk : ¬ ((n + 80 : Nat) : Int) < ((n + 80 : Nat) : Int) := by omega
      have hs1 : (0 : Int) ≤ (n : Int) ∧ (n : Int) ≤ ((n + 80 : Nat) : Int) := by omega
      have hs2 : ¬ ((n + 80 : Nat) : Int) < (n : Int) := by omega
      go_wp2_with fail
      go_ret2
      have e := spl_eq (xs := xs) (zs := zs) (by rw [hl]; exact RW.out.len) (by rw [hl]; exact HZ.out.1) (by rw [hl]; exact HZ.out.2)
      rw [← e]
      exact ⟨g, rfl, HG.out, RW.out, hbw⟩
    | succ gg =>
      have hjl : (j : Int) < ((n + 80 : Nat) : Int) := by omega
      have hj2 : (0 : Int) ≤ (j : Int) ∧ (j : Int) < ((n + 80 : Nat) : Int) := by omega
      have hj3 : (0 : Int) ≤ (j : Int) ∧ (j : Int) < (n : Int) + 80 := by omega
      have hcl := RW.out.cell j (by omega)
      have hfr := RW.out.frozen j (by omega)
      rw [Nat.zero_add] at hcl hfr
      have wj : wrap64 ((j : Int) + 1) = ((j + 1 : Nat) : Int) := by simp only [wrap64]; omega
      go_wp2_with fail
      refine (mark_m1 j (by omega)).mono ?_
      rintro e w' ⟨rfl, hw⟩
      obtain rfl := hw.symm
      clear hw
      go_wp2_with fail
      go_roundg gg
      case measure => omega
      case rel =>
        have hR2 := RW.out.set j (MK + j) (by omega) (by unfold MK; show _ < 18446744073709551616; omega)
        rw [Nat.zero_add] at hR2
        refine ⟨j + 1, zs.set j (MK + j), by omega, by omega, by go_num, hR2, ⟨fun i h1 => ?_, fun i h1 h2 => ?_⟩, bSet hbw _ _ _ HG.out⟩
        · rw [getD_set _ _ _ _ (by rw [RW.out.len]; omega), if_neg (by omega)]; exact HZ.out.1 i h1
        · rw [getD_set _ _ _ _ (by rw [RW.out.len]; omega)]
          by_cases e : i = j
          · rw [if_pos e, e]
          · rw [if_neg e]; exact HZ.out.2 i h1 (by omega)
theorem kept_ok {p : Option Addr} {n c g : Nat} {xs : List Nat} {w : World} (h : At w p n c xs) (k : At w (some ⟨g, 0, none⟩) (n + 80) (n + 80) (spl xs)) (hn : n ≤ 17592186044416) :
    Calls Try.prog 14 #[.slice (some ⟨g, 0, none⟩) (n + 80) (n + 80), .slice p n c] w fun en w' => en = .returned (.bool true) ∧ Below w.heap.size w w' := by
  have HX : Hid (At w p n c xs) := h
  have HK : Hid (At w (some ⟨g, 0, none⟩) (n + 80) (n + 80) (spl xs)) := k
  have HL : Hid (xs.length = n) := h.len
  have cap := h.cap; have big := h.big
  unfold maxLen at big
  have wn : wrap64 ((n : Int) + 80) = ((n + 80 : Nat) : Int) := by simp only [wrap64]; omega
  clear h k
  go_enter Try.func14, Try.ntmps14
  go_wp2_with fail
  clear wn
  go_loopg [5] (n + 80) (fun gk jv wr => ∃ (j : Nat), j + gk = n + 80 ∧ jv = .int .i64 j ∧ Below w.heap.size w wr)
  case atStart => exact ⟨0, by omega, rfl, Below.refl _ _⟩
  case round =>
    obtain ⟨j, hjg, rfl, hbw⟩ := hrel
    cases gk with
    | zero =>
      obtain rfl : j = n + 80 := by omega
      have hnk : ¬ ((n + 80 : Nat) : Int) < ((n + 80 : Nat) : Int) := by omega
      go_wp2_with fail
      go_ret
      exact ⟨rfl, hbw⟩
    | succ gg =>
      have hjl : (j : Int) < ((n + 80 : Nat) : Int) := by omega
      have hj2 : (0 : Int) ≤ (j : Int) ∧ (j : Int) < ((n + 80 : Nat) : Int) := by omega
      have hj3 : (0 : Int) ≤ (j : Int) ∧ (j : Int) < (n : Int) + 80 := by omega
      have wj : wrap64 ((j : Int) + 1) = ((j + 1 : Nat) : Int) := by simp only [wrap64]; omega
      have hcf : w.cell? ⟨g, j, none⟩ = some (U ((spl xs).getD j 0)) := by rcases HK.out.cells with h0 | ⟨g', o', h1, h2⟩; omega; simp only [Option.some.injEq, Addr.mk.injEq, and_true] at h1; obtain ⟨rfl, rfl⟩ := h1; have h3 := h2 j (by omega); rw [Nat.zero_add] at h3; exact h3
      have HCF : Hid (w.cell? ⟨g, j, none⟩ = some (U ((spl xs).getD j 0))) := hcf
      clear hcf
      by_cases hjn : j < n
      · have hs := spl_lo (xs := xs) (i := j) (by rw [HL.out]; exact hjn)
        obtain ⟨ga, oa, rfl, hca⟩ := HX.out.cells.resolve_left (by omega)
        have HCA : Hid (w.cell? ⟨ga, oa + j, none⟩ = some (U (xs.getD j 0))) := hca j hjn
        rw [hs] at HCF
        obtain ⟨x, hx⟩ : ∃ x, x = xs.getD j 0 := ⟨_, rfl⟩
        rw [← hx] at HCF HCA
        have hj5 : (j : Int) < (n : Int) := by omega
        have hj6 : (0 : Int) ≤ (j : Int) ∧ (j : Int) < (n : Int) := by omega
        have dd1 : decide ((j : Int) < (n : Int)) = true := decide_eq_true hj5
        have dd2 : decide ((n : Int) ≤ (j : Int)) = false := decide_eq_false (by omega)
        have dd3 : decide (j < n) = true := decide_eq_true hjn
        have dd4 : decide (n ≤ j) = false := decide_eq_false (by omega)
        clear hs hca hx
        go_wp2_with fail
        obtain ⟨W1, hW1⟩ : ∃ W1, W1 = wr.drew := ⟨_, rfl⟩
        have hbd : Below wr.heap.size wr W1 := by rw [hW1]; exact bDrew1 (Below.refl _ _)
        replace hbw := Below.on hbw hbd
        clear hbd
        have HJ : Hid ((fun W' : World => W'.cell? ⟨g, j, none⟩ = some (U x) ∧ W'.cell? ⟨ga, oa + j, none⟩ = some (U x)) W1) := ⟨((hbw.cell (p := ⟨g, j, none⟩) (World.block_lt_of_cell? w _ HCF.out)).trans HCF.out), ((hbw.cell (p := ⟨ga, oa + j, none⟩) (World.block_lt_of_cell? w _ HCA.out)).trans HCA.out)⟩
        refine wp_region_J (fun W' => W'.cell? ⟨g, j, none⟩ = some (U x) ∧ W'.cell? ⟨ga, oa + j, none⟩ = some (U x)) (by kernel_rfl) ?_
        rw [← hW1]
        clear hW1
        refine wpJ_tq 0 rfl HJ.out ?_
        refine wpJ_tq 1 rfl HJ.out ?_
        refine wpJ_tq 2 rfl HJ.out ?_
        refine wpJ_tq 3 rfl HJ.out ?_
        refine wpJ_tq 4 rfl HJ.out ?_
        go_simp
        refine wpJ_tq 5 rfl HJ.out ?_
        refine wpJ_tq 6 rfl HJ.out ?_
        refine wpJ_tq 7 rfl HJ.out ?_
        refine wpJ_tq 8 rfl HJ.out ?_
        refine wpJ_tq 9 rfl HJ.out ?_
        go_simp
        refine wpJ_tq 10 rfl HJ.out ?_
        refine wpJ_tq 11 rfl HJ.out ?_
        refine wpJ_tq 12 rfl HJ.out ?_
        refine wpJ_tq 13 rfl HJ.out ?_
        refine wpJ_tq 14 rfl HJ.out ?_
        go_simp
        refine wpJ_tq 15 rfl HJ.out ?_
        refine wpJ_tq 16 rfl HJ.out ?_
        refine wpJ_tq 17 rfl HJ.out ?_
        refine wpJ_tq 18 rfl HJ.out ?_
        refine wpJ_tq 19 rfl HJ.out ?_
        go_simp
        refine wpJ_tq 20 rfl HJ.out ?_
        refine wpJ_sk 21 rfl HJ.out ?_
        refine wpJ_sk 22 rfl HJ.out ?_
        refine wpJ_sk 23 rfl HJ.out ?_
        refine wpJ_sk 24 rfl HJ.out ?_
        go_simp
        refine wpJ_sk 25 rfl HJ.out ?_
        refine wpJ_sk 26 rfl HJ.out ?_
        refine wpJ_sk 27 rfl HJ.out ?_
        refine wpJ_tq 28 rfl HJ.out ?_
        refine wpJ_tq 29 rfl HJ.out ?_
        refine wpJ_done (by kernel_rfl) ?_ _
        clear HJ
        clear dd1 dd2 dd3 dd4
        go_wp2_with fail
        go_roundg gg
        case measure => omega
        case rel => exact ⟨j + 1, by omega, by go_num, hbw⟩
      · have hs := spl_hi (xs := xs) (i := j) (by rw [HL.out]; omega) (by rw [HL.out]; omega)
        rw [hs] at HCF
        obtain ⟨x, hx⟩ : ∃ x, x = MK + j := ⟨_, rfl⟩
        rw [← hx] at HCF
        have HXX : Hid (x = MK + j) := hx
        have dd1 : decide ((j : Int) < (n : Int)) = false := decide_eq_false (by omega)
        have dd2 : decide ((n : Int) ≤ (j : Int)) = true := decide_eq_true (by omega)
        have dd3 : decide (j < n) = false := decide_eq_false (by omega)
        have dd4 : decide (n ≤ j) = true := decide_eq_true (by omega)
        clear hs hx
        go_wp2_with fail
        obtain ⟨W1, hW1⟩ : ∃ W1, W1 = wr.drew := ⟨_, rfl⟩
        have hbd : Below wr.heap.size wr W1 := by rw [hW1]; exact bDrew1 (Below.refl _ _)
        replace hbw := Below.on hbw hbd
        clear hbd
        have HJ : Hid ((fun W' : World => W'.cell? ⟨g, j, none⟩ = some (U x)) W1) := ((hbw.cell (p := ⟨g, j, none⟩) (World.block_lt_of_cell? w _ HCF.out)).trans HCF.out)
        refine wp_region_J (fun W' => W'.cell? ⟨g, j, none⟩ = some (U x)) (by kernel_rfl) ?_
        rw [← hW1]
        clear hW1
        refine wpJ_tk 0 (v := ?v24x0) rfl ?hy24x0 HJ.out ?_
        case hy24x0 => (intro W' hJ; have j0 := hJ; go_simp; first | done | with_reducible rfl)
        refine wpJ_tk 1 (v := ?v25x1) rfl ?hy25x1 HJ.out ?_
        case hy25x1 => (intro W' hJ; have j0 := hJ; go_simp; first | done | with_reducible rfl)
        refine wpJ_tk 2 (v := ?v26x2) rfl ?hy26x2 HJ.out ?_
        case hy26x2 => (intro W' hJ; have j0 := hJ; go_simp; first | done | with_reducible rfl)
        refine wpJ_tk 3 (v := ?v27x3) rfl ?hy27x3 HJ.out ?_
        case hy27x3 => (intro W' hJ; have j0 := hJ; go_simp; first | done | with_reducible rfl)
        refine wpJ_tk 4 (v := ?v28x4) rfl ?hy28x4 HJ.out ?_
        case hy28x4 => (intro W' hJ; have j0 := hJ; go_simp; first | done | with_reducible rfl)
        go_simp
        refine wpJ_sk 5 rfl HJ.out ?_
        refine wpJ_sk 6 rfl HJ.out ?_
        refine wpJ_sk 7 rfl HJ.out ?_
        refine wpJ_sk 8 rfl HJ.out ?_
        refine wpJ_sk 9 rfl HJ.out ?_
        go_simp
        refine wpJ_sk 10 rfl HJ.out ?_
        refine wpJ_sk 11 rfl HJ.out ?_
        refine wpJ_sk 12 rfl HJ.out ?_
        refine wpJ_sk 13 rfl HJ.out ?_
        refine wpJ_tk 14 (v := ?v29x14) rfl ?hy29x14 HJ.out ?_
        case hy29x14 => (intro W' hJ; have j0 := hJ; go_simp; first | done | with_reducible rfl)
        go_simp
        refine wpJ_tk 15 (v := ?v30x15) rfl ?hy30x15 HJ.out ?_
        case hy30x15 => (intro W' hJ; have j0 := hJ; go_simp; first | done | with_reducible rfl)
        refine wpJ_tk 16 (v := ?v31x16) rfl ?hy31x16 HJ.out ?_
        case hy31x16 => (intro W' hJ; have j0 := hJ; go_simp; first | done | with_reducible rfl)
        refine wpJ_tk 17 (v := ?v32x17) rfl ?hy32x17 HJ.out ?_
        case hy32x17 => (intro W' hJ; have j0 := hJ; go_simp; first | done | with_reducible rfl)
        refine wpJ_tk 18 (v := ?v33x18) rfl ?hy33x18 HJ.out ?_
        case hy33x18 => (intro W' hJ; have j0 := hJ; go_simp; first | done | with_reducible rfl)
        refine wpJ_tk 19 (v := ?v34x19) rfl ?hy34x19 HJ.out ?_
        case hy34x19 => (intro W' hJ; have j0 := hJ; go_simp; first | done | with_reducible rfl)
        go_simp
        refine wpJ_tk 20 (v := ?v35x20) rfl ?hy35x20 HJ.out ?_
        case hy35x20 => (intro W' hJ; have j0 := hJ; go_simp; first | done | with_reducible rfl)
        refine wpJ_tk 21 (v := ?v36x21) rfl ?hy36x21 HJ.out ?_
        case hy36x21 => (intro W' hJ; have j0 := hJ; go_simp; first | done | with_reducible rfl)
        refine wpJ_tk 22 (v := ?v37x22) rfl ?hy37x22 HJ.out ?_
        case hy37x22 => (intro W' hJ; have j0 := hJ; go_simp; first | done | with_reducible rfl)
        refine wpJ_tk 23 (v := ?v38x23) rfl ?hy38x23 HJ.out ?_
        case hy38x23 => (intro W' hJ; have j0 := hJ; go_simp; first | done | with_reducible rfl)
        refine wpJ_tk 24 (v := ?v39x24) rfl ?hy39x24 HJ.out ?_
        case hy39x24 => (intro W' hJ; have j0 := hJ; go_simp; first | done | with_reducible rfl)
        go_simp
        refine wpJ_tk 25 (v := ?v40x25) rfl ?hy40x25 HJ.out ?_
        case hy40x25 => (intro W' hJ; have j0 := hJ; go_simp; first | done | with_reducible rfl)
        refine wpJ_on 26 rfl fun KJ hK => ?_
        go_simp
        refine (mark_m1 j (by omega)).mono ?_
        rintro e w' ⟨rfl, hw⟩
        obtain rfl := hw.symm
        clear hw
        rw [← HXX.out]
        clear HJ
        have HJ : Hid ((fun W' : World => W'.cell? ⟨g, j, none⟩ = some (U x)) W1) := ((hbw.cell (p := ⟨g, j, none⟩) (World.block_lt_of_cell? w _ HCF.out)).trans HCF.out)
        refine hK _ _ HJ.out ?_
        clear hK
        refine wpJ_tk 27 (v := ?v41x27) rfl ?hy41x27 HJ.out ?_
        case hy41x27 => (intro W' hJ; have j0 := hJ; go_simp; first | done | with_reducible rfl)
        refine wpJ_tk 28 (v := ?v42x28) rfl ?hy42x28 HJ.out ?_
        case hy42x28 => (intro W' hJ; have j0 := hJ; go_simp; first | done | with_reducible rfl)
        refine wpJ_tk 29 (v := ?v43x29) rfl ?hy43x29 HJ.out ?_
        case hy43x29 => (intro W' hJ; have j0 := hJ; go_simp; first | done | with_reducible rfl)
        refine wpJ_done (by kernel_rfl) ?_ _
        clear HJ
        clear dd1 dd2 dd3 dd4
        go_wp2_with fail
        go_roundg gg
        case measure => omega
        case rel => exact ⟨j + 1, by omega, by go_num, hbw⟩
structure B5q (W : World) (g : Nat) (v0 v1 v2 v3 v4 : Value) : Prop where
  c0 : W.cell? ⟨g, 0, none⟩ = some v0
  c1 : W.cell? ⟨g, 1, none⟩ = some v1
  c2 : W.cell? ⟨g, 2, none⟩ = some v2
  c3 : W.cell? ⟨g, 3, none⟩ = some v3
  c4 : W.cell? ⟨g, 4, none⟩ = some v4
  f0 : W.frozen? ⟨g, 0, none⟩ = false
  f1 : W.frozen? ⟨g, 1, none⟩ = false
  f2 : W.frozen? ⟨g, 2, none⟩ = false
  f3 : W.frozen? ⟨g, 3, none⟩ = false
  f4 : W.frozen? ⟨g, 4, none⟩ = false
theorem B5q.below {W W' : World} {g : Nat} {v0 v1 v2 v3 v4 : Value} (h : B5q W g v0 v1 v2 v3 v4) (hb : Below W.heap.size W W') : B5q W' g v0 v1 v2 v3 v4 := by
  have hl : g < W.heap.size := World.block_lt_of_cell? W _ h.c0
  exact ⟨(hb.cell (p := ⟨g, 0, none⟩) hl).trans h.c0, (hb.cell (p := ⟨g, 1, none⟩) hl).trans h.c1, (hb.cell (p := ⟨g, 2, none⟩) hl).trans h.c2, (hb.cell (p := ⟨g, 3, none⟩) hl).trans h.c3, (hb.cell (p := ⟨g, 4, none⟩) hl).trans h.c4,
    (hb.frozen (p := ⟨g, 0, none⟩) hl).trans h.f0, (hb.frozen (p := ⟨g, 1, none⟩) hl).trans h.f1, (hb.frozen (p := ⟨g, 2, none⟩) hl).trans h.f2, (hb.frozen (p := ⟨g, 3, none⟩) hl).trans h.f3, (hb.frozen (p := ⟨g, 4, none⟩) hl).trans h.f4⟩
theorem B5q.new (w : World) (ty : TypeId) (v0 v1 v2 v3 v4 : Value) : B5q (w.alloc (.cells #[v0, v1, v2, v3, v4] ty)) w.heap.size v0 v1 v2 v3 v4 :=
  ⟨by go_simp, by go_simp, by go_simp, by go_simp, by go_simp, by go_simp, by go_simp, by go_simp, by go_simp, by go_simp⟩
theorem B5q.lt {W : World} {g : Nat} {v0 v1 v2 v3 v4 : Value} (h : B5q W g v0 v1 v2 v3 v4) : g < W.heap.size := World.block_lt_of_cell? W _ h.c0
structure SR (w : World) (B g n : Nat) (zs : List Nat) : Prop where
  row : Row w g 0 (n + 80) (spl zs)
  len : zs.length = n
  ge : B ≤ g
  dig : Dig B64 zs
theorem SR.below {w w' : World} {B g n : Nat} {zs : List Nat} (h : SR w B g n zs) (hb : Below w.heap.size w w') : SR w' B g n zs := ⟨h.row.belowQ hb, h.len, h.ge, h.dig⟩
theorem SR.keep {w w' : World} {B g n : Nat} {zs : List Nat} (h : SR w B g n zs) (hb : w'.heap[g]? = w.heap[g]?) : SR w' B g n zs := ⟨h.row.keepQ (fun _ => hb), h.len, h.ge, h.dig⟩
theorem SR.lt {w : World} {B g n : Nat} {zs : List Nat} (h : SR w B g n zs) : g < w.heap.size := row_lt7 h.row (by omega)
theorem SR.at_ {w : World} {B g n : Nat} {zs : List Nat} (h : SR w B g n zs) (hn : n ≤ 17592186044416) : At w (some ⟨g, 0, none⟩) n (n + 80) zs :=
  ⟨h.len, by omega, by unfold maxLen; omega, h.dig, .inr ⟨g, 0, rfl, fun j hj => by rw [h.row.cell j (by omega), spl_lo (by rw [h.len]; exact hj)]⟩⟩
theorem SR.full {w : World} {B g n : Nat} {zs : List Nat} (h : SR w B g n zs) (hn : n ≤ 17592186044416) : At w (some ⟨g, 0, none⟩) (n + 80) (n + 80) (spl zs) := h.row.at_ (Nat.le_refl _) (by unfold maxLen; omega)
theorem spl_set {zs : List Nat} {i y : Nat} (h : i < zs.length) : (spl zs).set i y = spl (zs.set i y) := by
  unfold spl
  rw [List.set_append_left _ _ h, List.length_set]
theorem SR.set {w : World} {B g n : Nat} {zs : List Nat} (h : SR w B g n zs) {i y : Nat} (hi : i < n) (hy : y < B64) : SR (w.setCell ⟨g, i, none⟩ (U y)) B g n (zs.set i y) := by
  have h1 := h.row.set i y (by omega) hy
  rw [Nat.zero_add, spl_set (by rw [h.len]; exact hi)] at h1
  refine ⟨h1, by rw [List.length_set]; exact h.len, h.ge, fun x hx => ?_⟩
  rcases List.mem_or_eq_of_mem_set hx with h2 | h2
  · exact h.dig x h2
  · rw [h2]; exact hy
theorem spare_sr {p : Option Addr} {n c : Nat} {xs : List Nat} {w : World} (h : At w p n c xs) (hn : n ≤ 17592186044416) :
    Calls Try.prog 11 #[.slice p n c] w fun en w' => ∃ g, en = .returned (.tuple #[.slice (some ⟨g, 0, none⟩) n (n + 80), .slice (some ⟨g, 0, none⟩) (n + 80) (n + 80)]) ∧ w.heap.size ≤ g ∧ g < w'.heap.size ∧ SR w' w.heap.size g n xs ∧ Below w.heap.size w w' :=
  (spare_ok h hn).mono fun en w' ⟨g, h1, h2, h3, h4⟩ => ⟨g, h1, h2, row_lt7 h3 (by omega), ⟨h3, h.len, h2, h.dig⟩, h4⟩
theorem SR.mono {w : World} {B B' g n : Nat} {zs : List Nat} (h : SR w B g n zs) (hB : B' ≤ B) : SR w B' g n zs := ⟨h.row, h.len, Nat.le_trans hB h.ge, h.dig⟩
theorem B5q.keep {w w' : World} {g : Nat} {v0 v1 v2 v3 v4 : Value} (h : B5q w g v0 v1 v2 v3 v4) (hb : w'.heap[g]? = w.heap[g]?) : B5q w' g v0 v1 v2 v3 v4 :=
  ⟨(World.cell?_of_block (w := w) hb).trans h.c0, (World.cell?_of_block (w := w) hb).trans h.c1, (World.cell?_of_block (w := w) hb).trans h.c2, (World.cell?_of_block (w := w) hb).trans h.c3, (World.cell?_of_block (w := w) hb).trans h.c4, (World.frozen?_of_block (w := w) hb).trans h.f0, (World.frozen?_of_block (w := w) hb).trans h.f1, (World.frozen?_of_block (w := w) hb).trans h.f2, (World.frozen?_of_block (w := w) hb).trans h.f3, (World.frozen?_of_block (w := w) hb).trans h.f4⟩
theorem xorM (x : Nat) : ∃ y : Nat, bits .xor .u64 IntKind.u64.max (x : Int) = (y : Int) ∧ y < B64 := by
  have e : bits .xor .u64 IntKind.u64.max (x : Int) = IntKind.u64.wrap ((BitVec.ofInt 64 IntKind.u64.max ^^^ BitVec.ofInt 64 (x : Int)).toNat : Int) := rfl
  rw [IntKind.wrap_u64] at e
  rw [e]
  generalize (BitVec.ofInt 64 IntKind.u64.max ^^^ BitVec.ofInt 64 (x : Int)).toNat = z
  exact ⟨z % 18446744073709551616, by omega, by rw [B64_eq]; omega⟩
theorem wj80 {j : Nat} (h : j < 17592186044500) : wrap64 ((j : Int) + 1) = ((j + 1 : Nat) : Int) := by
  simp only [wrap64]; omega
theorem mark_m2 (j : Nat) (hj : j < 17592186044500) {w : World} :
    Calls Try.prog 26 #[.int .i64 (-2), .int .i64 j] w fun en w' => (∃ v, v < B64 ∧ en = .returned (U v)) ∧ w' = w := by
  have h1 : IntKind.u64.wrap (j : Int) = (j : Int) := by rw [IntKind.wrap_u64]; omega
  have h2 : IntKind.u64.wrap (11944390636699910144 + (j : Int)) = ((11944390636699910144 + j : Nat) : Int) := by rw [IntKind.wrap_u64]; omega
  have h3 : IntKind.u64.wrap (11944390636716687360 + IntKind.u64.wrap (IntKind.u64.wrap (-1) * 16777216)) = 11944390636699910144 := by decide
  have HJ : Hid (11944390636699910144 + j < B64) := by show _ < 18446744073709551616; omega
  clear hj
  go_enter Try.func26, Try.ntmps26
  go_wp2_with fail
  go_ret
  exact ⟨⟨_, HJ.out, rfl⟩, rfl⟩
theorem over_ok {g L : Nat} {ys : List Nat} {w : World} (h : Row w g 0 L ys) (hL : L ≤ 17592186044496) :
    Calls Try.prog 16 #[.slice (some ⟨g, 0, none⟩) L L] w fun en w' => en = .returned (.tuple #[]) ∧ (∃ zs, Row w' g 0 L zs) ∧ w'.heap.size = w.heap.size ∧ (∀ k, k ≠ g → w'.heap[k]? = w.heap[k]?) ∧ Below g w w' := by
  have HR : Hid (Row w g 0 L ys) := h
  clear h
  go_enter Try.func16, Try.ntmps16
  go_wp2_with fail
  go_loopg [2] L (fun gk jv wr => ∃ (j : Nat) (zs : List Nat), j + gk = L ∧ jv = .int .i64 j ∧ Row wr g 0 L zs ∧ wr.heap.size = w.heap.size ∧ (∀ k, k ≠ g → wr.heap[k]? = w.heap[k]?) ∧ Below g w wr)
  case atStart => exact ⟨0, ys, by omega, rfl, HR.out, rfl, fun _ _ => rfl, Below.refl _ _⟩
  case round =>
    clear HR
    obtain ⟨j, zs, hjg, rfl, x1, x2, x3, hbw⟩ := hrel
    have HR : Hid (Row wr g 0 L zs ∧ wr.heap.size = w.heap.size ∧ ∀ k, k ≠ g → wr.heap[k]? = w.heap[k]?) := ⟨x1, x2, x3⟩
    clear x1 x2 x3
    cases gk with
    | zero =>
      obtain rfl : j = L := by omega
      have hnk : ¬ (j : Int) < (j : Int) := by omega
      go_wp2_with fail
      refine bodyPost_end (results_none rfl _ _ _) rfl ?_
      exact ⟨rfl, ⟨zs, HR.out.1⟩, HR.out.2.1, HR.out.2.2, hbw⟩
    | succ gj =>
      have hjl : (j : Int) < (L : Int) := by omega
      have hj0 : (0 : Int) ≤ (j : Int) ∧ (j : Int) < (L : Int) := by omega
      have HJ : Hid (j < L ∧ j < 17592186044500) := ⟨by omega, by omega⟩
      have hcl := HR.out.1.cell j HJ.out.1
      have hfr := HR.out.1.frozen j HJ.out.1
      rw [Nat.zero_add] at hcl hfr
      go_wp2_with fail
      refine (mark_m2 j HJ.out.2).mono ?_
      rintro e w' ⟨⟨v, hv, rfl⟩, hw⟩
      obtain rfl := hw.symm
      clear hw
      have wj := wj80 HJ.out.2
      obtain ⟨y, hy, hyb⟩ := xorM v
      have HY : Hid (y < B64) := hyb
      have hsg : IntKind.u64.signed = false := rfl
      clear hv hyb
      go_wp2_with fail
      go_roundg gj
      case measure => omega
      case rel =>
        have h9 := HR.out.1.set j y HJ.out.1 HY.out
        rw [Nat.zero_add] at h9
        exact ⟨j + 1, _, by omega, by go_num, h9, by rw [World.size_setCell]; exact HR.out.2.1, fun k hk => (Below.heap_setCell wr _ _ k hk).trans (HR.out.2.2 k hk), bSet hbw g j _ (Nat.le_refl _)⟩
theorem LsA.nil (w : World) : LsA w none 0 0 [] := ⟨rfl, Nat.le_refl _, Nat.zero_le _, .inl rfl, fun t ht => by cases ht⟩
structure GL (w : World) (B G : Nat) (es : List EN7) : Prop where
  cells : ∀ i, i < es.length → w.cell? ⟨G, i, none⟩ = some (.slice (es.getD i enD7).p (es.getD i enD7).n (es.getD i enD7).n)
  own : ∀ e ∈ es, EQ7 w B e.p e.n e.b e.X
  pos : 0 < es.length
  le : es.length ≤ 3
theorem GL.lt {w : World} {B G : Nat} {es : List EN7} (h : GL w B G es) : G < w.heap.size := World.block_lt_of_cell? w _ (h.cells 0 h.pos)
theorem GL.below {w w' : World} {B G : Nat} {es : List EN7} (h : GL w B G es) (hb : Below w.heap.size w w') : GL w' B G es :=
  ⟨fun i hi => (hb.cell (p := ⟨G, i, none⟩) h.lt).trans (h.cells i hi), fun e he => (h.own e he).below hb, h.pos, h.le⟩
theorem GL.keep {w w' : World} {B G : Nat} {es : List EN7} (h : GL w B G es) (hG : w'.heap[G]? = w.heap[G]?) (hb : ∀ e ∈ es, e.n ≠ 0 → w'.heap[e.b]? = w.heap[e.b]?) : GL w' B G es :=
  ⟨fun i hi => (World.cell?_of_block (w := w) hG).trans (h.cells i hi), fun e he => (h.own e he).keep (hb e he), h.pos, h.le⟩
structure ED7 where
  p : Option Addr
  n : Nat
  c : Nat
  b : Nat
  X : List Nat
def edD7 : ED7 := ⟨none, 0, 0, 0, []⟩
structure DL (w : World) (G : Nat) (ds : List ED7) : Prop where
  cells : ∀ i, i < ds.length → w.cell? ⟨G, i, none⟩ = some (.slice (ds.getD i edD7).p (ds.getD i edD7).n (ds.getD i edD7).c)
  own : ∀ d ∈ ds, WA7 w d.p d.n d.c d.b d.X
  pos : 0 < ds.length
  le : ds.length ≤ 3
theorem DL.lt {w : World} {G : Nat} {ds : List ED7} (h : DL w G ds) : G < w.heap.size := World.block_lt_of_cell? w _ (h.cells 0 h.pos)
theorem DL.below {w w' : World} {G : Nat} {ds : List ED7} (h : DL w G ds) (hb : Below w.heap.size w w') : DL w' G ds :=
  ⟨fun i hi => (hb.cell (p := ⟨G, i, none⟩) h.lt).trans (h.cells i hi), fun e he => (h.own e he).below hb, h.pos, h.le⟩
theorem DL.keep {w w' : World} {G : Nat} {ds : List ED7} (h : DL w G ds) (hG : w'.heap[G]? = w.heap[G]?) (hb : ∀ e ∈ ds, e.n ≠ 0 → w'.heap[e.b]? = w.heap[e.b]?) : DL w' G ds :=
  ⟨fun i hi => (World.cell?_of_block (w := w) hG).trans (h.cells i hi), fun e he => (h.own e he).keep (hb e he), h.pos, h.le⟩
theorem en_get {es : List EN7} {i : Nat} (h : i < es.length) : es.getD i enD7 ∈ es := by
  rw [List.getD_eq_getElem?_getD, List.getElem?_eq_getElem h]; exact List.getElem_mem h
theorem ed_get {es : List ED7} {i : Nat} (h : i < es.length) : es.getD i edD7 ∈ es := by
  rw [List.getD_eq_getElem?_getD, List.getElem?_eq_getElem h]; exact List.getElem_mem h
theorem map_at7 {es : List EN7} {ds : List ED7} (h : es.map EN7.X = ds.map ED7.X) {i : Nat} (hi : i < es.length) (hd : i < ds.length) : (es.getD i enD7).X = (ds.getD i edD7).X := by
  have h1 : (es.map EN7.X)[i]? = (ds.map ED7.X)[i]? := by rw [h]
  rw [List.getElem?_map, List.getElem?_map, List.getElem?_eq_getElem hi, List.getElem?_eq_getElem hd] at h1
  rw [List.getD_eq_getElem?_getD, List.getD_eq_getElem?_getD, List.getElem?_eq_getElem hi, List.getElem?_eq_getElem hd]
  exact Option.some.inj h1
theorem wj3q {j : Nat} (h : j < 4) : wrap64 ((j : Int) + 1) = ((j + 1 : Nat) : Int) := by
  simp only [wrap64]; omega
theorem like_ok {B G H C D : Nat} {es : List EN7} {ds : List ED7} {w : World} (h : GL w B G es) (k : DL w H ds) (he : es.map EN7.X = ds.map ED7.X) :
    Calls Try.prog 13 #[.slice (some ⟨G, 0, none⟩) es.length C, .slice (some ⟨H, 0, none⟩) ds.length D] w fun en w' => en = .returned (.bool true) ∧ Below w.heap.size w w' := by
  have HL : Hid (ds.length = es.length) := by have h1 := congrArg List.length he; rw [List.length_map, List.length_map] at h1; exact h1.symm
  have HH : Hid (GL w B G es ∧ DL w H ds ∧ es.map EN7.X = ds.map ED7.X) := ⟨h, k, he⟩
  rw [HL.out]
  have HN : Hid (es.length ≤ 3) := h.le
  clear h k he
  obtain ⟨N, hN⟩ : ∃ N, N = es.length := ⟨_, rfl⟩
  have HNN : Hid (N = es.length) := hN
  rw [← hN] at HN ⊢
  clear hN
  have hnn : ((N : Int) == (N : Int)) = true := by simp
  have hbw : Below w.heap.size w w := Below.refl _ _
  go_enter Try.func13, Try.ntmps13
  go_wp2_with fail
  go_loopg [5] N (fun gk iv wr => ∃ (i : Nat), i + gk = N ∧ iv = .int .i64 i ∧ Below w.heap.size w wr)
  case atStart => exact ⟨0, by omega, rfl, hbw⟩
  case round =>
    clear hbw
    obtain ⟨i, hig, rfl, hbw⟩ := hrel
    cases gk with
    | zero =>
      obtain rfl : i = N := by omega
      have hnk : ¬ (i : Int) < (i : Int) := by omega
      go_wp2_with fail
      go_ret
      exact ⟨rfl, hbw⟩
    | succ gi =>
      have hil : (i : Int) < (N : Int) := by omega
      have hi0 : (0 : Int) ≤ (i : Int) ∧ (i : Int) < (N : Int) := by omega
      have HIN : Hid (i < es.length ∧ i < ds.length ∧ i < 4) := ⟨by rw [← HNN.out]; omega, by rw [HL.out, ← HNN.out]; omega, by have := HN.out; omega⟩
      have wi := wj3q HIN.out.2.2
      have HC1 : Hid (w.cell? ⟨G, i, none⟩ = some (.slice (es.getD i enD7).p (es.getD i enD7).n (es.getD i enD7).n)) := HH.out.1.cells i HIN.out.1
      have HC2 : Hid (w.cell? ⟨H, i, none⟩ = some (.slice (ds.getD i edD7).p (ds.getD i edD7).n (ds.getD i edD7).c)) := HH.out.2.1.cells i HIN.out.2.1
      have HS1 : Hid (At w (es.getD i enD7).p (es.getD i enD7).n (es.getD i enD7).n (es.getD i enD7).X) := (HH.out.1.own _ (en_get HIN.out.1)).at_
      have HS2 : Hid (At w (ds.getD i edD7).p (ds.getD i edD7).n (ds.getD i edD7).c (es.getD i enD7).X) := by rw [map_at7 HH.out.2.2 HIN.out.1 HIN.out.2.1]; exact (HH.out.2.1.own _ (ed_get HIN.out.2.1)).at_
      generalize (es.getD i enD7).p = ep at *
      generalize (es.getD i enD7).n = en at *
      generalize (es.getD i enD7).X = eX at *
      generalize (ds.getD i edD7).p = dp at *
      generalize (ds.getD i edD7).n = dn at *
      generalize (ds.getD i edD7).c = dc at *
      go_wp2_with fail
      obtain ⟨W1, hW1⟩ : ∃ W1, W1 = wr.drew := ⟨_, rfl⟩
      have hbd : Below wr.heap.size wr W1 := by rw [hW1]; exact bDrew1 (Below.refl _ _)
      replace hbw := Below.on hbw hbd
      clear hbd
      have HJ : Hid ((fun W' : World => W'.cell? ⟨G, i, none⟩ = some (.slice ep en en) ∧ W'.cell? ⟨H, i, none⟩ = some (.slice dp dn dc)) W1) := ⟨((hbw.cell (p := ⟨G, i, none⟩) (World.block_lt_of_cell? w _ HC1.out)).trans HC1.out), ((hbw.cell (p := ⟨H, i, none⟩) (World.block_lt_of_cell? w _ HC2.out)).trans HC2.out)⟩
      refine wp_region_J (fun W' => W'.cell? ⟨G, i, none⟩ = some (.slice ep en en) ∧ W'.cell? ⟨H, i, none⟩ = some (.slice dp dn dc)) (by kernel_rfl) ?_
      rw [← hW1]
      clear hW1
      refine wpJ_tq 0 rfl HJ.out ?_
      refine wpJ_tq 1 rfl HJ.out ?_
      refine wpJ_tq 2 rfl HJ.out ?_
      refine wpJ_tq 3 rfl HJ.out ?_
      refine wpJ_tq 4 rfl HJ.out ?_
      go_simp
      refine wpJ_tq 5 rfl HJ.out ?_
      refine wpJ_tq 6 rfl HJ.out ?_
      refine wpJ_tq 7 rfl HJ.out ?_
      refine wpJ_on 8 rfl fun KJ hK => ?_
      go_simp
      refine (same_t (HS1.out.below hbw) (HS2.out.below hbw)).mono ?_
      rintro e v1 ⟨rfl, hb⟩
      replace hbw := Below.on hbw hb
      clear hb
      clear HJ
      have HJ : Hid ((fun W' : World => W'.cell? ⟨G, i, none⟩ = some (.slice ep en en) ∧ W'.cell? ⟨H, i, none⟩ = some (.slice dp dn dc)) v1) := ⟨((hbw.cell (p := ⟨G, i, none⟩) (World.block_lt_of_cell? w _ HC1.out)).trans HC1.out), ((hbw.cell (p := ⟨H, i, none⟩) (World.block_lt_of_cell? w _ HC2.out)).trans HC2.out)⟩
      refine hK _ _ HJ.out ?_
      clear hK
      refine wpJ_tq 9 rfl HJ.out ?_
      refine wpJ_done (by kernel_rfl) ?_ _
      clear HJ
      go_wp2_with fail
      go_roundg gi
      case measure => omega
      case rel => exact ⟨i + 1, by omega, by go_num, hbw⟩
theorem At.setOther5 {w : World} {p : Option Addr} {n c : Nat} {xs : List Nat} (h : At w p n c xs) (g2 o2 : Nat) (v : Value) (hne : ∀ a, p = some a → a.block ≠ g2) : At (w.setCell ⟨g2, o2, none⟩ v) p n c xs := by
  refine ⟨h.len, h.cap, h.big, h.dig, ?_⟩
  rcases h.cells with h0 | ⟨g, off, rfl, hc⟩
  · exact .inl h0
  · refine .inr ⟨g, off, rfl, fun j hj => ?_⟩
    have hn : g ≠ g2 := hne ⟨g, off, none⟩ rfl
    rw [World.cell?_setCell_other _ _ _ _ (by intro e; apply hn; have := congrArg Addr.block e; simp at this; omega)]
    exact hc j hj
theorem bSetQ {B : Nat} {a w : World} (h : Below B a w) (g o : Nat) (v : Value) (hB : B ≤ g) : Below B a (w.setCell ⟨g, o, none⟩ v) :=
  h.trans ((Wr.refl g o 1 w).setCell o ⟨by omega, by omega⟩ v |>.below hB)
theorem results_cell1' {fn : Func} {p : Tmp} {ty : TypeId} (h : fn.results = #[.cell p ty]) (tmps : Array Value) (P : Program) (w : World) :
    (results fn tmps).run P w = ((asAddr (tmps.getD p undef)).run P w).andThen fun a w₁ => (loadVar ty a).run P w₁ := by
  simp only [results, h]
  simp [Sem.run_bind, Result.andThen]

theorem twinM {pa pb : Option Addr} {na nb ca cb : Nat} {xa xb : List Nat} {w : World} (h : At w pa na ca xa) (k : At w pb nb cb xb) (hna : na ≤ 17592186044416) (hnb : nb ≤ 17592186044416) (kd nn : Int) (pl : Option Addr) (nl cl : Nat) :
    Calls Try.prog 10 #[.agg #[.int .i64 kd, .slice pa na ca, .slice pb nb cb, .int .i64 nn, .slice pl nl cl]] w fun e w' => ∃ p1 p2, e = .returned (.agg #[.int .i64 kd, .slice p1 na na, .slice p2 nb nb, .int .i64 nn, .slice pl nl cl]) ∧ At w' p1 na na xa ∧ At w' p2 nb nb xb ∧ Below w.heap.size w w' := by
  have HA : Hid (At w pa na ca xa) := h
  have HB : Hid (At w pb nb cb xb) := k
  clear h k
  go_enter Try.func10, Try.ntmps10
  go_wp2_with fail
  have X0 : B5q ((w.alloc (.cells #[.int .i64 kd, .slice pa na ca, .slice pb nb cb, .int .i64 nn, .slice pl nl cl] 27)).alloc (.cells #[.int .i64 0, .slice none 0 0, .slice none 0 0, .int .i64 0, .slice none 0 0] 27)) w.heap.size (.int .i64 kd) (.slice pa na ca) (.slice pb nb cb) (.int .i64 nn) (.slice pl nl cl) := ⟨by go_simp, by go_simp, by go_simp, by go_simp, by go_simp, by go_simp, by go_simp, by go_simp, by go_simp, by go_simp⟩
  have R0 : B5q ((w.alloc (.cells #[.int .i64 kd, .slice pa na ca, .slice pb nb cb, .int .i64 nn, .slice pl nl cl] 27)).alloc (.cells #[.int .i64 0, .slice none 0 0, .slice none 0 0, .int .i64 0, .slice none 0 0] 27)) (w.heap.size + 1) (.int .i64 0) (.slice none 0 0) (.slice none 0 0) (.int .i64 0) (.slice none 0 0) := ⟨by go_simp, by go_simp, by go_simp, by go_simp, by go_simp, by go_simp, by go_simp, by go_simp, by go_simp, by go_simp⟩
  have hb0 : Below w.heap.size w ((w.alloc (.cells #[.int .i64 kd, .slice pa na ca, .slice pb nb cb, .int .i64 nn, .slice pl nl cl] 27)).alloc (.cells #[.int .i64 0, .slice none 0 0, .slice none 0 0, .int .i64 0, .slice none 0 0] 27)) := below2 w _ _
  have hsW : ((w.alloc (.cells #[.int .i64 kd, .slice pa na ca, .slice pb nb cb, .int .i64 nn, .slice pl nl cl] 27)).alloc (.cells #[.int .i64 0, .slice none 0 0, .slice none 0 0, .int .i64 0, .slice none 0 0] 27)).heap.size = w.heap.size + 1 + 1 := by simp
  generalize ((w.alloc (.cells #[.int .i64 kd, .slice pa na ca, .slice pb nb cb, .int .i64 nn, .slice pl nl cl] 27)).alloc (.cells #[.int .i64 0, .slice none 0 0, .slice none 0 0, .int .i64 0, .slice none 0 0] 27)) = W0 at *
  obtain ⟨hs, ehs⟩ : ∃ hs, hs = w.heap.size := ⟨_, rfl⟩
  have HHS : Hid (hs = w.heap.size) := ehs
  rw [← ehs] at X0 R0 hsW ⊢
  refine (twin_any (HA.out.below hb0) (by omega)).mono ?_
  rintro e w1 ⟨g1, rfl, hg1, hk1, hb1⟩
  have X1 : B5q w1 hs (.int .i64 kd) (.slice pa na ca) (.slice pb nb cb) (.int .i64 nn) (.slice pl nl cl) := X0.below hb1
  have R1 : Hid (B5q w1 (hs + 1) (.int .i64 0) (.slice none 0 0) (.slice none 0 0) (.int .i64 0) (.slice none 0 0)) := R0.below hb1
  have K1 : Hid (At w1 (some ⟨g1, 0, none⟩) na na xa) := hk1.at_ HA.out.dig HA.out.len (by unfold maxLen; omega)
  have HG1 : Hid (hs + 1 + 1 ≤ g1) := Nat.le_trans (Nat.le_of_eq hsW.symm) hg1
  have HB1 : Hid (Below w.heap.size w w1) := Below.on hb0 hb1
  have HS1 : Hid (hs + 1 + 1 ≤ w1.heap.size) := Nat.le_trans (Nat.le_of_eq hsW.symm) hb1.size
  obtain ⟨c0, c1, c2, c3, c4, c5, c6, c7, c8, c9⟩ := X1
  clear X0 R0 hb0 hsW ehs hg1 hk1 hb1
  go_wp2_with fail
  have X2 : Hid (B5q (w1.setCell ⟨hs, 1, none⟩ (.slice (some ⟨g1, 0, none⟩) na na)) hs (.int .i64 kd) (.slice (some ⟨g1, 0, none⟩) na na) (.slice pb nb cb) (.int .i64 nn) (.slice pl nl cl)) := ⟨by go_simp, by go_simp, by go_simp, by go_simp, by go_simp, by go_simp, by go_simp, by go_simp, by go_simp, by go_simp⟩
  have R2 : Hid (B5q (w1.setCell ⟨hs, 1, none⟩ (.slice (some ⟨g1, 0, none⟩) na na)) (hs + 1) (.int .i64 0) (.slice none 0 0) (.slice none 0 0) (.int .i64 0) (.slice none 0 0)) := by
    obtain ⟨r0, r1, r2, r3, r4, r5, r6, r7, r8, r9⟩ := R1.out
    exact ⟨by go_simp, by go_simp, by go_simp, by go_simp, by go_simp, by go_simp, by go_simp, by go_simp, by go_simp, by go_simp⟩
  have K2 : Hid (At (w1.setCell ⟨hs, 1, none⟩ (.slice (some ⟨g1, 0, none⟩) na na)) (some ⟨g1, 0, none⟩) na na xa) := K1.out.setOther5 _ _ _ (by intro a ha; cases ha; have := HG1.out; simp; omega)
  have HB2 : Hid (Below w.heap.size w (w1.setCell ⟨hs, 1, none⟩ (.slice (some ⟨g1, 0, none⟩) na na))) := HB1.out.trans ((Wr.refl hs 1 1 w1).setCell 1 ⟨by omega, by omega⟩ _ |>.below (by have := HHS.out; omega))
  have HS2 : Hid (hs + 1 + 1 ≤ (w1.setCell ⟨hs, 1, none⟩ (.slice (some ⟨g1, 0, none⟩) na na)).heap.size) := by have := HS1.out; show _ ≤ _; simp; exact this
  clear c0 c1 c2 c3 c4 c5 c6 c7 c8 c9
  clear R1 K1 HB1 HS1
  generalize w1.setCell ⟨hs, 1, none⟩ (.slice (some ⟨g1, 0, none⟩) na na) = w2 at *
  refine (twin_any (HB.out.below HB2.out) (by omega)).mono ?_
  rintro e w3 ⟨g2, rfl, hg2, hk2, hb2⟩
  have X3 : B5q w3 hs (.int .i64 kd) (.slice (some ⟨g1, 0, none⟩) na na) (.slice pb nb cb) (.int .i64 nn) (.slice pl nl cl) := X2.out.below hb2
  have R3 : Hid (B5q w3 (hs + 1) (.int .i64 0) (.slice none 0 0) (.slice none 0 0) (.int .i64 0) (.slice none 0 0)) := R2.out.below hb2
  have K3 : Hid (At w3 (some ⟨g1, 0, none⟩) na na xa) := K2.out.below hb2
  have L3 : Hid (At w3 (some ⟨g2, 0, none⟩) nb nb xb) := hk2.at_ HB.out.dig HB.out.len (by unfold maxLen; omega)
  have HG2 : Hid (hs + 1 + 1 ≤ g2) := Nat.le_trans HS2.out hg2
  have HB3 : Hid (Below w.heap.size w w3) := Below.on HB2.out hb2
  obtain ⟨c0, c1, c2, c3, c4, c5, c6, c7, c8, c9⟩ := X3
  obtain ⟨r0, r1, r2, r3, r4, r5, r6, r7, r8, r9⟩ := R3.out
  clear X2 R2 K2 HB2 HS2 hg2 hk2 hb2
  go_wp2_with fail
  refine bodyPost_ret (v := .agg #[.int .i64 kd, .slice (some ⟨g1, 0, none⟩) na na, .slice (some ⟨g2, 0, none⟩) nb nb, .int .i64 nn, .slice pl nl cl]) (by rw [results_cell1' rfl]; go_simp) rfl ⟨_, _, rfl, ?_, ?_, ?_⟩
  · have hg1 := HG1.out
    have ne : ∀ a, some (⟨g1, 0, none⟩ : Addr) = some a → a.block ≠ hs := by intro a ha; cases ha; simp; omega
    have ne1 : ∀ a, some (⟨g1, 0, none⟩ : Addr) = some a → a.block ≠ hs + 1 := by intro a ha; cases ha; simp; omega
    exact (((((K3.out.setOther5 _ _ _ ne).setOther5 _ _ _ ne1).setOther5 _ _ _ ne1).setOther5 _ _ _ ne1).setOther5 _ _ _ ne1).setOther5 _ _ _ ne1
  · have hg2 := HG2.out
    have ne : ∀ a, some (⟨g2, 0, none⟩ : Addr) = some a → a.block ≠ hs := by intro a ha; cases ha; simp; omega
    have ne1 : ∀ a, some (⟨g2, 0, none⟩ : Addr) = some a → a.block ≠ hs + 1 := by intro a ha; cases ha; simp; omega
    exact (((((L3.out.setOther5 _ _ _ ne).setOther5 _ _ _ ne1).setOther5 _ _ _ ne1).setOther5 _ _ _ ne1).setOther5 _ _ _ ne1).setOther5 _ _ _ ne1
  · have h0 : w.heap.size ≤ hs := by have := HHS.out; omega
    have h1 : w.heap.size ≤ hs + 1 := by omega
    exact bSetQ (bSetQ (bSetQ (bSetQ (bSetQ (bSetQ HB3.out _ _ _ h0) _ _ _ h1) _ _ _ h1) _ _ _ h1) _ _ _ h1) _ _ _ h1
theorem EQ7.mono {w : World} {B B' : Nat} {p : Option Addr} {n b : Nat} {X : List Nat} (h : EQ7 w B p n b X) (hB : B' ≤ B) : EQ7 w B' p n b X := ⟨h.addr, h.pn, h.row, Nat.le_trans hB h.ge, h.le⟩
theorem newa_wa2 {B : Nat} {w : World} {p : Option Addr} {m c : Nat} {us : List Nat} (h : NewA B w p m c us) : ∃ b, WA7 w p m c b us ∧ (m ≠ 0 → B ≤ b ∧ b < w.heap.size) := by
  by_cases h0 : m = 0
  · exact ⟨0, ⟨h.1, fun h => absurd h0 h⟩, fun h => absurd h0 h⟩
  · obtain ⟨g, e, hg⟩ := h.2.resolve_left h0
    have h1 : WA7 w p m c g us := ⟨h.1, fun _ => e⟩
    exact ⟨g, h1, fun h => ⟨hg, h1.lt h⟩⟩
def it0 (xs : List Nat) : It := ⟨none, 0, 0, xs, valB B64 xs⟩
def AIs (kd : Int) (xa xb : List Nat) (nn : Int) (uss : List (List Nat)) (f : Int) : Prop :=
  (kd = 1 ∧ ∃ u, uss = [u] ∧ MulIs xa xb u f) ∨ (kd = 2 ∧ ∃ u, uss = [u] ∧ MulIs xa xa u f) ∨ (kd = 3 ∧ ∃ u, uss = [u] ∧ PowIs xa nn u f) ∨ (kd = 4 ∧ ∃ u v t, uss = [u, v, t] ∧ PartsIs xa xb nn u v t f) ∨ (kd = 5 ∧ ∃ u, uss = [u] ∧ PrIs [it0 xa, it0 xb] u f)
theorem AIs.uniq {kd : Int} {xa xb : List Nat} {nn : Int} {us us' : List (List Nat)} {f f' : Int} (h : AIs kd xa xb nn us f) (k : AIs kd xa xb nn us' f') : us = us' ∧ f = f' := by
  rcases h with ⟨h0, u, rfl, h1⟩ | ⟨h0, u, rfl, h1⟩ | ⟨h0, u, rfl, h1⟩ | ⟨h0, u, v, t, rfl, h1⟩ | ⟨h0, u, rfl, h1⟩ <;> subst h0 <;> rcases k with ⟨k0, u', rfl, k1⟩ | ⟨k0, u', rfl, k1⟩ | ⟨k0, u', rfl, k1⟩ | ⟨k0, u', v', t', rfl, k1⟩ | ⟨k0, u', rfl, k1⟩
  all_goals first
    | omega
    | (have h9 := MulIs.inj h1 k1; exact ⟨by rw [h9.1], h9.2⟩)
    | (have h9 := PowIs.inj h1 k1; exact ⟨by rw [h9.1], h9.2⟩)
    | (have h9 := PartsIs.inj h1 k1; exact ⟨by rw [h9.1, h9.2.1, h9.2.2.1], h9.2.2.2⟩)
    | (have h9 := PrIs.inj h1 k1; exact ⟨by rw [h9.1], h9.2⟩)
theorem pris_0 {pa pb : Option Addr} {na nb ca cb : Nat} {xa xb us : List Nat} {f : Int} (h : PrIs [⟨pa, na, ca, xa, valB B64 xa⟩, ⟨pb, nb, cb, xb, valB B64 xb⟩] us f) : PrIs [it0 xa, it0 xb] us f := by
  rcases h with ⟨⟨t, ht, h1⟩, h2⟩ | ⟨h1, h2⟩
  · refine .inl ⟨?_, h2⟩
    simp only [List.mem_cons, List.not_mem_nil, or_false] at ht
    rcases ht with rfl | rfl
    · exact ⟨it0 xa, by simp, h1⟩
    · exact ⟨it0 xb, by simp, h1⟩
  · refine .inr ⟨fun t ht => ?_, h2⟩
    simp only [List.mem_cons, List.not_mem_nil, or_false] at ht
    rcases ht with rfl | rfl
    · exact h1 ⟨pa, na, ca, xa, valB B64 xa⟩ (by simp)
    · exact h1 ⟨pb, nb, cb, xb, valB B64 xb⟩ (by simp)
theorem gl_one {w : World} {B : Nat} {p : Option Addr} {m b : Nat} {us : List Nat} (h : EQ7 w B p m b us) (ty : TypeId) : GL (w.alloc (.cells #[.slice p m m] ty)) B w.heap.size [⟨p, m, b, us⟩] := by
  refine ⟨fun i hi => ?_, fun e he => ?_, by simp, by simp⟩
  · obtain rfl : i = 0 := by have : i < 1 := hi; omega
    exact World.cell?_alloc_new ..
  · simp only [List.mem_cons, List.not_mem_nil, or_false] at he
    subst he
    exact h.below (below1 w _)
theorem gl_three {w : World} {B : Nat} {p1 p2 p3 : Option Addr} {m1 m2 m3 b1 b2 b3 : Nat} {u1 u2 u3 : List Nat} (h1 : EQ7 w B p1 m1 b1 u1) (h2 : EQ7 w B p2 m2 b2 u2) (h3 : EQ7 w B p3 m3 b3 u3) (ty : TypeId) : GL (w.alloc (.cells #[.slice p1 m1 m1, .slice p2 m2 m2, .slice p3 m3 m3] ty)) B w.heap.size [⟨p1, m1, b1, u1⟩, ⟨p2, m2, b2, u2⟩, ⟨p3, m3, b3, u3⟩] := by
  refine ⟨fun i hi => ?_, fun e he => ?_, by simp, by simp⟩
  · have hi : i < 3 := hi
    have h9 : i = 0 ∨ i = 1 ∨ i = 2 := by omega
    rcases h9 with rfl | rfl | rfl <;> exact World.cell?_alloc_new ..
  · simp only [List.mem_cons, List.not_mem_nil, or_false] at he
    rcases he with rfl | rfl | rfl
    · exact h1.below (below1 w _)
    · exact h2.below (below1 w _)
    · exact h3.below (below1 w _)
theorem dl_one {w : World} {p : Option Addr} {m c b : Nat} {us : List Nat} (h : WA7 w p m c b us) (ty : TypeId) : DL (w.alloc (.cells #[.slice p m c] ty)) w.heap.size [⟨p, m, c, b, us⟩] := by
  refine ⟨fun i hi => ?_, fun e he => ?_, by simp, by simp⟩
  · obtain rfl : i = 0 := by have : i < 1 := hi; omega
    exact World.cell?_alloc_new ..
  · simp only [List.mem_cons, List.not_mem_nil, or_false] at he
    subst he
    exact h.below (below1 w _)
theorem dl_three {w : World} {p1 p2 p3 : Option Addr} {m1 m2 m3 c1 c2 c3 b1 b2 b3 : Nat} {u1 u2 u3 : List Nat} (h1 : WA7 w p1 m1 c1 b1 u1) (h2 : WA7 w p2 m2 c2 b2 u2) (h3 : WA7 w p3 m3 c3 b3 u3) (ty : TypeId) : DL (w.alloc (.cells #[.slice p1 m1 c1, .slice p2 m2 c2, .slice p3 m3 c3] ty)) w.heap.size [⟨p1, m1, c1, b1, u1⟩, ⟨p2, m2, c2, b2, u2⟩, ⟨p3, m3, c3, b3, u3⟩] := by
  refine ⟨fun i hi => ?_, fun e he => ?_, by simp, by simp⟩
  · have hi : i < 3 := hi
    have h9 : i = 0 ∨ i = 1 ∨ i = 2 := by omega
    rcases h9 with rfl | rfl | rfl <;> exact World.cell?_alloc_new ..
  · simp only [List.mem_cons, List.not_mem_nil, or_false] at he
    rcases he with rfl | rfl | rfl
    · exact h1.below (below1 w _)
    · exact h2.below (below1 w _)
    · exact h3.below (below1 w _)
theorem lit_ls2 {w : World} {pa pb : Option Addr} {na nb ca cb : Nat} {xa xb : List Nat} (h : At w pa na ca xa) (k : At w pb nb cb xb) (hna : na ≤ 17592186044416) (hnb : nb ≤ 17592186044416) (ty : TypeId) : LsA (w.alloc (.cells #[.slice pa na ca, .slice pb nb cb] ty)) (some ⟨w.heap.size, 0, none⟩) 2 2 [⟨pa, na, ca, xa, valB B64 xa⟩, ⟨pb, nb, cb, xb, valB B64 xb⟩] := by
  refine ⟨rfl, Nat.le_refl _, by decide, .inr ⟨_, 0, rfl, fun j hj => ?_⟩, fun t ht => ?_⟩
  · match j, hj with
    | 0, _ => exact World.cell?_alloc_new ..
    | 1, _ => exact World.cell?_alloc_new ..
  · simp only [List.mem_cons, List.not_mem_nil, or_false] at ht
    rcases ht with rfl | rfl
    · exact ⟨h.alloc _, hna, rfl⟩
    · exact ⟨k.alloc _, hnb, rfl⟩
theorem answersM1 {pa pb pl : Option Addr} {na nb nl ca cb cl : Nat} {xa xb : List Nat} {w : World} (h : At w pa na ca xa) (k : At w pb nb cb xb) (_hna : na ≤ 17592186044416) (_hnb : nb ≤ 17592186044416) (nn : Int) (_hn1 : -9223372036854775808 ≤ nn) (_hn2 : nn ≤ 9223372036854775807) :
    Calls Try.prog 12 #[.agg #[.int .i64 1, .slice pa na ca, .slice pb nb cb, .int .i64 nn, .slice pl nl cl]] w fun e w' => ∃ G es f, e = .returned (.tuple #[.slice (some ⟨G, 0, none⟩) es.length es.length, .int .i64 f]) ∧ GL w' w.heap.size G es ∧ w.heap.size ≤ G ∧ es.Pairwise (fun a b => a.n ≠ 0 → b.n ≠ 0 → a.b ≠ b.b) ∧ AIs 1 xa xb nn (es.map EN7.X) f ∧ Below w.heap.size w w' := by
  have HA : Hid (At (w.alloc (.cells #[.int .i64 1, .slice pa na ca, .slice pb nb cb, .int .i64 nn, .slice pl nl cl] 27)) pa na ca xa) := h.alloc _
  have HB : Hid (At (w.alloc (.cells #[.int .i64 1, .slice pa na ca, .slice pb nb cb, .int .i64 nn, .slice pl nl cl] 27)) pb nb cb xb) := k.alloc _
  have hb0 : Below w.heap.size w (w.alloc (.cells #[.int .i64 1, .slice pa na ca, .slice pb nb cb, .int .i64 nn, .slice pl nl cl] 27)) := below1 w _
  clear h k
  go_enter Try.func12, Try.ntmps12
  go_wp2_with fail
  refine (mulO HA.out HB.out).mono ?_
  rintro e w1 ⟨p1, m1, us, f1, rfl, hA1, hD1, hb1⟩
  obtain ⟨b1, hE, -⟩ := eq_own7 hA1.1 (hb0.size) hA1.2.1
  have A1 : Hid (EQ7 w1 w.heap.size p1 m1 b1 us) := hE
  clear hA1 hE
  have D1 : Hid (MulIs xa xb us f1) := hD1
  have hbw := Below.on hb0 hb1
  clear hD1 hb1 hb0 HA HB
  go_wp2_with fail
  go_ret2
  exact ⟨w1.heap.size, [⟨p1, m1, b1, us⟩], f1, rfl, gl_one A1.out _, hbw.size, .cons (fun _ h => absurd h (List.not_mem_nil)) .nil, (.inl ⟨rfl, us, rfl, D1.out⟩), Below.on hbw (below1 w1 _)⟩
theorem docM1 {pa pb pl : Option Addr} {na nb nl ca cb cl : Nat} {xa xb : List Nat} {w : World} (h : At w pa na ca xa) (k : At w pb nb cb xb) (_hna : na ≤ 17592186044416) (_hnb : nb ≤ 17592186044416) (nn : Int) (_hn1 : -9223372036854775808 ≤ nn) (_hn2 : nn ≤ 9223372036854775807) :
    Calls Try.prog 9 #[.agg #[.int .i64 1, .slice pa na ca, .slice pb nb cb, .int .i64 nn, .slice pl nl cl]] w fun e w' => ∃ G ds f, e = .returned (.tuple #[.slice (some ⟨G, 0, none⟩) ds.length ds.length, .int .i64 f]) ∧ DL w' G ds ∧ w.heap.size ≤ G ∧ (∀ d ∈ ds, d.n ≠ 0 → w.heap.size ≤ d.b ∧ d.b < w'.heap.size) ∧ AIs 1 xa xb nn (ds.map ED7.X) f ∧ Below w.heap.size w w' := by
  have HA : Hid (At (w.alloc (.cells #[.int .i64 1, .slice pa na ca, .slice pb nb cb, .int .i64 nn, .slice pl nl cl] 27)) pa na ca xa) := h.alloc _
  have HB : Hid (At (w.alloc (.cells #[.int .i64 1, .slice pa na ca, .slice pb nb cb, .int .i64 nn, .slice pl nl cl] 27)) pb nb cb xb) := k.alloc _
  have hb0 : Below w.heap.size w (w.alloc (.cells #[.int .i64 1, .slice pa na ca, .slice pb nb cb, .int .i64 nn, .slice pl nl cl] 27)) := below1 w _
  clear h k
  go_enter Try.func9, Try.ntmps9
  go_wp2_with fail
  refine (docmulN HA.out HB.out).mono ?_
  rintro e w1 ⟨p1, m1, N1, us, f1, rfl, hA1, hD1, hb1⟩
  obtain ⟨b1, hW, hI⟩ := newa_wa2 (hA1.mono hb0.size)
  have A1 : Hid (WA7 w1 p1 m1 N1 b1 us) := hW
  have I1 : Hid (m1 ≠ 0 → w.heap.size ≤ b1 ∧ b1 < w1.heap.size) := hI
  clear hA1 hW hI
  have D1 : Hid (MulIs xa xb us f1) := hD1
  have hbw := Below.on hb0 hb1
  clear hD1 hb1 hb0 HA HB
  go_wp2_with fail
  go_ret2
  refine ⟨w1.heap.size, [⟨p1, m1, N1, b1, us⟩], f1, rfl, dl_one A1.out _, hbw.size, fun d hd h0 => ?_, (.inl ⟨rfl, us, rfl, D1.out⟩), Below.on hbw (below1 w1 _)⟩
  simp only [List.mem_cons, List.not_mem_nil, or_false] at hd
  subst hd
  have := I1.out h0
  exact ⟨this.1, Nat.lt_of_lt_of_le this.2 (below1 w1 (.cells #[.slice p1 m1 N1] 24)).size⟩
theorem answersM2 {pa pb pl : Option Addr} {na nb nl ca cb cl : Nat} {xa xb : List Nat} {w : World} (h : At w pa na ca xa) (_k : At w pb nb cb xb) (_hna : na ≤ 17592186044416) (_hnb : nb ≤ 17592186044416) (nn : Int) (_hn1 : -9223372036854775808 ≤ nn) (_hn2 : nn ≤ 9223372036854775807) :
    Calls Try.prog 12 #[.agg #[.int .i64 2, .slice pa na ca, .slice pb nb cb, .int .i64 nn, .slice pl nl cl]] w fun e w' => ∃ G es f, e = .returned (.tuple #[.slice (some ⟨G, 0, none⟩) es.length es.length, .int .i64 f]) ∧ GL w' w.heap.size G es ∧ w.heap.size ≤ G ∧ es.Pairwise (fun a b => a.n ≠ 0 → b.n ≠ 0 → a.b ≠ b.b) ∧ AIs 2 xa xb nn (es.map EN7.X) f ∧ Below w.heap.size w w' := by
  have HA : Hid (At (w.alloc (.cells #[.int .i64 2, .slice pa na ca, .slice pb nb cb, .int .i64 nn, .slice pl nl cl] 27)) pa na ca xa) := h.alloc _
  have hb0 : Below w.heap.size w (w.alloc (.cells #[.int .i64 2, .slice pa na ca, .slice pb nb cb, .int .i64 nn, .slice pl nl cl] 27)) := below1 w _
  clear h
  go_enter Try.func12, Try.ntmps12
  go_wp2_with fail
  refine (sqrO HA.out).mono ?_
  rintro e w1 ⟨p1, m1, us, f1, rfl, hA1, hD1, hb1⟩
  obtain ⟨b1, hE, -⟩ := eq_own7 hA1.1 (hb0.size) hA1.2.1
  have A1 : Hid (EQ7 w1 w.heap.size p1 m1 b1 us) := hE
  clear hA1 hE
  have D1 : Hid (MulIs xa xa us f1) := hD1
  have hbw := Below.on hb0 hb1
  clear hD1 hb1 hb0 HA
  go_wp2_with fail
  go_ret2
  exact ⟨w1.heap.size, [⟨p1, m1, b1, us⟩], f1, rfl, gl_one A1.out _, hbw.size, .cons (fun _ h => absurd h (List.not_mem_nil)) .nil, (.inr (.inl ⟨rfl, us, rfl, D1.out⟩)), Below.on hbw (below1 w1 _)⟩
theorem docM2 {pa pb pl : Option Addr} {na nb nl ca cb cl : Nat} {xa xb : List Nat} {w : World} (h : At w pa na ca xa) (_k : At w pb nb cb xb) (_hna : na ≤ 17592186044416) (_hnb : nb ≤ 17592186044416) (nn : Int) (_hn1 : -9223372036854775808 ≤ nn) (_hn2 : nn ≤ 9223372036854775807) :
    Calls Try.prog 9 #[.agg #[.int .i64 2, .slice pa na ca, .slice pb nb cb, .int .i64 nn, .slice pl nl cl]] w fun e w' => ∃ G ds f, e = .returned (.tuple #[.slice (some ⟨G, 0, none⟩) ds.length ds.length, .int .i64 f]) ∧ DL w' G ds ∧ w.heap.size ≤ G ∧ (∀ d ∈ ds, d.n ≠ 0 → w.heap.size ≤ d.b ∧ d.b < w'.heap.size) ∧ AIs 2 xa xb nn (ds.map ED7.X) f ∧ Below w.heap.size w w' := by
  have HA : Hid (At (w.alloc (.cells #[.int .i64 2, .slice pa na ca, .slice pb nb cb, .int .i64 nn, .slice pl nl cl] 27)) pa na ca xa) := h.alloc _
  have hb0 : Below w.heap.size w (w.alloc (.cells #[.int .i64 2, .slice pa na ca, .slice pb nb cb, .int .i64 nn, .slice pl nl cl] 27)) := below1 w _
  clear h
  go_enter Try.func9, Try.ntmps9
  go_wp2_with fail
  refine (docsqrN HA.out).mono ?_
  rintro e w1 ⟨p1, m1, N1, us, f1, rfl, hA1, hD1, hb1⟩
  obtain ⟨b1, hW, hI⟩ := newa_wa2 (hA1.mono hb0.size)
  have A1 : Hid (WA7 w1 p1 m1 N1 b1 us) := hW
  have I1 : Hid (m1 ≠ 0 → w.heap.size ≤ b1 ∧ b1 < w1.heap.size) := hI
  clear hA1 hW hI
  have D1 : Hid (MulIs xa xa us f1) := hD1
  have hbw := Below.on hb0 hb1
  clear hD1 hb1 hb0 HA
  go_wp2_with fail
  go_ret2
  refine ⟨w1.heap.size, [⟨p1, m1, N1, b1, us⟩], f1, rfl, dl_one A1.out _, hbw.size, fun d hd h0 => ?_, (.inr (.inl ⟨rfl, us, rfl, D1.out⟩)), Below.on hbw (below1 w1 _)⟩
  simp only [List.mem_cons, List.not_mem_nil, or_false] at hd
  subst hd
  have := I1.out h0
  exact ⟨this.1, Nat.lt_of_lt_of_le this.2 (below1 w1 (.cells #[.slice p1 m1 N1] 24)).size⟩
theorem answersM3 {pa pb pl : Option Addr} {na nb nl ca cb cl : Nat} {xa xb : List Nat} {w : World} (h : At w pa na ca xa) (_k : At w pb nb cb xb) (_hna : na ≤ 17592186044416) (_hnb : nb ≤ 17592186044416) (nn : Int) (_hn1 : -9223372036854775808 ≤ nn) (hn2 : nn ≤ 9223372036854775807) :
    Calls Try.prog 12 #[.agg #[.int .i64 3, .slice pa na ca, .slice pb nb cb, .int .i64 nn, .slice pl nl cl]] w fun e w' => ∃ G es f, e = .returned (.tuple #[.slice (some ⟨G, 0, none⟩) es.length es.length, .int .i64 f]) ∧ GL w' w.heap.size G es ∧ w.heap.size ≤ G ∧ es.Pairwise (fun a b => a.n ≠ 0 → b.n ≠ 0 → a.b ≠ b.b) ∧ AIs 3 xa xb nn (es.map EN7.X) f ∧ Below w.heap.size w w' := by
  have HA : Hid (At (w.alloc (.cells #[.int .i64 3, .slice pa na ca, .slice pb nb cb, .int .i64 nn, .slice pl nl cl] 27)) pa na ca xa) := h.alloc _
  have hb0 : Below w.heap.size w (w.alloc (.cells #[.int .i64 3, .slice pa na ca, .slice pb nb cb, .int .i64 nn, .slice pl nl cl] 27)) := below1 w _
  clear h
  go_enter Try.func12, Try.ntmps12
  go_wp2_with fail
  refine (powO HA.out nn hn2).mono ?_
  rintro e w1 ⟨p1, m1, us, f1, rfl, hA1, hD1, hb1⟩
  obtain ⟨b1, hE, -⟩ := eq_own7 hA1.1 (hb0.size) hA1.2.1
  have A1 : Hid (EQ7 w1 w.heap.size p1 m1 b1 us) := hE
  clear hA1 hE
  have D1 : Hid (PowIs xa nn us f1) := hD1
  have hbw := Below.on hb0 hb1
  clear hD1 hb1 hb0 HA
  go_wp2_with fail
  go_ret2
  exact ⟨w1.heap.size, [⟨p1, m1, b1, us⟩], f1, rfl, gl_one A1.out _, hbw.size, .cons (fun _ h => absurd h (List.not_mem_nil)) .nil, (.inr (.inr (.inl ⟨rfl, us, rfl, D1.out⟩))), Below.on hbw (below1 w1 _)⟩
theorem docM3 {pa pb pl : Option Addr} {na nb nl ca cb cl : Nat} {xa xb : List Nat} {w : World} (h : At w pa na ca xa) (_k : At w pb nb cb xb) (_hna : na ≤ 17592186044416) (_hnb : nb ≤ 17592186044416) (nn : Int) (_hn1 : -9223372036854775808 ≤ nn) (hn2 : nn ≤ 9223372036854775807) :
    Calls Try.prog 9 #[.agg #[.int .i64 3, .slice pa na ca, .slice pb nb cb, .int .i64 nn, .slice pl nl cl]] w fun e w' => ∃ G ds f, e = .returned (.tuple #[.slice (some ⟨G, 0, none⟩) ds.length ds.length, .int .i64 f]) ∧ DL w' G ds ∧ w.heap.size ≤ G ∧ (∀ d ∈ ds, d.n ≠ 0 → w.heap.size ≤ d.b ∧ d.b < w'.heap.size) ∧ AIs 3 xa xb nn (ds.map ED7.X) f ∧ Below w.heap.size w w' := by
  have HA : Hid (At (w.alloc (.cells #[.int .i64 3, .slice pa na ca, .slice pb nb cb, .int .i64 nn, .slice pl nl cl] 27)) pa na ca xa) := h.alloc _
  have hb0 : Below w.heap.size w (w.alloc (.cells #[.int .i64 3, .slice pa na ca, .slice pb nb cb, .int .i64 nn, .slice pl nl cl] 27)) := below1 w _
  clear h
  go_enter Try.func9, Try.ntmps9
  go_wp2_with fail
  refine (docpowN HA.out nn hn2).mono ?_
  rintro e w1 ⟨p1, m1, N1, us, f1, rfl, hA1, hD1, hb1⟩
  obtain ⟨b1, hW, hI⟩ := newa_wa2 (hA1.mono hb0.size)
  have A1 : Hid (WA7 w1 p1 m1 N1 b1 us) := hW
  have I1 : Hid (m1 ≠ 0 → w.heap.size ≤ b1 ∧ b1 < w1.heap.size) := hI
  clear hA1 hW hI
  have D1 : Hid (PowIs xa nn us f1) := hD1
  have hbw := Below.on hb0 hb1
  clear hD1 hb1 hb0 HA
  go_wp2_with fail
  go_ret2
  refine ⟨w1.heap.size, [⟨p1, m1, N1, b1, us⟩], f1, rfl, dl_one A1.out _, hbw.size, fun d hd h0 => ?_, (.inr (.inr (.inl ⟨rfl, us, rfl, D1.out⟩))), Below.on hbw (below1 w1 _)⟩
  simp only [List.mem_cons, List.not_mem_nil, or_false] at hd
  subst hd
  have := I1.out h0
  exact ⟨this.1, Nat.lt_of_lt_of_le this.2 (below1 w1 (.cells #[.slice p1 m1 N1] 24)).size⟩
theorem answersM4 {pa pb pl : Option Addr} {na nb nl ca cb cl : Nat} {xa xb : List Nat} {w : World} (h : At w pa na ca xa) (k : At w pb nb cb xb) (_hna : na ≤ 17592186044416) (_hnb : nb ≤ 17592186044416) (nn : Int) (hn1 : -9223372036854775808 ≤ nn) (hn2 : nn ≤ 9223372036854775807) :
    Calls Try.prog 12 #[.agg #[.int .i64 4, .slice pa na ca, .slice pb nb cb, .int .i64 nn, .slice pl nl cl]] w fun e w' => ∃ G es f, e = .returned (.tuple #[.slice (some ⟨G, 0, none⟩) es.length es.length, .int .i64 f]) ∧ GL w' w.heap.size G es ∧ w.heap.size ≤ G ∧ es.Pairwise (fun a b => a.n ≠ 0 → b.n ≠ 0 → a.b ≠ b.b) ∧ AIs 4 xa xb nn (es.map EN7.X) f ∧ Below w.heap.size w w' := by
  have HA : Hid (At (w.alloc (.cells #[.int .i64 4, .slice pa na ca, .slice pb nb cb, .int .i64 nn, .slice pl nl cl] 27)) pa na ca xa) := h.alloc _
  have HB : Hid (At (w.alloc (.cells #[.int .i64 4, .slice pa na ca, .slice pb nb cb, .int .i64 nn, .slice pl nl cl] 27)) pb nb cb xb) := k.alloc _
  have hb0 : Below w.heap.size w (w.alloc (.cells #[.int .i64 4, .slice pa na ca, .slice pb nb cb, .int .i64 nn, .slice pl nl cl] 27)) := below1 w _
  clear h k
  go_enter Try.func12, Try.ntmps12
  go_wp2_with fail
  refine (partsO HA.out HB.out nn ⟨hn1, hn2⟩).mono ?_
  rintro e w1 ⟨p1, m1, u1, b1, p2, m2, u2, b2, p3, m3, u3, b3, f1, rfl, hE, hD1, hb1⟩
  have A1 : Hid (EQ7 w1 w.heap.size p1 m1 b1 u1 ∧ EQ7 w1 w.heap.size p2 m2 b2 u2 ∧ EQ7 w1 w.heap.size p3 m3 b3 u3) := ⟨hE.1.1.mono hb0.size, hE.1.2.1.mono hb0.size, hE.1.2.2.mono hb0.size⟩
  have I1 : Hid ((m1 ≠ 0 → m2 ≠ 0 → b1 ≠ b2) ∧ (m1 ≠ 0 → m3 ≠ 0 → b1 ≠ b3) ∧ (m2 ≠ 0 → m3 ≠ 0 → b2 ≠ b3)) := hE.2
  clear hE
  have D1 : Hid (PartsIs xa xb nn u1 u2 u3 f1) := hD1
  have hbw := Below.on hb0 hb1
  clear hD1 hb1 hb0 HA HB
  go_wp2_with fail
  go_ret2
  exact ⟨w1.heap.size, [⟨p1, m1, b1, u1⟩, ⟨p2, m2, b2, u2⟩, ⟨p3, m3, b3, u3⟩], f1, rfl, gl_three A1.out.1 A1.out.2.1 A1.out.2.2 _, hbw.size, .cons (List.forall_mem_cons.2 ⟨I1.out.1, List.forall_mem_cons.2 ⟨I1.out.2.1, fun _ h => absurd h (List.not_mem_nil)⟩⟩) (.cons (List.forall_mem_cons.2 ⟨I1.out.2.2, fun _ h => absurd h (List.not_mem_nil)⟩) (.cons (fun _ h => absurd h (List.not_mem_nil)) .nil)), (.inr (.inr (.inr (.inl ⟨rfl, u1, u2, u3, rfl, D1.out⟩)))), Below.on hbw (below1 w1 _)⟩
theorem docM4 {pa pb pl : Option Addr} {na nb nl ca cb cl : Nat} {xa xb : List Nat} {w : World} (h : At w pa na ca xa) (k : At w pb nb cb xb) (_hna : na ≤ 17592186044416) (_hnb : nb ≤ 17592186044416) (nn : Int) (hn1 : -9223372036854775808 ≤ nn) (hn2 : nn ≤ 9223372036854775807) :
    Calls Try.prog 9 #[.agg #[.int .i64 4, .slice pa na ca, .slice pb nb cb, .int .i64 nn, .slice pl nl cl]] w fun e w' => ∃ G ds f, e = .returned (.tuple #[.slice (some ⟨G, 0, none⟩) ds.length ds.length, .int .i64 f]) ∧ DL w' G ds ∧ w.heap.size ≤ G ∧ (∀ d ∈ ds, d.n ≠ 0 → w.heap.size ≤ d.b ∧ d.b < w'.heap.size) ∧ AIs 4 xa xb nn (ds.map ED7.X) f ∧ Below w.heap.size w w' := by
  have HA : Hid (At (w.alloc (.cells #[.int .i64 4, .slice pa na ca, .slice pb nb cb, .int .i64 nn, .slice pl nl cl] 27)) pa na ca xa) := h.alloc _
  have HB : Hid (At (w.alloc (.cells #[.int .i64 4, .slice pa na ca, .slice pb nb cb, .int .i64 nn, .slice pl nl cl] 27)) pb nb cb xb) := k.alloc _
  have hb0 : Below w.heap.size w (w.alloc (.cells #[.int .i64 4, .slice pa na ca, .slice pb nb cb, .int .i64 nn, .slice pl nl cl] 27)) := below1 w _
  clear h k
  go_enter Try.func9, Try.ntmps9
  go_wp2_with fail
  refine (docpartsN HA.out HB.out nn ⟨hn1, hn2⟩).mono ?_
  rintro e w1 ⟨p1, m1, N1, u1, p2, m2, N2, u2, p3, m3, N3, u3, f1, rfl, hA1, hA2, hA3, hD1, hb1⟩
  obtain ⟨b1, hW1, hI1⟩ := newa_wa2 (hA1.mono hb0.size)
  obtain ⟨b2, hW2, hI2⟩ := newa_wa2 (hA2.mono hb0.size)
  obtain ⟨b3, hW3, hI3⟩ := newa_wa2 (hA3.mono hb0.size)
  have A1 : Hid (WA7 w1 p1 m1 N1 b1 u1 ∧ WA7 w1 p2 m2 N2 b2 u2 ∧ WA7 w1 p3 m3 N3 b3 u3) := ⟨hW1, hW2, hW3⟩
  have I1 : Hid ((m1 ≠ 0 → w.heap.size ≤ b1 ∧ b1 < w1.heap.size) ∧ (m2 ≠ 0 → w.heap.size ≤ b2 ∧ b2 < w1.heap.size) ∧ (m3 ≠ 0 → w.heap.size ≤ b3 ∧ b3 < w1.heap.size)) := ⟨hI1, hI2, hI3⟩
  clear hA1 hA2 hA3 hW1 hW2 hW3 hI1 hI2 hI3
  have D1 : Hid (PartsIs xa xb nn u1 u2 u3 f1) := hD1
  have hbw := Below.on hb0 hb1
  clear hD1 hb1 hb0 HA HB
  go_wp2_with fail
  go_ret2
  refine ⟨w1.heap.size, [⟨p1, m1, N1, b1, u1⟩, ⟨p2, m2, N2, b2, u2⟩, ⟨p3, m3, N3, b3, u3⟩], f1, rfl, dl_three A1.out.1 A1.out.2.1 A1.out.2.2 _, hbw.size, fun d hd h0 => ?_, (.inr (.inr (.inr (.inl ⟨rfl, u1, u2, u3, rfl, D1.out⟩)))), Below.on hbw (below1 w1 _)⟩
  have hs := (below1 w1 (.cells #[.slice p1 m1 N1, .slice p2 m2 N2, .slice p3 m3 N3] 24)).size
  simp only [List.mem_cons, List.not_mem_nil, or_false] at hd
  rcases hd with rfl | rfl | rfl
  · have := I1.out.1 h0; exact ⟨this.1, Nat.lt_of_lt_of_le this.2 hs⟩
  · have := I1.out.2.1 h0; exact ⟨this.1, Nat.lt_of_lt_of_le this.2 hs⟩
  · have := I1.out.2.2 h0; exact ⟨this.1, Nat.lt_of_lt_of_le this.2 hs⟩
theorem answersM5 {pa pb pl : Option Addr} {na nb nl ca cb cl : Nat} {xa xb : List Nat} {w : World} (h : At w pa na ca xa) (k : At w pb nb cb xb) (hna : na ≤ 17592186044416) (hnb : nb ≤ 17592186044416) (nn : Int) (_hn1 : -9223372036854775808 ≤ nn) (_hn2 : nn ≤ 9223372036854775807) :
    Calls Try.prog 12 #[.agg #[.int .i64 5, .slice pa na ca, .slice pb nb cb, .int .i64 nn, .slice pl nl cl]] w fun e w' => ∃ G es f, e = .returned (.tuple #[.slice (some ⟨G, 0, none⟩) es.length es.length, .int .i64 f]) ∧ GL w' w.heap.size G es ∧ w.heap.size ≤ G ∧ es.Pairwise (fun a b => a.n ≠ 0 → b.n ≠ 0 → a.b ≠ b.b) ∧ AIs 5 xa xb nn (es.map EN7.X) f ∧ Below w.heap.size w w' := by
  have HA : Hid (At (w.alloc (.cells #[.int .i64 5, .slice pa na ca, .slice pb nb cb, .int .i64 nn, .slice pl nl cl] 27)) pa na ca xa) := h.alloc _
  have HB : Hid (At (w.alloc (.cells #[.int .i64 5, .slice pa na ca, .slice pb nb cb, .int .i64 nn, .slice pl nl cl] 27)) pb nb cb xb) := k.alloc _
  have hb0 : Below w.heap.size w (w.alloc (.cells #[.int .i64 5, .slice pa na ca, .slice pb nb cb, .int .i64 nn, .slice pl nl cl] 27)) := below1 w _
  clear h k
  go_enter Try.func12, Try.ntmps12
  go_wp2_with fail
  have hsz : ((w.alloc (.cells #[.int .i64 5, .slice pa na ca, .slice pb nb cb, .int .i64 nn, .slice pl nl cl] 27))).heap.size = w.heap.size + 1 := by simp
  have hLs := lit_ls2 HA.out HB.out hna hnb 24
  have hb5 := Below.on hb0 (below1 (w.alloc (.cells #[.int .i64 5, .slice pa na ca, .slice pb nb cb, .int .i64 nn, .slice pl nl cl] 27)) (.cells #[.slice pa na ca, .slice pb nb cb] 24))
  rw [hsz] at hLs
  refine (productO hLs).mono ?_
  rintro e w1 ⟨p1, m1, us, f1, rfl, hA1, hD1, hb1⟩
  obtain ⟨b1, hE, -⟩ := eq_own7 hA1.1 (hb5.size) hA1.2.1
  have A1 : Hid (EQ7 w1 w.heap.size p1 m1 b1 us) := hE
  clear hA1 hE
  have D1 : Hid (PrIs [it0 xa, it0 xb] us f1) := pris_0 hD1
  have hbw := Below.on hb5 hb1
  clear hD1 hb1 hb0 hb5 hLs hsz HA HB
  go_wp2_with fail
  go_ret2
  exact ⟨w1.heap.size, [⟨p1, m1, b1, us⟩], f1, rfl, gl_one A1.out _, hbw.size, .cons (fun _ h => absurd h (List.not_mem_nil)) .nil, (.inr (.inr (.inr (.inr ⟨rfl, us, rfl, D1.out⟩)))), Below.on hbw (below1 w1 _)⟩
theorem docM5 {pa pb pl : Option Addr} {na nb nl ca cb cl : Nat} {xa xb : List Nat} {w : World} (h : At w pa na ca xa) (k : At w pb nb cb xb) (hna : na ≤ 17592186044416) (hnb : nb ≤ 17592186044416) (nn : Int) (_hn1 : -9223372036854775808 ≤ nn) (_hn2 : nn ≤ 9223372036854775807) :
    Calls Try.prog 9 #[.agg #[.int .i64 5, .slice pa na ca, .slice pb nb cb, .int .i64 nn, .slice pl nl cl]] w fun e w' => ∃ G ds f, e = .returned (.tuple #[.slice (some ⟨G, 0, none⟩) ds.length ds.length, .int .i64 f]) ∧ DL w' G ds ∧ w.heap.size ≤ G ∧ (∀ d ∈ ds, d.n ≠ 0 → w.heap.size ≤ d.b ∧ d.b < w'.heap.size) ∧ AIs 5 xa xb nn (ds.map ED7.X) f ∧ Below w.heap.size w w' := by
  have HA : Hid (At (w.alloc (.cells #[.int .i64 5, .slice pa na ca, .slice pb nb cb, .int .i64 nn, .slice pl nl cl] 27)) pa na ca xa) := h.alloc _
  have HB : Hid (At (w.alloc (.cells #[.int .i64 5, .slice pa na ca, .slice pb nb cb, .int .i64 nn, .slice pl nl cl] 27)) pb nb cb xb) := k.alloc _
  have hb0 : Below w.heap.size w (w.alloc (.cells #[.int .i64 5, .slice pa na ca, .slice pb nb cb, .int .i64 nn, .slice pl nl cl] 27)) := below1 w _
  clear h k
  go_enter Try.func9, Try.ntmps9
  go_wp2_with fail
  have hsz : ((w.alloc (.cells #[.int .i64 5, .slice pa na ca, .slice pb nb cb, .int .i64 nn, .slice pl nl cl] 27))).heap.size = w.heap.size + 1 := by simp
  have hLs := lit_ls2 HA.out HB.out hna hnb 24
  have hb5 := Below.on hb0 (below1 (w.alloc (.cells #[.int .i64 5, .slice pa na ca, .slice pb nb cb, .int .i64 nn, .slice pl nl cl] 27)) (.cells #[.slice pa na ca, .slice pb nb cb] 24))
  rw [hsz] at hLs
  refine (docprodN hLs).mono ?_
  rintro e w1 ⟨p1, m1, N1, us, f1, rfl, hA1, hD1, hb1⟩
  obtain ⟨b1, hW, hI⟩ := newa_wa2 (hA1.mono hb5.size)
  have A1 : Hid (WA7 w1 p1 m1 N1 b1 us) := hW
  have I1 : Hid (m1 ≠ 0 → w.heap.size ≤ b1 ∧ b1 < w1.heap.size) := hI
  clear hA1 hW hI
  have D1 : Hid (PrIs [it0 xa, it0 xb] us f1) := pris_0 hD1
  have hbw := Below.on hb5 hb1
  clear hD1 hb1 hb0 hb5 hLs hsz HA HB
  go_wp2_with fail
  go_ret2
  refine ⟨w1.heap.size, [⟨p1, m1, N1, b1, us⟩], f1, rfl, dl_one A1.out _, hbw.size, fun d hd h0 => ?_, (.inr (.inr (.inr (.inr ⟨rfl, us, rfl, D1.out⟩)))), Below.on hbw (below1 w1 _)⟩
  simp only [List.mem_cons, List.not_mem_nil, or_false] at hd
  subst hd
  have := I1.out h0
  exact ⟨this.1, Nat.lt_of_lt_of_le this.2 (below1 w1 (.cells #[.slice p1 m1 N1] 24)).size⟩
theorem answersM {pa pb pl : Option Addr} {na nb nl ca cb cl : Nat} {xa xb : List Nat} {w : World} (h : At w pa na ca xa) (k : At w pb nb cb xb) (hna : na ≤ 17592186044416) (hnb : nb ≤ 17592186044416) (nn : Int) (hn1 : -9223372036854775808 ≤ nn) (hn2 : nn ≤ 9223372036854775807) {kd : Int} (hk : 1 ≤ kd ∧ kd ≤ 5) :
    Calls Try.prog 12 #[.agg #[.int .i64 kd, .slice pa na ca, .slice pb nb cb, .int .i64 nn, .slice pl nl cl]] w fun e w' => ∃ G es f, e = .returned (.tuple #[.slice (some ⟨G, 0, none⟩) es.length es.length, .int .i64 f]) ∧ GL w' w.heap.size G es ∧ w.heap.size ≤ G ∧ es.Pairwise (fun a b => a.n ≠ 0 → b.n ≠ 0 → a.b ≠ b.b) ∧ AIs kd xa xb nn (es.map EN7.X) f ∧ Below w.heap.size w w' := by
  have h9 : kd = 1 ∨ kd = 2 ∨ kd = 3 ∨ kd = 4 ∨ kd = 5 := by omega
  rcases h9 with rfl | rfl | rfl | rfl | rfl
  · exact answersM1 h k hna hnb nn hn1 hn2
  · exact answersM2 h k hna hnb nn hn1 hn2
  · exact answersM3 h k hna hnb nn hn1 hn2
  · exact answersM4 h k hna hnb nn hn1 hn2
  · exact answersM5 h k hna hnb nn hn1 hn2
theorem docM {pa pb pl : Option Addr} {na nb nl ca cb cl : Nat} {xa xb : List Nat} {w : World} (h : At w pa na ca xa) (k : At w pb nb cb xb) (hna : na ≤ 17592186044416) (hnb : nb ≤ 17592186044416) (nn : Int) (hn1 : -9223372036854775808 ≤ nn) (hn2 : nn ≤ 9223372036854775807) {kd : Int} (hk : 1 ≤ kd ∧ kd ≤ 5) :
    Calls Try.prog 9 #[.agg #[.int .i64 kd, .slice pa na ca, .slice pb nb cb, .int .i64 nn, .slice pl nl cl]] w fun e w' => ∃ G ds f, e = .returned (.tuple #[.slice (some ⟨G, 0, none⟩) ds.length ds.length, .int .i64 f]) ∧ DL w' G ds ∧ w.heap.size ≤ G ∧ (∀ d ∈ ds, d.n ≠ 0 → w.heap.size ≤ d.b ∧ d.b < w'.heap.size) ∧ AIs kd xa xb nn (ds.map ED7.X) f ∧ Below w.heap.size w w' := by
  have h9 : kd = 1 ∨ kd = 2 ∨ kd = 3 ∨ kd = 4 ∨ kd = 5 := by omega
  rcases h9 with rfl | rfl | rfl | rfl | rfl
  · exact docM1 h k hna hnb nn hn1 hn2
  · exact docM2 h k hna hnb nn hn1 hn2
  · exact docM3 h k hna hnb nn hn1 hn2
  · exact docM4 h k hna hnb nn hn1 hn2
  · exact docM5 h k hna hnb nn hn1 hn2
end Go.Proofs.Ytilceolgfahhoaa
