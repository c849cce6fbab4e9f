import Derived.Test.YtkhhejfnglolkabPow
import Derived.Test.YtkhhejfnglolkabNatmulRing
namespace Go.Proofs.Ytkhhejfnglolkab
open Go.RowKit

theorem cmp_w {p q : Option Addr} {n m c d : Nat} {xs ys : List Nat} {w : World} (h : At w p n c xs) (k : At w q m d ys) :
    Calls Try.prog 18 #[.slice p n c, .slice q m d] w fun e w' => e = .returned (.int .i64 (cmpN (valB B64 xs) (valB B64 ys))) ∧ Below w.heap.size w w' := by
  refine (cmp_any h k).mono ?_
  rintro e w' ⟨rfl, r, rfl⟩
  exact ⟨rfl, bDrewN (Below.refl _ _) r⟩
theorem nf_e20 : Nf B64 [7766279631452241920, 5] (10 ^ 20) := ⟨dig2 (by decide) (by decide), by intro x hx; simp at hx; omega, by simp [valB, B64]⟩

theorem wrap_big (o : Nat) (h : o ≤ 1099511627776) : IntKind.i64.wrap (o : Int) = (o : Int) := by
  simp [IntKind.wrap, IntKind.signed, IntKind.bits]
  omega
theorem wrap_mul {M N : Nat} (h : M * N ≤ 1048576 * 1048576) : IntKind.i64.wrap ((M : Int) * (N : Int)) = ((M * N : Nat) : Int) := by
  rw [← Int.natCast_mul]
  exact wrap_big _ h
theorem wrap_add {M N : Nat} (h : M ≤ 1048576) (k : N ≤ 1048576) : IntKind.i64.wrap ((M : Int) + (N : Int)) = ((M + N : Nat) : Int) := by
  rw [← Int.natCast_add]
  exact wrap_big _ (by omega)
theorem small_pow {a X : Nat} (h : a ≤ 1) (hX : 0 < X) : a ^ X = a := by
  rcases (show a = 0 ∨ a = 1 by omega) with rfl | rfl
  · exact Nat.zero_pow hX
  · exact Nat.one_pow X
theorem big_pow {a X : Nat} (h : 2 ≤ a) (hX : 1048576 < X) : LIM ≤ a ^ X := by
  obtain ⟨k, hk⟩ : ∃ k, k = 524288 := ⟨_, rfl⟩
  rw [LIM_two k hk]
  exact Nat.le_trans (Nat.pow_le_pow_right (by omega) (by omega)) (Nat.pow_le_pow_left h X)
theorem more_pow {a : Nat} (M N : Nat) (h : LIM ≤ a ^ M) : LIM ≤ a ^ (M + N) := by
  rcases Nat.eq_zero_or_pos a with h0 | h0
  · exfalso
    subst h0
    have := LIM_one
    rcases Nat.eq_zero_or_pos M with h1 | h1
    · subst h1; rw [Nat.pow_zero] at h; omega
    · rw [Nat.zero_pow h1] at h; omega
  · exact Nat.le_trans h (Nat.pow_le_pow_right h0 (by omega))
theorem cmp_small {a : Nat} (h : a ≤ 1) : cmpN a 1 ≤ 0 := by
  rcases (show a = 0 ∨ a = 1 by omega) with rfl | rfl <;> decide
theorem min3 (m n : Int) : ∃ mn : Int, mn < 0 ∧ ∀ (ts : Array TypeId) (t : TypeId) (W : World), (Builtin.min_ ts t #[.int .i64 m, .int .i64 n, .int .i64 (-1)]).run Try.prog W = .ok (.int .i64 mn) W :=
  ⟨if -1 < (if n < m then n else m) then -1 else (if n < m then n else m), by split <;> omega, fun ts t W => by simp [Builtin.min_, Builtin.min2]⟩

set_option maxRecDepth 20000 in
set_option maxHeartbeats 4000000 in
theorem pow_walk {p : Option Addr} {l c : Nat} {xs : List Nat} {w : World} (h : At w p l c xs) (hl : l ≤ 17592186044416) (m : Int) (hm1 : -9223372036854775808 ≤ m) (hm2 : m ≤ 9223372036854775807) (n : Int) (hn1 : -9223372036854775808 ≤ n) (hn2 : n ≤ 9223372036854775807) :
    Calls Try.prog 5 #[.slice p l c, .int .i64 m, .int .i64 n] w fun e w' => e = .returned (.bool true) ∧ Below w.heap.size w w' := by
  have HM1 : Hid (-9223372036854775808 ≤ m) := hm1
  have HM2 : Hid (m ≤ 9223372036854775807) := hm2
  have HN1 : Hid (-9223372036854775808 ≤ n) := hn1
  have HN2 : Hid (n ≤ 9223372036854775807) := hn2
  clear hm1 hm2 hn1 hn2
  obtain ⟨mn, hmn0, hmn⟩ := min3 m n
  go_enter Try.func5, Try.ntmps5
  go_wp2_with fail
  refine (norm2_any h hl).mono ?_
  rintro e w1 ⟨⟨v1, o1, rfl, H1⟩, hb1⟩
  clear h
  go_wp2_with fail
  refine (pow_any (lit_at w1 _ [10] 1 rfl rfl (dig1 (by decide)) (by omega)) (nf_one (by decide) (by decide)) (by omega) 20 (by omega)).mono ?_
  rintro e w2 ⟨ha2, hb2⟩
  obtain ⟨p2, m2, s2, rfl, ho2, n2, hm2⟩ := ha2.ok (nf_e20.lim.1 (by decide))
  obtain rfl : s2 = [7766279631452241920, 5] := n2.inj B64_one nf_e20
  have hb12 : Below w1.heap.size w1 w2 := Below.on (below1 w1 _) hb2
  have T2 := ho2.at_ hm2
  clear ha2 ho2 n2 hb2
  go_wp2_with fail
  refine (same_t (T2.alloc _) (lit_at w2 _ [7766279631452241920, 5] 2 rfl rfl nf_e20.dig (by omega))).mono ?_
  rintro e w3 ⟨rfl, hb3⟩
  have hb13 : Below w1.heap.size w1 w3 := Below.on hb12 (Below.on (below1 w2 _) hb3)
  clear hb12 hb3 T2
  go_wp2_with fail
  refine (awake_any _).mono ?_
  rintro e w4 ⟨rfl, hb4⟩
  have hb14 := Below.on hb13 hb4
  have hw4 := Below.on hb1 hb14
  clear hb13 hb4 hb1
  cases o1
  · clear H1 hb14
    go_wp2_with fail
    refine (pow_neg v1 mn _ hmn0).mono ?_
    rintro e w5 ⟨rfl, hw⟩
    obtain rfl := hw.symm
    clear hw
    go_wp2_with fail
    go_ret
    exact ⟨rfl, hw4⟩
  by_cases hm0 : m < 0
  · clear H1 hb14
    have hm0' : decide (m < 0) = true := decide_eq_true hm0
    go_wp2_with fail
    refine (pow_neg v1 mn _ hmn0).mono ?_
    rintro e w5 ⟨rfl, hw⟩
    obtain rfl := hw.symm
    clear hw
    go_wp2_with fail
    go_ret
    exact ⟨rfl, hw4⟩
  have hm0' : decide (m < 0) = false := decide_eq_false hm0
  by_cases hn0 : n < 0
  · clear H1 hb14
    have hn0' : decide (n < 0) = true := decide_eq_true hn0
    go_wp2_with fail
    refine (pow_neg v1 mn _ hmn0).mono ?_
    rintro e w5 ⟨rfl, hw⟩
    obtain rfl := hw.symm
    clear hw
    go_wp2_with fail
    go_ret
    exact ⟨rfl, hw4⟩
  have hn0' : decide (n < 0) = false := decide_eq_false hn0
  obtain ⟨p1, l1, us, rfl, A, hl1, nA⟩ := H1.out rfl
  have A4 := A.below hb14
  have HA : Hid (Nf B64 us (valB B64 xs)) := nA
  have HV : Hid (valB B64 us = valB B64 xs) := nA.val
  have HLA : Hid (valB B64 xs < LIM) := nA.lim.1 (by rw [A4.len]; exact hl1)
  clear H1 hb14 A nA
  generalize valB B64 xs = a at *
  obtain ⟨M, rfl⟩ := Int.eq_ofNat_of_zero_le (show 0 ≤ m by omega)
  obtain ⟨N, rfl⟩ := Int.eq_ofNat_of_zero_le (show 0 ≤ n by omega)
  clear hm0 hn0
  by_cases hM : 1048576 < M
  · have hM' : decide ((1048576 : Int) < (M : Int)) = true := by simp; omega
    obtain ⟨X, hX⟩ : ∃ X, X = if M < N then N else M := ⟨_, rfl⟩
    have hXb : 1048576 < X := by rw [hX]; split <;> omega
    have hX63 : X < 9223372036854775808 := by rw [hX]; have := HM2.out; have := HN2.out; split <;> omega
    have hXi : max (M : Int) (N : Int) = (X : Int) := by rw [hX]; split <;> omega
    have HX : Hid (1048576 < X) := hXb
    have HX63 : Hid (X < 9223372036854775808) := hX63
    have HXI : Hid (max (M : Int) (N : Int) = (X : Int)) := hXi
    clear hmn hmn0 hX hXb hX63 hXi hM
    go_wp2_with fail
    rw [HXI.out]
    refine (pow_any A4 HA.out hl1 X HX63.out).mono ?_
    rintro e w5 ⟨ha5, hb5⟩
    have A5 := A4.below hb5; have hw5 := Below.on hw4 hb5
    clear A4 hb5 hw4
    by_cases ha : a ≤ 1
    · have hE : a ^ X = a := small_pow ha (by have := HX.out; omega)
      rw [hE] at ha5
      obtain ⟨p5, m5, s5, rfl, ho5, n5, hm5⟩ := ha5.ok HLA.out
      obtain rfl : s5 = us := n5.inj B64_one HA.out
      have X5 := ho5.at_ hm5
      have HC : Hid (cmpN (valB B64 s5) (valB B64 [1]) ≤ 0) := by
        rw [HV.out, show valB B64 [1] = 1 by simp [valB]]; exact cmp_small ha
      clear ha5 ho5 n5 hE ha
      go_wp2_with fail
      refine (cmp_w (A5.alloc _) (lit_at w5 _ [1] 1 rfl rfl (dig1 (by decide)) (by omega))).mono ?_
      rintro e w6 ⟨rfl, hb6⟩
      have hb56 : Below w5.heap.size w5 w6 := Below.on (below1 w5 _) hb6
      have A6 := A5.below hb56; have X6 := X5.below hb56; have hw6 := Below.on hw5 hb56
      have hc : decide (cmpN (valB B64 s5) (valB B64 [1]) ≤ 0) = true := decide_eq_true HC.out
      clear hb6 hb56 A5 X5 hw5
      generalize cmpN (valB B64 s5) (valB B64 [1]) = cv at *
      go_wp2_with fail
      refine (same_t X6 A6).mono ?_
      rintro e w7 ⟨rfl, hb7⟩
      have hw7 := Below.on hw6 hb7
      clear hb7 hw6 A6 X6
      go_wp2_with fail
      go_ret
      exact ⟨rfl, hw7⟩
    · have hE : LIM ≤ a ^ X := big_pow (by omega) HX.out
      obtain rfl := ha5.no hE
      have HC : Hid (cmpN (valB B64 us) (valB B64 [1]) = 1) := by
        rw [HV.out, show valB B64 [1] = 1 by simp [valB]]; exact cmpN_gt (by omega)
      clear ha5 hE ha
      go_wp2_with fail
      refine (cmp_w (A5.alloc _) (lit_at w5 _ [1] 1 rfl rfl (dig1 (by decide)) (by omega))).mono ?_
      rintro e w6 ⟨rfl, hb6⟩
      have hw6 := Below.on hw5 (Below.on (below1 w5 _) hb6)
      clear hb6 A5 hw5
      rw [HC.out]
      go_wp2_with fail
      go_ret
      exact ⟨rfl, hw6⟩
  have HM : Hid (M ≤ 1048576) := by show M ≤ 1048576; omega
  have hM' : decide ((1048576 : Int) < (M : Int)) = false := by simp; omega
  by_cases hN : 1048576 < N
  · have hN' : decide ((1048576 : Int) < (N : Int)) = true := by simp; omega
    obtain ⟨X, hX⟩ : ∃ X, X = if M < N then N else M := ⟨_, rfl⟩
    have hXb : 1048576 < X := by rw [hX]; split <;> omega
    have hX63 : X < 9223372036854775808 := by rw [hX]; have := HM2.out; have := HN2.out; split <;> omega
    have hXi : max (M : Int) (N : Int) = (X : Int) := by rw [hX]; split <;> omega
    have HX : Hid (1048576 < X) := hXb
    have HX63 : Hid (X < 9223372036854775808) := hX63
    have HXI : Hid (max (M : Int) (N : Int) = (X : Int)) := hXi
    clear hmn hmn0 hX hXb hX63 hXi hM hN
    go_wp2_with fail
    rw [HXI.out]
    refine (pow_any A4 HA.out hl1 X HX63.out).mono ?_
    rintro e w5 ⟨ha5, hb5⟩
    have A5 := A4.below hb5; have hw5 := Below.on hw4 hb5
    clear A4 hb5 hw4
    by_cases ha : a ≤ 1
    · have hE : a ^ X = a := small_pow ha (by have := HX.out; omega)
      rw [hE] at ha5
      obtain ⟨p5, m5, s5, rfl, ho5, n5, hm5⟩ := ha5.ok HLA.out
      obtain rfl : s5 = us := n5.inj B64_one HA.out
      have X5 := ho5.at_ hm5
      have HC : Hid (cmpN (valB B64 s5) (valB B64 [1]) ≤ 0) := by
        rw [HV.out, show valB B64 [1] = 1 by simp [valB]]; exact cmp_small ha
      clear ha5 ho5 n5 hE ha
      go_wp2_with fail
      refine (cmp_w (A5.alloc _) (lit_at w5 _ [1] 1 rfl rfl (dig1 (by decide)) (by omega))).mono ?_
      rintro e w6 ⟨rfl, hb6⟩
      have hb56 : Below w5.heap.size w5 w6 := Below.on (below1 w5 _) hb6
      have A6 := A5.below hb56; have X6 := X5.below hb56; have hw6 := Below.on hw5 hb56
      have hc : decide (cmpN (valB B64 s5) (valB B64 [1]) ≤ 0) = true := decide_eq_true HC.out
      clear hb6 hb56 A5 X5 hw5
      generalize cmpN (valB B64 s5) (valB B64 [1]) = cv at *
      go_wp2_with fail
      refine (same_t X6 A6).mono ?_
      rintro e w7 ⟨rfl, hb7⟩
      have hw7 := Below.on hw6 hb7
      clear hb7 hw6 A6 X6
      go_wp2_with fail
      go_ret
      exact ⟨rfl, hw7⟩
    · have hE : LIM ≤ a ^ X := big_pow (by omega) HX.out
      obtain rfl := ha5.no hE
      have HC : Hid (cmpN (valB B64 us) (valB B64 [1]) = 1) := by
        rw [HV.out, show valB B64 [1] = 1 by simp [valB]]; exact cmpN_gt (by omega)
      clear ha5 hE ha
      go_wp2_with fail
      refine (cmp_w (A5.alloc _) (lit_at w5 _ [1] 1 rfl rfl (dig1 (by decide)) (by omega))).mono ?_
      rintro e w6 ⟨rfl, hb6⟩
      have hw6 := Below.on hw5 (Below.on (below1 w5 _) hb6)
      clear hb6 A5 hw5
      rw [HC.out]
      go_wp2_with fail
      go_ret
      exact ⟨rfl, hw6⟩
  have HN : Hid (N ≤ 1048576) := by show N ≤ 1048576; omega
  have hN' : decide ((1048576 : Int) < (N : Int)) = false := by simp; omega
  clear hM hN hmn hmn0
  have HSUM : Hid ((M : Int) + (N : Int) = ((M + N : Nat) : Int)) := by show (M : Int) + (N : Int) = ((M + N : Nat) : Int); omega
  have hmn : M * N ≤ 1048576 * 1048576 := Nat.mul_le_mul HM.out HN.out
  have HMN : Hid (M * N < 9223372036854775808) := by show M * N < 9223372036854775808; omega
  have hP : IntKind.i64.wrap ((M : Int) * (N : Int)) = ((M * N : Nat) : Int) := wrap_mul hmn
  have hS : IntKind.i64.wrap ((M : Int) + (N : Int)) = ((M + N : Nat) : Int) := wrap_add HM.out HN.out
  clear hmn
  go_wp2_with fail
  refine (pow_any A4 HA.out hl1 M (by have := HM.out; omega)).mono ?_
  rintro e w5 ⟨ha5, hb5⟩
  have A5 := A4.below hb5; have hw5 := Below.on hw4 hb5
  clear A4 hb5 hw4
  rcases ha5 with ⟨hl5, p5, m5, s5, rfl, ho5, n5, hm5⟩ | ⟨hl5, rfl⟩
  · have X5 := ho5.at_ hm5
    have N5 : Hid (Nf B64 s5 (a ^ M)) := n5
    clear hl5 ho5 n5
    go_wp2_with fail
    refine (pow_any A5 HA.out hl1 N (by have := HN.out; omega)).mono ?_
    rintro e w6 ⟨ha6, hb6⟩
    have A6 := A5.below hb6; have X6 := X5.below hb6; have hw6 := Below.on hw5 hb6
    clear A5 X5 hb6 hw5
    rcases ha6 with ⟨hl6, p6, m6, s6, rfl, ho6, n6, hm6⟩ | ⟨hl6, rfl⟩
    · have Y6 := ho6.at_ hm6
      have N6 : Hid (Nf B64 s6 (a ^ N)) := n6
      clear hl6 ho6 n6
      go_wp2_with fail
      try rw [HSUM.out]
      refine (pow_any A6 HA.out hl1 (M + N) (by have := HM.out; have := HN.out; omega)).mono ?_
      rintro e w7 ⟨ha7, hb7⟩
      have A7 := A6.below hb7; have X7 := X6.below hb7; have Y7 := Y6.below hb7; have hw7 := Below.on hw6 hb7
      clear A6 X6 Y6 hb7 hw6
      rcases ha7 with ⟨hl7, p7, m7, s7, rfl, ho7, n7, hm7⟩ | ⟨hl7, rfl⟩
      · have S7 := ho7.at_ hm7
        have N7 : Hid (Nf B64 s7 (a ^ M * a ^ N)) := by rw [Nat.pow_add] at n7; exact n7
        have HL : Hid (a ^ M * a ^ N < LIM) := by rw [Nat.pow_add] at hl7; exact hl7
        clear hl7 ho7 n7
        go_wp2_with fail
        refine (mul_any X7 Y7 N5.out N6.out hm5 hm6).mono ?_
        rintro e w8 ⟨ha8, hb8⟩
        obtain ⟨p8, m8, s8, rfl, ho8, n8, hm8⟩ := ha8.ok HL.out
        obtain rfl : s8 = s7 := n8.inj B64_one N7.out
        have P8 := ho8.at_ hm8
        have A8 := A7.below hb8; have X8 := X7.below hb8; have S8 := S7.below hb8; have hw8 := Below.on hw7 hb8
        clear ha8 ho8 n8 hb8 A7 X7 Y7 S7 hw7
        go_wp2_with fail
        refine (same_t S8 P8).mono ?_
        rintro e w9 ⟨rfl, hb9⟩
        have A9 := A8.below hb9; have X9 := X8.below hb9; have hw9 := Below.on hw8 hb9
        clear hb9 A8 X8 S8 P8 hw8
        go_wp2_with fail
        refine (pow_any X9 N5.out hm5 N (by have := HN.out; omega)).mono ?_
        rintro e w10 ⟨ha10, hb10⟩
        rw [← Nat.pow_mul] at ha10
        have A10 := A9.below hb10; have hw10 := Below.on hw9 hb10
        clear hb10 hw9 A9 X9
        rcases ha10 with ⟨hl10, p10, m10, s10, rfl, ho10, n10, hm10⟩ | ⟨hl10, rfl⟩
        · have U10 := ho10.at_ hm10
          have N10 : Hid (Nf B64 s10 (a ^ (M * N))) := n10
          have HL10 : Hid (a ^ (M * N) < LIM) := hl10
          clear hl10 ho10 n10
          go_wp2_with fail
          refine (pow_any A10 HA.out hl1 (M * N) HMN.out).mono ?_
          rintro e w11 ⟨ha11, hb11⟩
          obtain ⟨p11, m11, s11, rfl, ho11, n11, hm11⟩ := ha11.ok HL10.out
          obtain rfl : s11 = s10 := n11.inj B64_one N10.out
          have V11 := ho11.at_ hm11
          have U11 := U10.below hb11; have hw11 := Below.on hw10 hb11
          clear ha11 ho11 n11 hb11 hw10 A10 U10
          go_wp2_with fail
          refine (same_t U11 V11).mono ?_
          rintro e w12 ⟨rfl, hb12⟩
          have hw12 := Below.on hw11 hb12
          clear hb12 hw11 U11 V11
          go_wp2_with fail
          go_ret
          exact ⟨rfl, hw12⟩
        · have HL10 : Hid (LIM ≤ a ^ (M * N)) := hl10
          clear hl10
          go_wp2_with fail
          refine (pow_any A10 HA.out hl1 (M * N) HMN.out).mono ?_
          rintro e w11 ⟨ha11, hb11⟩
          obtain rfl := ha11.no HL10.out
          have hw11 := Below.on hw10 hb11
          clear ha11 hb11 hw10 A10
          go_wp2_with fail
          refine (same_nil w11).mono ?_
          rintro e w12 ⟨rfl, hb12⟩
          have hw12 := Below.on hw11 hb12
          clear hb12 hw11
          go_wp2_with fail
          go_ret
          exact ⟨rfl, hw12⟩
      · have HL : Hid (LIM ≤ a ^ M * a ^ N) := by rw [Nat.pow_add] at hl7; exact hl7
        clear hl7
        go_wp2_with fail
        refine (mul_any X7 Y7 N5.out N6.out hm5 hm6).mono ?_
        rintro e w8 ⟨ha8, hb8⟩
        obtain rfl := ha8.no HL.out
        have A8 := A7.below hb8; have X8 := X7.below hb8; have hw8 := Below.on hw7 hb8
        clear ha8 hb8 A7 X7 Y7 hw7
        go_wp2_with fail
        refine (same_nil w8).mono ?_
        rintro e w9 ⟨rfl, hb9⟩
        have A9 := A8.below hb9; have X9 := X8.below hb9; have hw9 := Below.on hw8 hb9
        clear hb9 A8 X8 hw8
        go_wp2_with fail
        refine (pow_any X9 N5.out hm5 N (by have := HN.out; omega)).mono ?_
        rintro e w10 ⟨ha10, hb10⟩
        rw [← Nat.pow_mul] at ha10
        have A10 := A9.below hb10; have hw10 := Below.on hw9 hb10
        clear hb10 hw9 A9 X9
        rcases ha10 with ⟨hl10, p10, m10, s10, rfl, ho10, n10, hm10⟩ | ⟨hl10, rfl⟩
        · have U10 := ho10.at_ hm10
          have N10 : Hid (Nf B64 s10 (a ^ (M * N))) := n10
          have HL10 : Hid (a ^ (M * N) < LIM) := hl10
          clear hl10 ho10 n10
          go_wp2_with fail
          refine (pow_any A10 HA.out hl1 (M * N) HMN.out).mono ?_
          rintro e w11 ⟨ha11, hb11⟩
          obtain ⟨p11, m11, s11, rfl, ho11, n11, hm11⟩ := ha11.ok HL10.out
          obtain rfl : s11 = s10 := n11.inj B64_one N10.out
          have V11 := ho11.at_ hm11
          have U11 := U10.below hb11; have hw11 := Below.on hw10 hb11
          clear ha11 ho11 n11 hb11 hw10 A10 U10
          go_wp2_with fail
          refine (same_t U11 V11).mono ?_
          rintro e w12 ⟨rfl, hb12⟩
          have hw12 := Below.on hw11 hb12
          clear hb12 hw11 U11 V11
          go_wp2_with fail
          go_ret
          exact ⟨rfl, hw12⟩
        · have HL10 : Hid (LIM ≤ a ^ (M * N)) := hl10
          clear hl10
          go_wp2_with fail
          refine (pow_any A10 HA.out hl1 (M * N) HMN.out).mono ?_
          rintro e w11 ⟨ha11, hb11⟩
          obtain rfl := ha11.no HL10.out
          have hw11 := Below.on hw10 hb11
          clear ha11 hb11 hw10 A10
          go_wp2_with fail
          refine (same_nil w11).mono ?_
          rintro e w12 ⟨rfl, hb12⟩
          have hw12 := Below.on hw11 hb12
          clear hb12 hw11
          go_wp2_with fail
          go_ret
          exact ⟨rfl, hw12⟩
    · have HBIG : Hid (LIM ≤ a ^ (M + N)) := by rw [Nat.add_comm]; exact more_pow N M hl6
      clear hl6 X6
      go_wp2_with fail
      try rw [HSUM.out]
      refine (pow_any A6 HA.out hl1 (M + N) (by have := HM.out; have := HN.out; omega)).mono ?_
      rintro e w7 ⟨ha7, hb7⟩
      obtain rfl := ha7.no HBIG.out
      have hw7 := Below.on hw6 hb7
      clear ha7 hb7 hw6 A6
      go_wp2_with fail
      go_ret
      exact ⟨rfl, hw7⟩
  · have HBIG : Hid (LIM ≤ a ^ (M + N)) := more_pow M N hl5
    clear hl5
    go_wp2_with fail
    refine (pow_any A5 HA.out hl1 N (by have := HN.out; omega)).mono ?_
    rintro e w6 ⟨ha6, hb6⟩
    have A6 := A5.below hb6; have hw6 := Below.on hw5 hb6
    clear A5 hb6 hw5
    rcases ha6 with ⟨hl6, p6, m6, s6, rfl, ho6, n6, hm6⟩ | ⟨hl6, rfl⟩
    · clear hl6 ho6 n6
      go_wp2_with fail
      try rw [HSUM.out]
      refine (pow_any A6 HA.out hl1 (M + N) (by have := HM.out; have := HN.out; omega)).mono ?_
      rintro e w7 ⟨ha7, hb7⟩
      obtain rfl := ha7.no HBIG.out
      have hw7 := Below.on hw6 hb7
      clear ha7 hb7 hw6 A6
      go_wp2_with fail
      go_ret
      exact ⟨rfl, hw7⟩
    · clear hl6
      go_wp2_with fail
      try rw [HSUM.out]
      refine (pow_any A6 HA.out hl1 (M + N) (by have := HM.out; have := HN.out; omega)).mono ?_
      rintro e w7 ⟨ha7, hb7⟩
      obtain rfl := ha7.no HBIG.out
      have hw7 := Below.on hw6 hb7
      clear ha7 hb7 hw6 A6
      go_wp2_with fail
      go_ret
      exact ⟨rfl, hw7⟩
end Go.Proofs.Ytkhhejfnglolkab
