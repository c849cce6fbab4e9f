import Derived.Test.YtkhhejfnglolkabLit
namespace Go.Proofs.Ytkhhejfnglolkab
open Go.RowKit

theorem same_nil (w : World) :
    Calls Try.prog 9 #[.slice none 0 0, .slice none 0 0] w fun e w' => e = .returned (.bool true) ∧ Below w.heap.size w w' :=
  same_t (At.empty w none 0 (by decide)) (At.empty w none 0 (by decide))

set_option maxHeartbeats 1000000 in
theorem groups_any {p q r : Option Addr} {n m l c d f : Nat} {xs ys zs : List Nat} {a b cc : Nat} {w : World} (h : At w p n c xs) (k : At w q m d ys) (t : At w r l f zs) (nA : Nf B64 xs a) (nB : Nf B64 ys b) (nC : Nf B64 zs cc) (hn : n ≤ 8192) (hm : m ≤ 8192) (hl : l ≤ 8192) :
    Calls Try.prog 10 #[.slice p n c, .slice q m d, .slice r l f] w fun e w' => e = .returned (.bool true) ∧ Below w.heap.size w w' := by
  have HA : Hid (Nf B64 xs a) := nA
  have HB : Hid (Nf B64 ys b) := nB
  have HC : Hid (Nf B64 zs cc) := nC
  clear nA nB nC
  go_enter Try.func10, Try.ntmps10
  go_wp2_with fail
  refine (mul_any h k HA.out HB.out hn hm).mono ?_
  rintro e w1 ⟨ha1, hb1⟩
  have h1 := h.below hb1; have k1 := k.below hb1; have t1 := t.below hb1
  clear h k t
  rcases ha1 with ⟨hl1, p1, m1, s1, rfl, ho1, n1, hm1⟩ | ⟨hl1, rfl⟩
  · have S1 := ho1.at_ hm1
    have N1 : Hid (Nf B64 s1 (a * b)) := n1
    clear hl1 ho1 n1
    go_wp2_with fail
    refine (mul_any k1 t1 HB.out HC.out hm hl).mono ?_
    rintro e w2 ⟨ha2, hb2⟩
    have h2 := h1.below hb2; have t2 := t1.below hb2; have S2 := S1.below hb2; have hw2 := Below.on hb1 hb2
    clear h1 k1 t1 S1 hb1 hb2
    rcases ha2 with ⟨hl2, p2, m2, s2, rfl, ho2, n2, hm2⟩ | ⟨hl2, rfl⟩
    · have T2 := ho2.at_ hm2
      have N2 : Hid (Nf B64 s2 (b * cc)) := n2
      clear hl2 ho2 n2
      go_wp2_with fail
      refine (mul_any S2 t2 N1.out HC.out hm1 hl).mono ?_
      rintro e w3 ⟨ha3, hb3⟩
      have h3 := h2.below hb3; have T3 := T2.below hb3; have hw3 := Below.on hw2 hb3
      clear h2 t2 S2 T2 hw2 hb3
      rcases ha3 with ⟨hl3, p3, m3, s3, rfl, ho3, n3, hm3⟩ | ⟨hl3, rfl⟩
      · have L3 := ho3.at_ hm3
        have HL : Hid (a * (b * cc) < LIM) := by rw [Nat.mul_assoc] at hl3; exact hl3
        have N3 : Hid (Nf B64 s3 (a * (b * cc))) := by rw [Nat.mul_assoc] at n3; exact n3
        clear hl3 ho3 n3
        go_wp2_with fail
        refine (mul_any h3 T3 HA.out N2.out hn hm2).mono ?_
        rintro e w4 ⟨ha4, hb4⟩
        obtain ⟨p4, m4, s4, rfl, ho4, n4, hm4⟩ := ha4.ok HL.out
        obtain rfl : s4 = s3 := n4.inj B64_one N3.out
        have R4 := ho4.at_ hm4
        have L4 := L3.below hb4; have hw4 := Below.on hw3 hb4
        clear ha4 ho4 n4 h3 T3 L3 hw3 hb4
        go_wp2_with fail
        refine (same_t L4 R4).mono ?_
        rintro e w5 ⟨rfl, hb5⟩
        have hw5 := Below.on hw4 hb5
        clear hw4 hb5 L4 R4
        go_wp2_with fail
        go_ret
        exact ⟨rfl, hw5⟩
      · have HL : Hid (LIM ≤ a * (b * cc)) := by rw [Nat.mul_assoc] at hl3; exact hl3
        clear hl3
        go_wp2_with fail
        refine (mul_any h3 T3 HA.out N2.out hn hm2).mono ?_
        rintro e w4 ⟨ha4, hb4⟩
        obtain rfl := ha4.no HL.out
        have hw4 := Below.on hw3 hb4
        clear ha4 h3 T3 hw3 hb4
        go_wp2_with fail
        refine (same_nil w4).mono ?_
        rintro e w5 ⟨rfl, hb5⟩
        have hw5 := Below.on hw4 hb5
        clear hw4 hb5
        go_wp2_with fail
        go_ret
        exact ⟨rfl, hw5⟩
    · clear hl2
      go_wp2_with fail
      go_ret
      exact ⟨rfl, hw2⟩
  · clear hl1
    go_wp2_with fail
    refine (mul_any k1 t1 HB.out HC.out hm hl).mono ?_
    rintro e w2 ⟨ha2, hb2⟩
    have hw2 := Below.on hb1 hb2
    clear h1 k1 t1 hb1 hb2
    rcases ha2 with ⟨hl2, p2, m2, s2, rfl, ho2, n2, hm2⟩ | ⟨hl2, rfl⟩
    · clear hl2 ho2 n2
      go_wp2_with fail
      go_ret
      exact ⟨rfl, hw2⟩
    · clear hl2
      go_wp2_with fail
      go_ret
      exact ⟨rfl, hw2⟩

set_option maxHeartbeats 2000000 in
theorem spreads_any {p q r : Option Addr} {n m l c d f : Nat} {xs ys zs : List Nat} {a b cc : Nat} {w : World} (h : At w p n c xs) (k : At w q m d ys) (t : At w r l f zs) (nA : Nf B64 xs a) (nB : Nf B64 ys b) (nC : Nf B64 zs cc) (hn : n ≤ 8192) (hm : m ≤ 8192) (hl : l ≤ 8192) :
    Calls Try.prog 11 #[.slice p n c, .slice q m d, .slice r l f] w fun e w' => e = .returned (.bool true) ∧ Below w.heap.size w w' := by
  have HA : Hid (Nf B64 xs a) := nA
  have HB : Hid (Nf B64 ys b) := nB
  have HC : Hid (Nf B64 zs cc) := nC
  clear nA nB nC
  go_enter Try.func11, Try.ntmps11
  go_wp2_with fail
  refine (add_ord k t HB.out HC.out hm hl).mono ?_
  rintro e w1 ⟨ha1, hb1⟩
  have h1 := h.below hb1; have k1 := k.below hb1; have t1 := t.below hb1
  clear h k t
  rcases ha1 with ⟨hl1, p1, m1, s1, rfl, ho1, n1, hm1⟩ | ⟨hl1, rfl⟩
  · have S1 := ho1.at_ hm1
    have N1 : Hid (Nf B64 s1 (b + cc)) := n1
    clear hl1 ho1 n1
    go_wp2_with fail
    refine (mul_any h1 S1 HA.out N1.out hn hm1).mono ?_
    rintro e w2 ⟨ha2, hb2⟩
    have h2 := h1.below hb2; have k2 := k1.below hb2; have t2 := t1.below hb2; have hw2 := Below.on hb1 hb2
    clear h1 k1 t1 S1 hb1 hb2
    rcases ha2 with ⟨hl2, p2, m2, s2, rfl, ho2, n2, hm2⟩ | ⟨hl2, rfl⟩
    · have L2 := ho2.at_ hm2
      have HL : Hid (a * b + a * cc < LIM) := by rw [Nat.mul_add] at hl2; exact hl2
      have N2 : Hid (Nf B64 s2 (a * b + a * cc)) := by rw [Nat.mul_add] at n2; exact n2
      clear hl2 ho2 n2
      go_wp2_with fail
      refine (mul_any h2 k2 HA.out HB.out hn hm).mono ?_
      rintro e w3 ⟨ha3, hb3⟩
      obtain ⟨p3, m3, s3, rfl, ho3, n3, hm3⟩ := ha3.ok (Nat.lt_of_le_of_lt (Nat.le_add_right _ _) HL.out)
      have U3 := ho3.at_ hm3
      have N3 : Hid (Nf B64 s3 (a * b)) := n3
      have h3 := h2.below hb3; have t3 := t2.below hb3; have L3 := L2.below hb3; have hw3 := Below.on hw2 hb3
      clear ha3 ho3 n3 h2 k2 t2 L2 hw2 hb3
      go_wp2_with fail
      refine (mul_any h3 t3 HA.out HC.out hn hl).mono ?_
      rintro e w4 ⟨ha4, hb4⟩
      obtain ⟨p4, m4, s4, rfl, ho4, n4, hm4⟩ := ha4.ok (Nat.lt_of_le_of_lt (Nat.le_add_left _ _) HL.out)
      have V4 := ho4.at_ hm4
      have N4 : Hid (Nf B64 s4 (a * cc)) := n4
      have U4 := U3.below hb4; have L4 := L3.below hb4; have hw4 := Below.on hw3 hb4
      clear ha4 ho4 n4 h3 t3 U3 L3 hw3 hb4
      go_wp2_with fail
      refine (add_ord U4 V4 N3.out N4.out hm3 hm4).mono ?_
      rintro e w5 ⟨ha5, hb5⟩
      obtain ⟨p5, m5, s5, rfl, ho5, n5, hm5⟩ := ha5.ok HL.out
      obtain rfl : s5 = s2 := n5.inj B64_one N2.out
      have R5 := ho5.at_ hm5
      have L5 := L4.below hb5; have hw5 := Below.on hw4 hb5
      clear ha5 ho5 n5 U4 V4 L4 hw4 hb5
      go_wp2_with fail
      refine (same_t L5 R5).mono ?_
      rintro e w6 ⟨rfl, hb6⟩
      have hw6 := Below.on hw5 hb6
      clear hw5 hb6 L5 R5
      go_wp2_with fail
      go_ret
      exact ⟨rfl, hw6⟩
    · have HL : Hid (LIM ≤ a * b + a * cc) := by rw [Nat.mul_add] at hl2; exact hl2
      clear hl2
      go_wp2_with fail
      refine (mul_any h2 k2 HA.out HB.out hn hm).mono ?_
      rintro e w3 ⟨ha3, hb3⟩
      have h3 := h2.below hb3; have t3 := t2.below hb3; have hw3 := Below.on hw2 hb3
      clear h2 k2 t2 hw2 hb3
      rcases ha3 with ⟨hl3, p3, m3, s3, rfl, ho3, n3, hm3⟩ | ⟨hl3, rfl⟩
      · have U3 := ho3.at_ hm3
        have N3 : Hid (Nf B64 s3 (a * b)) := n3
        clear hl3 ho3 n3
        go_wp2_with fail
        refine (mul_any h3 t3 HA.out HC.out hn hl).mono ?_
        rintro e w4 ⟨ha4, hb4⟩
        have U4 := U3.below hb4; have hw4 := Below.on hw3 hb4
        clear h3 t3 U3 hw3 hb4
        rcases ha4 with ⟨hl4, p4, m4, s4, rfl, ho4, n4, hm4⟩ | ⟨hl4, rfl⟩
        · have V4 := ho4.at_ hm4
          have N4 : Hid (Nf B64 s4 (a * cc)) := n4
          clear hl4 ho4 n4
          go_wp2_with fail
          refine (add_ord U4 V4 N3.out N4.out hm3 hm4).mono ?_
          rintro e w5 ⟨ha5, hb5⟩
          obtain rfl := ha5.no HL.out
          have hw5 := Below.on hw4 hb5
          clear ha5 U4 V4 hw4 hb5
          go_wp2_with fail
          refine (same_nil w5).mono ?_
          rintro e w6 ⟨rfl, hb6⟩
          have hw6 := Below.on hw5 hb6
          clear hw5 hb6
          go_wp2_with fail
          go_ret
          exact ⟨rfl, hw6⟩
        · clear hl4
          go_wp2_with fail
          go_ret
          exact ⟨rfl, hw4⟩
      · clear hl3
        go_wp2_with fail
        refine (mul_any h3 t3 HA.out HC.out hn hl).mono ?_
        rintro e w4 ⟨ha4, hb4⟩
        have hw4 := Below.on hw3 hb4
        clear h3 t3 hw3 hb4
        rcases ha4 with ⟨hl4, p4, m4, s4, rfl, ho4, n4, hm4⟩ | ⟨hl4, rfl⟩
        · clear hl4 ho4 n4
          go_wp2_with fail
          go_ret
          exact ⟨rfl, hw4⟩
        · clear hl4
          go_wp2_with fail
          go_ret
          exact ⟨rfl, hw4⟩
  · clear hl1
    go_wp2_with fail
    go_ret
    exact ⟨rfl, hb1⟩

set_option maxHeartbeats 4000000 in
theorem ring_walk {p q r : Option Addr} {n m l c d f : Nat} {xs ys zs : List Nat} {w : World} (h : At w p n c xs) (k : At w q m d ys) (t : At w r l f zs) (hn : n ≤ 17592186044416) (hm : m ≤ 17592186044416) (hl : l ≤ 17592186044416) :
    Calls Try.prog 3 #[.slice p n c, .slice q m d, .slice r l f] w fun e w' => e = .returned (.bool true) ∧ Below w.heap.size w w' := by
  go_enter Try.func3, Try.ntmps3
  go_wp2_with fail
  refine (norm2_any h hn).mono ?_
  rintro e w1 ⟨⟨v1, o1, rfl, H1⟩, hb1⟩
  have k1 := k.below hb1; have t1 := t.below hb1
  clear h k t
  go_wp2_with fail
  refine (norm2_any k1 hm).mono ?_
  rintro e w2 ⟨⟨v2, o2, rfl, H2⟩, hb2⟩
  have t2 := t1.below hb2
  clear k1 t1
  go_wp2_with fail
  refine (norm2_any t2 hl).mono ?_
  rintro e w3 ⟨⟨v3, o3, rfl, H3⟩, hb3⟩
  clear t2
  go_wp2_with fail
  refine (awake_any _).mono ?_
  rintro e w4 ⟨rfl, hb4⟩
  have hb34 := hb4
  have hb24 := Below.on hb3 hb4
  have hb14 := Below.on hb2 hb24
  have hw4 := Below.on hb1 hb14
  clear hb1 hb2 hb3 hb4
  cases o1
  · clear H1 H2 H3 hb34 hb24 hb14
    go_wp2_with fail
    go_ret
    exact ⟨rfl, hw4⟩
  cases o2
  · clear H1 H2 H3 hb34 hb24 hb14
    go_wp2_with fail
    go_ret
    exact ⟨rfl, hw4⟩
  cases o3
  · clear H1 H2 H3 hb34 hb24 hb14
    go_wp2_with fail
    go_ret
    exact ⟨rfl, hw4⟩
  obtain ⟨p1, m1, us, rfl, A, hm1, nA⟩ := H1.out rfl
  obtain ⟨p2, m2, vs, rfl, B, hm2, nB⟩ := H2.out rfl
  obtain ⟨p3, m3, ws, rfl, C, hm3, nC⟩ := H3.out rfl
  have A4 := A.below hb14; have B4 := B.below hb24; have C4 := C.below hb34
  clear H1 H2 H3 hb34 hb24 hb14 A B C
  generalize valB B64 xs = a at *
  generalize valB B64 ys = b at *
  generalize valB B64 zs = cc at *
  have ha : a < LIM := nA.lim.1 (by rw [A4.len]; exact hm1)
  have HLA : Hid (a < LIM) := ha
  have HA : Hid (Nf B64 us a) := nA
  have HB : Hid (Nf B64 vs b) := nB
  have HC : Hid (Nf B64 ws cc) := nC
  clear ha nA nB nC
  go_wp2_with fail
  refine (mul_any (A4.alloc _) (lit_at w4 _ [1] 1 rfl rfl (dig1 (by decide)) (by omega)) HA.out (nf_one (by decide) (by decide)) hm1 (by omega)).mono ?_
  rintro e w5 ⟨ha5, hb5⟩
  rw [Nat.mul_one] at ha5
  obtain ⟨p5, m5, s5, rfl, ho5, n5, hm5⟩ := ha5.ok HLA.out
  obtain rfl : s5 = us := n5.inj B64_one HA.out
  have hb45 : Below w4.heap.size w4 w5 := Below.on (below1 w4 _) hb5
  have O5 := ho5.at_ hm5
  have A5 := A4.below hb45; have B5 := B4.below hb45; have C5 := C4.below hb45; have hw5 := Below.on hw4 hb45
  clear ha5 ho5 n5 hb5 hb45 A4 B4 C4 hw4
  go_wp2_with fail
  refine (mul_any (At.empty w5 none 0 (by decide)) A5 (Nf.nil _) HA.out (by omega) hm1).mono ?_
  rintro e w6 ⟨ha6, hb6⟩
  rw [Nat.zero_mul] at ha6
  obtain ⟨p6, m6, s6, rfl, ho6, n6, hm6⟩ := ha6.ok ((Nf.nil B64).lim.1 (by simp))
  obtain rfl : s6 = [] := n6.inj B64_one (Nf.nil _)
  obtain rfl : 0 = m6 := ho6.len
  have O6 := O5.below hb6; have A6 := A5.below hb6; have B6 := B5.below hb6; have C6 := C5.below hb6; have hw6 := Below.on hw5 hb6
  clear ha6 ho6 n6 hb6 O5 A5 B5 C5 hw5
  go_wp2_with fail
  refine (same_t O6 A6).mono ?_
  rintro e w7 ⟨rfl, hb7⟩
  have A7 := A6.below hb7; have B7 := B6.below hb7; have C7 := C6.below hb7; have hw7 := Below.on hw6 hb7
  clear hb7 O6 A6 B6 C6 hw6
  go_wp2_with fail
  refine (mul_any A7 B7 HA.out HB.out hm1 hm2).mono ?_
  rintro e w8 ⟨ha8, hb8⟩
  have A8 := A7.below hb8; have B8 := B7.below hb8; have C8 := C7.below hb8; have hw8 := Below.on hw7 hb8
  clear hb8 A7 B7 C7 hw7
  rcases ha8 with ⟨hl8, p8, m8, s8, rfl, ho8, n8, hm8⟩ | ⟨hl8, rfl⟩
  · have S8 := ho8.at_ hm8
    have N8 : Hid (Nf B64 s8 (b * a)) := by rw [Nat.mul_comm] at n8; exact n8
    have HL : Hid (b * a < LIM) := by rw [Nat.mul_comm] at hl8; exact hl8
    clear hl8 ho8 n8
    go_wp2_with fail
    refine (mul_any B8 A8 HB.out HA.out hm2 hm1).mono ?_
    rintro e w9 ⟨ha9, hb9⟩
    obtain ⟨p9, m9, s9, rfl, ho9, n9, hm9⟩ := ha9.ok HL.out
    obtain rfl : s9 = s8 := n9.inj B64_one N8.out
    have T9 := ho9.at_ hm9
    have S9 := S8.below hb9; have A9 := A8.below hb9; have B9 := B8.below hb9; have C9 := C8.below hb9; have hw9 := Below.on hw8 hb9
    clear ha9 ho9 n9 hb9 S8 A8 B8 C8 hw8
    go_wp2_with fail
    refine (same_t S9 T9).mono ?_
    rintro e w10 ⟨rfl, hb10⟩
    have A10 := A9.below hb10; have B10 := B9.below hb10; have C10 := C9.below hb10; have hw10 := Below.on hw9 hb10
    clear hb10 S9 T9 A9 B9 C9 hw9
    go_wp2_with fail
    refine (groups_any A10 B10 C10 HA.out HB.out HC.out hm1 hm2 hm3).mono ?_
    rintro e w11 ⟨rfl, hb11⟩
    have A11 := A10.below hb11; have B11 := B10.below hb11; have C11 := C10.below hb11; have hw11 := Below.on hw10 hb11
    clear hb11 A10 B10 C10 hw10
    go_wp2_with fail
    refine (spreads_any A11 B11 C11 HA.out HB.out HC.out hm1 hm2 hm3).mono ?_
    rintro e w12 ⟨rfl, hb12⟩
    have hw12 := Below.on hw11 hb12
    clear hb12 A11 B11 C11 hw11
    go_wp2_with fail
    go_ret
    exact ⟨rfl, hw12⟩
  · have HL : Hid (LIM ≤ b * a) := by rw [Nat.mul_comm] at hl8; exact hl8
    clear hl8
    go_wp2_with fail
    refine (mul_any B8 A8 HB.out HA.out hm2 hm1).mono ?_
    rintro e w9 ⟨ha9, hb9⟩
    obtain rfl := ha9.no HL.out
    have A9 := A8.below hb9; have B9 := B8.below hb9; have C9 := C8.below hb9; have hw9 := Below.on hw8 hb9
    clear ha9 hb9 A8 B8 C8 hw8
    go_wp2_with fail
    refine (same_nil w9).mono ?_
    rintro e w10 ⟨rfl, hb10⟩
    have A10 := A9.below hb10; have B10 := B9.below hb10; have C10 := C9.below hb10; have hw10 := Below.on hw9 hb10
    clear hb10 A9 B9 C9 hw9
    go_wp2_with fail
    refine (groups_any A10 B10 C10 HA.out HB.out HC.out hm1 hm2 hm3).mono ?_
    rintro e w11 ⟨rfl, hb11⟩
    have A11 := A10.below hb11; have B11 := B10.below hb11; have C11 := C10.below hb11; have hw11 := Below.on hw10 hb11
    clear hb11 A10 B10 C10 hw10
    go_wp2_with fail
    refine (spreads_any A11 B11 C11 HA.out HB.out HC.out hm1 hm2 hm3).mono ?_
    rintro e w12 ⟨rfl, hb12⟩
    have hw12 := Below.on hw11 hb12
    clear hb12 A11 B11 C11 hw11
    go_wp2_with fail
    go_ret
    exact ⟨rfl, hw12⟩
end Go.Proofs.Ytkhhejfnglolkab
