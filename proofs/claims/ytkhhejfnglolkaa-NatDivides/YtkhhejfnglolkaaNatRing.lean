import Derived.Test.YtkhhejfnglolkaaAwake
namespace Go.Proofs.Ytkhhejfnglolkaa
open Go.RowKit

theorem twin_at {p : Option Addr} {n c : Nat} {xs : List Nat} {w : World} (h : At w p n c xs) (hn : n ≤ 17592186044416) :
    Calls Try.prog 9 #[.slice p n c] w fun e w' => ∃ p', e = .returned (.slice p' n n) ∧ At w' p' n n xs ∧ Below w.heap.size w w' := by
  refine (twin_any h (by omega)).mono ?_
  rintro e w' ⟨g, rfl, hg, hblk, hb⟩
  exact ⟨_, rfl, hblk.at_ h.dig h.len (by unfold maxLen; omega), hb⟩

set_option maxHeartbeats 1000000 in
theorem norms_any {p q : Option Addr} {n m c d : Nat} {xs ys : List Nat} {w : World} (h : At w p n c xs) (k : At w q m d ys) (hn : n ≤ 17592186044416) (hm : m ≤ 17592186044416) :
    Calls Try.prog 7 #[.slice p n c, .slice q m d] w fun e w' =>
      ((∃ p1 m1 us p2 m2 vs, e = .returned (.tuple #[.slice p1 m1 m1, .slice p2 m2 m2, .bool true]) ∧ At w' p1 m1 m1 us ∧ At w' p2 m2 m2 vs ∧ m1 ≤ 8192 ∧ m2 ≤ 8192 ∧ Nf B64 us (valB B64 xs) ∧ Nf B64 vs (valB B64 ys)) ∨
       (∃ v1 v2, e = .returned (.tuple #[v1, v2, .bool false]))) ∧ Below w.heap.size w w' := by
  go_enter Try.func7, Try.ntmps7
  go_wp2_with fail
  refine (twin_at h hn).mono ?_
  rintro e w1 ⟨p1, rfl, A1, hb1⟩
  go_wp2_with fail
  refine (norm_any A1).mono ?_
  rintro e w2 ⟨ha2, hb2⟩
  have hw2 : Below w.heap.size w w2 := Below.on hb1 hb2
  have K2 := k.below hw2
  clear hb1 hb2 A1
  rcases ha2 with ⟨_, p2, m2, us, rfl, ho, hn2, hm2⟩ | ⟨_, rfl⟩
  · have A2 := ho.at_ hm2
    clear ho
    go_wp2_with fail
    refine (twin_at K2 hm).mono ?_
    rintro e w3 ⟨p3, rfl, A3, hb3⟩
    go_wp2_with fail
    refine (norm_any A3).mono ?_
    rintro e w4 ⟨ha4, hb4⟩
    have hw4 : Below w2.heap.size w2 w4 := Below.on hb3 hb4
    have A4 := A2.below hw4
    have hw : Below w.heap.size w w4 := Below.on hw2 hw4
    clear hb3 hb4 A3 A2 K2
    rcases ha4 with ⟨_, p4, m4, vs, rfl, ho, hn4, hm4⟩ | ⟨_, rfl⟩
    · have B4 := ho.at_ hm4
      clear ho
      go_wp2_with fail
      go_ret3
      exact ⟨.inl ⟨_, _, us, _, _, vs, rfl, A4, B4, hm2, hm4, hn2, hn4⟩, hw⟩
    · go_wp2_with fail
      go_ret3
      exact ⟨.inr ⟨_, _, rfl⟩, hw⟩
  · go_wp2_with fail
    refine (twin_at K2 hm).mono ?_
    rintro e w3 ⟨p3, rfl, A3, hb3⟩
    go_wp2_with fail
    refine (norm_any A3).mono ?_
    rintro e w4 ⟨ha4, hb4⟩
    have hw : Below w.heap.size w w4 := Below.on hw2 (Below.on hb3 hb4)
    clear hb3 hb4 A3 K2
    rcases ha4 with ⟨_, p4, m4, vs, rfl, ho, hn4, hm4⟩ | ⟨_, rfl⟩
    · go_wp2_with fail
      go_ret3
      exact ⟨.inr ⟨_, _, rfl⟩, hw⟩
    · go_wp2_with fail
      go_ret3
      exact ⟨.inr ⟨_, _, rfl⟩, hw⟩

theorem Ans.no {B : Nat} {w' : World} {e : Ending} {n : Nat} (h : Ans B w' e n) (hn : LIM ≤ n) : e = .returned (.tuple #[.slice none 0 0, .int .i64 5]) := by
  rcases h with ⟨h, _⟩ | ⟨_, h⟩
  · omega
  · exact h
theorem lim_gen (K : Nat) {us vs : List Nat} {a b m1 m2 : Nat} (nA : Nf B64 us a) (nB : Nf B64 vs b) (h1 : us.length = m1) (h2 : vs.length = m2) (h : B64 ^ (K + 1) ≤ a + b) : K < m1 ∨ K < m2 := by
  by_cases h3 : m1 ≤ K
  · by_cases h4 : m2 ≤ K
    · exfalso
      have e1 := (nA.len_le (k := K) B64_one).1 (by omega)
      have e2 := (nB.len_le (k := K) B64_one).1 (by omega)
      have e3 : B64 ^ K * 2 ≤ B64 ^ (K + 1) := by rw [Nat.pow_succ]; exact Nat.mul_le_mul_left _ B64_two
      generalize B64 ^ (K + 1) = Q at *
      generalize B64 ^ K = P at *
      omega
    · exact .inr (by omega)
  · exact .inl (by omega)
theorem lim_long {us vs : List Nat} {a b m1 m2 : Nat} (nA : Nf B64 us a) (nB : Nf B64 vs b) (h1 : us.length = m1) (h2 : vs.length = m2) (h : LIM ≤ a + b) : 8192 ≤ m1 ∨ 8192 ≤ m2 := by
  obtain ⟨K, hK⟩ : ∃ K, K + 1 = 8192 := ⟨8191, rfl⟩
  rw [LIM_eq (K + 1) hK] at h
  have := lim_gen K nA nB h1 h2 h
  omega

set_option maxHeartbeats 4000000 in
theorem ring_walk {p q r : Option Addr} {n m l c d f : Nat} {xs ys zs : List Nat} {w : World} (h : At w p n c xs) (k : At w q m d ys) (t : At w r l f zs) (hn : n ≤ 17592186044416) (hm : m ≤ 17592186044416) (hl : l ≤ 17592186044416) :
    Calls Try.prog 3 #[.slice p n c, .slice q m d, .slice r l f] w fun e w' => e = .returned (.bool true) ∧ Below w.heap.size w w' := by
  go_enter Try.func3, Try.ntmps3
  go_wp2_with fail
  refine (awake_any _).mono ?_
  rintro e w1 ⟨rfl, hb1⟩
  have h1 := h.below hb1; have k1 := k.below hb1; have t1 := t.below hb1
  go_wp2_with fail
  refine (norms_any h1 k1 hn hm).mono ?_
  rintro e w2 ⟨hr2, hb2⟩
  have hw2 := Below.on hb1 hb2
  have t2 := t1.below hb2
  clear hb1 hb2 h1 k1 t1
  rcases hr2 with ⟨p1, m1, us, p2, m2, vs, rfl, A, B, hm1, hm2, nA, nB⟩ | ⟨v1, v2, rfl⟩
  · generalize valB B64 xs = a at *
    generalize valB B64 ys = b at *
    go_wp2_with fail
    refine (twin_at t2 hl).mono ?_
    rintro e w3 ⟨p3, rfl, C3, hb3⟩
    go_wp2_with fail
    refine (norm_any C3).mono ?_
    rintro e w4 ⟨ha4, hb4⟩
    have hb24 := Below.on hb3 hb4
    have hw4 := Below.on hw2 hb24
    have A4 := A.below hb24; have B4 := B.below hb24
    clear hb3 hb4 hb24 C3 t2 A B hw2
    rcases ha4 with ⟨_, p4, m4, ws, rfl, ho, nC, hm4⟩ | ⟨_, rfl⟩
    · have C4 := ho.at_ hm4
      clear ho
      generalize valB B64 zs = cc at *
      have ha : a < LIM := nA.lim.1 (by rw [A4.len]; exact hm1)
      go_wp2_with fail
      refine (add_ord A4 (At.empty w4 none 0 (by decide)) nA (Nf.nil _) hm1 (by omega)).mono ?_
      rintro e w5 ⟨ha5, hb5⟩
      obtain ⟨p5, m5, s5, rfl, ho, n5, hm5⟩ := ha5.ok (by omega)
      obtain rfl : s5 = us := n5.inj B64_one nA
      have D5 := ho.at_ hm5
      have A5 := A4.below hb5; have B5 := B4.below hb5; have C5 := C4.below hb5; have hw5 := Below.on hw4 hb5
      clear ho n5 ha5 hb5 A4 B4 C4 hw4
      go_wp2_with fail
      refine (same_t D5 A5).mono ?_
      rintro e w6 ⟨rfl, hb6⟩
      have A6 := A5.below hb6; have B6 := B5.below hb6; have C6 := C5.below hb6; have hw6 := Below.on hw5 hb6
      clear hb6 A5 B5 C5 hw5 D5
      go_wp2_with fail
      refine (add_ord A6 B6 nA nB hm1 hm2).mono ?_
      rintro e w7 ⟨ha7, hb7⟩
      have A7 := A6.below hb7; have B7 := B6.below hb7; have C7 := C6.below hb7; have hw7 := Below.on hw6 hb7
      clear hb7 A6 B6 C6 hw6
      by_cases hab : a + b < LIM
      · obtain ⟨p7, m7, s7, rfl, ho, n7, hm7⟩ := ha7.ok hab
        have S7 := ho.at_ hm7
        clear ho ha7
        go_wp2_with fail
        refine (add_ord B7 A7 nB nA hm2 hm1).mono ?_
        rintro e w8 ⟨ha8, hb8⟩
        obtain ⟨p8, m8, s8, rfl, ho, n8, hm8⟩ := ha8.ok (by omega)
        obtain rfl : s8 = s7 := n8.inj B64_one (by rw [Nat.add_comm]; exact n7)
        have T8 := ho.at_ hm8
        have A8 := A7.below hb8; have B8 := B7.below hb8; have C8 := C7.below hb8; have S8 := S7.below hb8; have hw8 := Below.on hw7 hb8
        clear ho ha8 n8 hb8 A7 B7 C7 S7 hw7
        go_wp2_with fail
        refine (same_t S8 T8).mono ?_
        rintro e w9 ⟨rfl, hb9⟩
        have A9 := A8.below hb9; have B9 := B8.below hb9; have C9 := C8.below hb9; have S9 := S8.below hb9; have hw9 := Below.on hw8 hb9
        clear hb9 A8 B8 C8 S8 T8 hw8
        go_wp2_with fail
        refine (sub_nf S9 B9 n7 nB hm7 hm2).mono ?_
        rintro e w10 ⟨hs, hb10⟩
        rcases hs with ⟨_, p10, m10, s10, rfl, ho, n10, hm10⟩ | ⟨hlt, _⟩
        · obtain rfl : s10 = s5 := n10.inj B64_one (by rw [Nat.add_sub_cancel]; exact nA)
          have D10 := ho.at_ hm10
          have A10 := A9.below hb10; have B10 := B9.below hb10; have C10 := C9.below hb10; have S10 := S9.below hb10; have hw10 := Below.on hw9 hb10
          clear ho n10 hb10 A9 B9 C9 S9 hw9
          go_wp2_with fail
          refine (same_t D10 A10).mono ?_
          rintro e w11 ⟨rfl, hb11⟩
          have A11 := A10.below hb11; have B11 := B10.below hb11; have C11 := C10.below hb11; have S11 := S10.below hb11; have hw11 := Below.on hw10 hb11
          clear hb11 A10 B10 C10 S10 hw10 D10
          go_wp2_with fail
          refine (add_ord S11 C11 n7 nC hm7 hm4).mono ?_
          rintro e w12 ⟨ha12, hb12⟩
          have A12 := A11.below hb12; have B12 := B11.below hb12; have C12 := C11.below hb12; have hw12 := Below.on hw11 hb12
          clear hb12 A11 B11 C11 S11 hw11
          by_cases habc : a + b + cc < LIM
          · obtain ⟨p12, m12, s12, rfl, ho, n12, hm12⟩ := ha12.ok habc
            have L12 := ho.at_ hm12
            clear ho ha12
            go_wp2_with fail
            refine (add_ord B12 C12 nB nC hm2 hm4).mono ?_
            rintro e w13 ⟨ha13, hb13⟩
            obtain ⟨p13, m13, s13, rfl, ho, n13, hm13⟩ := ha13.ok (by omega)
            have U13 := ho.at_ hm13
            have A13 := A12.below hb13; have L13 := L12.below hb13; have hw13 := Below.on hw12 hb13
            clear ho ha13 hb13 A12 L12 hw12 B12 C12
            go_wp2_with fail
            refine (add_ord A13 U13 nA n13 hm1 hm13).mono ?_
            rintro e w14 ⟨ha14, hb14⟩
            obtain ⟨p14, m14, s14, rfl, ho, n14, hm14⟩ := ha14.ok (by omega)
            obtain rfl : s14 = s12 := n14.inj B64_one (by rw [← Nat.add_assoc]; exact n12)
            have R14 := ho.at_ hm14
            have L14 := L13.below hb14; have hw14 := Below.on hw13 hb14
            clear ho ha14 n14 hb14 A13 U13 L13 hw13
            go_wp2_with fail
            refine (same_t L14 R14).mono ?_
            rintro e w15 ⟨rfl, hb15⟩
            have hw15 := Below.on hw14 hb15
            clear hb15 hw14 L14 R14
            go_wp2_with fail
            go_ret
            exact ⟨rfl, hw15⟩
          · obtain rfl := ha12.no (by omega)
            clear ha12
            go_wp2_with fail
            refine (add_ord B12 C12 nB nC hm2 hm4).mono ?_
            rintro e w13 ⟨ha13, hb13⟩
            have A13 := A12.below hb13; have hw13 := Below.on hw12 hb13
            clear hb13 A12 hw12 B12 C12
            by_cases hbc : b + cc < LIM
            · obtain ⟨p13, m13, s13, rfl, ho, n13, hm13⟩ := ha13.ok hbc
              have U13 := ho.at_ hm13
              clear ho ha13
              go_wp2_with fail
              refine (add_ord A13 U13 nA n13 hm1 hm13).mono ?_
              rintro e w14 ⟨ha14, hb14⟩
              obtain rfl := ha14.no (by omega)
              have hw14 := Below.on hw13 hb14
              clear ha14 hb14 A13 U13 hw13
              go_wp2_with fail
              refine (same_t (At.empty w14 none 0 (by decide)) (At.empty w14 none 0 (by decide))).mono ?_
              rintro e w15 ⟨rfl, hb15⟩
              have hw15 := Below.on hw14 hb15
              clear hb15 hw14
              go_wp2_with fail
              go_ret
              exact ⟨rfl, hw15⟩
            · obtain rfl := ha13.no (by omega)
              clear ha13
              go_wp2_with fail
              go_ret
              exact ⟨rfl, hw13⟩
        · exact absurd hlt (by omega)
      · obtain rfl := ha7.no (by omega)
        clear ha7
        go_wp2_with fail
        refine (add_ord B7 A7 nB nA hm2 hm1).mono ?_
        rintro e w8 ⟨ha8, hb8⟩
        obtain rfl := ha8.no (by omega)
        have hw8 := Below.on hw7 hb8
        have hmx := lim_long nA nB A7.len B7.len (by omega)
        clear ha8 hb8 A7 B7 C7 hw7
        go_wp2_with fail
        refine (same_t (At.empty w8 none 0 (by decide)) (At.empty w8 none 0 (by decide))).mono ?_
        rintro e w9 ⟨rfl, hb9⟩
        have hw9 := Below.on hw8 hb9
        clear hb9 hw8
        go_wp2_with fail
        go_ret
        exact ⟨ret_bool (by simp; omega), hw9⟩
    · go_wp2_with fail
      go_ret
      exact ⟨rfl, hw4⟩
  · go_wp2_with fail
    refine (twin_at t2 hl).mono ?_
    rintro e w3 ⟨p3, rfl, C3, hb3⟩
    go_wp2_with fail
    refine (norm_any C3).mono ?_
    rintro e w4 ⟨ha4, hb4⟩
    have hw4 := Below.on hw2 (Below.on hb3 hb4)
    clear hb3 hb4 C3 t2
    rcases ha4 with ⟨_, p4, m4, ws, rfl, ho, nC, hm4⟩ | ⟨_, rfl⟩
    · go_wp2_with fail
      go_ret
      exact ⟨rfl, hw4⟩
    · go_wp2_with fail
      go_ret
      exact ⟨rfl, hw4⟩
end Go.Proofs.Ytkhhejfnglolkaa
