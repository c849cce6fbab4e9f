import Derived.Test.YtjkhpkjpiifhoaaShr
import Derived.Test.YtjkhpkjpiifhoaaAwake
namespace Go.Proofs.Ytjkhpkjpiifhoaa
open Go.RowKit

theorem bitsN_shr (a n : Nat) : bitsN (a / 2 ^ n) = bitsN a - n := by
  have hp := Nat.two_pow_pos n
  have h1 := Nat.div_add_mod a (2 ^ n)
  have h2 := Nat.mod_lt a hp
  by_cases h0 : a / 2 ^ n = 0
  · rw [h0]
    have : bitsN a ≤ n := by
      rw [← lt_pow_bits]
      rw [h0, Nat.mul_zero, Nat.zero_add] at h1
      omega
    rw [show bitsN a - n = 0 by omega]; rfl
  · have h3 : bitsN a = n + bitsN (a / 2 ^ n) := by
      have := bitsN_top (lo := a % 2 ^ n) (k := n) (x := a / 2 ^ n) h2 (bitsN_lt _) (bitsN_le _ h0) (by have := bitsN_pos h0; omega)
      rw [Nat.add_comm (a % 2 ^ n), h1] at this; exact this
    omega
theorem Nf.ltlim {us : List Nat} {a m : Nat} (h : Nf B64 us a) (hl : us.length = m) (hm : m ≤ 8192) : a < LIM := h.lim.1 (by omega)
theorem cut_le (a n : Nat) : 2 ^ n * (a / 2 ^ n) ≤ a := Nat.mul_div_le a (2 ^ n)

set_option maxHeartbeats 4000000 in
theorem cuts_walk {p : Option Addr} {m c : Nat} {xs : List Nat} {w : World} (h : At w p m c xs) (hm : m ≤ 17592186044416) (n : Int) (hn1 : -9223372036854775808 ≤ n) (hn2 : n ≤ 9223372036854775807) :
    Calls Try.prog 3 #[.slice p m c, .int .i64 n] w fun e w' => e = .returned (.bool true) ∧ Below w.heap.size w w' := by
  go_enter Try.func3, Try.ntmps3
  go_wp2_with fail
  refine (low_nf (lit_at w _ [13] 1 rfl rfl (dig1 (by decide)) (by omega)) (nf_one (by decide) (by decide)) (by omega) 2 (by omega)).mono ?_
  rintro e w1 ⟨⟨p1, m1, z1, rfl, ho1, n1, hm1⟩, hb1⟩
  obtain rfl : z1 = [1] := n1.inj B64_one (nf_one (by decide) (by decide))
  have hw1 := Below.on (below1 w _) hb1
  have A1 := ho1.at_ hm1
  have h1 := h.below hw1
  clear ho1 n1 hb1
  go_wp2_with fail
  refine (same_t (A1.alloc _) (lit_at w1 _ [1] 1 rfl rfl (dig1 (by decide)) (by omega))).mono ?_
  rintro e w2 ⟨rfl, hb2⟩
  have hb12 := Below.on (below1 w1 _) hb2
  have h2 := h1.below hb12
  have hw2 := Below.on hw1 hb12
  clear hb12 hb2 h1 hw1 A1
  go_wp2_with fail
  refine (awake_any _).mono ?_
  rintro e w3 ⟨rfl, hb3⟩
  have h3 := h2.below hb3
  have hw3 := Below.on hw2 hb3
  clear hb3 h2 hw2
  go_wp2_with fail
  refine (twin_at h3 hm).mono ?_
  rintro e w4 ⟨p4, rfl, C4, hb4⟩
  go_wp2_with fail
  refine (norm_any C4).mono ?_
  rintro e w5 ⟨ha5, hb5⟩
  have hw5 := Below.on hw3 (Below.on hb4 hb5)
  clear hb4 hb5 C4 h3 hw3
  rcases ha5 with ⟨-, p5, m5, us, rfl, ho, nA, hm5⟩ | ⟨-, rfl⟩
  · have A5 := ho.at_ hm5
    clear ho
    generalize valB B64 xs = a at *
    by_cases hneg : n < 0
    · go_wp2_with fail
      go_ret
      exact ⟨rfl, hw5⟩
    · obtain ⟨k, rfl⟩ := Int.eq_ofNat_of_zero_le (show 0 ≤ n by omega)
      go_wp2_with fail
      refine (shr_nf A5 nA hm5 k (by omega)).mono ?_
      rintro e w6 ⟨⟨p6, m6, z6, rfl, ho6, n6, hm6⟩, hb6⟩
      have A6 := A5.below hb6; have H6 := ho6.at_ hm6; have hw6 := Below.on hw5 hb6
      clear ho6 hb6 A5 hw5
      go_wp2_with fail
      refine (low_nf A6 nA hm5 k (by omega)).mono ?_
      rintro e w7 ⟨⟨p7, m7, z7, rfl, ho7, n7, hm7⟩, hb7⟩
      have A7 := A6.below hb7; have H7 := H6.below hb7; have L7 := ho7.at_ hm7; have hw7 := Below.on hw6 hb7
      clear ho7 hb7 A6 H6 hw6
      go_wp2_with fail
      refine (shl_nf H7 n6 hm6 k (by omega)).mono ?_
      rintro e w8 ⟨ha8, hb8⟩
      obtain ⟨p8, m8, z8, rfl, ho8, n8, hm8⟩ := ha8.ok (Nat.lt_of_le_of_lt (cut_le a k) (nA.ltlim A7.len hm5))
      have A8 := A7.below hb8; have H8 := H7.below hb8; have L8 := L7.below hb8; have B8 := ho8.at_ hm8; have hw8 := Below.on hw7 hb8
      clear ho8 hb8 A7 H7 L7 hw7 ha8
      go_wp2_with fail
      refine (add_ord B8 L8 n8 n7 hm8 hm7).mono ?_
      rintro e w9 ⟨ha9, hb9⟩
      rw [Nat.div_add_mod] at ha9
      obtain ⟨p9, m9, z9, rfl, ho9, n9, hm9⟩ := ha9.ok (nA.ltlim A8.len hm5)
      obtain rfl : z9 = us := n9.inj B64_one nA
      have A9 := A8.below hb9; have H9 := H8.below hb9; have L9 := L8.below hb9; have S9 := ho9.at_ hm9; have hw9 := Below.on hw8 hb9
      clear ho9 hb9 A8 H8 L8 hw8 ha9 n9 B8
      go_wp2_with fail
      refine (same_t S9 A9).mono ?_
      rintro e w10 ⟨rfl, hb10⟩
      have A10 := A9.below hb10; have H10 := H9.below hb10; have L10 := L9.below hb10; have hw10 := Below.on hw9 hb10
      clear hb10 A9 H9 L9 hw9 S9
      have hbl : bitsN (a % 2 ^ k) ≤ k := by rw [← lt_pow_bits]; exact Nat.mod_lt _ (Nat.two_pow_pos _)
      go_wp2_with fail
      refine (bits_any L10 (by omega)).mono ?_
      rintro e w11 ⟨rfl, hw⟩
      obtain rfl := hw.symm
      clear hw
      rw [n7.val]
      go_wp2_with fail
      refine (bits_any H10 (by omega)).mono ?_
      rintro e w12 ⟨rfl, hw⟩
      obtain rfl := hw.symm
      clear hw
      rw [n6.val]
      go_wp2_with fail
      refine (bits_any A10 (by omega)).mono ?_
      rintro e w13 ⟨rfl, hw⟩
      obtain rfl := hw.symm
      clear hw
      rw [nA.val]
      have hbb : bitsN a ≤ 524288 := by rw [← lim_bits]; exact nA.ltlim A10.len hm5
      have HBS : Hid (bitsN (a / 2 ^ k) = bitsN a - k) := bitsN_shr a k
      go_wp2_with fail
      go_ret
      exact ⟨ret_bool (by have := HBS.out; simp; omega), hw10⟩
  · go_wp2_with fail
    go_ret
    exact ⟨rfl, hw5⟩
end Go.Proofs.Ytjkhpkjpiifhoaa
