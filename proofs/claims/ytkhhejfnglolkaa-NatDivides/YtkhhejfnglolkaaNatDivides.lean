import Derived.Test.YtkhhejfnglolkaaWords
import Derived.Test.YtkhhejfnglolkaaNatCuts
namespace Go.Proofs.Ytkhhejfnglolkaa
open Go.RowKit

set_option maxHeartbeats 400000 in
theorem divw_zero {p : Option Addr} {m c : Nat} {xs : List Nat} {a : Nat} {w : World} (h : At w p m c xs) (hx : Nf B64 xs a) (hm : m ≤ 8192) :
    Calls Try.prog 17 #[.slice p m c, .int .u64 0] w fun e w' => e = .returned (.tuple #[.slice none 0 0, .int .u64 0, .int .i64 4]) ∧ w' = w := by
  have fx := hx.form (by rw [h.len]; exact hm)
  go_enter Try.func17, Try.ntmps17
  go_wp2_with fail
  refine (form_true h fx).mono ?_
  rintro e w' ⟨rfl, hw⟩
  obtain rfl := hw.symm
  clear hw fx
  go_wp2_with fail
  go_ret3
  exact ⟨rfl, rfl⟩

theorem dw_fix (a v : Nat) : a / v * v + a % v = a := by rw [Nat.mul_comm]; exact Nat.div_add_mod a v
theorem dw_le (a v : Nat) : a / v * v ≤ a := Nat.div_mul_le_self a v

set_option maxHeartbeats 4000000 in
theorem divides_walk {p : Option Addr} {m c : Nat} {xs : List Nat} {w : World} (h : At w p m c xs) (hm : m ≤ 17592186044416) (v : Nat) (hv : v < B64) :
    Calls Try.prog 5 #[.slice p m c, U v] w fun e w' => e = .returned (.bool true) ∧ Below w.heap.size w w' := by
  go_enter Try.func5, Try.ntmps5
  go_wp2_with fail
  refine (divw_nf (lit_at w _ [17] 1 rfl rfl (dig1 (by decide)) (by omega)) (nf_one (x := 17) (by decide) (by decide)) (by omega) 5 (by decide) (by decide)).mono ?_
  rintro e w1 ⟨⟨p1, m1, z1, rfl, ho1, n1, hm1⟩, hb1⟩
  obtain rfl : z1 = [3] := n1.inj B64_one (nf_one (by decide) (by decide))
  have hw1 := Below.on (below1 w _) hb1
  have A1 := ho1.at_ hm1
  have h1 := h.below hw1
  clear ho1 n1 hb1
  go_wp2_with fail
  refine (same_t (A1.alloc _) (lit_at w1 _ [3] 1 rfl rfl (dig1 (by decide)) (by omega))).mono ?_
  rintro e w2 ⟨rfl, hb2⟩
  have hb12 := Below.on (below1 w1 _) hb2
  have h2 := h1.below hb12
  have hw2 := Below.on hw1 hb12
  clear hb12 hb2 h1 hw1 A1
  go_wp2_with fail
  refine (awake_any _).mono ?_
  rintro e w3 ⟨rfl, hb3⟩
  have h3 := h2.below hb3
  have hw3 := Below.on hw2 hb3
  clear hb3 h2 hw2
  go_wp2_with fail
  refine (twin_at h3 hm).mono ?_
  rintro e w4 ⟨p4, rfl, C4, hb4⟩
  go_wp2_with fail
  refine (norm_any C4).mono ?_
  rintro e w5 ⟨ha5, hb5⟩
  have hw5 := Below.on hw3 (Below.on hb4 hb5)
  clear hb4 hb5 C4 h3 hw3
  rcases ha5 with ⟨-, p5, m5, us, rfl, ho, nA, hm5⟩ | ⟨-, rfl⟩
  · have A5 := ho.at_ hm5
    clear ho
    generalize valB B64 xs = a at *
    by_cases hv0 : v = 0
    · subst hv0
      go_wp2_with fail
      refine (divw_zero A5 nA hm5).mono ?_
      rintro e w6 ⟨rfl, hw⟩
      obtain rfl := hw.symm
      clear hw
      go_wp2_with fail
      go_ret
      exact ⟨rfl, hw5⟩
    · have hv0' : ((v : Int) == 0) = false := by simp; omega
      go_wp2_with fail
      refine (divw_nf A5 nA hm5 v hv hv0).mono ?_
      rintro e w6 ⟨⟨p6, m6, z6, rfl, ho6, n6, hm6⟩, hb6⟩
      have A6 := A5.below hb6; have Q6 := ho6.at_ hm6; have hw6 := Below.on hw5 hb6
      clear ho6 hb6 A5 hw5
      have hrv : a % v < v := Nat.mod_lt _ (by omega)
      obtain ⟨re, hre⟩ : ∃ re, re = a % v := ⟨_, rfl⟩
      rw [← hre] at hrv ⊢
      have HRE : Hid (re = a % v) := hre
      clear hre
      go_wp2_with fail
      refine (mulw_nf Q6 n6 hm6 v hv).mono ?_
      rintro e w7 ⟨ha7, hb7⟩
      obtain ⟨p7, m7, z7, rfl, ho7, n7, hm7⟩ := ha7.ok (Nat.lt_of_le_of_lt (dw_le a v) (nA.ltlim A6.len hm5))
      have A7 := A6.below hb7; have P7 := ho7.at_ hm7; have hw7 := Below.on hw6 hb7
      clear ho7 hb7 A6 hw6 ha7 Q6
      go_wp2_with fail
      refine (word_any re _ (by omega)).mono ?_
      rintro e w8 ⟨p8, m8, z8, rfl, ho8, n8, hm8, hb8⟩
      have A8 := A7.below hb8; have P8 := P7.below hb8; have R8 := ho8.at_ (by omega); have hw8 := Below.on hw7 hb8
      clear ho8 hb8 A7 hw7 P7
      go_wp2_with fail
      refine (add_ord P8 R8 n7 n8 hm7 (by omega)).mono ?_
      rintro e w9 ⟨ha9, hb9⟩
      rw [HRE.out, dw_fix] at ha9
      obtain ⟨p9, m9, z9, rfl, ho9, n9, hm9⟩ := ha9.ok (nA.ltlim A8.len hm5)
      obtain rfl : z9 = us := n9.inj B64_one nA
      have A9 := A8.below hb9; have S9 := ho9.at_ hm9; have hw9 := Below.on hw8 hb9
      clear ho9 hb9 A8 hw8 ha9 n9 P8 R8
      go_wp2_with fail
      refine (same_t S9 A9).mono ?_
      rintro e w10 ⟨rfl, hb10⟩
      have hw10 := Below.on hw9 hb10
      clear hb10 hw9 S9 A9
      go_wp2_with fail
      go_ret
      exact ⟨rfl, hw10⟩
  · go_wp2_with fail
    go_ret
    exact ⟨rfl, hw5⟩
end Go.Proofs.Ytkhhejfnglolkaa
