import Derived.Test.YtionkfnapodhbaaDoorJ11
import Derived.Test.YtionkfnapodhbaaDoorJ13
import Derived.Test.YtionkfnapodhbaaDoorJ10
namespace Go.Proofs.YtionkfnapodhbaaDoor
open Go.RowKit Go.Shelf
set_option maxRecDepth 100000
set_option maxHeartbeats 0
theorem at_start {q k : Nat} (hk : 2 ≤ k) : 2 ^ q / k < 2 ^ q := Nat.div_lt_self (Nat.two_pow_pos q) (by omega)
theorem kn1 {n : Nat} (hb : n ≤ 1300) : wrap64 ((n : Int) + 1) = ((n + 1 : Nat) : Int) := by simp only [wrap64]; omega
theorem atan_ok (k q : Nat) (hk : 2 ≤ k) (hk2 : k ≤ 60000) (hq : q ≤ 1300) (hle : (atn0 k q).2.1 ≤ (atn0 k q).1) {w : World} : Calls Tryd.prog 68 #[.int .u32 k, .int .i64 q] w fun en w' => ∃ p m, en = .returned (.tuple #[.slice p m m, .int .i64 ((atn0 k q).2.2 : Nat)]) ∧ RN w' p m ((atn0 k q).1 - (atn0 k q).2.1) ∧ Below w.heap.size w w' := by
  have HK : Hid (2 ≤ k ∧ k ≤ 60000 ∧ q ≤ 1300 ∧ (atn0 k q).2.1 ≤ (atn0 k q).1) := ⟨hk, hk2, hq, hle⟩
  clear hk hk2 hq hle
  go_enter Tryd.func68, Tryd.ntmps68
  go_wp2_with fail
  have hbw : Below w.heap.size w w := Below.refl _ _
  refine (rn_pow2 q (by have := HK.out; omega)).mono ?_
  rintro e v1 ⟨p1, m1, rfl, hR, hb1⟩
  have RN1 : Hid (RN v1 p1 m1 (2 ^ q)) := hR
  clear hR
  replace hbw := Below.on hbw hb1
  clear hb1
  go_wp2_with fail
  refine (rn_divs RN1.out k (by have := HK.out; omega) (by have := HK.out; show k < 4294967296; omega)).mono ?_
  rintro e v2 ⟨p2, m2, r2, rfl, hR, hb2⟩
  have RN2 : Hid (RN v2 p2 m2 (2 ^ q / k)) := hR
  clear hR
  replace RN1 : Hid (RN v2 p1 m1 (2 ^ q)) := RN1.out.below hb2
  replace hbw := Below.on hbw hb2
  clear hb2
  clear RN1
  go_wp2_with fail
  refine (rn_word 0 (by decide)).mono ?_
  rintro e v3 ⟨p3, m3, rfl, hR, hb3⟩
  have RN3 : Hid (RN v3 p3 m3 (0)) := hR
  clear hR
  replace RN2 : Hid (RN v3 p2 m2 (2 ^ q / k)) := RN2.out.below hb3
  replace hbw := Below.on hbw hb3
  clear hb3
  go_wp2_with fail
  refine (rn_word 0 (by decide)).mono ?_
  rintro e v4 ⟨p4, m4, rfl, hR, hb4⟩
  have RN4 : Hid (RN v4 p4 m4 (0)) := hR
  clear hR
  replace RN2 : Hid (RN v4 p2 m2 (2 ^ q / k)) := RN2.out.below hb4
  replace RN3 : Hid (RN v4 p3 m3 (0)) := RN3.out.below hb4
  replace hbw := Below.on hbw hb4
  clear hb4
  go_wp2_with fail
  go_loopg [6, 8, 9, 10, 11] q (fun gk tv pv mv nv iv wr => ∃ (n t x y : Nat) (p1 p2 p3 : Option Addr) (a b c : Nat), n + gk = q ∧ tv = .slice p1 a a ∧ pv = .slice p2 b b ∧ mv = .slice p3 c c ∧ nv = .int .i64 n ∧ iv = .int .u32 ((2 * n + 1 : Nat) : Int) ∧ RN wr p1 a t ∧ RN wr p2 b x ∧ RN wr p3 c y ∧ atnN k gk n t x y = atn0 k q ∧ t < 2 ^ gk ∧ x ≤ n * 2 ^ q ∧ y ≤ n * 2 ^ q ∧ Below w.heap.size w wr)
  case atStart => exact ⟨0, 2 ^ q / k, 0, 0, p2, p3, p4, m2, m3, m4, by omega, rfl, rfl, rfl, rfl, rfl, RN2.out, RN3.out, RN4.out, rfl, at_start HK.out.1, Nat.zero_le _, Nat.zero_le _, hbw⟩
  case round =>
    obtain ⟨n, t, x, y, p1, p2, p3, a, b, c, hig, rfl, rfl, rfl, rfl, rfl, xt, xp, xm, har, htb, hxb, hyb, hbr⟩ := hrel
    clear RN2 RN3 RN4 hbw
    have RNt : Hid (RN wr p1 a t) := xt
    have RNp : Hid (RN wr p2 b x) := xp
    have RNm : Hid (RN wr p3 c y) := xm
    have hbw := hbr
    have hz := xt.zero
    clear xt xp xm hbr
    by_cases ht : t = 0
    · obtain rfl : a = 0 := hz.2 ht
      subst ht
      rw [atnN_zero] at har
      have HF : Hid (atn0 k q = (x, y, n)) := har.symm
      clear RNt hz har htb hig hxb hyb
      go_wp2_with fail
      refine (rn_sub RNp.out RNm.out (by have h1 := HK.out.2.2.2; rw [HF.out] at h1; exact h1)).mono ?_
      rintro e v20 ⟨p20, m20, rfl, hR, hb20⟩
      have RN20 : Hid (RN v20 p20 m20 (x - y)) := hR
      clear hR
      replace RNp : Hid (RN v20 p2 b x) := RNp.out.below hb20
      replace RNm : Hid (RN v20 p3 c y) := RNm.out.below hb20
      replace hbw := Below.on hbw hb20
      clear hb20
      go_wp2_with fail
      go_ret2
      rw [HF.out]
      exact ⟨_, _, rfl, RN20.out, hbw⟩
    · cases gk with
      | zero => rw [Nat.pow_zero] at htb; omega
      | succ g =>
        have ha1 : (0 : Int) < (a : Int) := by have : a ≠ 0 := fun e => ht (hz.1 e); omega
        have hn9 := HK.out
        have hn13 : n ≤ 1300 := by omega
        obtain ⟨i2, hi2⟩ : ∃ i, i = 2 * n + 1 := ⟨_, rfl⟩
        obtain ⟨i3, hi3⟩ : ∃ i, i = 2 * (n + 1) + 1 := ⟨_, rfl⟩
        rw [← hi2]
        have HT : Hid (n + (g + 1) = q ∧ t < 2 ^ (g + 1) ∧ x ≤ n * 2 ^ q ∧ y ≤ n * 2 ^ q ∧ n ≤ 1300 ∧ i2 = 2 * n + 1 ∧ i3 = 2 * (n + 1) + 1 ∧ t ≠ 0) := ⟨hig, htb, hxb, hyb, hn13, hi2, hi3, ht⟩
        have HR : Hid (atnN k (g + 1) n t x y = atn0 k q) := har
        have KQ : Hid (IntKind.u32.wrap ((i2 : Int) + 2) = (i3 : Int)) := by show IntKind.u32.wrap _ = _; rw [IntKind.wrap_u32]; omega
        have hm4 : i2 % 4 = 1 ∨ i2 % 4 = 3 := by omega
        have HM4 : Hid (i2 % 4 = 1 → n % 2 = 0) := by show _ → _; omega
        have HM5 : Hid (i2 % 4 = 3 → n % 2 = 1) := by show _ → _; omega
        clear hz htb hxb hyb hig har hn9 hn13 hi2 hi3 ht
        go_wp2_with fail
        refine (rn_divs RNt.out i2 (by have := HT.out.2.2.2.2.2.1; omega) (by have := HT.out.2.2.2.2; show i2 < 4294967296; omega)).mono ?_
        rintro e v21 ⟨p21, m21, r21, rfl, hR, hb21⟩
        have RN21 : Hid (RN v21 p21 m21 (t / i2)) := hR
        clear hR
        replace RNt : Hid (RN v21 p1 a t) := RNt.out.below hb21
        replace RNp : Hid (RN v21 p2 b x) := RNp.out.below hb21
        replace RNm : Hid (RN v21 p3 c y) := RNm.out.below hb21
        replace hbw := Below.on hbw hb21
        clear hb21
        rcases hm4 with hm | hm
        · have h4 : (i2 : Int) % 4 = 1 := by omega
          have h5 : IntKind.u32.wrap (i2 : Int) = (i2 : Int) := by rw [IntKind.wrap_u32]; have := HT.out.2.2.2.2; omega
          have HMM : Hid (n % 2 = 0) := HM4.out hm
          clear hm
          go_wp2_with fail
          refine (rn_add RNp.out RN21.out (K := q + 20) (by have := HK.out; omega) (at_k (n := n + 1) (by have h1 := HT.out; rw [h1.2.2.2.2.2.1]; exact at_b h1.2.1 h1.1 h1.2.2.1) (by have h1 := HT.out; have h2 := HK.out; omega))).mono ?_
          rintro e v22 ⟨p22, m22, rfl, hR, hb22⟩
          have RN22 : Hid (RN v22 p22 m22 (x + t / i2)) := hR
          clear hR
          replace RNt : Hid (RN v22 p1 a t) := RNt.out.below hb22
          replace RNp : Hid (RN v22 p2 b x) := RNp.out.below hb22
          replace RNm : Hid (RN v22 p3 c y) := RNm.out.below hb22
          replace RN21 : Hid (RN v22 p21 m21 (t / i2)) := RN21.out.below hb22
          replace hbw := Below.on hbw hb22
          clear hb22
          go_wp2_with fail
          refine (rn_divs RNt.out k (by have := HK.out; omega) (by have := HK.out; show k < 4294967296; omega)).mono ?_
          rintro e v23 ⟨p23, m23, r23, rfl, hR, hb23⟩
          have RN23 : Hid (RN v23 p23 m23 (t / k)) := hR
          clear hR
          replace RNt : Hid (RN v23 p1 a t) := RNt.out.below hb23
          replace RNp : Hid (RN v23 p2 b x) := RNp.out.below hb23
          replace RNm : Hid (RN v23 p3 c y) := RNm.out.below hb23
          replace RN21 : Hid (RN v23 p21 m21 (t / i2)) := RN21.out.below hb23
          replace RN22 : Hid (RN v23 p22 m22 (x + t / i2)) := RN22.out.below hb23
          replace hbw := Below.on hbw hb23
          clear hb23
          go_wp2_with fail
          refine (rn_divs RN23.out k (by have := HK.out; omega) (by have := HK.out; show k < 4294967296; omega)).mono ?_
          rintro e v24 ⟨p24, m24, r24, rfl, hR, hb24⟩
          have RN24 : Hid (RN v24 p24 m24 (t / k / k)) := hR
          clear hR
          replace RNt : Hid (RN v24 p1 a t) := RNt.out.below hb24
          replace RNp : Hid (RN v24 p2 b x) := RNp.out.below hb24
          replace RNm : Hid (RN v24 p3 c y) := RNm.out.below hb24
          replace RN21 : Hid (RN v24 p21 m21 (t / i2)) := RN21.out.below hb24
          replace RN22 : Hid (RN v24 p22 m22 (x + t / i2)) := RN22.out.below hb24
          replace RN23 : Hid (RN v24 p23 m23 (t / k)) := RN23.out.below hb24
          replace hbw := Below.on hbw hb24
          clear hb24
          have kq := KQ.out
          go_wp2_with fail
          clear kq h4 h5
          go_roundg g
          case measure => omega
          case rel =>
            have h1 := HT.out
            have h6 := h1.2.2.2.2.2.1
            rw [h6] at RN22
            refine ⟨n + 1, t / k / k, x + t / (2 * n + 1), y, p24, p22, p3, m24, m22, c, by omega, rfl, rfl, rfl, congrArg (Value.int .i64) (kn1 h1.2.2.2.2.1), congrArg (Value.int .u32) (by rw [h1.2.2.2.2.2.2.1]), RN24.out, RN22.out, RNm.out, ?_, at_next HK.out.1 h1.2.1, at_b h1.2.1 h1.1 h1.2.2.1, Nat.le_trans h1.2.2.2.1 (Nat.mul_le_mul_right _ (by omega)), hbw⟩
            rw [← atnN_even k g n t x y h1.2.2.2.2.2.2.2 HMM.out]
            exact HR.out
        · have h4 : (i2 : Int) % 4 = 3 := by omega
          have h5 : IntKind.u32.wrap (i2 : Int) = (i2 : Int) := by rw [IntKind.wrap_u32]; have := HT.out.2.2.2.2; omega
          have HMM : Hid (n % 2 = 1) := HM5.out hm
          clear hm
          go_wp2_with fail
          refine (rn_add RNm.out RN21.out (K := q + 20) (by have := HK.out; omega) (at_k (n := n + 1) (by have h1 := HT.out; rw [h1.2.2.2.2.2.1]; exact at_b h1.2.1 h1.1 h1.2.2.2.1) (by have h1 := HT.out; have h2 := HK.out; omega))).mono ?_
          rintro e v22 ⟨p22, m22, rfl, hR, hb22⟩
          have RN22 : Hid (RN v22 p22 m22 (y + t / i2)) := hR
          clear hR
          replace RNt : Hid (RN v22 p1 a t) := RNt.out.below hb22
          replace RNp : Hid (RN v22 p2 b x) := RNp.out.below hb22
          replace RNm : Hid (RN v22 p3 c y) := RNm.out.below hb22
          replace RN21 : Hid (RN v22 p21 m21 (t / i2)) := RN21.out.below hb22
          replace hbw := Below.on hbw hb22
          clear hb22
          go_wp2_with fail
          refine (rn_divs RNt.out k (by have := HK.out; omega) (by have := HK.out; show k < 4294967296; omega)).mono ?_
          rintro e v23 ⟨p23, m23, r23, rfl, hR, hb23⟩
          have RN23 : Hid (RN v23 p23 m23 (t / k)) := hR
          clear hR
          replace RNt : Hid (RN v23 p1 a t) := RNt.out.below hb23
          replace RNp : Hid (RN v23 p2 b x) := RNp.out.below hb23
          replace RNm : Hid (RN v23 p3 c y) := RNm.out.below hb23
          replace RN21 : Hid (RN v23 p21 m21 (t / i2)) := RN21.out.below hb23
          replace RN22 : Hid (RN v23 p22 m22 (y + t / i2)) := RN22.out.below hb23
          replace hbw := Below.on hbw hb23
          clear hb23
          go_wp2_with fail
          refine (rn_divs RN23.out k (by have := HK.out; omega) (by have := HK.out; show k < 4294967296; omega)).mono ?_
          rintro e v24 ⟨p24, m24, r24, rfl, hR, hb24⟩
          have RN24 : Hid (RN v24 p24 m24 (t / k / k)) := hR
          clear hR
          replace RNt : Hid (RN v24 p1 a t) := RNt.out.below hb24
          replace RNp : Hid (RN v24 p2 b x) := RNp.out.below hb24
          replace RNm : Hid (RN v24 p3 c y) := RNm.out.below hb24
          replace RN21 : Hid (RN v24 p21 m21 (t / i2)) := RN21.out.below hb24
          replace RN22 : Hid (RN v24 p22 m22 (y + t / i2)) := RN22.out.below hb24
          replace RN23 : Hid (RN v24 p23 m23 (t / k)) := RN23.out.below hb24
          replace hbw := Below.on hbw hb24
          clear hb24
          have kq := KQ.out
          go_wp2_with fail
          clear kq h4 h5
          go_roundg g
          case measure => omega
          case rel =>
            have h1 := HT.out
            have h6 := h1.2.2.2.2.2.1
            rw [h6] at RN22
            refine ⟨n + 1, t / k / k, x, y + t / (2 * n + 1), p24, p2, p22, m24, b, m22, by omega, rfl, rfl, rfl, congrArg (Value.int .i64) (kn1 h1.2.2.2.2.1), congrArg (Value.int .u32) (by rw [h1.2.2.2.2.2.2.1]), RN24.out, RNp.out, RN22.out, ?_, at_next HK.out.1 h1.2.1, Nat.le_trans h1.2.2.1 (Nat.mul_le_mul_right _ (by omega)), at_b h1.2.1 h1.1 h1.2.2.2.1, hbw⟩
            rw [← atnN_odd k g n t x y h1.2.2.2.2.2.2.2 HMM.out]
            exact HR.out
def A18 : Nat := (atn0 18 448).1 - (atn0 18 448).2.1
def A57 : Nat := (atn0 57 448).1 - (atn0 57 448).2.1
def A239 : Nat := (atn0 239 448).1 - (atn0 239 448).2.1
def HPI : Nat := 123785053203292407819553701039137184435442376711719744927844101526111311422332618694237111830548352286187237239491692
theorem at18_f : (atn0 18 448).2.1 ≤ (atn0 18 448).1 ∧ (atn0 18 448).2.2 = 54 ∧ A18 < 2 ^ 1200 := by decide +kernel
theorem at18_ok {w : World} : Calls Tryd.prog 68 #[.int .u32 18, .int .i64 448] w fun en w' => ∃ p m, en = .returned (.tuple #[.slice p m m, .int .i64 54]) ∧ RN w' p m A18 ∧ Below w.heap.size w w' := by
  refine (atan_ok 18 448 (by decide) (by decide) (by decide) at18_f.1).mono ?_
  rintro e w' ⟨p, m, rfl, h1, h2⟩
  rw [at18_f.2.1]
  exact ⟨_, _, rfl, h1, h2⟩
theorem at57_f : (atn0 57 448).2.1 ≤ (atn0 57 448).1 ∧ (atn0 57 448).2.2 = 38 ∧ A57 < 2 ^ 1200 := by decide +kernel
theorem at57_ok {w : World} : Calls Tryd.prog 68 #[.int .u32 57, .int .i64 448] w fun en w' => ∃ p m, en = .returned (.tuple #[.slice p m m, .int .i64 38]) ∧ RN w' p m A57 ∧ Below w.heap.size w w' := by
  refine (atan_ok 57 448 (by decide) (by decide) (by decide) at57_f.1).mono ?_
  rintro e w' ⟨p, m, rfl, h1, h2⟩
  rw [at57_f.2.1]
  exact ⟨_, _, rfl, h1, h2⟩
theorem at239_f : (atn0 239 448).2.1 ≤ (atn0 239 448).1 ∧ (atn0 239 448).2.2 = 28 ∧ A239 < 2 ^ 1200 := by decide +kernel
theorem at239_ok {w : World} : Calls Tryd.prog 68 #[.int .u32 239, .int .i64 448] w fun en w' => ∃ p m, en = .returned (.tuple #[.slice p m m, .int .i64 28]) ∧ RN w' p m A239 ∧ Below w.heap.size w w' := by
  refine (atan_ok 239 448 (by decide) (by decide) (by decide) at239_f.1).mono ?_
  rintro e w' ⟨p, m, rfl, h1, h2⟩
  rw [at239_f.2.1]
  exact ⟨_, _, rfl, h1, h2⟩
theorem pi_f : A239 * 20 ≤ A18 * 48 + A57 * 32 ∧ 18272 ≤ A18 * 48 + A57 * 32 - A239 * 20 ∧ (A18 * 48 + A57 * 32 - A239 * 20 - 18272) / 2 ^ 64 = HPI ∧ (A18 * 48 + A57 * 32 - A239 * 20 + 18272) / 2 ^ 64 = HPI := by decide +kernel
theorem p12 {x k c : Nat} (h : x < 2 ^ k) (hc : c ≤ 64) : x * c < 2 ^ (k + 10) := by
  have hp := Nat.two_pow_pos k
  rw [Nat.pow_add, show (2 : Nat) ^ 10 = 1024 by decide]
  refine Nat.lt_of_le_of_lt (Nat.mul_le_mul (Nat.le_of_lt h) hc) ?_
  generalize 2 ^ k = X at *
  omega
theorem p13 {x y k : Nat} (h : x < 2 ^ (k + 10)) (g : y < 2 ^ (k + 10)) : x + y < 2 ^ (k + 20) := by
  rw [show k + 20 = k + 10 + 10 by omega, Nat.pow_add _ (k + 10) 10, show (2 : Nat) ^ 10 = 1024 by decide]
  generalize 2 ^ (k + 10) = X at *
  omega
theorem p14 {x y k : Nat} (h : x < 2 ^ (k + 20)) : x - y + 18272 < 2 ^ (k + 30) := by
  have h2 := Nat.two_pow_pos k
  have h3 : 1048576 ≤ 2 ^ (k + 20) := by rw [Nat.pow_add]; exact Nat.le_mul_of_pos_left _ h2
  rw [show k + 30 = k + 20 + 10 by omega, Nat.pow_add _ (k + 20) 10, show (2 : Nat) ^ 10 = 1024 by decide]
  generalize 2 ^ (k + 20) = X at *
  omega
theorem pifloor_ok {w : World} : Calls Tryd.prog 55 #[.int .i64 384] w fun en w' => RNs w w' en HPI := by
  obtain ⟨k, hk⟩ : ∃ k, k = 1200 := ⟨_, rfl⟩
  have hA := at18_f.2.2
  have hB := at57_f.2.2
  have hC := at239_f.2.2
  have hP := pi_f
  have HU : Hid ((∀ w : World, Calls Tryd.prog 68 #[.int .u32 18, .int .i64 448] w _) ∧ (∀ w : World, Calls Tryd.prog 68 #[.int .u32 57, .int .i64 448] w _) ∧ (∀ w : World, Calls Tryd.prog 68 #[.int .u32 239, .int .i64 448] w _)) := ⟨fun w => at18_ok (w := w), fun w => at57_ok (w := w), fun w => at239_ok (w := w)⟩
  rw [← hk] at hA hB hC
  generalize A18 = A at *
  generalize A57 = B at *
  generalize A239 = C at *
  generalize HPI = H at *
  have HN : Hid (k ≤ 2000 ∧ A < 2 ^ k ∧ B < 2 ^ k ∧ C < 2 ^ k) := ⟨by omega, hA, hB, hC⟩
  have HP : Hid (C * 20 ≤ A * 48 + B * 32 ∧ 18272 ≤ A * 48 + B * 32 - C * 20 ∧ (A * 48 + B * 32 - C * 20 - 18272) / 2 ^ 64 = H ∧ (A * 48 + B * 32 - C * 20 + 18272) / 2 ^ 64 = H) := hP
  have mx : max (384 : Int) 0 = 384 := by decide
  clear hk hA hB hC hP
  go_enter Tryd.func55, Tryd.ntmps55
  go_wp2_with fail
  have hbw : Below w.heap.size w w := Below.refl _ _
  refine wp_loop_rounds 1 ?_
  rw [rounds_succ]
  go_wp2_with fail
  refine (HU.out.1 _).mono ?_
  rintro e v1 ⟨p1, m1, rfl, hR, hb1⟩
  have RN1 : Hid (RN v1 p1 m1 A) := hR
  clear hR
  replace hbw := Below.on hbw hb1
  clear hb1
  go_wp2_with fail
  refine (HU.out.2.1 _).mono ?_
  rintro e v2 ⟨p2, m2, rfl, hR, hb2⟩
  have RN2 : Hid (RN v2 p2 m2 B) := hR
  clear hR
  replace RN1 : Hid (RN v2 p1 m1 A) := RN1.out.below hb2
  replace hbw := Below.on hbw hb2
  clear hb2
  go_wp2_with fail
  refine (HU.out.2.2 _).mono ?_
  rintro e v3 ⟨p3, m3, rfl, hR, hb3⟩
  have RN3 : Hid (RN v3 p3 m3 C) := hR
  clear hR
  replace RN1 : Hid (RN v3 p1 m1 A) := RN1.out.below hb3
  replace RN2 : Hid (RN v3 p2 m2 B) := RN2.out.below hb3
  replace hbw := Below.on hbw hb3
  clear hb3
  go_wp2_with fail
  refine (rn_muls RN1.out 48 (by decide) (K := k + 10) (by have := HN.out.1; omega) (p12 HN.out.2.1 (by decide))).mono ?_
  rintro e v4 ⟨p4, m4, rfl, hR, hb4⟩
  have RN4 : Hid (RN v4 p4 m4 (A * 48)) := hR
  clear hR
  replace RN1 : Hid (RN v4 p1 m1 A) := RN1.out.below hb4
  replace RN2 : Hid (RN v4 p2 m2 B) := RN2.out.below hb4
  replace RN3 : Hid (RN v4 p3 m3 C) := RN3.out.below hb4
  replace hbw := Below.on hbw hb4
  clear hb4
  go_wp2_with fail
  refine (rn_muls RN2.out 32 (by decide) (K := k + 10) (by have := HN.out.1; omega) (p12 HN.out.2.2.1 (by decide))).mono ?_
  rintro e v5 ⟨p5, m5, rfl, hR, hb5⟩
  have RN5 : Hid (RN v5 p5 m5 (B * 32)) := hR
  clear hR
  replace RN1 : Hid (RN v5 p1 m1 A) := RN1.out.below hb5
  replace RN2 : Hid (RN v5 p2 m2 B) := RN2.out.below hb5
  replace RN3 : Hid (RN v5 p3 m3 C) := RN3.out.below hb5
  replace RN4 : Hid (RN v5 p4 m4 (A * 48)) := RN4.out.below hb5
  replace hbw := Below.on hbw hb5
  clear hb5
  go_wp2_with fail
  refine (rn_add RN4.out RN5.out (K := k + 20) (by have := HN.out.1; omega) (p13 (p12 HN.out.2.1 (by decide)) (p12 HN.out.2.2.1 (by decide)))).mono ?_
  rintro e v6 ⟨p6, m6, rfl, hR, hb6⟩
  have RN6 : Hid (RN v6 p6 m6 (A * 48 + B * 32)) := hR
  clear hR
  replace RN1 : Hid (RN v6 p1 m1 A) := RN1.out.below hb6
  replace RN2 : Hid (RN v6 p2 m2 B) := RN2.out.below hb6
  replace RN3 : Hid (RN v6 p3 m3 C) := RN3.out.below hb6
  replace RN4 : Hid (RN v6 p4 m4 (A * 48)) := RN4.out.below hb6
  replace RN5 : Hid (RN v6 p5 m5 (B * 32)) := RN5.out.below hb6
  replace hbw := Below.on hbw hb6
  clear hb6
  go_wp2_with fail
  refine (rn_muls RN3.out 20 (by decide) (K := k + 10) (by have := HN.out.1; omega) (p12 HN.out.2.2.2 (by decide))).mono ?_
  rintro e v7 ⟨p7, m7, rfl, hR, hb7⟩
  have RN7 : Hid (RN v7 p7 m7 (C * 20)) := hR
  clear hR
  replace RN1 : Hid (RN v7 p1 m1 A) := RN1.out.below hb7
  replace RN2 : Hid (RN v7 p2 m2 B) := RN2.out.below hb7
  replace RN3 : Hid (RN v7 p3 m3 C) := RN3.out.below hb7
  replace RN4 : Hid (RN v7 p4 m4 (A * 48)) := RN4.out.below hb7
  replace RN5 : Hid (RN v7 p5 m5 (B * 32)) := RN5.out.below hb7
  replace RN6 : Hid (RN v7 p6 m6 (A * 48 + B * 32)) := RN6.out.below hb7
  replace hbw := Below.on hbw hb7
  clear hb7
  go_wp2_with fail
  refine (rn_sub RN6.out RN7.out HP.out.1).mono ?_
  rintro e v8 ⟨p8, m8, rfl, hR, hb8⟩
  have RN8 : Hid (RN v8 p8 m8 (A * 48 + B * 32 - C * 20)) := hR
  clear hR
  replace RN1 : Hid (RN v8 p1 m1 A) := RN1.out.below hb8
  replace RN2 : Hid (RN v8 p2 m2 B) := RN2.out.below hb8
  replace RN3 : Hid (RN v8 p3 m3 C) := RN3.out.below hb8
  replace RN4 : Hid (RN v8 p4 m4 (A * 48)) := RN4.out.below hb8
  replace RN5 : Hid (RN v8 p5 m5 (B * 32)) := RN5.out.below hb8
  replace RN6 : Hid (RN v8 p6 m6 (A * 48 + B * 32)) := RN6.out.below hb8
  replace RN7 : Hid (RN v8 p7 m7 (C * 20)) := RN7.out.below hb8
  replace hbw := Below.on hbw hb8
  clear hb8
  go_wp2_with fail
  refine (rn_small 18272 (by decide)).mono ?_
  rintro e v9 ⟨p9, m9, rfl, hR, hb9⟩
  have RN9 : Hid (RN v9 p9 m9 (18272)) := hR
  clear hR
  replace RN1 : Hid (RN v9 p1 m1 A) := RN1.out.below hb9
  replace RN2 : Hid (RN v9 p2 m2 B) := RN2.out.below hb9
  replace RN3 : Hid (RN v9 p3 m3 C) := RN3.out.below hb9
  replace RN4 : Hid (RN v9 p4 m4 (A * 48)) := RN4.out.below hb9
  replace RN5 : Hid (RN v9 p5 m5 (B * 32)) := RN5.out.below hb9
  replace RN6 : Hid (RN v9 p6 m6 (A * 48 + B * 32)) := RN6.out.below hb9
  replace RN7 : Hid (RN v9 p7 m7 (C * 20)) := RN7.out.below hb9
  replace RN8 : Hid (RN v9 p8 m8 (A * 48 + B * 32 - C * 20)) := RN8.out.below hb9
  replace hbw := Below.on hbw hb9
  clear hb9
  go_wp2_with fail
  refine (rn_sub RN8.out RN9.out HP.out.2.1).mono ?_
  rintro e v10 ⟨p10, m10, rfl, hR, hb10⟩
  have RN10 : Hid (RN v10 p10 m10 (A * 48 + B * 32 - C * 20 - 18272)) := hR
  clear hR
  replace RN1 : Hid (RN v10 p1 m1 A) := RN1.out.below hb10
  replace RN2 : Hid (RN v10 p2 m2 B) := RN2.out.below hb10
  replace RN3 : Hid (RN v10 p3 m3 C) := RN3.out.below hb10
  replace RN4 : Hid (RN v10 p4 m4 (A * 48)) := RN4.out.below hb10
  replace RN5 : Hid (RN v10 p5 m5 (B * 32)) := RN5.out.below hb10
  replace RN6 : Hid (RN v10 p6 m6 (A * 48 + B * 32)) := RN6.out.below hb10
  replace RN7 : Hid (RN v10 p7 m7 (C * 20)) := RN7.out.below hb10
  replace RN8 : Hid (RN v10 p8 m8 (A * 48 + B * 32 - C * 20)) := RN8.out.below hb10
  replace RN9 : Hid (RN v10 p9 m9 (18272)) := RN9.out.below hb10
  replace hbw := Below.on hbw hb10
  clear hb10
  go_wp2_with fail
  refine (rn_shr RN10.out 64 _ rfl (by decide)).mono ?_
  rintro e v11 ⟨p11, m11, rfl, hR, hb11⟩
  have RN11 : Hid (RN v11 p11 m11 ((A * 48 + B * 32 - C * 20 - 18272) / 2 ^ 64)) := hR
  clear hR
  replace RN1 : Hid (RN v11 p1 m1 A) := RN1.out.below hb11
  replace RN2 : Hid (RN v11 p2 m2 B) := RN2.out.below hb11
  replace RN3 : Hid (RN v11 p3 m3 C) := RN3.out.below hb11
  replace RN4 : Hid (RN v11 p4 m4 (A * 48)) := RN4.out.below hb11
  replace RN5 : Hid (RN v11 p5 m5 (B * 32)) := RN5.out.below hb11
  replace RN6 : Hid (RN v11 p6 m6 (A * 48 + B * 32)) := RN6.out.below hb11
  replace RN7 : Hid (RN v11 p7 m7 (C * 20)) := RN7.out.below hb11
  replace RN8 : Hid (RN v11 p8 m8 (A * 48 + B * 32 - C * 20)) := RN8.out.below hb11
  replace RN9 : Hid (RN v11 p9 m9 (18272)) := RN9.out.below hb11
  replace RN10 : Hid (RN v11 p10 m10 (A * 48 + B * 32 - C * 20 - 18272)) := RN10.out.below hb11
  replace hbw := Below.on hbw hb11
  clear hb11
  rw [HP.out.2.2.1] at RN11
  go_wp2_with fail
  have HS : Hid (A * 48 + B * 32 - C * 20 + 18272 < 2 ^ (k + 30)) := p14 (p13 (p12 HN.out.2.1 (show 48 ≤ 64 by decide)) (p12 HN.out.2.2.1 (show 32 ≤ 64 by decide)))
  refine (rn_add RN8.out RN9.out (K := k + 30) (by have := HN.out.1; omega) HS.out).mono ?_
  rintro e v12 ⟨p12, m12, rfl, hR, hb12⟩
  have RN12 : Hid (RN v12 p12 m12 (A * 48 + B * 32 - C * 20 + 18272)) := hR
  clear hR
  replace RN1 : Hid (RN v12 p1 m1 A) := RN1.out.below hb12
  replace RN2 : Hid (RN v12 p2 m2 B) := RN2.out.below hb12
  replace RN3 : Hid (RN v12 p3 m3 C) := RN3.out.below hb12
  replace RN4 : Hid (RN v12 p4 m4 (A * 48)) := RN4.out.below hb12
  replace RN5 : Hid (RN v12 p5 m5 (B * 32)) := RN5.out.below hb12
  replace RN6 : Hid (RN v12 p6 m6 (A * 48 + B * 32)) := RN6.out.below hb12
  replace RN7 : Hid (RN v12 p7 m7 (C * 20)) := RN7.out.below hb12
  replace RN8 : Hid (RN v12 p8 m8 (A * 48 + B * 32 - C * 20)) := RN8.out.below hb12
  replace RN9 : Hid (RN v12 p9 m9 (18272)) := RN9.out.below hb12
  replace RN10 : Hid (RN v12 p10 m10 (A * 48 + B * 32 - C * 20 - 18272)) := RN10.out.below hb12
  replace RN11 : Hid (RN v12 p11 m11 H) := RN11.out.below hb12
  replace hbw := Below.on hbw hb12
  clear hb12
  go_wp2_with fail
  refine (rn_shr RN12.out 64 _ rfl (by decide)).mono ?_
  rintro e v13 ⟨p13, m13, rfl, hR, hb13⟩
  have RN13 : Hid (RN v13 p13 m13 ((A * 48 + B * 32 - C * 20 + 18272) / 2 ^ 64)) := hR
  clear hR
  replace RN1 : Hid (RN v13 p1 m1 A) := RN1.out.below hb13
  replace RN2 : Hid (RN v13 p2 m2 B) := RN2.out.below hb13
  replace RN3 : Hid (RN v13 p3 m3 C) := RN3.out.below hb13
  replace RN4 : Hid (RN v13 p4 m4 (A * 48)) := RN4.out.below hb13
  replace RN5 : Hid (RN v13 p5 m5 (B * 32)) := RN5.out.below hb13
  replace RN6 : Hid (RN v13 p6 m6 (A * 48 + B * 32)) := RN6.out.below hb13
  replace RN7 : Hid (RN v13 p7 m7 (C * 20)) := RN7.out.below hb13
  replace RN8 : Hid (RN v13 p8 m8 (A * 48 + B * 32 - C * 20)) := RN8.out.below hb13
  replace RN9 : Hid (RN v13 p9 m9 (18272)) := RN9.out.below hb13
  replace RN10 : Hid (RN v13 p10 m10 (A * 48 + B * 32 - C * 20 - 18272)) := RN10.out.below hb13
  replace RN11 : Hid (RN v13 p11 m11 H) := RN11.out.below hb13
  replace RN12 : Hid (RN v13 p12 m12 (A * 48 + B * 32 - C * 20 + 18272)) := RN12.out.below hb13
  replace hbw := Below.on hbw hb13
  clear hb13
  rw [HP.out.2.2.2] at RN13
  go_wp2_with fail
  refine (rn_cmp RN11.out RN13.out).mono ?_
  rintro e v14 ⟨rfl, hb14⟩
  rw [cmpN_eq (rfl : H = H)]
  replace RN1 : Hid (RN v14 p1 m1 A) := RN1.out.below hb14
  replace RN2 : Hid (RN v14 p2 m2 B) := RN2.out.below hb14
  replace RN3 : Hid (RN v14 p3 m3 C) := RN3.out.below hb14
  replace RN4 : Hid (RN v14 p4 m4 (A * 48)) := RN4.out.below hb14
  replace RN5 : Hid (RN v14 p5 m5 (B * 32)) := RN5.out.below hb14
  replace RN6 : Hid (RN v14 p6 m6 (A * 48 + B * 32)) := RN6.out.below hb14
  replace RN7 : Hid (RN v14 p7 m7 (C * 20)) := RN7.out.below hb14
  replace RN8 : Hid (RN v14 p8 m8 (A * 48 + B * 32 - C * 20)) := RN8.out.below hb14
  replace RN9 : Hid (RN v14 p9 m9 (18272)) := RN9.out.below hb14
  replace RN10 : Hid (RN v14 p10 m10 (A * 48 + B * 32 - C * 20 - 18272)) := RN10.out.below hb14
  replace RN11 : Hid (RN v14 p11 m11 H) := RN11.out.below hb14
  replace RN12 : Hid (RN v14 p12 m12 (A * 48 + B * 32 - C * 20 + 18272)) := RN12.out.below hb14
  replace RN13 : Hid (RN v14 p13 m13 H) := RN13.out.below hb14
  replace hbw := Below.on hbw hb14
  clear hb14
  go_wp2_with fail
  go_ret
  exact ⟨_, _, rfl, RN11.out, hbw⟩
theorem rfloorL_p {p q : Option Addr} {m n : Nat} {w : World} {x y : Int} (h : ZR w false p m x) (k : ZR w false q n y) (hm : m ≤ 16384) (hn : n ≤ 40000) (hy : 0 < y) (hlt : x.natAbs < y.natAbs) :
    Calls Tryd.prog 72 #[.agg #[.bool false, .slice p m m], .agg #[.bool false, .slice q n n]] w fun e w' => ∃ s1 g1 m1 s2 g2 m2, e = .returned (.tuple #[.agg #[.bool s1, .slice (some ⟨g1, 0, none⟩) m1 m1], .agg #[.bool s2, .slice (some ⟨g2, 0, none⟩) m2 m2]]) ∧ w.heap.size ≤ g1 ∧ w.heap.size ≤ g2 ∧ ZR w' s1 (some ⟨g1, 0, none⟩) m1 (rFd x y) ∧ ZR w' s2 (some ⟨g2, 0, none⟩) m2 (rMo x y) ∧ m1 ≤ 20000 ∧ m2 ≤ 40000 ∧ Below w.heap.size w w' := by
  have hyd : decide (y < 0) = false := decide_eq_false (by omega)
  have HQ : Hid (rFd x y = iv false (x.natAbs / y.natAbs)) := by show _ = _; unfold rFd fl; rw [← h.sg, hyd]; simp
  have HR : Hid (rMo x y = iv false (x.natAbs % y.natAbs)) := by show _ = _; unfold rMo mo; rw [← h.sg, hyd]; simp
  rw [HQ.out, HR.out]
  clear HQ HR hyd
  obtain ⟨xs, hAx, hNx⟩ := h.ex
  obtain ⟨ys, hAy, hNy⟩ := k.ex
  have HZ : Hid (ZR w false q n y) := k
  have AX : Hid (At32 w p m m xs ∧ At32 w q n n ys) := ⟨hAx, hAy⟩
  have NX : Hid (Nf B32 xs x.natAbs ∧ Nf B32 ys y.natAbs) := ⟨hNx, hNy⟩
  have HM : Hid (m ≤ 16384 ∧ n ≤ 40000 ∧ 0 < y) := ⟨hm, hn, hy⟩
  have HLT : Hid (x.natAbs < y.natAbs) := hlt
  clear h k hm hn hy hlt hAx hAy hNx hNy
  go_enter Tryd.func72, Tryd.ntmps72
  go_wp2_with fail
  obtain ⟨W0, hW0⟩ : ∃ W0, W0 = ((((w.alloc (.cells #[.bool false, .slice p m m] 50)).alloc (.cells #[.bool false, .slice q n n] 50)).alloc (.cells #[.bool false, .slice none 0 0] 50)).alloc (.cells #[.bool false, .slice none 0 0] 50)) := ⟨_, rfl⟩
  have Xa : Hid (Box W0 (w.heap.size) (.bool false) (.slice p m m)) := by rw [hW0]; exact ⟨by go_simp, by go_simp, by go_simp, by go_simp⟩
  have Xb : Hid (Box W0 (w.heap.size + 1) (.bool false) (.slice q n n)) := by rw [hW0]; exact ⟨by go_simp, by go_simp, by go_simp, by go_simp⟩
  have Xr : Hid (Box W0 (w.heap.size + 1 + 1) (.bool false) (.slice none 0 0)) := by rw [hW0]; exact ⟨by go_simp, by go_simp, by go_simp, by go_simp⟩
  have Xu : Hid (Box W0 (w.heap.size + 1 + 1 + 1) (.bool false) (.slice none 0 0)) := by rw [hW0]; exact ⟨by go_simp, by go_simp, by go_simp, by go_simp⟩
  have hb0 : Below w.heap.size w W0 := by rw [hW0]; exact below4 w _ _ _ _
  rw [← hW0]
  clear hW0
  have hbw : Below w.heap.size w w := Below.refl _ _
  obtain ⟨gu, hgu⟩ : ∃ g, g = w.heap.size + 1 + 1 + 1 := ⟨_, rfl⟩
  have HGu : Hid (w.heap.size ≤ gu) := by rw [hgu]; show _ ≤ _; omega
  rw [← hgu] at Xu
  try rw [← hgu]
  obtain ⟨gr, hgr⟩ : ∃ g, g = w.heap.size + 1 + 1 := ⟨_, rfl⟩
  have HGr : Hid (w.heap.size ≤ gr) := by rw [hgr]; show _ ≤ _; omega
  rw [← hgr] at Xr
  try rw [← hgr]
  obtain ⟨gb, hgb⟩ : ∃ g, g = w.heap.size + 1 := ⟨_, rfl⟩
  have HGb : Hid (w.heap.size ≤ gb) := by rw [hgb]; show _ ≤ _; omega
  rw [← hgb] at Xb
  try rw [← hgb]
  obtain ⟨ga, hga⟩ : ∃ g, g = w.heap.size := ⟨_, rfl⟩
  have HGa : Hid (w.heap.size ≤ ga) := by rw [hga]; show _ ≤ _; omega
  rw [← hga] at Xa
  try rw [← hga]
  have HGD : Hid (ga ≠ gb ∧ ga ≠ gr ∧ ga ≠ gu ∧ gb ≠ ga ∧ gb ≠ gr ∧ gb ≠ gu ∧ gr ≠ ga ∧ gr ≠ gb ∧ gr ≠ gu ∧ gu ≠ ga ∧ gu ≠ gb ∧ gu ≠ gr) := by rw [hga, hgb, hgr, hgu]; exact ⟨by omega, by omega, by omega, by omega, by omega, by omega, by omega, by omega, by omega, by omega, by omega, by omega⟩
  clear hga hgb hgr hgu
  replace hbw := Below.on hbw hb0
  clear hb0
  refine (rsign04 false (HZ.out.below hbw)).mono ?_
  rintro e v1 ⟨rfl, hb1⟩
  rw [show sgnI y = 1 from by have := HM.out.2.2; unfold sgnI; rw [if_neg (by omega), if_neg (by omega)]]
  replace Xa : Hid _ := Xa.out.below hb1
  replace Xb : Hid _ := Xb.out.below hb1
  replace Xr : Hid _ := Xr.out.below hb1
  replace Xu : Hid _ := Xu.out.below hb1
  replace hbw := Below.on hbw hb1
  clear hb1
  obtain ⟨ca0, ca1, fa0, fa1⟩ := Xa.out
  have hnea := Xa.out.lt
  obtain ⟨cb0, cb1, fb0, fb1⟩ := Xb.out
  have hneb := Xb.out.lt
  go_wp2_with fail
  clear ca0 ca1 fa0 fa1 hnea
  clear cb0 cb1 fb0 fb1 hneb
  refine (rdivmod_lt (AX.out.1.below hbw) (AX.out.2.below hbw) NX.out.1 NX.out.2 HM.out.1 HM.out.2.1 (by have := HM.out.2.2; omega) HLT.out).mono ?_
  rintro e v2 ⟨p2, m2, z2, p3, m3, z3, rfl, hA2, hN2, hA3, hN3, hl2, hl3, hb2⟩
  replace Xa : Hid _ := Xa.out.below hb2
  replace Xb : Hid _ := Xb.out.below hb2
  replace Xr : Hid _ := Xr.out.below hb2
  replace Xu : Hid _ := Xu.out.below hb2
  replace hbw := Below.on hbw hb2
  clear hb2
  have A2 : Hid (At32 v2 p2 m2 m2 z2) := hA2
  have A3 : Hid (At32 v2 p3 m3 m3 z3) := hA3
  have N2 : Hid (Nf B32 z2 (x.natAbs / y.natAbs) ∧ Nf B32 z3 (x.natAbs % y.natAbs) ∧ m2 ≤ m ∧ m3 ≤ m) := ⟨hN2, hN3, hl2, hl3⟩
  clear hA2 hN2 hA3 hN3 hl2 hl3
  obtain ⟨ca0, ca1, fa0, fa1⟩ := Xa.out
  have hnea := Xa.out.lt
  go_wp2_with fail
  clear ca0 ca1 fa0 fa1 hnea
  have HRB : Hid (gr < v2.heap.size ∧ gu < v2.heap.size ∧ w.heap.size ≤ v2.heap.size) := ⟨Xr.out.lt, Xu.out.lt, hbw.size⟩
  refine (rmk_any false A2.out N2.out.1 (by have := N2.out; have := HM.out; omega)).mono ?_
  rintro e v5 ⟨v, rfl, hv, hb5⟩
  obtain ⟨s5, g5, m5, rfl, hg5, hz5, hl5⟩ := hv
  have HN5 : Hid (v2.heap.size ≤ g5) := hg5
  have HB5 : Hid (v2.heap.size ≤ v5.heap.size) := hb5.size
  replace Xa : Hid _ := Xa.out.below hb5
  replace Xb : Hid _ := Xb.out.below hb5
  replace Xr : Hid _ := Xr.out.below hb5
  replace Xu : Hid _ := Xu.out.below hb5
  replace A2 : Hid _ := A2.out.below hb5
  replace A3 : Hid _ := A3.out.below hb5
  replace hbw := Below.on hbw hb5
  clear hb5
  have Z5 : Hid (ZR v5 s5 (some ⟨g5, 0, none⟩) m5 (iv false (x.natAbs / y.natAbs))) := hz5
  have HL5 : Hid (m5 ≤ m2) := hl5
  clear hz5 hl5 hg5
  have HBV : Hid (v2.heap.size ≤ v5.heap.size) := HB5.out
  go_wp2_with fail
  refine (rmk_any false A3.out N2.out.2.1 (by have := N2.out; have := HM.out; omega)).mono ?_
  rintro e v6 ⟨v, rfl, hv, hb6⟩
  obtain ⟨s6, g6, m6, rfl, hg6, hz6, hl6⟩ := hv
  have HN6 : Hid (v5.heap.size ≤ g6) := hg6
  have HB6 : Hid (v5.heap.size ≤ v6.heap.size) := hb6.size
  replace Xa : Hid _ := Xa.out.below hb6
  replace Xb : Hid _ := Xb.out.below hb6
  replace Xr : Hid _ := Xr.out.below hb6
  replace Xu : Hid _ := Xu.out.below hb6
  replace A2 : Hid _ := A2.out.below hb6
  replace A3 : Hid _ := A3.out.below hb6
  replace Z5 : Hid _ := Z5.out.below hb6
  replace hbw := Below.on hbw hb6
  clear hb6
  have Z6 : Hid (ZR v6 s6 (some ⟨g6, 0, none⟩) m6 (iv false (x.natAbs % y.natAbs))) := hz6
  have HL6 : Hid (m6 ≤ m3) := hl6
  clear hz6 hl6 hg6
  obtain ⟨hgd0, hgd1, hgd2, hgd3, hgd4, hgd5, hgd6, hgd7, hgd8, hgd9, hgd10, hgd11⟩ := HGD.out
  obtain ⟨cr0, cr1, fr0, fr1⟩ := Xr.out
  have hner := Xr.out.lt
  obtain ⟨cu0, cu1, fu0, fu1⟩ := Xu.out
  have hneu := Xu.out.lt
  go_wp2_with fail
  refine bodyPost_ret (v := .tuple #[.agg #[.bool s5, .slice (some ⟨g5, 0, none⟩) m5 m5], .agg #[.bool s6, .slice (some ⟨g6, 0, none⟩) m6 m6]]) (by rw [results_cell2 rfl]; go_simp) rfl ⟨s5, g5, m5, s6, g6, m6, rfl, Nat.le_trans HRB.out.2.2 HN5.out, Nat.le_trans HRB.out.2.2 (Nat.le_trans HBV.out HN6.out), ?_, ?_, ?_, ?_, ?_⟩
  · clear hgd0 hgd1 hgd2 hgd3 hgd4 hgd5 hgd6 hgd7 hgd8 hgd9 hgd10 hgd11
    have := HN5.out; have := HRB.out
    exact (((Z5.out.set _ _ _ (by omega)).set _ _ _ (by omega)).set _ _ _ (by omega)).set _ _ _ (by omega)
  · clear hgd0 hgd1 hgd2 hgd3 hgd4 hgd5 hgd6 hgd7 hgd8 hgd9 hgd10 hgd11
    have := HN6.out; have := HBV.out; have := HRB.out
    exact (((Z6.out.set _ _ _ (by omega)).set _ _ _ (by omega)).set _ _ _ (by omega)).set _ _ _ (by omega)
  · clear hgd0 hgd1 hgd2 hgd3 hgd4 hgd5 hgd6 hgd7 hgd8 hgd9 hgd10 hgd11
    have := HL5.out; have := N2.out; have := HM.out; omega
  · clear hgd0 hgd1 hgd2 hgd3 hgd4 hgd5 hgd6 hgd7 hgd8 hgd9 hgd10 hgd11
    have := HL6.out; have := N2.out; have := HM.out; omega
  · exact bSet (bSet (bSet (bSet hbw _ _ _ HGr.out) _ _ _ HGr.out) _ _ _ HGu.out) _ _ _ HGu.out
theorem rfloorL {p q : Option Addr} {m n : Nat} {w : World} {x y : Int} (s : Bool) (hs : s = false ∧ x.natAbs < y.natAbs) (h : ZR w s p m x) (k : ZR w false q n y) (hm : m ≤ 16384) (hn : n ≤ 40000) (hy : 0 < y) :
    Calls Tryd.prog 72 #[.agg #[.bool s, .slice p m m], .agg #[.bool false, .slice q n n]] w fun e w' => ∃ s1 g1 m1 s2 g2 m2, e = .returned (.tuple #[.agg #[.bool s1, .slice (some ⟨g1, 0, none⟩) m1 m1], .agg #[.bool s2, .slice (some ⟨g2, 0, none⟩) m2 m2]]) ∧ w.heap.size ≤ g1 ∧ w.heap.size ≤ g2 ∧ ZR w' s1 (some ⟨g1, 0, none⟩) m1 (rFd x y) ∧ ZR w' s2 (some ⟨g2, 0, none⟩) m2 (rMo x y) ∧ m1 ≤ 20000 ∧ m2 ≤ 40000 ∧ Below w.heap.size w w' := by
  obtain ⟨rfl, hlt⟩ := hs
  exact rfloorL_p h k hm hn hy hlt
theorem near_up0 (s : Bool) (a d : Nat) (hd : 0 < d) (h : (d : Int) < 2 * mo s false a d ∨ (2 * mo s false a d = d ∧ (fl s a d).natAbs % 2 = 1)) : ne s a d = fl s a d + 1 := by
  have hlt := Nat.mod_lt a hd
  have hd1 : ¬ 0 = d := by omega
  have hd2 : ¬ d = 0 := by omega
  unfold ne fl mo neUp at *
  generalize a / d = q at *
  generalize a % d = r at *
  cases s <;> by_cases hr : r = 0 <;> by_cases h1 : d < 2 * r <;> by_cases h2 : 2 * r = d <;> by_cases h3 : q % 2 = 1 <;> simp [iv, hr, h1, h2, h3, hd1] at h ⊢ <;> omega
theorem near_no0 (s : Bool) (a d : Nat) (hd : 0 < d) (h : 2 * mo s false a d < (d : Int) ∨ (2 * mo s false a d = d ∧ (fl s a d).natAbs % 2 = 0)) : ne s a d = fl s a d := by
  have hlt := Nat.mod_lt a hd
  have hd1 : ¬ 0 = d := by omega
  have hd2 : ¬ d = 0 := by omega
  unfold ne fl mo neUp at *
  generalize a / d = q at *
  generalize a % d = r at *
  cases s <;> by_cases hr : r = 0 <;> by_cases h1 : d < 2 * r <;> by_cases h2 : 2 * r = d <;> by_cases h3 : q % 2 = 1 <;> simp [iv, hr, h1, h2, h3, hd1] at h ⊢ <;> omega
theorem r_pos {y : Int} (hy : 0 < y) (x : Int) : rNd x y = ne (decide (x < 0)) x.natAbs y.natAbs ∧ rFd x y = fl (decide (x < 0)) x.natAbs y.natAbs ∧ rMo x y = mo (decide (x < 0)) false x.natAbs y.natAbs := by
  have h : decide (y < 0) = false := decide_eq_false (by omega)
  unfold rNd rFd rMo
  rw [h]
  simp
theorem near_up {x y : Int} (hy : 0 < y) (h : y < 2 * rMo x y ∨ (2 * rMo x y = y ∧ (rFd x y).natAbs % 2 = 1)) : rNd x y = rFd x y + 1 := by
  obtain ⟨h1, h2, h3⟩ := r_pos hy x
  rw [h2, h3] at h
  rw [h1, h2]
  have hyd : (y.natAbs : Int) = y := by omega
  exact near_up0 _ _ _ (by omega) (by rw [hyd]; exact h)
theorem near_no {x y : Int} (hy : 0 < y) (h : 2 * rMo x y < y ∨ (2 * rMo x y = y ∧ (rFd x y).natAbs % 2 = 0)) : rNd x y = rFd x y := by
  obtain ⟨h1, h2, h3⟩ := r_pos hy x
  rw [h2, h3] at h
  rw [h1, h2]
  have hyd : (y.natAbs : Int) = y := by omega
  exact near_no0 _ _ _ (by omega) (by rw [hyd]; exact h)
theorem rnearL_g {p q : Option Addr} {m n : Nat} {w : World} {x y : Int} (s : Bool) (h : ZR w s p m x) (k : ZR w false q n y) (hm : m ≤ 16384) (hn : n ≤ 40000) (hy : 0 < y) (L : Nat) (hrm : (rMo x y).natAbs < B32 ^ L) (hL : L ≤ 16384) (hs : s = false ∧ x.natAbs < y.natAbs) (hc : y < 2 * rMo x y) :
    Calls Tryd.prog 70 #[.agg #[.bool s, .slice p m m], .agg #[.bool false, .slice q n n]] w fun e w' => ∃ v, e = .returned v ∧ GotR w.heap.size w' v (rNd x y) (20001) ∧ Below w.heap.size w w' := by
  have HRV : Hid (rNd x y = rFd x y + 1) := near_up hy (.inl hc)
  rw [HRV.out]
  have HC : Hid (cmpI (rMo x y * 2 ^ 1) y = 1) := by show _ = _; unfold cmpI; rw [if_neg (by omega), if_neg (by omega)]
  have HE : Hid (decide ((rFd x y).natAbs % 2 = 0) = true ∨ True) := .inr trivial
  have HA : Hid (ZR w s p m x ∧ ZR w false q n y) := ⟨h, k⟩
  have HM : Hid (m ≤ 16384 ∧ n ≤ 40000 ∧ 0 < y ∧ (rMo x y).natAbs < B32 ^ L ∧ L ≤ 16384) := ⟨hm, hn, hy, hrm, hL⟩
  have HFL : Hid (s = false ∧ x.natAbs < y.natAbs) := hs
  clear h k hm hn hy hc HRV hrm hL hs
  go_enter Tryd.func70, Tryd.ntmps70
  go_wp2_with fail
  obtain ⟨W0, hW0⟩ : ∃ W0, W0 = (((w.alloc (.cells #[.bool s, .slice p m m] 50)).alloc (.cells #[.bool false, .slice q n n] 50)).alloc (.cells #[.bool false, .slice none 0 0] 50)) := ⟨_, rfl⟩
  have Xa : Hid (Box W0 (w.heap.size) (.bool s) (.slice p m m)) := by rw [hW0]; exact ⟨by go_simp, by go_simp, by go_simp, by go_simp⟩
  have Xb : Hid (Box W0 (w.heap.size + 1) (.bool false) (.slice q n n)) := by rw [hW0]; exact ⟨by go_simp, by go_simp, by go_simp, by go_simp⟩
  have Xr : Hid (Box W0 (w.heap.size + 1 + 1) (.bool false) (.slice none 0 0)) := by rw [hW0]; exact ⟨by go_simp, by go_simp, by go_simp, by go_simp⟩
  have hb0 : Below w.heap.size w W0 := by rw [hW0]; exact below3 w _ _ _
  rw [← hW0]
  clear hW0
  have hbw : Below w.heap.size w w := Below.refl _ _
  obtain ⟨gr, hgr⟩ : ∃ g, g = w.heap.size + 1 + 1 := ⟨_, rfl⟩
  have HGr : Hid (w.heap.size ≤ gr) := by rw [hgr]; show _ ≤ _; omega
  rw [← hgr] at Xr
  try rw [← hgr]
  obtain ⟨gb, hgb⟩ : ∃ g, g = w.heap.size + 1 := ⟨_, rfl⟩
  have HGb : Hid (w.heap.size ≤ gb) := by rw [hgb]; show _ ≤ _; omega
  rw [← hgb] at Xb
  try rw [← hgb]
  obtain ⟨ga, hga⟩ : ∃ g, g = w.heap.size := ⟨_, rfl⟩
  have HGa : Hid (w.heap.size ≤ ga) := by rw [hga]; show _ ≤ _; omega
  rw [← hga] at Xa
  try rw [← hga]
  have HGD : Hid (ga ≠ gb ∧ ga ≠ gr ∧ gb ≠ ga ∧ gb ≠ gr ∧ gr ≠ ga ∧ gr ≠ gb) := by rw [hga, hgb, hgr]; exact ⟨by omega, by omega, by omega, by omega, by omega, by omega⟩
  clear hga hgb hgr
  replace hbw := Below.on hbw hb0
  clear hb0
  refine (rfloorL s HFL.out (HA.out.1.below hbw) (HA.out.2.below hbw) HM.out.1 HM.out.2.1 HM.out.2.2.1).mono ?_
  rintro e v1 ⟨s1, g1, m1, s2, g2, m2, rfl, hg1, hg2, hz1, hz2, hl1, hl2, hb1⟩
  have HR1 : Hid (gr < g1 ∧ w.heap.size ≤ g1) := ⟨Nat.lt_of_lt_of_le Xr.out.lt hg1, Nat.le_trans hbw.size hg1⟩
  replace Xa : Hid _ := Xa.out.below hb1
  replace Xb : Hid _ := Xb.out.below hb1
  replace Xr : Hid _ := Xr.out.below hb1
  replace hbw := Below.on hbw hb1
  clear hb1
  have Z1 : Hid (ZR v1 s1 (some ⟨g1, 0, none⟩) m1 (rFd x y)) := hz1
  have Z2 : Hid (ZR v1 s2 (some ⟨g2, 0, none⟩) m2 (rMo x y)) := hz2
  have hm2 : m2 ≤ 16384 := by
    obtain ⟨z2, hA2, hN2⟩ := hz2.ex
    have := (hN2.len_le B32_one (k := L)).2 HM.out.2.2.2.1
    rw [hA2.len] at this
    exact Nat.le_trans this HM.out.2.2.2.2
  have HL1 : Hid (m1 ≤ 20000 ∧ m2 ≤ 16384) := ⟨hl1, hm2⟩
  clear hz1 hz2 hl1 hl2 hm2 hg1 hg2
  go_wp2_with fail
  have HDQ : Hid (gr < v1.heap.size) := Xr.out.lt
  have HDR0 : Hid (gr ≠ v1.heap.size) := Nat.ne_of_lt Xr.out.lt
  rw [show v1.heap.size + 1 = (v1.alloc (.cells #[.bool s1, .slice (some ⟨g1, 0, none⟩) m1 m1] 50)).heap.size from by simp]
  have Xq0 : Hid (Box (v1.alloc (.cells #[.bool s1, .slice (some ⟨g1, 0, none⟩) m1 m1] 50)) v1.heap.size (.bool s1) (.slice (some ⟨g1, 0, none⟩) m1 m1)) := Box.new v1 _ _ _
  have hbn : Below v1.heap.size v1 (v1.alloc (.cells #[.bool s1, .slice (some ⟨g1, 0, none⟩) m1 m1] 50)) := below1 v1 _
  generalize v1.alloc (.cells #[.bool s1, .slice (some ⟨g1, 0, none⟩) m1 m1] 50) = W6 at *
  have HGq : Hid (w.heap.size ≤ v1.heap.size) := hbw.size
  replace Xa : Hid _ := Xa.out.below hbn
  replace Xb : Hid _ := Xb.out.below hbn
  replace Xr : Hid _ := Xr.out.below hbn
  replace Z1 : Hid _ := Z1.out.below hbn
  replace Z2 : Hid _ := Z2.out.below hbn
  replace hbw := Below.on hbw hbn
  clear hbn
  generalize v1.heap.size = gq at *
  have Xq := Xq0
  clear Xq0
  have Xt0 : Hid (Box (W6.alloc (.cells #[.bool s2, .slice (some ⟨g2, 0, none⟩) m2 m2] 50)) W6.heap.size (.bool s2) (.slice (some ⟨g2, 0, none⟩) m2 m2)) := Box.new W6 _ _ _
  have hbn : Below W6.heap.size W6 (W6.alloc (.cells #[.bool s2, .slice (some ⟨g2, 0, none⟩) m2 m2] 50)) := below1 W6 _
  generalize W6.alloc (.cells #[.bool s2, .slice (some ⟨g2, 0, none⟩) m2 m2] 50) = W7 at *
  have HGt : Hid (w.heap.size ≤ W6.heap.size) := hbw.size
  replace Xa : Hid _ := Xa.out.below hbn
  replace Xb : Hid _ := Xb.out.below hbn
  replace Xr : Hid _ := Xr.out.below hbn
  replace Xq : Hid _ := Xq.out.below hbn
  replace Z1 : Hid _ := Z1.out.below hbn
  replace Z2 : Hid _ := Z2.out.below hbn
  replace hbw := Below.on hbw hbn
  clear hbn
  generalize W6.heap.size = gt at *
  have Xt := Xt0
  clear Xt0
  obtain ⟨W8, hW8⟩ : ∃ W1, W1 = W7.drew := ⟨_, rfl⟩
  have hbd : Below W7.heap.size W7 W8 := by rw [hW8]; exact bDrew1 (Below.refl _ _)
  replace Xa : Hid _ := Xa.out.below hbd
  replace Xb : Hid _ := Xb.out.below hbd
  replace Xr : Hid _ := Xr.out.below hbd
  replace Xq : Hid _ := Xq.out.below hbd
  replace Xt : Hid _ := Xt.out.below hbd
  replace Z1 : Hid _ := Z1.out.below hbd
  replace Z2 : Hid _ := Z2.out.below hbd
  replace hbw := Below.on hbw hbd
  clear hbd
  have HJ : Hid ((fun W' : World => W'.cell? ⟨gt, 0, none⟩ = some (.bool s2) ∧ W'.cell? ⟨gt, 1, none⟩ = some (.slice (some ⟨g2, 0, none⟩) m2 m2) ∧ W'.cell? ⟨gb, 0, none⟩ = some (.bool false) ∧ W'.cell? ⟨gb, 1, none⟩ = some (.slice q n n)) W8) := ⟨Xt.out.c0, Xt.out.c1, Xb.out.c0, Xb.out.c1⟩
  refine wp_region_J (fun W' => W'.cell? ⟨gt, 0, none⟩ = some (.bool s2) ∧ W'.cell? ⟨gt, 1, none⟩ = some (.slice (some ⟨g2, 0, none⟩) m2 m2) ∧ W'.cell? ⟨gb, 0, none⟩ = some (.bool false) ∧ W'.cell? ⟨gb, 1, none⟩ = some (.slice q n n)) (by kernel_rfl) ?_
  rw [← hW8]
  clear hW8
  refine wpJ_tq 0 rfl HJ.out ?_
  refine wpJ_tq 2 rfl HJ.out ?_
  refine wpJ_on 1 rfl fun KJ hK => ?_
  go_simp
  refine (rshl04 s2 Z2.out HL1.out.2 1 (.inl (by decide))).mono ?_
  rintro e v3 ⟨v, rfl, hv, hb3⟩
  obtain ⟨s3, g3, m3, rfl, hg3, hz3, hl3⟩ := hv
  have HN3 : Hid (W8.heap.size ≤ g3) := hg3
  have HB3 : Hid (W8.heap.size ≤ v3.heap.size) := hb3.size
  replace Xa : Hid _ := Xa.out.below hb3
  replace Xb : Hid _ := Xb.out.below hb3
  replace Xr : Hid _ := Xr.out.below hb3
  replace Xq : Hid _ := Xq.out.below hb3
  replace Xt : Hid _ := Xt.out.below hb3
  replace Z1 : Hid _ := Z1.out.below hb3
  replace Z2 : Hid _ := Z2.out.below hb3
  replace hbw := Below.on hbw hb3
  clear hb3
  have Z3 : Hid (ZR v3 s3 (some ⟨g3, 0, none⟩) m3 (rMo x y * 2 ^ 1)) := hz3
  have HL3 : Hid (m3 ≤ 40000) := hl3
  clear hz3 hl3 hg3
  refine hK _ _ ⟨Xt.out.c0, Xt.out.c1, Xb.out.c0, Xb.out.c1⟩ ?_
  clear hK
  refine wpJ_on 3 rfl fun KJ hK => ?_
  go_simp
  refine (rcmp04 s3 false Z3.out (HA.out.2.below hbw) (by have := HL3.out; omega) (by have := HM.out; omega)).mono ?_
  rintro e v4 ⟨rfl, hb4⟩
  rw [HC.out]
  replace Xa : Hid _ := Xa.out.below hb4
  replace Xb : Hid _ := Xb.out.below hb4
  replace Xr : Hid _ := Xr.out.below hb4
  replace Xq : Hid _ := Xq.out.below hb4
  replace Xt : Hid _ := Xt.out.below hb4
  replace Z1 : Hid _ := Z1.out.below hb4
  replace Z2 : Hid _ := Z2.out.below hb4
  replace Z3 : Hid _ := Z3.out.below hb4
  replace hbw := Below.on hbw hb4
  clear hb4
  clear HJ
  have HJ : Hid ((fun W' : World => W'.cell? ⟨gt, 0, none⟩ = some (.bool s2) ∧ W'.cell? ⟨gt, 1, none⟩ = some (.slice (some ⟨g2, 0, none⟩) m2 m2) ∧ W'.cell? ⟨gb, 0, none⟩ = some (.bool false) ∧ W'.cell? ⟨gb, 1, none⟩ = some (.slice q n n)) v4) := ⟨Xt.out.c0, Xt.out.c1, Xb.out.c0, Xb.out.c1⟩
  refine hK _ _ HJ.out ?_
  clear hK
  refine wpJ_tq 4 rfl HJ.out ?_
  refine wpJ_done (by kernel_rfl) ?_ _
  clear HJ
  obtain ⟨cq0, cq1, fq0, fq1⟩ := Xq.out
  have hneq := Xq.out.lt
  go_wp2_with fail
  clear cq0 cq1 fq0 fq1 hneq
  obtain ⟨W9, hW9⟩ : ∃ W1, W1 = v4.drew := ⟨_, rfl⟩
  have hbd : Below v4.heap.size v4 W9 := by rw [hW9]; exact bDrew1 (Below.refl _ _)
  replace Xa : Hid _ := Xa.out.below hbd
  replace Xb : Hid _ := Xb.out.below hbd
  replace Xr : Hid _ := Xr.out.below hbd
  replace Xq : Hid _ := Xq.out.below hbd
  replace Xt : Hid _ := Xt.out.below hbd
  replace Z1 : Hid _ := Z1.out.below hbd
  replace Z2 : Hid _ := Z2.out.below hbd
  replace Z3 : Hid _ := Z3.out.below hbd
  replace hbw := Below.on hbw hbd
  clear hbd
  have HJ : Hid ((fun W' : World => W'.cell? ⟨gq, 0, none⟩ = some (.bool s1) ∧ W'.cell? ⟨gq, 1, none⟩ = some (.slice (some ⟨g1, 0, none⟩) m1 m1)) W9) := ⟨Xq.out.c0, Xq.out.c1⟩
  refine wp_region_J (fun W' => W'.cell? ⟨gq, 0, none⟩ = some (.bool s1) ∧ W'.cell? ⟨gq, 1, none⟩ = some (.slice (some ⟨g1, 0, none⟩) m1 m1)) (by kernel_rfl) ?_
  rw [← hW9]
  clear hW9
  refine wpJ_tq 0 rfl HJ.out ?_
  refine wpJ_on 1 rfl fun KJ hK => ?_
  go_simp
  refine (rof04 1 _ (by decide) (by decide)).mono ?_
  rintro e v6 ⟨s6, g6, m6, rfl, hz6, hl6, hb6⟩
  replace Xa : Hid _ := Xa.out.below hb6
  replace Xb : Hid _ := Xb.out.below hb6
  replace Xr : Hid _ := Xr.out.below hb6
  replace Xq : Hid _ := Xq.out.below hb6
  replace Xt : Hid _ := Xt.out.below hb6
  replace Z1 : Hid _ := Z1.out.below hb6
  replace Z2 : Hid _ := Z2.out.below hb6
  replace Z3 : Hid _ := Z3.out.below hb6
  replace hbw := Below.on hbw hb6
  clear hb6
  have Z6 : Hid (ZR v6 s6 (some ⟨g6, 0, none⟩) m6 1) := hz6
  have HL6 : Hid (m6 ≤ 3) := hl6
  clear hz6 hl6
  refine hK _ _ ⟨Xq.out.c0, Xq.out.c1⟩ ?_
  clear hK
  have HRB : Hid (gr < v6.heap.size ∧ w.heap.size ≤ v6.heap.size) := ⟨Xr.out.lt, hbw.size⟩
  refine wpJ_on 2 rfl fun KJ hK => ?_
  go_simp
  refine (radd04 s1 s6 Z1.out Z6.out (by have := HL1.out; omega) (by have := HL6.out; omega)).mono ?_
  rintro e v9 ⟨v, rfl, hv, hb9⟩
  obtain ⟨s9, g9, m9, rfl, hg9, hz9, hl9⟩ := hv
  have HN9 : Hid (v6.heap.size ≤ g9) := hg9
  have HB9 : Hid (v6.heap.size ≤ v9.heap.size) := hb9.size
  replace Xa : Hid _ := Xa.out.below hb9
  replace Xb : Hid _ := Xb.out.below hb9
  replace Xr : Hid _ := Xr.out.below hb9
  replace Xq : Hid _ := Xq.out.below hb9
  replace Xt : Hid _ := Xt.out.below hb9
  replace Z1 : Hid _ := Z1.out.below hb9
  replace Z2 : Hid _ := Z2.out.below hb9
  replace Z3 : Hid _ := Z3.out.below hb9
  replace Z6 : Hid _ := Z6.out.below hb9
  replace hbw := Below.on hbw hb9
  clear hb9
  have Z9 : Hid (ZR v9 s9 (some ⟨g9, 0, none⟩) m9 (rFd x y + 1)) := hz9
  have HL9 : Hid (m9 ≤ max m1 m6 + 1) := hl9
  clear hz9 hl9 hg9
  refine hK _ _ ⟨Xq.out.c0, Xq.out.c1⟩ ?_
  clear hK
  have hq1 := HDR0.out
  have hq2 : gq ≠ gr := fun h => hq1 h.symm
  obtain ⟨cr0, cr1, fr0, fr1⟩ := Xr.out
  have hner := Xr.out.lt
  obtain ⟨cq0, cq1, fq0, fq1⟩ := Xq.out
  have hneq := Xq.out.lt
  obtain ⟨hgd0, hgd1, hgd2, hgd3, hgd4, hgd5⟩ := HGD.out
  refine wpJ_on 3 rfl fun KJ hK => ?_
  go_simp
  have HJ2 : Hid ((fun W' : World => W'.cell? ⟨gq, 0, none⟩ = some (.bool s1) ∧ W'.cell? ⟨gq, 1, none⟩ = some (.slice (some ⟨g1, 0, none⟩) m1 m1)) ((v9.setCell ⟨gr, 0, none⟩ (.bool s9)).setCell ⟨gr, 1, none⟩ (.slice (some ⟨g9, 0, none⟩) m9 m9))) := ⟨by go_simp, by go_simp⟩
  refine hK _ _ HJ2.out ?_
  clear hK HJ
  have HJ := HJ2
  clear HJ2
  refine wpJ_done (by kernel_rfl) ?_ _
  clear HJ
  go_wp2_with fail
  refine bodyPost_ret (v := .agg #[.bool s9, .slice (some ⟨g9, 0, none⟩) m9 m9]) (by rw [results_cell1 rfl]; go_simp) rfl ⟨_, rfl, ⟨s9, g9, m9, rfl, Nat.le_trans HRB.out.2 HN9.out, ?_, ?_⟩, ?_⟩
  · have := HN9.out; have := HRB.out.1
    exact (Z9.out.set _ _ _ (by omega)).set _ _ _ (by omega)
  · have := HL9.out; have := HL6.out; have := HL1.out; omega
  · exact bSet (bSet hbw _ _ _ HGr.out) _ _ _ HGr.out
theorem rnearL_l {p q : Option Addr} {m n : Nat} {w : World} {x y : Int} (s : Bool) (h : ZR w s p m x) (k : ZR w false q n y) (hm : m ≤ 16384) (hn : n ≤ 40000) (hy : 0 < y) (L : Nat) (hrm : (rMo x y).natAbs < B32 ^ L) (hL : L ≤ 16384) (hs : s = false ∧ x.natAbs < y.natAbs) (hc : 2 * rMo x y < y) :
    Calls Tryd.prog 70 #[.agg #[.bool s, .slice p m m], .agg #[.bool false, .slice q n n]] w fun e w' => ∃ v, e = .returned v ∧ GotR w.heap.size w' v (rNd x y) (20001) ∧ Below w.heap.size w w' := by
  have HRV : Hid (rNd x y = rFd x y) := near_no hy (.inl hc)
  rw [HRV.out]
  have HC : Hid (cmpI (rMo x y * 2 ^ 1) y = (-1)) := by show _ = _; unfold cmpI; rw [if_pos (by omega)]
  have HE : Hid (decide ((rFd x y).natAbs % 2 = 0) = true ∨ True) := .inr trivial
  have HA : Hid (ZR w s p m x ∧ ZR w false q n y) := ⟨h, k⟩
  have HM : Hid (m ≤ 16384 ∧ n ≤ 40000 ∧ 0 < y ∧ (rMo x y).natAbs < B32 ^ L ∧ L ≤ 16384) := ⟨hm, hn, hy, hrm, hL⟩
  have HFL : Hid (s = false ∧ x.natAbs < y.natAbs) := hs
  clear h k hm hn hy hc HRV hrm hL hs
  go_enter Tryd.func70, Tryd.ntmps70
  go_wp2_with fail
  obtain ⟨W0, hW0⟩ : ∃ W0, W0 = (((w.alloc (.cells #[.bool s, .slice p m m] 50)).alloc (.cells #[.bool false, .slice q n n] 50)).alloc (.cells #[.bool false, .slice none 0 0] 50)) := ⟨_, rfl⟩
  have Xa : Hid (Box W0 (w.heap.size) (.bool s) (.slice p m m)) := by rw [hW0]; exact ⟨by go_simp, by go_simp, by go_simp, by go_simp⟩
  have Xb : Hid (Box W0 (w.heap.size + 1) (.bool false) (.slice q n n)) := by rw [hW0]; exact ⟨by go_simp, by go_simp, by go_simp, by go_simp⟩
  have Xr : Hid (Box W0 (w.heap.size + 1 + 1) (.bool false) (.slice none 0 0)) := by rw [hW0]; exact ⟨by go_simp, by go_simp, by go_simp, by go_simp⟩
  have hb0 : Below w.heap.size w W0 := by rw [hW0]; exact below3 w _ _ _
  rw [← hW0]
  clear hW0
  have hbw : Below w.heap.size w w := Below.refl _ _
  obtain ⟨gr, hgr⟩ : ∃ g, g = w.heap.size + 1 + 1 := ⟨_, rfl⟩
  have HGr : Hid (w.heap.size ≤ gr) := by rw [hgr]; show _ ≤ _; omega
  rw [← hgr] at Xr
  try rw [← hgr]
  obtain ⟨gb, hgb⟩ : ∃ g, g = w.heap.size + 1 := ⟨_, rfl⟩
  have HGb : Hid (w.heap.size ≤ gb) := by rw [hgb]; show _ ≤ _; omega
  rw [← hgb] at Xb
  try rw [← hgb]
  obtain ⟨ga, hga⟩ : ∃ g, g = w.heap.size := ⟨_, rfl⟩
  have HGa : Hid (w.heap.size ≤ ga) := by rw [hga]; show _ ≤ _; omega
  rw [← hga] at Xa
  try rw [← hga]
  have HGD : Hid (ga ≠ gb ∧ ga ≠ gr ∧ gb ≠ ga ∧ gb ≠ gr ∧ gr ≠ ga ∧ gr ≠ gb) := by rw [hga, hgb, hgr]; exact ⟨by omega, by omega, by omega, by omega, by omega, by omega⟩
  clear hga hgb hgr
  replace hbw := Below.on hbw hb0
  clear hb0
  refine (rfloorL s HFL.out (HA.out.1.below hbw) (HA.out.2.below hbw) HM.out.1 HM.out.2.1 HM.out.2.2.1).mono ?_
  rintro e v1 ⟨s1, g1, m1, s2, g2, m2, rfl, hg1, hg2, hz1, hz2, hl1, hl2, hb1⟩
  have HR1 : Hid (gr < g1 ∧ w.heap.size ≤ g1) := ⟨Nat.lt_of_lt_of_le Xr.out.lt hg1, Nat.le_trans hbw.size hg1⟩
  replace Xa : Hid _ := Xa.out.below hb1
  replace Xb : Hid _ := Xb.out.below hb1
  replace Xr : Hid _ := Xr.out.below hb1
  replace hbw := Below.on hbw hb1
  clear hb1
  have Z1 : Hid (ZR v1 s1 (some ⟨g1, 0, none⟩) m1 (rFd x y)) := hz1
  have Z2 : Hid (ZR v1 s2 (some ⟨g2, 0, none⟩) m2 (rMo x y)) := hz2
  have hm2 : m2 ≤ 16384 := by
    obtain ⟨z2, hA2, hN2⟩ := hz2.ex
    have := (hN2.len_le B32_one (k := L)).2 HM.out.2.2.2.1
    rw [hA2.len] at this
    exact Nat.le_trans this HM.out.2.2.2.2
  have HL1 : Hid (m1 ≤ 20000 ∧ m2 ≤ 16384) := ⟨hl1, hm2⟩
  clear hz1 hz2 hl1 hl2 hm2 hg1 hg2
  go_wp2_with fail
  have HDQ : Hid (gr < v1.heap.size) := Xr.out.lt
  have HDR0 : Hid (gr ≠ v1.heap.size) := Nat.ne_of_lt Xr.out.lt
  rw [show v1.heap.size + 1 = (v1.alloc (.cells #[.bool s1, .slice (some ⟨g1, 0, none⟩) m1 m1] 50)).heap.size from by simp]
  have Xq0 : Hid (Box (v1.alloc (.cells #[.bool s1, .slice (some ⟨g1, 0, none⟩) m1 m1] 50)) v1.heap.size (.bool s1) (.slice (some ⟨g1, 0, none⟩) m1 m1)) := Box.new v1 _ _ _
  have hbn : Below v1.heap.size v1 (v1.alloc (.cells #[.bool s1, .slice (some ⟨g1, 0, none⟩) m1 m1] 50)) := below1 v1 _
  generalize v1.alloc (.cells #[.bool s1, .slice (some ⟨g1, 0, none⟩) m1 m1] 50) = W6 at *
  have HGq : Hid (w.heap.size ≤ v1.heap.size) := hbw.size
  replace Xa : Hid _ := Xa.out.below hbn
  replace Xb : Hid _ := Xb.out.below hbn
  replace Xr : Hid _ := Xr.out.below hbn
  replace Z1 : Hid _ := Z1.out.below hbn
  replace Z2 : Hid _ := Z2.out.below hbn
  replace hbw := Below.on hbw hbn
  clear hbn
  generalize v1.heap.size = gq at *
  have Xq := Xq0
  clear Xq0
  have Xt0 : Hid (Box (W6.alloc (.cells #[.bool s2, .slice (some ⟨g2, 0, none⟩) m2 m2] 50)) W6.heap.size (.bool s2) (.slice (some ⟨g2, 0, none⟩) m2 m2)) := Box.new W6 _ _ _
  have hbn : Below W6.heap.size W6 (W6.alloc (.cells #[.bool s2, .slice (some ⟨g2, 0, none⟩) m2 m2] 50)) := below1 W6 _
  generalize W6.alloc (.cells #[.bool s2, .slice (some ⟨g2, 0, none⟩) m2 m2] 50) = W7 at *
  have HGt : Hid (w.heap.size ≤ W6.heap.size) := hbw.size
  replace Xa : Hid _ := Xa.out.below hbn
  replace Xb : Hid _ := Xb.out.below hbn
  replace Xr : Hid _ := Xr.out.below hbn
  replace Xq : Hid _ := Xq.out.below hbn
  replace Z1 : Hid _ := Z1.out.below hbn
  replace Z2 : Hid _ := Z2.out.below hbn
  replace hbw := Below.on hbw hbn
  clear hbn
  generalize W6.heap.size = gt at *
  have Xt := Xt0
  clear Xt0
  obtain ⟨W8, hW8⟩ : ∃ W1, W1 = W7.drew := ⟨_, rfl⟩
  have hbd : Below W7.heap.size W7 W8 := by rw [hW8]; exact bDrew1 (Below.refl _ _)
  replace Xa : Hid _ := Xa.out.below hbd
  replace Xb : Hid _ := Xb.out.below hbd
  replace Xr : Hid _ := Xr.out.below hbd
  replace Xq : Hid _ := Xq.out.below hbd
  replace Xt : Hid _ := Xt.out.below hbd
  replace Z1 : Hid _ := Z1.out.below hbd
  replace Z2 : Hid _ := Z2.out.below hbd
  replace hbw := Below.on hbw hbd
  clear hbd
  have HJ : Hid ((fun W' : World => W'.cell? ⟨gt, 0, none⟩ = some (.bool s2) ∧ W'.cell? ⟨gt, 1, none⟩ = some (.slice (some ⟨g2, 0, none⟩) m2 m2) ∧ W'.cell? ⟨gb, 0, none⟩ = some (.bool false) ∧ W'.cell? ⟨gb, 1, none⟩ = some (.slice q n n)) W8) := ⟨Xt.out.c0, Xt.out.c1, Xb.out.c0, Xb.out.c1⟩
  refine wp_region_J (fun W' => W'.cell? ⟨gt, 0, none⟩ = some (.bool s2) ∧ W'.cell? ⟨gt, 1, none⟩ = some (.slice (some ⟨g2, 0, none⟩) m2 m2) ∧ W'.cell? ⟨gb, 0, none⟩ = some (.bool false) ∧ W'.cell? ⟨gb, 1, none⟩ = some (.slice q n n)) (by kernel_rfl) ?_
  rw [← hW8]
  clear hW8
  refine wpJ_tq 0 rfl HJ.out ?_
  refine wpJ_tq 2 rfl HJ.out ?_
  refine wpJ_on 1 rfl fun KJ hK => ?_
  go_simp
  refine (rshl04 s2 Z2.out HL1.out.2 1 (.inl (by decide))).mono ?_
  rintro e v3 ⟨v, rfl, hv, hb3⟩
  obtain ⟨s3, g3, m3, rfl, hg3, hz3, hl3⟩ := hv
  have HN3 : Hid (W8.heap.size ≤ g3) := hg3
  have HB3 : Hid (W8.heap.size ≤ v3.heap.size) := hb3.size
  replace Xa : Hid _ := Xa.out.below hb3
  replace Xb : Hid _ := Xb.out.below hb3
  replace Xr : Hid _ := Xr.out.below hb3
  replace Xq : Hid _ := Xq.out.below hb3
  replace Xt : Hid _ := Xt.out.below hb3
  replace Z1 : Hid _ := Z1.out.below hb3
  replace Z2 : Hid _ := Z2.out.below hb3
  replace hbw := Below.on hbw hb3
  clear hb3
  have Z3 : Hid (ZR v3 s3 (some ⟨g3, 0, none⟩) m3 (rMo x y * 2 ^ 1)) := hz3
  have HL3 : Hid (m3 ≤ 40000) := hl3
  clear hz3 hl3 hg3
  refine hK _ _ ⟨Xt.out.c0, Xt.out.c1, Xb.out.c0, Xb.out.c1⟩ ?_
  clear hK
  refine wpJ_on 3 rfl fun KJ hK => ?_
  go_simp
  refine (rcmp04 s3 false Z3.out (HA.out.2.below hbw) (by have := HL3.out; omega) (by have := HM.out; omega)).mono ?_
  rintro e v4 ⟨rfl, hb4⟩
  rw [HC.out]
  replace Xa : Hid _ := Xa.out.below hb4
  replace Xb : Hid _ := Xb.out.below hb4
  replace Xr : Hid _ := Xr.out.below hb4
  replace Xq : Hid _ := Xq.out.below hb4
  replace Xt : Hid _ := Xt.out.below hb4
  replace Z1 : Hid _ := Z1.out.below hb4
  replace Z2 : Hid _ := Z2.out.below hb4
  replace Z3 : Hid _ := Z3.out.below hb4
  replace hbw := Below.on hbw hb4
  clear hb4
  clear HJ
  have HJ : Hid ((fun W' : World => W'.cell? ⟨gt, 0, none⟩ = some (.bool s2) ∧ W'.cell? ⟨gt, 1, none⟩ = some (.slice (some ⟨g2, 0, none⟩) m2 m2) ∧ W'.cell? ⟨gb, 0, none⟩ = some (.bool false) ∧ W'.cell? ⟨gb, 1, none⟩ = some (.slice q n n)) v4) := ⟨Xt.out.c0, Xt.out.c1, Xb.out.c0, Xb.out.c1⟩
  refine hK _ _ HJ.out ?_
  clear hK
  refine wpJ_tq 4 rfl HJ.out ?_
  refine wpJ_done (by kernel_rfl) ?_ _
  clear HJ
  obtain ⟨cq0, cq1, fq0, fq1⟩ := Xq.out
  have hneq := Xq.out.lt
  obtain ⟨cr0, cr1, fr0, fr1⟩ := Xr.out
  have hner := Xr.out.lt
  go_wp2_with fail
  refine bodyPost_ret (v := .agg #[.bool s1, .slice (some ⟨g1, 0, none⟩) m1 m1]) (by rw [results_cell1 rfl]; go_simp) rfl ⟨_, rfl, ⟨s1, g1, m1, rfl, HR1.out.2, ?_, Nat.le_succ_of_le HL1.out.1⟩, ?_⟩
  · have := HR1.out.1
    exact (Z1.out.set _ _ _ (by omega)).set _ _ _ (by omega)
  · exact bSet (bSet hbw _ _ _ HGr.out) _ _ _ HGr.out
theorem rnearL {p q : Option Addr} {m n : Nat} {w : World} {x y : Int} (s : Bool) (hs : s = false ∧ x.natAbs < y.natAbs) (hc : y < 2 * rMo x y ∨ 2 * rMo x y < y) (h : ZR w s p m x) (k : ZR w false q n y) (hm : m ≤ 16384) (hn : n ≤ 40000) (hy : 0 < y) (L : Nat) (hrm : (rMo x y).natAbs < B32 ^ L) (hL : L ≤ 16384) :
    Calls Tryd.prog 70 #[.agg #[.bool s, .slice p m m], .agg #[.bool false, .slice q n n]] w fun e w' => ∃ v, e = .returned v ∧ GotR w.heap.size w' v (rNd x y) (20001) ∧ Below w.heap.size w w' := by
  rcases hc with hc | hc
  · exact rnearL_g s h k hm hn hy L hrm hL hs hc
  · exact rnearL_l s h k hm hn hy L hrm hL hs hc
theorem rneardivL {p q : Option Addr} {m n : Nat} {w : World} {x y : Int} (s : Bool) (h : ZR w s p m x) (k : ZR w false q n y) (hm : m ≤ 16384) (hn : n ≤ 16384) (hy : 0 < y) (hs : s = false ∧ x.natAbs < y.natAbs) (hc : y < 2 * rMo x y ∨ 2 * rMo x y < y) :
    Calls Tryd.prog 56 #[.agg #[.bool s, .slice p m m], .agg #[.bool false, .slice q n n]] w fun e w' => ∃ v, e = .returned v ∧ GotR w.heap.size w' v (rNd x y) (20001) ∧ Below w.heap.size w w' := by
  have HA : Hid (ZR w s p m x ∧ ZR w false q n y) := ⟨h, k⟩
  have HM : Hid (m ≤ 16384 ∧ n ≤ 16384 ∧ 0 < y) := ⟨hm, hn, hy⟩
  have HFL : Hid ((s = false ∧ x.natAbs < y.natAbs) ∧ (y < 2 * rMo x y ∨ 2 * rMo x y < y)) := ⟨hs, hc⟩
  clear h k hm hn hy hs hc
  go_enter Tryd.func56, Tryd.ntmps56
  go_wp2_with fail
  obtain ⟨W0, hW0⟩ : ∃ W0, W0 = (((w.alloc (.cells #[.bool s, .slice p m m] 50)).alloc (.cells #[.bool false, .slice q n n] 50)).alloc (.cells #[.bool false, .slice none 0 0] 50)) := ⟨_, rfl⟩
  have Xa : Hid (Box W0 (w.heap.size) (.bool s) (.slice p m m)) := by rw [hW0]; exact ⟨by go_simp, by go_simp, by go_simp, by go_simp⟩
  have Xb : Hid (Box W0 (w.heap.size + 1) (.bool false) (.slice q n n)) := by rw [hW0]; exact ⟨by go_simp, by go_simp, by go_simp, by go_simp⟩
  have Xr : Hid (Box W0 (w.heap.size + 1 + 1) (.bool false) (.slice none 0 0)) := by rw [hW0]; exact ⟨by go_simp, by go_simp, by go_simp, by go_simp⟩
  have hb0 : Below w.heap.size w W0 := by rw [hW0]; exact below3 w _ _ _
  rw [← hW0]
  clear hW0
  have hbw : Below w.heap.size w w := Below.refl _ _
  obtain ⟨gr, hgr⟩ : ∃ g, g = w.heap.size + 1 + 1 := ⟨_, rfl⟩
  have HGr : Hid (w.heap.size ≤ gr) := by rw [hgr]; show _ ≤ _; omega
  rw [← hgr] at Xr
  try rw [← hgr]
  obtain ⟨gb, hgb⟩ : ∃ g, g = w.heap.size + 1 := ⟨_, rfl⟩
  have HGb : Hid (w.heap.size ≤ gb) := by rw [hgb]; show _ ≤ _; omega
  rw [← hgb] at Xb
  try rw [← hgb]
  obtain ⟨ga, hga⟩ : ∃ g, g = w.heap.size := ⟨_, rfl⟩
  have HGa : Hid (w.heap.size ≤ ga) := by rw [hga]; show _ ≤ _; omega
  rw [← hga] at Xa
  try rw [← hga]
  have HGD : Hid (ga ≠ gb ∧ ga ≠ gr ∧ gb ≠ ga ∧ gb ≠ gr ∧ gr ≠ ga ∧ gr ≠ gb) := by rw [hga, hgb, hgr]; exact ⟨by omega, by omega, by omega, by omega, by omega, by omega⟩
  clear hga hgb hgr
  replace hbw := Below.on hbw hb0
  clear hb0
  obtain ⟨ca0, ca1, fa0, fa1⟩ := Xa.out
  have hnea := Xa.out.lt
  obtain ⟨cb0, cb1, fb0, fb1⟩ := Xb.out
  have hneb := Xb.out.lt
  go_wp2_with fail
  clear ca0 ca1 fa0 fa1 hnea
  clear cb0 cb1 fb0 fb1 hneb
  have HRB : Hid (gr < W0.heap.size ∧ w.heap.size ≤ W0.heap.size) := ⟨Xr.out.lt, hbw.size⟩
  have hpy : 0 < y := by have := HM.out.2.2; omega
  refine (rnearL s HFL.out.1 HFL.out.2 (HA.out.1.below hbw) (HA.out.2.below hbw) HM.out.1 (Nat.le_trans HM.out.2.1 (by decide)) hpy _ (rMo_lt hpy (ZR.lt_pow (HA.out.2.below hbw))) HM.out.2.1).mono ?_
  rintro e v1 ⟨v, rfl, hv, hb1⟩
  obtain ⟨s1, g1, m1, rfl, hg1, hz1, hl1⟩ := hv
  have HN1 : Hid (W0.heap.size ≤ g1) := hg1
  have HB1 : Hid (W0.heap.size ≤ v1.heap.size) := hb1.size
  replace Xa : Hid _ := Xa.out.below hb1
  replace Xb : Hid _ := Xb.out.below hb1
  replace Xr : Hid _ := Xr.out.below hb1
  replace hbw := Below.on hbw hb1
  clear hb1
  have Z1 : Hid (ZR v1 s1 (some ⟨g1, 0, none⟩) m1 (rNd (x) (y))) := hz1
  have HL1 : Hid (m1 ≤ 20001) := hl1
  clear hz1 hl1 hg1
  clear hpy
  obtain ⟨cr0, cr1, fr0, fr1⟩ := Xr.out
  have hner := Xr.out.lt
  go_wp2_with fail
  refine bodyPost_ret (v := .agg #[.bool s1, .slice (some ⟨g1, 0, none⟩) m1 m1]) (by rw [results_cell1 rfl]; go_simp) rfl ⟨_, rfl, ⟨s1, g1, m1, rfl, Nat.le_trans HRB.out.2 HN1.out, ?_, HL1.out⟩, ?_⟩
  · have := HN1.out; have := HRB.out.1
    exact (Z1.out.set _ _ _ (by omega)).set _ _ _ (by omega)
  · exact bSet (bSet hbw _ _ _ HGr.out) _ _ _ HGr.out
theorem scaled7 {w : World} {p : Option Addr} {m : Nat} {x : Int} (s : Bool) (h : ZR w s p m x) (hm : m ≤ 16384) (k : Nat) (hk : k ≤ 5000) :
    Calls Tryd.prog 50 #[.agg #[.bool s, .slice p m m], .int .i64 k] w fun en w' => ∃ v, en = .returned v ∧ GotR w.heap.size w' v (x * 2 ^ k) 40000 ∧ Below w.heap.size w w' := by
  have HA : Hid (ZR w s p m x ∧ m ≤ 16384 ∧ k ≤ 5000) := ⟨h, hm, hk⟩
  have hk0 : decide ((0 : Int) ≤ (k : Int)) = true := decide_eq_true (by omega)
  have hk1 : (0 : Int) ≤ (k : Int) := by omega
  clear h hm hk
  go_enter Tryd.func50, Tryd.ntmps50
  go_wp2_with fail
  obtain ⟨W0, hW0⟩ : ∃ W0, W0 = ((w.alloc (.cells #[.bool s, .slice p m m] 50)).alloc (.cells #[.bool false, .slice none 0 0] 50)) := ⟨_, rfl⟩
  have Xa : Hid (Box W0 (w.heap.size) (.bool s) (.slice p m m)) := by rw [hW0]; exact ⟨by go_simp, by go_simp, by go_simp, by go_simp⟩
  have Xr : Hid (Box W0 (w.heap.size + 1) (.bool false) (.slice none 0 0)) := by rw [hW0]; exact ⟨by go_simp, by go_simp, by go_simp, by go_simp⟩
  have hb0 : Below w.heap.size w W0 := by rw [hW0]; exact below2 w _ _
  rw [← hW0]
  clear hW0
  have hbw : Below w.heap.size w w := Below.refl _ _
  obtain ⟨gr, hgr⟩ : ∃ g, g = w.heap.size + 1 := ⟨_, rfl⟩
  have HGr : Hid (w.heap.size ≤ gr) := by rw [hgr]; show _ ≤ _; omega
  rw [← hgr] at Xr
  try rw [← hgr]
  obtain ⟨ga, hga⟩ : ∃ g, g = w.heap.size := ⟨_, rfl⟩
  have HGa : Hid (w.heap.size ≤ ga) := by rw [hga]; show _ ≤ _; omega
  rw [← hga] at Xa
  try rw [← hga]
  have HGD : Hid (ga ≠ gr ∧ gr ≠ ga) := by rw [hga, hgr]; exact ⟨by omega, by omega⟩
  clear hga hgr
  replace hbw := Below.on hbw hb0
  clear hb0
  obtain ⟨ca0, ca1, fa0, fa1⟩ := Xa.out
  have hnea := Xa.out.lt
  go_wp2_with fail
  clear ca0 ca1 fa0 fa1 hnea
  have HRB : Hid (gr < W0.heap.size ∧ w.heap.size ≤ W0.heap.size) := ⟨Xr.out.lt, hbw.size⟩
  refine (rshl04 s (HA.out.1.below hbw) HA.out.2.1 k (.inl (by have := HA.out; omega))).mono ?_
  rintro e v1 ⟨v, rfl, hv, hb1⟩
  obtain ⟨s1, g1, m1, rfl, hg1, hz1, hl1⟩ := hv
  try clear hv
  have HN1 : Hid (W0.heap.size ≤ g1) := hg1
  have HB1 : Hid (W0.heap.size ≤ v1.heap.size) := hb1.size
  replace Xa : Hid _ := Xa.out.below hb1
  replace Xr : Hid _ := Xr.out.below hb1
  replace hbw := Below.on hbw hb1
  clear hb1
  have Z1 : Hid (ZR v1 s1 (some ⟨g1, 0, none⟩) m1 (x * 2 ^ k)) := hz1
  have HL1 : Hid (m1 ≤ 40000) := hl1
  clear hz1 hl1 hg1
  obtain ⟨hgd0, hgd1⟩ := HGD.out
  obtain ⟨cr0, cr1, fr0, fr1⟩ := Xr.out
  have hner := Xr.out.lt
  go_wp2_with fail
  refine bodyPost_ret (v := .agg #[.bool s1, .slice (some ⟨g1, 0, none⟩) m1 m1]) (by rw [results_cell1 rfl]; go_simp) rfl ⟨_, rfl, ⟨s1, g1, m1, rfl, Nat.le_trans HRB.out.2 HN1.out, ?_, HL1.out⟩, ?_⟩
  · have := HN1.out; have := HRB.out.1
    exact (Z1.out.set _ _ _ (by omega)).set _ _ _ (by omega)
  · exact bSet (bSet hbw _ _ _ HGr.out) _ _ _ HGr.out
theorem rest_w {j q q4 q2 q6 : Nat} {b : Int} (hb : b = (bitsN j : Int) + -6) (hj : bitsN j ≤ 6) (hqa : 380 ≤ q) (hqb : q ≤ 385) (h4 : q4 = q + 4) (h2 : q2 = q - 2) (h6 : q6 = q - 6) :
    wrap64 ((bitsN j : Int) + -6) = b ∧ IntKind.i64.wrap ((bitsN j : Int) + -6) = b ∧ max (0 : Int) b = 0 ∧ wrap64 ((q : Int) + 4) = (q4 : Int) ∧ IntKind.i64.wrap ((q : Int) + 4) = (q4 : Int) ∧ wrap64 (-6 + (q4 : Int)) = (q2 : Int) ∧ IntKind.i64.wrap (-6 + (q4 : Int)) = (q2 : Int) ∧ wrap64 (-6 + (q : Int)) = (q6 : Int) ∧ IntKind.i64.wrap (-6 + (q : Int)) = (q6 : Int) := by
  refine ⟨?_, ?_, by omega, ?_, ?_, ?_, ?_, ?_, ?_⟩
  all_goals first | (simp only [wrap64]; omega) | (simp [IntKind.wrap, IntKind.signed, IntKind.bits]; omega)
theorem sz_j {j k E : Nat} (hj : j < 53) (hk : k + 10 ≤ E) : ((j : Int) * 2 ^ k).natAbs < 2 ^ E := by
  have h1 : ((j : Int) * 2 ^ k).natAbs = j * 2 ^ k := by rw [Int.natAbs_mul, Int.natAbs_natCast, Int.natAbs_pow]; rfl
  rw [h1]
  have h2 : j * 2 ^ k < 2 ^ 6 * 2 ^ k := Nat.mul_lt_mul_of_pos_right (Nat.lt_trans hj (by decide)) (Nat.two_pow_pos k)
  rw [← Nat.pow_add] at h2
  exact Nat.lt_of_lt_of_le h2 (Nat.pow_le_pow_right (by decide) (by omega))
theorem rest_c {j q q2 q4 : Nat} (h2 : q2 = q - 2) (h4 : q4 = q + 4) (hq : 2 ≤ q) : (((((j : Int) * 2 ^ q2).natAbs : Nat) : Int) * 2 ^ 2 = ((j * 2 ^ q : Nat) : Int)) ∧ iv false (2 ^ q4 * 3) = ((48 * 2 ^ q : Nat) : Int) := by
  constructor
  · have h1 : ((j : Int) * 2 ^ q2).natAbs = j * 2 ^ q2 := by rw [Int.natAbs_mul, Int.natAbs_natCast, Int.natAbs_pow]; rfl
    rw [h1, show q = q2 + 2 by omega, Nat.pow_add, ← Nat.mul_assoc, Int.natCast_mul (j * 2 ^ q2)]; rfl
  · show ((2 ^ q4 * 3 : Nat) : Int) = _
    rw [h4, Nat.pow_add]
    congr 1
    show 2 ^ q * 16 * 3 = _
    omega
theorem bits_j {j : Nat} (h : j < 53) : bitsN j ≤ 6 := bits_le (K := 6) (Nat.lt_trans h (by decide))
theorem rest_s {w : World} {p : Option Addr} {m j : Nat} (h : ZR w false p m (j : Int)) (hm : m ≤ 4000) (hj1 : 1 ≤ j) (hj2 : j < 53) (q : Nat) (hqa : 380 ≤ q) (hqb : q ≤ 385) (hj3 : j ≤ 48) :
    Calls Tryd.prog 36 #[.agg #[.bool false, .slice p m m], .int .i64 (-6), .int .i64 q] w fun en w' => ∃ s1 p1 m1 v2, en = .returned (.tuple #[.agg #[.bool s1, .slice p1 m1 m1], v2]) ∧ ZR w' s1 p1 m1 (0) ∧ m1 ≤ 20001 ∧ GotR w.heap.size w' v2 ((j : Int) * 2 ^ (q - 6)) 50000 ∧ Below w.heap.size w w' := by
  have HA : Hid (ZR w false p m (j : Int) ∧ m ≤ 4000) := ⟨h, hm⟩
  have NJ : Hid (RN w p m j) := by have h9 := h.rn hm; rw [Int.natAbs_natCast] at h9; exact h9
  obtain ⟨b, hb⟩ : ∃ b : Int, b = (bitsN j : Int) + -6 := ⟨_, rfl⟩
  obtain ⟨q4, hq4⟩ : ∃ q4, q4 = q + 4 := ⟨_, rfl⟩
  obtain ⟨q2, hq2⟩ : ∃ q2, q2 = q - 2 := ⟨_, rfl⟩
  obtain ⟨q6, hq6⟩ : ∃ q6, q6 = q - 6 := ⟨_, rfl⟩
  have HW := Hid.mk9 (rest_w hb (bits_j hj2) hqa hqb hq4 hq2 hq6)
  have HC : Hid (1 ≤ j ∧ j < 53 ∧ 380 ≤ q ∧ q ≤ 385 ∧ q4 = q + 4 ∧ q2 = q - 2 ∧ q6 = q - 6) := ⟨hj1, hj2, hqa, hqb, hq4, hq2, hq6⟩
  have HJ3 : Hid (j ≤ 48) := hj3
  clear hj3 h hm hb hj1 hj2 hqa hqb hq4 hq2 hq6
  go_enter Tryd.func36, Tryd.ntmps36
  go_wp2_with fail
  obtain ⟨W0, hW0⟩ : ∃ W0, W0 = (((w.alloc (.cells #[.bool false, .slice p m m] 50)).alloc (.cells #[.bool false, .slice none 0 0] 50)).alloc (.cells #[.bool false, .slice none 0 0] 50)) := ⟨_, rfl⟩
  have Xm : Hid (Box W0 (w.heap.size) (.bool false) (.slice p m m)) := by rw [hW0]; exact ⟨by go_simp, by go_simp, by go_simp, by go_simp⟩
  have Xr : Hid (Box W0 (w.heap.size + 1) (.bool false) (.slice none 0 0)) := by rw [hW0]; exact ⟨by go_simp, by go_simp, by go_simp, by go_simp⟩
  have Xu : Hid (Box W0 (w.heap.size + 1 + 1) (.bool false) (.slice none 0 0)) := by rw [hW0]; exact ⟨by go_simp, by go_simp, by go_simp, by go_simp⟩
  have hb0 : Below w.heap.size w W0 := by rw [hW0]; exact below3 w _ _ _
  rw [← hW0]
  clear hW0
  have hbw : Below w.heap.size w w := Below.refl _ _
  obtain ⟨gu, hgu⟩ : ∃ g, g = w.heap.size + 1 + 1 := ⟨_, rfl⟩
  have HGu : Hid (w.heap.size ≤ gu) := by rw [hgu]; show _ ≤ _; omega
  rw [← hgu] at Xu
  try rw [← hgu]
  obtain ⟨gr, hgr⟩ : ∃ g, g = w.heap.size + 1 := ⟨_, rfl⟩
  have HGr : Hid (w.heap.size ≤ gr) := by rw [hgr]; show _ ≤ _; omega
  rw [← hgr] at Xr
  try rw [← hgr]
  obtain ⟨gm, hgm⟩ : ∃ g, g = w.heap.size := ⟨_, rfl⟩
  have HGm : Hid (w.heap.size ≤ gm) := by rw [hgm]; show _ ≤ _; omega
  rw [← hgm] at Xm
  try rw [← hgm]
  have HGD : Hid (gm ≠ gr ∧ gm ≠ gu ∧ gr ≠ gm ∧ gr ≠ gu ∧ gu ≠ gm ∧ gu ≠ gr) := by rw [hgm, hgr, hgu]; exact ⟨by omega, by omega, by omega, by omega, by omega, by omega⟩
  clear hgm hgr hgu
  replace NJ : Hid (RN W0 p m j) := NJ.out.below hb0
  replace hbw := Below.on hbw hb0
  clear hb0
  obtain ⟨w1, w1', mx, w2, w2', w3, w3', w4, w4'⟩ := HW.out
  obtain ⟨cm0, cm1, fm0, fm1⟩ := Xm.out
  have hnem := Xm.out.lt
  go_wp2_with fail
  clear cm0 cm1 fm0 fm1 hnem
  clear w1 w1' mx w2 w2' w3 w3' w4 w4'
  refine (rn_bits NJ.out).mono ?_
  rintro e9 v9 ⟨rfl, hw⟩
  obtain rfl := hw.symm
  clear hw
  obtain ⟨w1, w1', mx, w2, w2', w3, w3', w4, w4'⟩ := HW.out
  obtain ⟨cm0, cm1, fm0, fm1⟩ := Xm.out
  have hnem := Xm.out.lt
  go_wp2_with fail
  clear cm0 cm1 fm0 fm1 hnem
  clear w1 w1' mx w2 w2' w3 w3' w4 w4'
  refine (scaled7 false (HA.out.1.below hbw) (by have := HA.out; omega) q2 (by have := HC.out; omega)).mono ?_
  rintro e v1 ⟨v, rfl, hv, hb1⟩
  obtain ⟨s1, g1, m1, rfl, hg1, hz1, hl1⟩ := hv
  try clear hv
  have HN1 : Hid (W0.heap.size ≤ g1) := hg1
  have HB1 : Hid (W0.heap.size ≤ v1.heap.size) := hb1.size
  replace Xm : Hid _ := Xm.out.below hb1
  replace Xr : Hid _ := Xr.out.below hb1
  replace Xu : Hid _ := Xu.out.below hb1
  replace NJ : Hid (RN v1 p m j) := NJ.out.below hb1
  replace hbw := Below.on hbw hb1
  clear hb1
  have Z1 : Hid (ZR v1 s1 (some ⟨g1, 0, none⟩) m1 ((j : Int) * 2 ^ q2)) := hz1
  have HL1 : Hid (m1 ≤ 40000) := hl1
  clear hz1 hl1 hg1
  obtain ⟨w1, w1', mx, w2, w2', w3, w3', w4, w4'⟩ := HW.out
  go_wp2_with fail
  clear w1 w1' mx w2 w2' w3 w3' w4 w4'
  have Xx0 : Hid (Box (v1.alloc (.cells #[.bool s1, .slice (some ⟨g1, 0, none⟩) m1 m1] 50)) v1.heap.size (.bool s1) (.slice (some ⟨g1, 0, none⟩) m1 m1)) := Box.new v1 _ _ _
  have hbn : Below v1.heap.size v1 (v1.alloc (.cells #[.bool s1, .slice (some ⟨g1, 0, none⟩) m1 m1] 50)) := below1 v1 _
  generalize v1.alloc (.cells #[.bool s1, .slice (some ⟨g1, 0, none⟩) m1 m1] 50) = Wx at *
  have HGx : Hid (w.heap.size ≤ v1.heap.size) := hbw.size
  replace Xm : Hid _ := Xm.out.below hbn
  replace Xr : Hid _ := Xr.out.below hbn
  replace Xu : Hid _ := Xu.out.below hbn
  replace NJ : Hid (RN Wx p m j) := NJ.out.below hbn
  replace Z1 : Hid _ := Z1.out.below hbn
  replace hbw := Below.on hbw hbn
  clear hbn
  generalize v1.heap.size = gx at *
  have Xx := Xx0
  clear Xx0
  obtain ⟨E6, hE6⟩ : ∃ E6, E6 = 32 * 20 := ⟨_, rfl⟩
  have HE6 := Hid.mk9 hE6
  clear hE6
  have HM1 : Hid (m1 ≤ 20) := zr_len32 Z1.out (E := E6) HE6.out (sz_j HC.out.2.1 (by have := HC.out; have := HE6.out; omega))
  refine (tabs s1 Z1.out (by have := HM1.out; omega)).mono ?_
  rintro e v2 ⟨v, rfl, hv, hb2⟩
  obtain ⟨s2, g2, m2, rfl, hg2, hz2, hl2⟩ := hv
  try clear hv
  have HN2 : Hid (Wx.heap.size ≤ g2) := hg2
  have HB2 : Hid (Wx.heap.size ≤ v2.heap.size) := hb2.size
  replace Xm : Hid _ := Xm.out.below hb2
  replace Xr : Hid _ := Xr.out.below hb2
  replace Xu : Hid _ := Xu.out.below hb2
  replace Xx : Hid _ := Xx.out.below hb2
  replace NJ : Hid (RN v2 p m j) := NJ.out.below hb2
  replace Z1 : Hid _ := Z1.out.below hb2
  replace hbw := Below.on hbw hb2
  clear hb2
  have Z2 : Hid (ZR v2 s2 (some ⟨g2, 0, none⟩) m2 (((((j : Int) * 2 ^ q2).natAbs : Nat) : Int))) := hz2
  have HL2 : Hid (m2 ≤ m1) := hl2
  clear hz2 hl2 hg2
  go_wp2_with fail
  refine (rshl04 s2 Z2.out (by have := HL2.out; have := HM1.out; omega) 2 (.inl (by decide))).mono ?_
  rintro e v3 ⟨v, rfl, hv, hb3⟩
  rw [(rest_c HC.out.2.2.2.2.2.1 HC.out.2.2.2.2.1 (by have := HC.out; omega)).1] at hv
  obtain ⟨s3, g3, m3, rfl, hg3, hz3, hl3⟩ := hv
  try clear hv
  have HN3 : Hid (v2.heap.size ≤ g3) := hg3
  have HB3 : Hid (v2.heap.size ≤ v3.heap.size) := hb3.size
  replace Xm : Hid _ := Xm.out.below hb3
  replace Xr : Hid _ := Xr.out.below hb3
  replace Xu : Hid _ := Xu.out.below hb3
  replace Xx : Hid _ := Xx.out.below hb3
  replace NJ : Hid (RN v3 p m j) := NJ.out.below hb3
  replace Z1 : Hid _ := Z1.out.below hb3
  replace Z2 : Hid _ := Z2.out.below hb3
  replace hbw := Below.on hbw hb3
  clear hb3
  have Z3 : Hid (ZR v3 s3 (some ⟨g3, 0, none⟩) m3 (((j * 2 ^ q : Nat) : Int))) := hz3
  have HL3 : Hid (m3 ≤ 40000) := hl3
  clear hz3 hl3 hg3
  clear Z2
  go_wp2_with fail
  refine (rn_pow2 q4 (by have := HC.out; omega)).mono ?_
  rintro en v4 ⟨p4, m4, rfl, hn4, hb4⟩
  replace Xm : Hid _ := Xm.out.below hb4
  replace Xr : Hid _ := Xr.out.below hb4
  replace Xu : Hid _ := Xu.out.below hb4
  replace Xx : Hid _ := Xx.out.below hb4
  replace NJ : Hid (RN v4 p m j) := NJ.out.below hb4
  replace Z1 : Hid _ := Z1.out.below hb4
  replace Z3 : Hid _ := Z3.out.below hb4
  replace hbw := Below.on hbw hb4
  clear hb4
  have N4 : Hid (RN v4 p4 m4 (2 ^ q4)) := hn4
  clear hn4
  go_wp2_with fail
  refine (rn_muls N4.out 3 (by decide) (K := q4 + 2) (by have := HC.out; omega) (by rw [Nat.pow_add]; have := Nat.two_pow_pos q4; omega)).mono ?_
  rintro en v5 ⟨p5, m5, rfl, hn5, hb5⟩
  replace Xm : Hid _ := Xm.out.below hb5
  replace Xr : Hid _ := Xr.out.below hb5
  replace Xu : Hid _ := Xu.out.below hb5
  replace Xx : Hid _ := Xx.out.below hb5
  replace NJ : Hid (RN v5 p m j) := NJ.out.below hb5
  replace Z1 : Hid _ := Z1.out.below hb5
  replace Z3 : Hid _ := Z3.out.below hb5
  replace N4 : Hid (RN v5 p4 m4 (2 ^ q4)) := N4.out.below hb5
  replace hbw := Below.on hbw hb5
  clear hb5
  have N5 : Hid (RN v5 p5 m5 (2 ^ q4 * 3)) := hn5
  clear hn5
  clear N4
  go_wp2_with fail
  obtain ⟨zs, hA, hN⟩ := N5.out.mem
  refine (rmk_any false hA hN (by have := N5.out.len; omega)).mono ?_
  rintro e v6 ⟨v, rfl, hv, hb6⟩
  rw [(rest_c (j := j) HC.out.2.2.2.2.2.1 HC.out.2.2.2.2.1 (by have := HC.out; omega)).2] at hv
  obtain ⟨s6, g6, m6, rfl, hg6, hz6, hl6⟩ := hv
  try clear hv
  have HN6 : Hid (v5.heap.size ≤ g6) := hg6
  have HB6 : Hid (v5.heap.size ≤ v6.heap.size) := hb6.size
  replace Xm : Hid _ := Xm.out.below hb6
  replace Xr : Hid _ := Xr.out.below hb6
  replace Xu : Hid _ := Xu.out.below hb6
  replace Xx : Hid _ := Xx.out.below hb6
  replace NJ : Hid (RN v6 p m j) := NJ.out.below hb6
  replace Z1 : Hid _ := Z1.out.below hb6
  replace Z3 : Hid _ := Z3.out.below hb6
  replace N5 : Hid (RN v6 p5 m5 (2 ^ q4 * 3)) := N5.out.below hb6
  replace hbw := Below.on hbw hb6
  clear hb6
  have Z6 : Hid (ZR v6 s6 (some ⟨g6, 0, none⟩) m6 (((48 * 2 ^ q : Nat) : Int))) := hz6
  have HL6 : Hid (m6 ≤ m5) := hl6
  clear hz6 hl6 hg6
  clear hA hN
  have HM5 : Hid (m5 ≤ 4000) := N5.out.len
  clear N5
  go_wp2_with fail
  obtain ⟨c, hc⟩ : ∃ c, c = cmpI ((j * 2 ^ q : Nat) : Int) ((48 * 2 ^ q : Nat) : Int) := ⟨_, rfl⟩
  have HCC := Hid.mk9 hc
  clear hc
  refine (rcmp04 s3 s6 Z3.out Z6.out (by have := HL3.out; omega) (by have := HL6.out; have := HM5.out; omega)).mono ?_
  rintro e v7 ⟨rfl, hb7⟩
  rw [← HCC.out]
  replace Xm : Hid _ := Xm.out.below hb7
  replace Xr : Hid _ := Xr.out.below hb7
  replace Xu : Hid _ := Xu.out.below hb7
  replace Xx : Hid _ := Xx.out.below hb7
  replace NJ : Hid (RN v7 p m j) := NJ.out.below hb7
  replace Z1 : Hid _ := Z1.out.below hb7
  replace Z3 : Hid _ := Z3.out.below hb7
  replace Z6 : Hid _ := Z6.out.below hb7
  replace hbw := Below.on hbw hb7
  clear hb7
  clear Z3
  clear Z6
  have hc0 : decide (c ≤ 0) = true := decide_eq_true (by rw [HCC.out]; unfold cmpI; have h := Nat.mul_le_mul_right (2 ^ q) HJ3.out; generalize j * 2 ^ q = X at *; generalize 48 * 2 ^ q = Y at *; split; (decide); rw [if_pos (by omega)]; decide)
  have hc1 : c ≤ 0 := of_decide_eq_true hc0
  obtain ⟨w1, w1', mx, w2, w2', w3, w3', w4, w4'⟩ := HW.out
  obtain ⟨cm0, cm1, fm0, fm1⟩ := Xm.out
  have hnem := Xm.out.lt
  go_wp2_with fail
  clear cm0 cm1 fm0 fm1 hnem
  clear w1 w1' mx w2 w2' w3 w3' w4 w4'
  have HRB : Hid (gr < v7.heap.size ∧ gu < v7.heap.size ∧ w.heap.size ≤ v7.heap.size) := ⟨Xr.out.lt, Xu.out.lt, hbw.size⟩
  refine (scaled7 false (HA.out.1.below hbw) (by have := HA.out; omega) q6 (by have := HC.out; omega)).mono ?_
  rintro e v8 ⟨v, rfl, hv, hb8⟩
  obtain ⟨s8, g8, m8, rfl, hg8, hz8, hl8⟩ := hv
  try clear hv
  have HN8 : Hid (v7.heap.size ≤ g8) := hg8
  have HB8 : Hid (v7.heap.size ≤ v8.heap.size) := hb8.size
  replace Xm : Hid _ := Xm.out.below hb8
  replace Xr : Hid _ := Xr.out.below hb8
  replace Xu : Hid _ := Xu.out.below hb8
  replace Xx : Hid _ := Xx.out.below hb8
  replace NJ : Hid (RN v8 p m j) := NJ.out.below hb8
  replace Z1 : Hid _ := Z1.out.below hb8
  replace hbw := Below.on hbw hb8
  clear hb8
  have Z8 : Hid (ZR v8 s8 (some ⟨g8, 0, none⟩) m8 ((j : Int) * 2 ^ q6)) := hz8
  have HL8 : Hid (m8 ≤ 40000) := hl8
  clear hz8 hl8 hg8
  have hu1 : gr ≠ gu := HGD.out.2.2.2.1
  have hu2 : gu ≠ gr := hu1.symm
  obtain ⟨cr0, cr1, fr0, fr1⟩ := Xr.out
  have hner := Xr.out.lt
  obtain ⟨cu0, cu1, fu0, fu1⟩ := Xu.out
  have hneu := Xu.out.lt
  go_wp2_with fail
  refine bodyPost_ret (v := .tuple #[.agg #[.bool false, .slice none 0 0], .agg #[.bool s8, .slice (some ⟨g8, 0, none⟩) m8 m8]]) (by rw [results_cell2 rfl]; go_simp) rfl ⟨false, none, 0, _, rfl, ⟨⟨[], At32.empty _ _ _ (by decide), Nf.nil _⟩, rfl⟩, by omega, ⟨s8, g8, m8, rfl, Nat.le_trans HRB.out.2.2 HN8.out, ?_, by have := HL8.out; omega⟩, ?_⟩
  · have h1 := HN8.out; have h2 := HRB.out; rw [show q - 6 = q6 by have := HC.out; omega]
    first | exact (((Z8.out.set _ _ _ (by omega)).set _ _ _ (by omega)).set _ _ _ (by omega)).set _ _ _ (by omega) | exact (Z8.out.set _ _ _ (by omega)).set _ _ _ (by omega)
  · first | exact bSet (bSet (bSet (bSet (hbw) _ _ _ HGr.out) _ _ _ HGr.out) _ _ _ HGu.out) _ _ _ HGu.out | exact bSet (bSet (hbw) _ _ _ HGu.out) _ _ _ HGu.out
end Go.Proofs.YtionkfnapodhbaaDoor
