import Derived.Test.YtdkbfffpnpjpiaaPow0
namespace Go.Proofs.Ytdkbfffpnpjpiaa
open Go.RowKit

theorem q_step (x S k : Nat) (h : k < S) : x / 2 ^ (S - (k + 1)) = 2 * (x / 2 ^ (S - k)) + x / 2 ^ (S - 1 - k) % 2 := by
  obtain ⟨j, hj⟩ : ∃ j, j = S - 1 - k := ⟨_, rfl⟩
  rw [show S - (k + 1) = j by omega, show S - k = j + 1 by omega, ← hj, Nat.pow_succ, ← Nat.div_div_eq_div_mul]
  omega
theorem q_le (x S k : Nat) : x / 2 ^ (S - k) ≤ x := Nat.div_le_self _ _
theorem q_zero (x S : Nat) (h1 : x < 2 ^ (S + 1)) (h2 : 2 ^ S ≤ x) : x / 2 ^ (S - 0) = 1 := by
  rw [Nat.sub_zero]
  apply Nat.div_eq_of_lt_le
  · omega
  · rw [Nat.pow_succ] at h1; omega
theorem pow_even (a q r : Nat) (b : Nat) (h : r = 2 * q + b) (hb : b = 0) : a ^ r = a ^ q * a ^ q := by
  rw [h, hb, Nat.add_zero, ← Nat.pow_add]; congr 1; omega
theorem pow_odd (a q r : Nat) (b : Nat) (h : r = 2 * q + b) (hb : b = 1) : a ^ r = a ^ q * a ^ q * a := by
  rw [h, hb, Nat.pow_succ, ← Nat.pow_add]; congr 2; omega

theorem own_le {B B' : Nat} {w : World} {p : Option Addr} {m : Nat} {zs : List Nat} (h : Own B w p m zs) (hB : B' ≤ B) : Own B' w p m zs :=
  ⟨h.len, h.dig, h.mem.imp id (fun ⟨g, h1, h2, h3⟩ => ⟨g, h1, Nat.le_trans hB h2, h3⟩)⟩
structure ClimbRel (w : World) (a x S k : Nat) (pp : Option Addr) (mm : Nat) (wr : World) : Prop where
  own : ∃ zs, Own w.heap.size wr pp mm zs ∧ Nf B64 zs (a ^ (x / 2 ^ (S - k)))
  small : mm ≤ 8192
  bel : Below w.heap.size w wr

set_option maxRecDepth 20000 in
set_option maxHeartbeats 2000000 in
theorem climb_any {p : Option Addr} {n c g o d : Nat} {xs : List Nat} {a x : Nat} {w : World} (h : At w p n c xs) (nA : Nf B64 xs a) (hn : n ≤ 8192) (k : At w (some ⟨g, o, none⟩) 1 d [x]) (ha : 0 < a) (hx : 0 < x) :
    Calls Try.prog 18 #[.slice p n c, .slice (some ⟨g, o, none⟩) 1 d] w fun e w' => Ans w.heap.size w' e (a ^ x) ∧ Below w.heap.size w w' := by
  have hlim : a < LIM := nA.lim.1 (by rw [h.len]; exact hn)
  have hxb : x < 2 ^ 64 := by have : x < B64 := k.dig.getD B64_pos 0; exact this
  have hb0 := bitsN_lt x
  have hb1 := bitsN_le x (by omega)
  obtain ⟨S, hS⟩ : ∃ S, bitsN x = S + 1 := by
    refine ⟨bitsN x - 1, ?_⟩
    have : bitsN x ≠ 0 := by intro e; rw [e] at hb0; simp at hb0; omega
    omega
  have hS64 : S < 64 := by
    rw [hS, Nat.add_sub_cancel] at hb1
    have := Nat.lt_of_le_of_lt hb1 hxb
    exact (Nat.pow_lt_pow_iff_right (by omega)).1 this
  have HQ0 : Hid (x / 2 ^ (S - 0) = 1) := q_zero x S (by rw [← hS]; exact hb0) (by rw [hS, Nat.add_sub_cancel] at hb1; exact hb1)
  have hval : valB B64 [x] = x := by simp [valB]
  have HS : Hid (bitsN (valB B64 [x]) = S + 1) := by rw [hval]; exact hS
  have HA : Hid (Nf B64 xs a) := nA
  have HN := Nf.trim h.dig
  have HLIM : Hid (a < LIM) := hlim
  have HV : Hid (valB B64 xs = a) := nA.val
  have HX : Hid (0 < x) := hx
  have HP : Hid (0 < a) := ha
  clear nA hlim hval hS hb0 hb1 hxb HN hx ha
  go_enter Try.func18, Try.ntmps18
  go_wp2_with fail
  refine (norm_any h).mono ?_
  rintro e w1 ⟨ha1, hb1⟩
  rw [HV.out] at ha1
  obtain ⟨p1, m1, s1, rfl, ho1, n1, hm1⟩ := ha1.ok HLIM.out
  have k1 := k.below hb1
  have R1 : ClimbRel w a x S 0 p1 m1 w1 := ⟨⟨s1, ho1, by rw [HQ0.out, Nat.pow_one]; exact n1⟩, hm1, hb1⟩
  clear ha1 ho1 n1
  go_wp2_with fail
  refine (bits_any k1 (by omega)).mono ?_
  rintro e w2 ⟨rfl, hw⟩
  obtain rfl := hw.symm
  rw [HS.out]
  clear hw k1 hb1
  go_wp2_with fail
  go_loopw [6, 7, 19] (fun v ev i wr => ∃ (j : Nat) (pp : Option Addr) (mm : Nat), j ≤ S ∧ i = .int .i64 j ∧ v = .slice pp mm mm ∧ ev = .int .i64 0 ∧ ClimbRel w a x S j pp mm wr) (fun _ _ i _ => S - (intOf i).toNat)
  case atStart => exact ⟨0, p1, m1, Nat.zero_le _, rfl, rfl, rfl, R1⟩
  case round =>
    clear R1 hm1
    obtain ⟨j, pp, mm, hj, rfl, rfl, rfl, hR⟩ := hrel
    by_cases hlt : j < S
    · obtain ⟨⟨zs, hown, hnf⟩, hsm, hbel⟩ := hR
      have P0 := hown.at_ hsm
      have N0 : Hid (Nf B64 zs (a ^ (x / 2 ^ (S - j)))) := hnf
      have h0 := h.below hbel; have k0 := k.below hbel
      clear hown hnf
      go_wp2_with fail
      refine (sqr_any P0 N0.out hsm).mono ?_
      rintro e w3 ⟨ha3, hb3⟩
      have h3 := h0.below hb3; have k3 := k0.below hb3; have hw3 := Below.on hbel hb3
      have HSZ : Hid (w.heap.size ≤ wr.heap.size) := hbel.size
      clear h0 k0 P0 hb3 hbel
      rcases ha3 with ⟨hl3, p3, m3, s3, rfl, ho3, n3, hm3⟩ | ⟨hl3, rfl⟩
      · have S3 := ho3.at_ hm3
        have N3 : Hid (Nf B64 s3 (a ^ (x / 2 ^ (S - j)) * a ^ (x / 2 ^ (S - j)))) := n3
        have O3 : Hid (Own wr.heap.size w3 p3 m3 s3) := ho3
        clear hl3 ho3 n3
        go_wp2_with fail
        rw [show ((S : Int) - 1 - (j : Int)) = ((S - 1 - j : Nat) : Int) by omega]
        refine (bit_one k3 (by omega)).mono ?_
        rintro e w4 ⟨rfl, hw⟩
        obtain rfl := hw.symm
        clear hw
        by_cases hbit : x / 2 ^ (S - 1 - j) % 2 = 1
        · have HE : Hid (a ^ (x / 2 ^ (S - (j + 1))) = a ^ (x / 2 ^ (S - j)) * a ^ (x / 2 ^ (S - j)) * a) := pow_odd _ _ _ _ (q_step x S j hlt) hbit
          rw [decide_eq_true hbit]
          clear hbit
          go_wp2_with fail
          refine (mul_any S3 h3 N3.out HA.out hm3 hn).mono ?_
          rintro e w5 ⟨ha5, hb5⟩
          rw [← HE.out] at ha5
          have hw5 := Below.on hw3 hb5
          rcases ha5 with ⟨hl5, p5, m5, s5, rfl, ho5, n5, hm5⟩ | ⟨hl5, rfl⟩
          · have HR : Hid (ClimbRel w a x S (j + 1) p5 m5 w5) := ⟨⟨s5, own_le ho5 hw3.size, n5⟩, hm5, hw5⟩
            clear hl5 ho5 n5 hb5 hw3 hw5 h3 k3 S3
            go_wp2_with fail
            go_roundw
            case rel => exact ⟨j + 1, p5, m5, by omega, by go_num, rfl, rfl, HR.out⟩
            case measure => simp [intOf]; omega
          · have HL : Hid (LIM ≤ a ^ x) := Nat.le_trans hl5 (Nat.pow_le_pow_right HP.out (q_le x S (j + 1)))
            clear hl5 hb5 hw3 h3 k3 S3
            go_wp2_with fail
            go_ret2
            exact ⟨.inr ⟨HL.out, rfl⟩, hw5⟩
        · have HE : Hid (a ^ (x / 2 ^ (S - (j + 1))) = a ^ (x / 2 ^ (S - j)) * a ^ (x / 2 ^ (S - j))) := pow_even _ _ _ _ (q_step x S j hlt) (by omega)
          rw [decide_eq_false hbit]
          have HR : Hid (ClimbRel w a x S (j + 1) p3 m3 w3) := ⟨⟨s3, own_le O3.out HSZ.out, by rw [HE.out]; exact N3.out⟩, hm3, hw3⟩
          clear hbit h3 k3 S3 hw3
          go_wp2_with fail
          go_roundw
          case rel => exact ⟨j + 1, p3, m3, by omega, by go_num, rfl, rfl, HR.out⟩
          case measure => simp [intOf]; omega
      · have HL : Hid (LIM ≤ a ^ x) := by
          refine Nat.le_trans hl3 ?_
          rw [← Nat.pow_add]
          refine Nat.pow_le_pow_right HP.out ?_
          have := q_step x S j hlt
          have := q_le x S (j + 1)
          omega
        clear hl3 h3 k3
        go_wp2_with fail
        go_ret2
        exact ⟨.inr ⟨HL.out, rfl⟩, hw3⟩
    · obtain rfl : j = S := by omega
      obtain ⟨⟨zs, hown, hnf⟩, hsm, hbel⟩ := hR
      rw [Nat.sub_self, Nat.pow_zero, Nat.div_one] at hnf
      have N0 : Hid (Nf B64 zs (a ^ x)) := hnf
      have O0 : Hid (Own w.heap.size wr pp mm zs) := hown
      clear hown hnf
      go_wp2_with fail
      go_ret2
      exact ⟨.inl ⟨N0.out.lim.1 (by rw [O0.out.len]; exact hsm), pp, mm, zs, rfl, O0.out, N0.out, hsm⟩, hbel⟩
end Go.Proofs.Ytdkbfffpnpjpiaa
