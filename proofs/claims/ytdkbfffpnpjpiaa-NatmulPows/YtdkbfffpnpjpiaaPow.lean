import Derived.Test.YtdkbfffpnpjpiaaClimb
namespace Go.Proofs.Ytdkbfffpnpjpiaa
open Go.RowKit

theorem LIM_twoP (k : Nat) (hk : k = 524288) : LIM = 2 ^ k := by
  obtain ⟨K, hK⟩ : ∃ K, K = 8192 := ⟨_, rfl⟩
  rw [LIM_eq K hK, B64_pow, show 64 * K = k by omega]
theorem pow_lim {a T t : Nat} (h : 2 ^ T ≤ a) (hT : 0 < T) (ht : 524287 / T < t) : LIM ≤ a ^ t := by
  have h1 := (Nat.div_lt_iff_lt_mul hT).1 ht
  obtain ⟨k, hk⟩ : ∃ k, k = 524288 := ⟨_, rfl⟩
  rw [LIM_twoP k hk]
  refine Nat.le_trans (Nat.pow_le_pow_right (n := 2) (by omega) (show k ≤ T * t by rw [Nat.mul_comm]; omega)) ?_
  rw [Nat.pow_mul]
  exact Nat.pow_le_pow_left h t
theorem LIM_one : 1 < LIM := (nf_one (x := 1) (by decide) (by decide)).lim.1 (by simp)

set_option maxRecDepth 20000 in
set_option maxHeartbeats 400000 in
theorem pow_neg (v : Value) (t : Int) (w : World) (ht : t < 0) :
    Calls Try.prog 7 #[v, .int .i64 t] w fun e w' => e = .returned (.tuple #[.slice none 0 0, .int .i64 1]) ∧ w' = w := by
  go_enter Try.func7, Try.ntmps7
  go_wp2_with fail
  go_ret2
  exact ⟨rfl, rfl⟩

set_option maxRecDepth 20000 in
set_option maxHeartbeats 2000000 in
theorem pow_any {p : Option Addr} {n c : Nat} {xs : List Nat} {a : Nat} {w : World} (h : At w p n c xs) (nA : Nf B64 xs a) (hn : n ≤ 8192) (t : Nat) (ht : t < 9223372036854775808) :
    Calls Try.prog 7 #[.slice p n c, .int .i64 t] w fun e w' => Ans w.heap.size w' e (a ^ t) ∧ Below w.heap.size w w' := by
  have fx := nA.form (by rw [h.len]; exact hn)
  have HA : Hid (Nf B64 xs a) := nA
  have HV : Hid (valB B64 xs = a) := nA.val
  have HLA : Hid (a < LIM) := nA.lim.1 (by rw [h.len]; exact hn)
  clear nA
  by_cases h0 : t = 0
  · subst h0
    go_enter Try.func7, Try.ntmps7
    go_wp2_with fail
    refine (form_true h fx).mono ?_
    rintro e w' ⟨rfl, hw⟩
    obtain rfl := hw.symm
    clear hw fx
    go_wp2_with fail
    refine (word_any 1 w (by decide)).mono ?_
    rintro e w1 ⟨p1, m1, zs, rfl, ho, hN, hm1, hb⟩
    have HN : Hid (Nf B64 zs 1) := hN
    clear hN
    go_wp2_with fail
    go_ret2
    rw [Nat.pow_zero]
    exact ⟨.inl ⟨LIM_one, p1, m1, zs, rfl, ho, HN.out, by omega⟩, hb⟩
  · have h0' : ((t : Int) == 0) = false := by simp; omega
    have hneg : decide ((t : Int) < 0) = false := by simp
    have H0 : Hid (0 < t) := by show 0 < t; omega
    have H63 : Hid (t < 9223372036854775808) := ht
    by_cases ha1 : a ≤ 1
    · have HB : Hid (bitsN (valB B64 xs) = a) := by
        rw [HV.out]
        rcases (show a = 0 ∨ a = 1 by omega) with rfl | rfl <;> rfl
      have HE : Hid (a ^ t = a) := by
        rcases (show a = 0 ∨ a = 1 by omega) with rfl | rfl
        · exact Nat.zero_pow (by omega)
        · exact Nat.one_pow t
      clear ht h0
      go_enter Try.func7, Try.ntmps7
      go_wp2_with fail
      refine (form_true h fx).mono ?_
      rintro e w' ⟨rfl, hw⟩
      obtain rfl := hw.symm
      clear hw fx
      go_wp2_with fail
      refine (bits_any h (by omega)).mono ?_
      rintro e w' ⟨rfl, hw⟩
      obtain rfl := hw.symm
      clear hw
      rw [HB.out]
      have hc : decide ((a : Int) - 1 < 1) = true := by simp; omega
      go_wp2_with fail
      refine (norm_any h).mono ?_
      rintro e w1 ⟨ha, hb⟩
      rw [HV.out] at ha
      obtain ⟨p1, m1, zs, rfl, ho, hN, hm1⟩ := ha.ok HLA.out
      have HN : Hid (Nf B64 zs a) := hN
      clear hN ha
      go_wp2_with fail
      go_ret2
      rw [HE.out]
      exact ⟨.inl ⟨HLA.out, p1, m1, zs, rfl, ho, HN.out, hm1⟩, hb⟩
    · have hb0 := bitsN_lt a
      have hb1 := bitsN_le a (by omega)
      obtain ⟨T, hT⟩ : ∃ T, bitsN a = T + 1 := by
        refine ⟨bitsN a - 1, ?_⟩
        have : bitsN a ≠ 0 := by intro e; rw [e] at hb0; simp at hb0; omega
        omega
      have hT0 : 0 < T := by
        rcases Nat.eq_zero_or_pos T with h | h
        · rw [hT, h] at hb0; simp at hb0; omega
        · exact h
      rw [hT, Nat.add_sub_cancel] at hb1
      have HB1 : Hid (2 ^ T ≤ a) := hb1
      have HT : Hid (bitsN (valB B64 xs) = T + 1) := by rw [HV.out]; exact hT
      have e1 : (524287 : Int).tdiv (T : Int) = ((524287 / T : Nat) : Int) := by
        rw [Int.tdiv_eq_ediv_of_nonneg (by omega)]; simp
      have hT0' : ((T : Int) == 0) = false := by simp; omega
      obtain ⟨Q, hQ⟩ : ∃ Q, Q = 524287 / T := ⟨_, rfl⟩
      have hQb : Q ≤ 524287 := by rw [hQ]; exact Nat.div_le_self _ _
      rw [← hQ] at e1
      have HQ : Hid (Q = 524287 / T) := hQ
      have HP : Hid (0 < a) := by show 0 < a; omega
      have hTb : T ≤ 524288 := by
        obtain ⟨k, hk⟩ : ∃ k, k = 524288 := ⟨_, rfl⟩
        have h2 := HLA.out
        rw [LIM_twoP k hk] at h2
        have := (Nat.pow_lt_pow_iff_right (a := 2) (by omega)).1 (Nat.lt_of_le_of_lt hb1 h2)
        omega
      clear hb0 hb1 hT hQ ha1
      clear ht h0
      go_enter Try.func7, Try.ntmps7
      go_wp2_with fail
      refine (form_true h fx).mono ?_
      rintro e w' ⟨rfl, hw⟩
      obtain rfl := hw.symm
      clear hw fx
      go_wp2_with fail
      refine (bits_any h (by omega)).mono ?_
      rintro e w' ⟨rfl, hw⟩
      obtain rfl := hw.symm
      clear hw
      rw [HT.out]
      have hT1 : decide ((T : Int) < 1) = false := by simp; omega
      by_cases hbig : Q < t
      · have hbig' : decide ((Q : Int) < (t : Int)) = true := by simp; omega
        go_wp2_with fail
        go_ret2
        exact ⟨.inr ⟨pow_lim HB1.out hT0 (by rw [← HQ.out]; exact hbig), rfl⟩, Below.refl _ _⟩
      · have hwr : IntKind.u64.wrap (t : Int) = t := by have := H63.out; rw [IntKind.wrap_u64]; omega
        have hbig' : decide ((Q : Int) < (t : Int)) = false := by simp; omega
        go_wp2_with fail
        refine (word_any t w (by have := H63.out; rw [B64_eq]; omega)).mono ?_
        rintro e w1 ⟨p1, m1, zs, rfl, ho, hN, hm1, hb⟩
        obtain rfl : zs = [t] := hN.inj B64_one (nf_one (by have := H63.out; rw [B64_eq]; omega) (by have := H0.out; omega))
        obtain rfl : 1 = m1 := ho.len
        have K1 := ho.at_ (by omega)
        obtain ⟨g, rfl, _, _⟩ := ho.mem.resolve_left (by omega)
        have h1 := h.below hb
        clear ho hN hm1
        go_wp2_with fail
        refine (climb_any h1 HA.out hn K1 HP.out H0.out).mono ?_
        rintro e w2 ⟨ha2, hb2⟩
        have hw2 := Below.on hb hb2
        have hsz := hb.size
        have HSZ : Hid (w.heap.size ≤ w1.heap.size) := hsz
        clear hb hb2 K1 h1 hsz
        rcases ha2 with ⟨hl, p2, m2, s2, rfl, ho, hN, hm2⟩ | ⟨hl, rfl⟩
        · have HL : Hid (a ^ t < LIM) := hl
          have HN : Hid (Nf B64 s2 (a ^ t)) := hN
          clear hl hN
          go_wp2_with fail
          go_ret2
          exact ⟨.inl ⟨HL.out, p2, m2, s2, rfl, own_le ho HSZ.out, HN.out, hm2⟩, hw2⟩
        · have HL : Hid (LIM ≤ a ^ t) := hl
          clear hl
          go_wp2_with fail
          go_ret2
          exact ⟨.inr ⟨HL.out, rfl⟩, hw2⟩
end Go.Proofs.Ytdkbfffpnpjpiaa
