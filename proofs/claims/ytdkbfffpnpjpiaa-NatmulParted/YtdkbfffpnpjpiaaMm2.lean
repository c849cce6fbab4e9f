import Derived.Test.YtdkbfffpnpjpiaaMm1
namespace Go.Proofs.Ytdkbfffpnpjpiaa
open Go.RowKit Go.Shelf

theorem LIM_two {E : Nat} (hE : E = 524288) : LIM = 2 ^ E := by
  obtain ⟨K, hK⟩ : ∃ K, K = 8192 := ⟨8192, rfl⟩
  rw [LIM_eq K hK, B64_pow]
  have : 64 * K = E := by omega
  rw [this]
theorem bits_mul {a b : Nat} (ha : a ≠ 0) (hb : b ≠ 0) (h : 524288 < bitsN a + bitsN b - 1) : LIM ≤ a * b := by
  obtain ⟨E, hE⟩ : ∃ E, E = 524288 := ⟨_, rfl⟩
  rw [LIM_two hE]
  have h1 := bitsN_le a ha
  have h2 := bitsN_le b hb
  refine Nat.le_trans ?_ (Nat.mul_le_mul h1 h2)
  rw [← Nat.pow_add]
  exact Nat.pow_le_pow_right (by decide) (by omega)
theorem nf32_zero {zs : List Nat} {v n : Nat} (h : Nf B32 zs v) (hl : zs.length = n) : n = 0 ↔ v = 0 := by
  rw [← h.zero_iff B32_one, ← hl]
  exact ⟨List.eq_nil_of_length_eq_zero, fun e => by rw [e]; rfl⟩
theorem LIM_pos : 0 < LIM := by
  obtain ⟨K, hK⟩ : ∃ K, K = 8192 := ⟨8192, rfl⟩
  rw [LIM_eq K hK]
  exact Nat.pow_pos B64_pos
theorem nf_nil : Nf B64 [] 0 := ⟨Dig.nil _, by intro x hx; simp at hx, rfl⟩
theorem bits_len32 {zs : List Nat} {v n : Nat} (h : Nf B32 zs v) (hl : zs.length = n) : bitsN v ≤ 32 * n := by
  rcases Nat.eq_zero_or_pos v with e | e
  · rw [e, bitsN_zero]; omega
  · have h1 : v < 2 ^ (32 * n) := by rw [← B32_pow, ← h.val, ← hl]; exact valB_lt B32_pos h.dig
    have h2 := bitsN_le v (by omega)
    rcases Nat.lt_or_ge (32 * n) (bitsN v) with f | f
    · exfalso
      have : (2:Nat) ^ (32 * n) ≤ 2 ^ (bitsN v - 1) := Nat.pow_le_pow_right (by decide) (by omega)
      omega
    · exact f

set_option maxRecDepth 20000 in
set_option maxHeartbeats 2000000 in
theorem productD {p q : Option Addr} {n m c d : Nat} {xs ys : List Nat} {a b : Nat} {w : World} (h : At32 w p n c xs) (k : At32 w q m d ys) (hx : Nf B32 xs a) (hy : Nf B32 ys b) (hn : n ≤ 16384) (hm : m ≤ 16384) :
    Calls Try.prog 40 #[.slice p n c, .slice q m d] w fun e w' => ∃ p' m' N' us f, e = .returned (.tuple #[.slice p' m' N', .int .i64 f]) ∧ At w' p' m' N' us ∧ DocIs (a * b) us f ∧ Below w.heap.size w w' := by
  have za := nf32_zero hx h.len
  have zb := nf32_zero hy k.len
  have HA : Hid (At32 w p n c xs) := h
  have HB : Hid (At32 w q m d ys) := k
  have HX : Hid (Nf B32 xs a) := hx
  have HY : Hid (Nf B32 ys b) := hy
  have hla := bits_len32 hx h.len
  have hlb := bits_len32 hy k.len
  clear h k hx hy
  rcases Nat.eq_zero_or_pos n with hn0 | hn0
  · subst hn0
    have h0 : Hid (a * b = 0) := by show _ = _; rw [za.1 rfl, Nat.zero_mul]
    clear za zb hla hlb
    go_enter Try.func40, Try.ntmps40
    go_wp2_with fail
    go_ret2
    exact ⟨none, 0, 0, [], 0, rfl, At.empty _ none 0 (by decide), .inl ⟨by rw [h0.out]; exact LIM_pos, by rw [h0.out]; exact nf_nil, rfl⟩, Below.refl _ _⟩
  · have hne : ((n : Int) == 0) = false := by simp; omega
    rcases Nat.eq_zero_or_pos m with hm0 | hm0
    · subst hm0
      have h0 : Hid (a * b = 0) := by show _ = _; rw [zb.1 rfl, Nat.mul_zero]
      clear za zb hla hlb
      go_enter Try.func40, Try.ntmps40
      go_wp2_with fail
      go_ret2
      exact ⟨none, 0, 0, [], 0, rfl, At.empty _ none 0 (by decide), .inl ⟨by rw [h0.out]; exact LIM_pos, by rw [h0.out]; exact nf_nil, rfl⟩, Below.refl _ _⟩
    · have hme : ((m : Int) == 0) = false := by simp; omega
      have ha0 : a ≠ 0 := fun e => by have := za.2 e; omega
      have hb0 : b ≠ 0 := fun e => by have := zb.2 e; omega
      have HA0 : Hid (a ≠ 0) := ha0
      have HB0 : Hid (b ≠ 0) := hb0
      obtain ⟨Ba, hBa⟩ : ∃ Ba, Ba = bitsN a := ⟨_, rfl⟩
      obtain ⟨Bb, hBb⟩ : ∃ Bb, Bb = bitsN b := ⟨_, rfl⟩
      have hp1 : 1 ≤ Ba := by rw [hBa]; unfold bitsN; rw [if_neg ha0]; omega
      have hp2 : 1 ≤ Bb := by rw [hBb]; unfold bitsN; rw [if_neg hb0]; omega
      rw [← hBa] at hla
      rw [← hBb] at hlb
      have hla' : Ba ≤ 524288 := by omega
      have hlb' : Bb ≤ 524288 := by omega
      obtain ⟨T, hT⟩ : ∃ T, T = Ba + Bb - 1 := ⟨_, rfl⟩
      have hsT : (Ba : Int) + (Bb : Int) - 1 = (T : Int) := by omega
      have HT : Hid (T = bitsN a + bitsN b - 1) := by rw [← hBa, ← hBb]; exact hT
      have hTb : T ≤ 1048576 := by omega
      have HBa : Hid (Ba = bitsN a) := hBa
      have HBb : Hid (Bb = bitsN b) := hBb
      clear za zb hla hlb ha0 hb0 hBa hBb hT
      go_enter Try.func40, Try.ntmps40
      go_wp2_with fail
      refine (rbits_any HA.out HX.out (by omega)).mono ?_
      rintro e w1 ⟨rfl, hw⟩
      rw [← HBa.out]
      obtain rfl := hw.symm
      clear hw
      go_wp2_with fail
      refine (rbits_any HB.out HY.out (by omega)).mono ?_
      rintro e w1 ⟨rfl, hw⟩
      rw [← HBb.out]
      obtain rfl := hw.symm
      clear hw
      go_wp2_with fail
      refine (least_any T (by omega) w).mono ?_
      rintro e w1 ⟨rfl, hw⟩
      obtain rfl := hw.symm
      clear hw
      obtain ⟨L, hL⟩ : ∃ L, L = (T + 63) / 64 := ⟨_, rfl⟩
      rw [← hL]
      have HL : Hid (L = (T + 63) / 64) := hL
      clear hL
      by_cases hc : 8192 < L
      · have hci : (8192 : Int) < (L : Int) := by omega
        go_wp2_with fail
        go_ret2
        exact ⟨none, 0, 0, [], 5, rfl, At.empty _ none 0 (by decide), .inr ⟨bits_mul HA0.out HB0.out (by have h1 := HL.out; have h2 := HT.out; omega), rfl, rfl⟩, Below.refl _ _⟩
      · have hci : ¬ (8192 : Int) < (L : Int) := by omega
        go_wp2_with fail
        refine (rmul_any HA.out HB.out HX.out HY.out (by omega) (by omega)).mono ?_
        rintro e w1 ⟨p1, m1, z1, rfl, hA1, hN1, hl1, hb1⟩
        have HA1 : Hid (At32 w1 p1 m1 m1 z1) := hA1
        have HN1 : Hid (Nf B32 z1 (a * b)) := hN1
        clear hA1 hN1
        go_wp2_with fail
        refine (rtold_any HA1.out HN1.out (by omega)).mono ?_
        rintro e w2 ⟨p2, m2, N2, us, f2, rfl, hA2, hD2, hb2⟩
        have HA2 : Hid (At w2 p2 m2 N2 us) := hA2
        have HD2 : Hid (DocIs (a * b) us f2) := hD2
        have hbw := Below.on hb1 hb2
        clear hA2 hD2 hb1 hb2
        go_wp2_with fail
        go_ret2
        exact ⟨p2, m2, N2, us, f2, rfl, HA2.out, HD2.out, hbw⟩

set_option maxRecDepth 20000 in
set_option maxHeartbeats 2000000 in
theorem docmulD {p q : Option Addr} {n m c d : Nat} {xs ys : List Nat} {w : World} (h : At w p n c xs) (k : At w q m d ys) :
    Calls Try.prog 30 #[.slice p n c, .slice q m d] w fun e w' => ∃ p' m' N' us f, e = .returned (.tuple #[.slice p' m' N', .int .i64 f]) ∧ At w' p' m' N' us ∧ MulIs xs ys us f ∧ Below w.heap.size w w' := by
  have HA : Hid (At w p n c xs) := h
  have HB : Hid (At w q m d ys) := k
  clear h k
  cases hx : formB xs
  · have HF : Hid ((formB xs && formB ys) = false) := by show _ = _; rw [hx]; rfl
    go_enter Try.func30, Try.ntmps30
    go_wp2_with fail
    refine (docform_any HA.out).mono ?_
    rintro e w1 ⟨rfl, hw⟩
    rw [hx]
    obtain rfl := hw.symm
    clear hw
    go_wp2_with fail
    go_ret2
    exact ⟨none, 0, 0, [], 2, rfl, At.empty _ none 0 (by decide), .inl ⟨HF.out, rfl, rfl⟩, Below.refl _ _⟩
  · cases hy : formB ys
    · have HF : Hid ((formB xs && formB ys) = false) := by show _ = _; rw [hx, hy]; rfl
      go_enter Try.func30, Try.ntmps30
      go_wp2_with fail
      refine (docform_any HA.out).mono ?_
      rintro e w1 ⟨rfl, hw⟩
      rw [hx]
      obtain rfl := hw.symm
      clear hw
      go_wp2_with fail
      refine (docform_any HB.out).mono ?_
      rintro e w1 ⟨rfl, hw⟩
      rw [hy]
      obtain rfl := hw.symm
      clear hw
      go_wp2_with fail
      go_ret2
      exact ⟨none, 0, 0, [], 2, rfl, At.empty _ none 0 (by decide), .inl ⟨HF.out, rfl, rfl⟩, Below.refl _ _⟩
    · have HFX : Hid (formB xs = true) := hx
      have HFY : Hid (formB ys = true) := hy
      have hn : n ≤ 8192 := by have := form_len hx; rw [HA.out.len] at this; exact this
      have hm : m ≤ 8192 := by have := form_len hy; rw [HB.out.len] at this; exact this
      go_enter Try.func30, Try.ntmps30
      go_wp2_with fail
      refine (docform_any HA.out).mono ?_
      rintro e w1 ⟨rfl, hw⟩
      rw [hx]
      obtain rfl := hw.symm
      clear hw
      go_wp2_with fail
      refine (docform_any HB.out).mono ?_
      rintro e w1 ⟨rfl, hw⟩
      rw [hy]
      obtain rfl := hw.symm
      clear hw hx hy
      go_wp2_with fail
      refine (from_any HA.out (by omega)).mono ?_
      rintro e w1 ⟨g1, z1, rfl, hg1, hk1, hn1, hl1, hb1⟩
      have A1 : Hid (At32 w1 (some ⟨g1, 0, none⟩) z1.length z1.length z1) := hk1.at_ hn1.dig rfl (by unfold maxLen; omega)
      have N1 : Hid (Nf B32 z1 (valB B64 xs)) := hn1
      have B1 : Hid (At w1 q m d ys) := HB.out.below hb1
      obtain ⟨l1, hl1e⟩ : ∃ l1, l1 = z1.length := ⟨_, rfl⟩
      rw [← hl1e] at A1 hl1 ⊢
      clear hk1 hn1 hg1 hl1e
      go_wp2_with fail
      refine (from_any B1.out (by omega)).mono ?_
      rintro e w2 ⟨g2, z2, rfl, hg2, hk2, hn2, hl2, hb2⟩
      have A2 : Hid (At32 w2 (some ⟨g2, 0, none⟩) z2.length z2.length z2) := hk2.at_ hn2.dig rfl (by unfold maxLen; omega)
      have N2 : Hid (Nf B32 z2 (valB B64 ys)) := hn2
      have A1' : Hid (At32 w2 (some ⟨g1, 0, none⟩) l1 l1 z1) := A1.out.below hb2
      have hbw := Below.on hb1 hb2
      obtain ⟨l2, hl2e⟩ : ∃ l2, l2 = z2.length := ⟨_, rfl⟩
      rw [← hl2e] at A2 hl2 ⊢
      clear hk2 hn2 hg2 hl2e A1 hb1 hb2 B1
      go_wp2_with fail
      refine (productD A1'.out A2.out N1.out N2.out (by omega) (by omega)).mono ?_
      rintro e w3 ⟨p3, m3, N3, us, f3, rfl, hA3, hD3, hb3⟩
      have HA3 : Hid (At w3 p3 m3 N3 us) := hA3
      have HD3 : Hid (MulIs xs ys us f3) := by
        rcases hD3 with ⟨h1, h2, h3⟩ | ⟨h1, h2, h3⟩
        · exact .inr (.inl ⟨HFX.out, HFY.out, h1, h2, h3⟩)
        · exact .inr (.inr ⟨HFX.out, HFY.out, h1, h2, h3⟩)
      have hbw3 := Below.on hbw hb3
      clear hA3 hD3 hbw hb3
      go_wp2_with fail
      go_ret2
      exact ⟨p3, m3, N3, us, f3, rfl, HA3.out, HD3.out, hbw3⟩

set_option maxRecDepth 20000 in
set_option maxHeartbeats 2000000 in
theorem docsqrD {p : Option Addr} {n c : Nat} {xs : List Nat} {w : World} (h : At w p n c xs) :
    Calls Try.prog 31 #[.slice p n c] w fun e w' => ∃ p' m' N' us f, e = .returned (.tuple #[.slice p' m' N', .int .i64 f]) ∧ At w' p' m' N' us ∧ MulIs xs xs us f ∧ Below w.heap.size w w' := by
  go_enter Try.func31, Try.ntmps31
  go_wp2_with fail
  refine (docmulD h h).mono ?_
  rintro e w1 ⟨p1, m1, N1, us, f1, rfl, hA, hM, hb⟩
  have HA : Hid (At w1 p1 m1 N1 us) := hA
  have HM : Hid (MulIs xs xs us f1) := hM
  clear hA hM
  go_wp2_with fail
  go_ret2
  exact ⟨p1, m1, N1, us, f1, rfl, HA.out, HM.out, hb⟩
end Go.Proofs.Ytdkbfffpnpjpiaa
