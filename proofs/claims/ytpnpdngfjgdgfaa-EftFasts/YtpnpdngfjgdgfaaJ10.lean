import Derived.Test.YtpnpdngfjgdgfaaJ7
import Derived.Test.YtpnpdngfjgdgfaaJ9
namespace Go.Proofs.Ytpnpdngfjgdgfaa
open Go.RowKit
set_option maxRecDepth 20000
set_option maxHeartbeats 0
theorem FlR.add {x y r : Nat} (h : FlR .add x y r) (hx : Fin64 x) (hy : Fin64 y) (hm : (ux x + ux y).natAbs ≤ MaxU) : Sm64 (ux x + ux y) r := by
  obtain ⟨v, h1, h2⟩ := fl_add_fin hx hy hm
  rw [h.some v h1]; exact h2
theorem FlR.sub {x y r : Nat} (h : FlR .sub x y r) (hx : Fin64 x) (hy : Fin64 y) (hm : (ux x - ux y).natAbs ≤ MaxU) : Sm64 (ux x - ux y) r := by
  obtain ⟨v, h1, h2⟩ := fl_sub_fin hx hy hm
  rw [h.some v h1]; exact h2
theorem ux_abs (b : Nat) : (ux b).natAbs = vs 4503599627370496 (b % 9223372036854775808) := by
  rw [ux_eq]; split <;> omega
theorem vs_le4 {s t : Nat} (h : s ≤ t) : vs 4503599627370496 s ≤ vs 4503599627370496 t := by
  rcases Nat.lt_or_eq_of_le h with h1 | h1
  · exact Nat.le_of_lt (vs_mono (by omega) h1)
  · rw [h1]; exact Nat.le_refl _
theorem ux_pow {b K : Nat} (h : b % 9223372036854775808 ≤ (K + 1) * 4503599627370496) : (ux b).natAbs ≤ 2 ^ (52 + K) := by
  rw [ux_abs]
  refine Nat.le_trans (vs_le4 h) (Nat.le_of_eq ?_)
  have := vs_at K 4503599627370496 (.inr (Nat.le_refl _)) (by omega)
  rw [show (K + 1) * 4503599627370496 = K * 4503599627370496 + 4503599627370496 by omega, this, Nat.pow_add, show (2 : Nat) ^ 52 = 4503599627370496 by decide]
theorem Rn.bound {p : Nat} {x s : Int} {K : Nat} (h : Rn p x s) (hx : x.natAbs ≤ 2 ^ K) : s.natAbs ≤ 2 ^ K := by
  have h1 := h.hi (Fl.pow p K) (by omega)
  have h2 := h.neg.hi (Fl.pow p K) (by omega)
  omega
theorem Rn.near1 {x s : Int} {M : Nat} (h : Rn 53 x s) (hs : s.natAbs ≤ 4 * M) : (x - s).natAbs ≤ M := by
  have h1 := h.little (by omega)
  rw [show (2 : Nat) ^ 53 = 9007199254740992 by decide] at h1
  omega
theorem max_big {K M : Nat} (hK : K = 2044) (h : M = 2 ^ (52 + K)) : 3 * M ≤ MaxU ∧ 2 ^ (53 + K) = 2 * M := by
  have h1 : 2 ^ (52 + K) = 2251799813685248 * 2 ^ (K + 1) := by
    rw [show (2251799813685248 : Nat) = 2 ^ 51 by decide, ← Nat.pow_add]
    congr 1
    omega
  have h2 : 2 ^ (53 + K) = 2 * 2 ^ (52 + K) := by rw [show 53 + K = 52 + K + 1 by omega, p2succ]
  refine ⟨?_, by rw [h2, h]⟩
  rw [MaxU_eq (show K + 1 = 2045 by omega), h, h1]
  generalize 2 ^ (K + 1) = z
  omega
theorem pow1022 {a K : Nat} (hK : K = 2044) (h : a % 9223372036854775808 ≤ 9209861237972664320) : (ux a).natAbs ≤ 2 ^ (52 + K) := ux_pow (by omega)
theorem TSR.ok {a b s r : Nat} (h : TSR a b s r) (ha : a < 18446744073709551616) (hb : b < 18446744073709551616) (ka : a % 9223372036854775808 ≤ 9209861237972664320) (kb : b % 9223372036854775808 ≤ 9209861237972664320) :
    Sm64 (ux a + ux b) s ∧ Fin64 r ∧ ux s + ux r = ux a + ux b := by
  obtain ⟨ob, oa, da, db, F1, F2, F3, F4, F5, F6⟩ := h
  have fa : Fin64 a := ⟨ha, by omega⟩
  have fb : Fin64 b := ⟨hb, by omega⟩
  obtain ⟨K, hK⟩ : ∃ K, K = 2044 := ⟨_, rfl⟩
  have ma := pow1022 hK ka
  have mb := pow1022 hK kb
  obtain ⟨M, hM⟩ : ∃ M, M = 2 ^ (52 + K) := ⟨_, rfl⟩
  obtain ⟨m3, m2⟩ := max_big hK hM
  rw [← hM] at ma mb
  have S1 := F1.add fa fb (by omega)
  have bs := S1.rn.bound (K := 53 + K) (by rw [m2]; omega)
  rw [m2] at bs
  have e1 := S1.rn.near1 (M := M) (by omega)
  have S2 := F2.sub S1.fin fa (by omega)
  have bb := S2.rn.bound (K := 53 + K) (by rw [m2]; omega)
  rw [m2] at bb
  have e2 := S2.rn.near1 (M := M) (by omega)
  have S3 := F3.sub S1.fin S2.fin (by omega)
  have ba := S3.rn.bound (K := 53 + K) (by rw [m2]; omega)
  rw [m2] at ba
  have S4 := F4.sub fa S3.fin (by omega)
  have S5 := F5.sub fb S2.fin (by omega)
  have hd := two_sum_a (by omega) fa.fl fb.fl S1.rn S2.rn S3.rn S4.rn S5.rn
  have S6 := F6.add S4.fin S5.fin (by omega)
  exact ⟨S1, S6.fin, two_sum (by omega) fa.fl fb.fl S1.rn S2.rn S3.rn S4.rn S5.rn S6.rn⟩
theorem FSR.ok {a b s r : Nat} (h : FSR a b s r) (ha : a < 18446744073709551616) (hb : b < 18446744073709551616) (ka : a % 9223372036854775808 ≤ 9209861237972664320) (kb : b % 9223372036854775808 ≤ 9209861237972664320) (hab : a % 9223372036854775808 = 0 ∨ b % 9223372036854775808 ≤ a % 9223372036854775808) :
    Sm64 (ux a + ux b) s ∧ Fin64 r ∧ ux s + ux r = ux a + ux b := by
  obtain ⟨t, F1, F2, F3⟩ := h
  have fa : Fin64 a := ⟨ha, by omega⟩
  have fb : Fin64 b := ⟨hb, by omega⟩
  obtain ⟨K, hK⟩ : ∃ K, K = 2044 := ⟨_, rfl⟩
  have ma := pow1022 hK ka
  have mb := pow1022 hK kb
  have hab : ux a = 0 ∨ (ux b).natAbs ≤ (ux a).natAbs := by
    rcases hab with h | h
    · refine .inl ?_
      have := ux_abs a
      rw [h, vs_zero] at this
      omega
    · refine .inr ?_
      rw [ux_abs, ux_abs]; exact vs_le4 h
  obtain ⟨M, hM⟩ : ∃ M, M = 2 ^ (52 + K) := ⟨_, rfl⟩
  obtain ⟨m3, m2⟩ := max_big hK hM
  rw [← hM] at ma mb
  have S1 := F1.add fa fb (by omega)
  have bs := S1.rn.bound (K := 53 + K) (by rw [m2]; omega)
  rw [m2] at bs
  have e1 := S1.rn.near1 (M := M) (by omega)
  have S2 := F2.sub S1.fin fa (by omega)
  have bb := S2.rn.bound (K := 53 + K) (by rw [m2]; omega)
  rw [m2] at bb
  have S3 := F3.sub fb S2.fin (by omega)
  exact ⟨S1, S3.fin, fast_sum (by omega) fa.fl fb.fl hab S1.rn S2.rn S3.rn⟩
end Go.Proofs.Ytpnpdngfjgdgfaa
namespace Go.Proofs.Ytpnpdngfjgdgfaa
open Go.RowKit Go.Shelf
set_option maxRecDepth 20000
set_option maxHeartbeats 0
theorem sz_vs (v : Nat) (hv : v ≠ 0) : vs 4503599627370496 (szN v) = v / 2 ^ (v.log2 - 52) * 2 ^ (v.log2 - 52) ∧ vs 4503599627370496 (szN v + 1) = (v / 2 ^ (v.log2 - 52) + 1) * 2 ^ (v.log2 - 52) ∧ szN v % 2 = v / 2 ^ (v.log2 - 52) % 2 := by
  have h1 := sz_lt v
  have h2 : v.log2 - 52 = 0 ∨ 4503599627370496 ≤ v / 2 ^ (v.log2 - 52) := by
    by_cases h : v.log2 - 52 = 0
    · exact .inl h
    · refine .inr ((Nat.le_div_iff_mul_le (p2pos _)).2 ?_)
      have hl : 2 ^ v.log2 ≤ v := Nat.log2_self_le hv
      refine Nat.le_trans ?_ hl
      rw [show (4503599627370496 : Nat) = 2 ^ 52 by decide, ← Nat.pow_add]
      exact p2le (by omega)
  unfold szN
  refine ⟨vs_at _ _ h2 (by omega), ?_, by omega⟩
  have := vs_at (v.log2 - 52) (v / 2 ^ (v.log2 - 52) + 1) (by omega) (by omega)
  rw [← this, Nat.add_assoc]
def upB (c : Int) (s : Nat) : Nat := s + (decide (0 < c) || (decide (c = 0) && decide (s % 2 = 1))).toNat
theorem rne_cmp (v L s : Nat) (hs : s % 2 = v / 2 ^ L % 2) (c : Int) (hc : c = cmpI ((v : Int) * 2) (((2 * (v / 2 ^ L) + 1) * 2 ^ L : Nat) : Int)) : upB c s = s + (rne v L - v / 2 ^ L) := by
  have h1 := Nat.div_add_mod v (2 ^ L)
  have h2 : (2 * (v / 2 ^ L) + 1) * 2 ^ L = 2 * (2 ^ L * (v / 2 ^ L)) + 2 ^ L := by rw [Nat.add_mul, Nat.one_mul, Nat.mul_assoc, Nat.mul_comm (v / 2 ^ L)]
  unfold upB rne
  rw [h2] at hc
  generalize hr : v % 2 ^ L = r at *
  generalize hq : v / 2 ^ L = q at *
  generalize 2 ^ L = D at *
  generalize D * q = Y at *
  rw [Nat.add_sub_cancel_left]
  congr 2
  rcases Nat.lt_trichotomy D (2 * r) with h | h | h
  · rw [cmp_gt (by omega)] at hc
    subst hc
    rw [decide_eq_true h]; rfl
  · have h5 : c = 0 := by rw [hc]; unfold cmpI; rw [if_neg (by omega), if_pos (by omega)]
    subst h5
    rw [decide_eq_false (show ¬ D < 2 * r by omega), hs, h]
    rcases Nat.mod_two_eq_zero_or_one q with h3 | h3 <;> rw [h3] <;> simp
  · rw [cmp_lt (by omega)] at hc
    subst hc
    rw [decide_eq_false (show ¬ D < 2 * r by omega), show (D == 2 * r) = false by simp; omega]
    rfl
theorem rg_up (v : Nat) (hv : v ≠ 0) (c : Int) (hc : c = cmpI ((v : Int) * 2) ((vs 4503599627370496 (szN v) : Int) + (vs 4503599627370496 (szN v + 1) : Int))) : min (upB c (szN v)) 9218868437227405312 = rg 0 v := by
  obtain ⟨h1, h2, h3⟩ := sz_vs v hv
  rw [h1, h2, ← Int.natCast_add, ← Nat.add_mul, show v / 2 ^ (v.log2 - 52) + (v / 2 ^ (v.log2 - 52) + 1) = 2 * (v / 2 ^ (v.log2 - 52)) + 1 by omega] at hc
  rw [rne_cmp v _ _ h3 c hc]
  unfold rg szN
  rw [if_neg hv, Nat.sub_zero]
  have h4 : v / 2 ^ (v.log2 - 52) ≤ rne v (v.log2 - 52) := by unfold rne; omega
  generalize v / 2 ^ (v.log2 - 52) = q at h4 ⊢
  rw [show (v.log2 - 52) * 4503599627370496 + q + (rne v (v.log2 - 52) - q) = (v.log2 - 52) * 4503599627370496 + rne v (v.log2 - 52) by omega]
theorem min_lit (s : Nat) : min (s : Int) 9218868437227405312 = ((min s 9218868437227405312 : Nat) : Int) := by omega
theorem min_lit1 (s : Nat) : min ((s : Int) + 1) 9218868437227405312 = ((min (s + 1) 9218868437227405312 : Nat) : Int) := by omega
theorem bits_le_of {n k : Nat} (h : n < 2 ^ k) : bitsN n ≤ k := by
  by_cases h0 : n = 0
  · subst h0; exact Nat.zero_le _
  · have h1 := bitsN_le n h0
    have h2 := bitsN_pos h0
    have := p2lt (Nat.lt_of_le_of_lt h1 h)
    omega
theorem nf_len5 {w : World} {p : Option Addr} {m c : Nat} {zs : List Nat} {v : Nat} (h : At32 w p m c zs) (hN : Nf B32 zs v) {K : Nat} (hb : bitsN v ≤ K) : m ≤ K := by
  have h1 := (hN.len_le B32_one (k := K)).2 (Nat.lt_of_lt_of_le (Nat.lt_of_lt_of_le (bitsN_lt v) (p2le hb)) (Nat.pow_le_pow_left (by decide) K))
  rw [h.len] at h1
  exact h1
theorem rround_z {p : Option Addr} {e : Int} {w : World} (h0 : -10000 ≤ e) (h1 : e ≤ 10000) :
    Calls Try.prog 47 #[FV 9223372036854775808 53 (-1074) 971 9218868437227405312 9221120237041090561, .slice p 0 0, .int .i64 e] w fun en w' => en = .returned (U 0) ∧ Below w.heap.size w w' := by
  have w1 : IntKind.i64.wrap ((0 : Int) + e) = e := by simp [IntKind.wrap, IntKind.signed, IntKind.bits]; omega
  have w2 : wrap64 ((0 : Int) + e) = e := by simp only [wrap64]; omega
  have hAt : ∀ W : World, At32 W p 0 0 [] := fun W => ⟨rfl, by omega, by unfold maxLen; omega, Dig.nil _, .inl rfl⟩
  have HAt : Hid (∀ W : World, At32 W p 0 0 []) := hAt
  have HE : Hid (-10000 ≤ e ∧ e ≤ 10000) := ⟨h0, h1⟩
  clear h0 h1 hAt
  go_enter Try.func47, Try.ntmps47
  go_wp2_with fail
  obtain ⟨W0, hW0⟩ : ∃ W0, W0 = (w.alloc (.cells #[U 9223372036854775808, .int .i64 53, .int .i64 (-1074), .int .i64 971, U 9218868437227405312, U 9221120237041090561] 60)) := ⟨_, rfl⟩
  have Xk : Hid (B6q W0 (w.heap.size) (U 9223372036854775808) (.int .i64 53) (.int .i64 (-1074)) (.int .i64 971) (U 9218868437227405312) (U 9221120237041090561)) := by rw [hW0]; exact ⟨by go_simp, by go_simp, by go_simp, by go_simp, by go_simp, by go_simp, by go_simp, by go_simp, by go_simp, by go_simp, by go_simp, by go_simp⟩
  have hb0 : Below w.heap.size w W0 := by rw [hW0]; exact below1 w _
  rw [← hW0]
  clear hW0
  have hbw : Below w.heap.size w w := Below.refl _ _
  obtain ⟨gk, hgk⟩ : ∃ g, g = w.heap.size := ⟨_, rfl⟩
  have HGk : Hid (w.heap.size ≤ gk) := by rw [hgk]; show _ ≤ _; omega
  rw [← hgk] at Xk
  try rw [← hgk]
  clear hgk
  replace hbw := Below.on hbw hb0
  clear hb0
  refine (rbits_any (HAt.out _) ⟨Dig.nil _, by intro x hx; simp at hx, rfl⟩ (by omega)).mono ?_
  rintro e1 w1 ⟨rfl, hw⟩
  rw [show ((bitsN (valB B32 []) : Nat) : Int) = 0 from rfl]
  obtain rfl := hw.symm
  clear hw
  obtain ⟨ck0, ck1, ck2, ck3, ck4, ck5, fk0, fk1, fk2, fk3, fk4, fk5⟩ := Xk.out
  have hnek : gk < W0.heap.size := World.block_lt_of_cell? W0 _ ck0
  go_wp2_with fail
  clear ck0 ck1 ck2 ck3 ck4 ck5 fk0 fk1 fk2 fk3 fk4 fk5 hnek
  go_ret
  exact ⟨rfl, hbw⟩
theorem rround_s {p : Option Addr} {n : Nat} {zs : List Nat} {v : Nat} {w : World} (h : At32 w p n n zs) (hx : Nf B32 zs v) (hn : n ≤ 10000) (hv : v ≠ 0) (hb : bitsN v ≤ 2098) :
    Calls Try.prog 47 #[FV 9223372036854775808 53 (-1074) 971 9218868437227405312 9221120237041090561, .slice p n n, .int .i64 (-1074)] w fun en w' => en = .returned (U (rg 0 v)) ∧ Below w.heap.size w w' := by
  obtain ⟨b, hbe⟩ : ∃ b, b = bitsN v := ⟨_, rfl⟩
  have hb1 := bitsN_pos hv
  rw [← hbe] at hb hb1
  obtain ⟨s, hs⟩ : ∃ s, s = szN v := ⟨_, rfl⟩
  have hs9 : s < 9223372036854775807 := by
    have h1 := sz_lt v
    have h2 := log2_bits v
    rw [hs]; unfold szN; omega
  obtain ⟨c, hc⟩ : ∃ c, c = cmpI ((v : Int) * 2 ^ 1) (ux s + ux (s + 1)) := ⟨_, rfl⟩
  have hu1 : ux s = (vs 4503599627370496 s : Int) := by rw [ux_eq, if_neg (by omega), Nat.mod_eq_of_lt (by omega)]
  have hu2 : ux (s + 1) = (vs 4503599627370496 (s + 1) : Int) := by rw [ux_eq, if_neg (by omega), Nat.mod_eq_of_lt (by omega)]
  have HCC : Hid ((c = -1 ∨ c = 0 ∨ c = 1) ∧ min (upB c s) 9218868437227405312 = rg 0 v) := by
    refine ⟨?_, ?_⟩
    · rw [hc]; unfold cmpI; split
      · exact .inl rfl
      · split
        · exact .inr (.inl rfl)
        · exact .inr (.inr rfl)
    · have := rg_up v hv c (by rw [hc, hu1, hu2, hs, Int.pow_succ, Int.pow_zero, Int.one_mul])
      rw [← hs] at this
      exact this
  have HTW : Hid (0 < ux s + ux (s + 1) ∧ bitsN (ux s + ux (s + 1)).natAbs ≤ 100000 ∧ cmpI ((v : Int) * 2 ^ 1) (ux s + ux (s + 1)) = c) := by
    refine ⟨?_, ?_, hc.symm⟩
    · have : vs 4503599627370496 s < vs 4503599627370496 (s + 1) := vs_mono (by omega) (by omega)
      rw [hu1, hu2]
      omega
    · obtain ⟨L, hL⟩ : ∃ L, L = 2200 := ⟨_, rfl⟩
      have h1 : (ux s).natAbs < 2 ^ L := svS_lt s (a := 52) (c := 2048) (by decide) (by decide) (by decide) (by decide) (by omega)
      have h2 : (ux (s + 1)).natAbs < 2 ^ L := svS_lt (s + 1) (a := 52) (c := 2048) (by decide) (by decide) (by decide) (by decide) (by omega)
      have h3 := bits_le_of (n := (ux s + ux (s + 1)).natAbs) (k := L + 1) (by rw [p2succ]; omega)
      omega
  have n0 : ((n : Int) == 0) = false := by
    have hl := h.len
    have : n ≠ 0 := fun h0 => by
      subst h0
      have : zs = [] := List.eq_nil_of_length_eq_zero hl
      subst this
      exact hv hx.val.symm
    simp; omega
  have n1 : ¬ n = 0 := by simpa using n0
  obtain ⟨t, ht⟩ : ∃ t : Int, t = (b : Int) - 1074 := ⟨_, rfl⟩
  have w1 : wrap64 ((b : Int) + -1074) = t := by rw [ht]; simp only [wrap64]; omega
  have w1' : IntKind.i64.wrap ((b : Int) + -1074) = t := by rw [ht]; simp [IntKind.wrap, IntKind.signed, IntKind.bits]; omega
  have c1 : decide (t < -1074) = false := decide_eq_false (by omega)
  have c2 : decide (1024 < t) = false := decide_eq_false (by omega)
  have w5 : IntKind.i64.wrap (-1075) = -1075 := by decide
  have w3 : IntKind.u64.wrap ((s : Int) + 1) = ((s + 1 : Nat) : Int) := by rw [IntKind.wrap_u64]; omega
  have HA : Hid (At32 w p n n zs) := h
  have HX : Hid (Nf B32 zs v ∧ n ≤ 10000 ∧ b = bitsN v ∧ s = szN v ∧ v ≠ 0 ∧ bitsN v ≤ 2098 ∧ s < 9223372036854775807) := ⟨hx, hn, hbe, hs, hv, by omega, hs9⟩
  clear h hx hn hbe hs hv hb hb1 ht hs9 hc hu1 hu2
  go_enter Try.func47, Try.ntmps47
  go_wp2_with fail
  obtain ⟨W0, hW0⟩ : ∃ W0, W0 = (w.alloc (.cells #[U 9223372036854775808, .int .i64 53, .int .i64 (-1074), .int .i64 971, U 9218868437227405312, U 9221120237041090561] 60)) := ⟨_, rfl⟩
  have Xk : Hid (B6q W0 (w.heap.size) (U 9223372036854775808) (.int .i64 53) (.int .i64 (-1074)) (.int .i64 971) (U 9218868437227405312) (U 9221120237041090561)) := by rw [hW0]; exact ⟨by go_simp, by go_simp, by go_simp, by go_simp, by go_simp, by go_simp, by go_simp, by go_simp, by go_simp, by go_simp, by go_simp, by go_simp⟩
  have hb0 : Below w.heap.size w W0 := by rw [hW0]; exact below1 w _
  rw [← hW0]
  clear hW0
  have hbw : Below w.heap.size w w := Below.refl _ _
  obtain ⟨gk, hgk⟩ : ∃ g, g = w.heap.size := ⟨_, rfl⟩
  have HGk : Hid (w.heap.size ≤ gk) := by rw [hgk]; show _ ≤ _; omega
  rw [← hgk] at Xk
  try rw [← hgk]
  clear hgk
  replace HA : Hid _ := HA.out.below hb0
  replace hbw := Below.on hbw hb0
  clear hb0
  refine (rbits_any HA.out HX.out.1 (by have := HX.out.2.1; omega)).mono ?_
  rintro e1 w1 ⟨rfl, hw⟩
  rw [← HX.out.2.2.1]
  obtain rfl := hw.symm
  clear hw
  obtain ⟨ck0, ck1, ck2, ck3, ck4, ck5, fk0, fk1, fk2, fk3, fk4, fk5⟩ := Xk.out
  have hnek : gk < W0.heap.size := World.block_lt_of_cell? W0 _ ck0
  go_wp2_with fail
  clear ck0 ck1 ck2 ck3 ck4 ck5 fk0 fk1 fk2 fk3 fk4 fk5 hnek
  refine (rshl_all HA.out HX.out.1 (by have := HX.out.2.1; omega) 0 (.inl (by omega))).mono ?_
  rintro e1 v5 ⟨p5, m5, z5, rfl, hA5, hN5, hm5, hb5⟩
  rw [Nat.pow_zero, Nat.mul_one] at hN5
  replace Xk : Hid _ := Xk.out.below hb5
  replace HA : Hid _ := HA.out.below hb5
  replace hbw := Below.on hbw hb5
  clear hb5
  have A5 : Hid (At32 v5 p5 m5 m5 z5) := hA5
  have N5 : Hid (Nf B32 z5 v ∧ m5 ≤ 16384) := ⟨hN5, Nat.le_trans (nf_len5 hA5 hN5 HX.out.2.2.2.2.2.1) (by omega)⟩
  clear hA5 hN5 hm5
  obtain ⟨ck0, ck1, ck2, ck3, ck4, ck5, fk0, fk1, fk2, fk3, fk4, fk5⟩ := Xk.out
  have hnek : gk < v5.heap.size := World.block_lt_of_cell? v5 _ ck0
  go_wp2_with fail
  clear ck0 ck1 ck2 ck3 ck4 ck5 fk0 fk1 fk2 fk3 fk4 fk5 hnek
  refine (rsizeN A5.out N5.out.1 N5.out.2 (by have := HX.out.2.2.2.2.2.1; omega)).mono ?_
  rintro e v6 ⟨rfl, hb6⟩
  rw [← HX.out.2.2.2.1]
  replace Xk : Hid _ := Xk.out.below hb6
  replace HA : Hid _ := HA.out.below hb6
  replace A5 : Hid _ := A5.out.below hb6
  replace hbw := Below.on hbw hb6
  clear hb6
  clear A5
  clear N5
  obtain ⟨ck0, ck1, ck2, ck3, ck4, ck5, fk0, fk1, fk2, fk3, fk4, fk5⟩ := Xk.out
  have hnek : gk < v6.heap.size := World.block_lt_of_cell? v6 _ ck0
  go_wp2_with fail
  clear ck0 ck1 ck2 ck3 ck4 ck5 fk0 fk1 fk2 fk3 fk4 fk5 hnek
  have HAu : Hid (At32 v6 p n n zs) := HA.out
  have hbu : Below v6.heap.size v6 v6 := Below.refl _ _
  clear HA
  obtain ⟨Wr, hWr⟩ : ∃ W1, W1 = v6.drew := ⟨_, rfl⟩
  have hbd : Below v6.heap.size v6 Wr := by rw [hWr]; exact bDrew1 (Below.refl _ _)
  have hbu' := Below.on hbu hbd
  clear hbu
  have hbu := hbu'
  clear hbu'
  replace Xk : Hid _ := Xk.out.below hbd
  replace hbw := Below.on hbw hbd
  clear hbd
  have HJ : Hid ((fun W' : World => W'.cell? ⟨gk, 0, none⟩ = some (U 9223372036854775808) ∧ W'.cell? ⟨gk, 1, none⟩ = some (.int .i64 53) ∧ W'.cell? ⟨gk, 2, none⟩ = some (.int .i64 (-1074)) ∧ W'.cell? ⟨gk, 3, none⟩ = some (.int .i64 971) ∧ W'.cell? ⟨gk, 4, none⟩ = some (U 9218868437227405312) ∧ W'.cell? ⟨gk, 5, none⟩ = some (U 9221120237041090561)) Wr) := ⟨Xk.out.c0, Xk.out.c1, Xk.out.c2, Xk.out.c3, Xk.out.c4, Xk.out.c5⟩
  refine wp_region_J (fun W' => W'.cell? ⟨gk, 0, none⟩ = some (U 9223372036854775808) ∧ W'.cell? ⟨gk, 1, none⟩ = some (.int .i64 53) ∧ W'.cell? ⟨gk, 2, none⟩ = some (.int .i64 (-1074)) ∧ W'.cell? ⟨gk, 3, none⟩ = some (.int .i64 971) ∧ W'.cell? ⟨gk, 4, none⟩ = some (U 9218868437227405312) ∧ W'.cell? ⟨gk, 5, none⟩ = some (U 9221120237041090561)) (by kernel_rfl) ?_
  rw [← hWr]
  clear hWr
  refine wpJ_tq 0 rfl HJ.out ?_
  refine wpJ_tq 1 rfl HJ.out ?_
  refine wpJ_tq 3 rfl HJ.out ?_
  refine wpJ_tq 4 rfl HJ.out ?_
  refine wpJ_tq 5 rfl HJ.out ?_
  obtain ⟨RQ, HRQ, HRP⟩ : ∃ RQ : Act → Act → World → Prop, Hid (∀ a1 a2 a3, (fun a0 a' W' => ∃ gtw tA kA nA tB kB nB tF kF nF, a' = ((((a0.put (some 58) (.agg #[.bool tA, .slice (some ⟨kA, 0, none⟩) nA nA])).put (some 62) (.agg #[.bool tB, .slice (some ⟨kB, 0, none⟩) nB nB])).put (some 63) (.agg #[.bool tF, .slice (some ⟨kF, 0, none⟩) nF nF])).put (some 10) (.pointer (some ⟨gtw, 0, none⟩))) ∧ Box W' gtw (.bool tF) (.slice (some ⟨kF, 0, none⟩) nF nF) ∧ B6q W' gk (U 9223372036854775808) (.int .i64 53) (.int .i64 (-1074)) (.int .i64 971) (U 9218868437227405312) (U 9221120237041090561) ∧ ZR W' tF (some ⟨kF, 0, none⟩) nF (ux s + ux (s + 1)) ∧ w.heap.size ≤ gtw ∧ gk ≠ gtw ∧ (nF ≤ 2300) ∧ Below v6.heap.size v6 W' ∧ Below w.heap.size w W') a1 a2 a3 → RQ a1 a2 a3) ∧ Hid (∀ a1 a2 a3, RQ a1 a2 a3 → (fun a0 a' W' => ∃ gtw tA kA nA tB kB nB tF kF nF, a' = ((((a0.put (some 58) (.agg #[.bool tA, .slice (some ⟨kA, 0, none⟩) nA nA])).put (some 62) (.agg #[.bool tB, .slice (some ⟨kB, 0, none⟩) nB nB])).put (some 63) (.agg #[.bool tF, .slice (some ⟨kF, 0, none⟩) nF nF])).put (some 10) (.pointer (some ⟨gtw, 0, none⟩))) ∧ Box W' gtw (.bool tF) (.slice (some ⟨kF, 0, none⟩) nF nF) ∧ B6q W' gk (U 9223372036854775808) (.int .i64 53) (.int .i64 (-1074)) (.int .i64 971) (U 9218868437227405312) (U 9221120237041090561) ∧ ZR W' tF (some ⟨kF, 0, none⟩) nF (ux s + ux (s + 1)) ∧ w.heap.size ≤ gtw ∧ gk ≠ gtw ∧ (nF ≤ 2300) ∧ Below v6.heap.size v6 W' ∧ Below w.heap.size w W') a1 a2 a3) := ⟨_, fun _ _ _ h => h, fun _ _ _ h => h⟩
  refine wpJ_cutA RQ ?_ ?_
  · intro a' Wc hrq
    obtain ⟨gtw, tA, kA, nA, tB, kB, nB, tF, kF, nF, rfl, xb, xk, rr, hg, hdk, hHNF, hbuc, hbc⟩ := HRP.out _ _ _ hrq
    clear hrq HRP HRQ
    clear hbw hbu HJ Xk
    have hbw := hbc
    have hbu := hbuc
    have Xtw : Hid (Box Wc gtw (.bool tF) (.slice (some ⟨kF, 0, none⟩) nF nF)) := xb
    have Xk : Hid (B6q Wc gk (U 9223372036854775808) (.int .i64 53) (.int .i64 (-1074)) (.int .i64 971) (U 9218868437227405312) (U 9221120237041090561)) := xk
    have RR : Hid (ZR Wc tF (some ⟨kF, 0, none⟩) nF (ux s + ux (s + 1))) := rr
    have HGtw : Hid (w.heap.size ≤ gtw) := hg
    have HDktw : Hid (gk ≠ gtw) := hdk
    have HNF : Hid (nF ≤ 2300) := hHNF
    clear xb xk rr hg hdk hHNF hbuc hbc
    have HA : Hid (At32 Wc p n n zs) := HAu.out.below hbu
    clear hbu HAu
    obtain ⟨ck0, ck1, ck2, ck3, ck4, ck5, fk0, fk1, fk2, fk3, fk4, fk5⟩ := Xk.out
    have hnek : gk < Wc.heap.size := World.block_lt_of_cell? Wc _ ck0
    obtain ⟨ctw0, ctw1, ftw0, ftw1⟩ := Xtw.out
    have hnetw := Xtw.out.lt
    go_wp2_with fail
    clear ck0 ck1 ck2 ck3 ck4 ck5 fk0 fk1 fk2 fk3 fk4 fk5 hnek
    clear ctw0 ctw1 ftw0 ftw1 hnetw
    obtain ⟨Wy, hWy⟩ : ∃ W1, W1 = Wc.drew := ⟨_, rfl⟩
    have hbd : Below Wc.heap.size Wc Wy := by rw [hWy]; exact bDrew1 (Below.refl _ _)
    replace Xtw : Hid _ := Xtw.out.below hbd
    replace Xk : Hid _ := Xk.out.below hbd
    replace RR : Hid _ := RR.out.below hbd
    replace HA : Hid _ := HA.out.below hbd
    replace hbw := Below.on hbw hbd
    clear hbd
    have HJ : Hid ((fun W' : World => W'.cell? ⟨gk, 2, none⟩ = some (.int .i64 (-1074)) ∧ W'.cell? ⟨gtw, 0, none⟩ = some (.bool tF) ∧ W'.cell? ⟨gtw, 1, none⟩ = some (.slice (some ⟨kF, 0, none⟩) nF nF)) Wy) := ⟨Xk.out.c2, Xtw.out.c0, Xtw.out.c1⟩
    refine wp_region_J (fun W' => W'.cell? ⟨gk, 2, none⟩ = some (.int .i64 (-1074)) ∧ W'.cell? ⟨gtw, 0, none⟩ = some (.bool tF) ∧ W'.cell? ⟨gtw, 1, none⟩ = some (.slice (some ⟨kF, 0, none⟩) nF nF)) (by kernel_rfl) ?_
    rw [← hWy]
    clear hWy
    refine wpJ_tq 0 rfl HJ.out ?_
    refine wpJ_tq 2 rfl HJ.out ?_
    refine wpJ_tq 3 rfl HJ.out ?_
    refine wpJ_tq 4 rfl HJ.out ?_
    refine wpJ_tq 5 rfl HJ.out ?_
    go_simp
    refine wpJ_tq 6 rfl HJ.out ?_
    refine wpJ_on 1 rfl fun KJ hK => ?_
    go_simp
    have hiv : iv false v = (v : Int) := rfl
    refine (rmk_any false HA.out HX.out.1 (by have := HX.out.2.1; omega)).mono ?_
    rintro e9 uM ⟨v, rfl, hv, hbM⟩
    obtain ⟨tM, kM, nM, rfl, hgM, hzM, hlM⟩ := hv
    skip
    replace Xtw : Hid _ := Xtw.out.below hbM
    replace Xk : Hid _ := Xk.out.below hbM
    replace RR : Hid _ := RR.out.below hbM
    replace HA : Hid _ := HA.out.below hbM
    replace hbw := Below.on hbw hbM
    clear hbM
    have YM : Hid (ZR uM tM (some ⟨kM, 0, none⟩) nM (iv false v)) := hzM
    have HLM : Hid (nM ≤ n) := hlM
    clear hzM hlM hgM
    rw [hiv] at YM
    clear hiv
    refine hK _ _ ⟨Xk.out.c2, Xtw.out.c0, Xtw.out.c1⟩ ?_
    clear hK
    refine wpJ_on 7 rfl fun KJ hK => ?_
    go_simp
    refine (rhold_g (k := 1) (e := -1074) (f := -1075) tM tF YM.out RR.out (by have h1 := HLM.out; have h2 := HX.out.2.1; omega) (by have := HNF.out; omega) (by have := HX.out.2.2.2.2.1; omega) HTW.out.1 (by rw [Int.natAbs_natCast]; have := HX.out.2.2.2.2.2.1; omega) HTW.out.2.1 ⟨by decide, by decide⟩ ⟨by decide, by decide⟩ ⟨by decide, by decide⟩ rfl).mono ?_
    rintro e vH ⟨rfl, hbH⟩
    rw [HTW.out.2.2]
    replace Xtw : Hid _ := Xtw.out.below hbH
    replace Xk : Hid _ := Xk.out.below hbH
    replace RR : Hid _ := RR.out.below hbH
    replace HA : Hid _ := HA.out.below hbH
    replace YM : Hid _ := YM.out.below hbH
    replace hbw := Below.on hbw hbH
    clear hbH
    clear HJ
    have HJ : Hid ((fun W' : World => W'.cell? ⟨gk, 2, none⟩ = some (.int .i64 (-1074)) ∧ W'.cell? ⟨gtw, 0, none⟩ = some (.bool tF) ∧ W'.cell? ⟨gtw, 1, none⟩ = some (.slice (some ⟨kF, 0, none⟩) nF nF)) vH) := ⟨Xk.out.c2, Xtw.out.c0, Xtw.out.c1⟩
    refine hK _ _ HJ.out ?_
    clear hK
    refine wpJ_tq 8 rfl HJ.out ?_
    refine wpJ_done (by kernel_rfl) ?_ _
    clear HJ
    rcases HCC.out.1 with hc | hc | hc
    · rw [hc]
      have HC1 : Hid (c = -1) := hc
      clear hc
      obtain ⟨ck0, ck1, ck2, ck3, ck4, ck5, fk0, fk1, fk2, fk3, fk4, fk5⟩ := Xk.out
      have hnek : gk < vH.heap.size := World.block_lt_of_cell? vH _ ck0
      go_wp2_with fail
      clear ck0 ck1 ck2 ck3 ck4 ck5 fk0 fk1 fk2 fk3 fk4 fk5 hnek
      go_ret
      have hm := HCC.out.2
      rw [HC1.out] at hm
      have hu : upB (-1) s = s := by unfold upB; rfl
      rw [hu] at hm
      refine ⟨congrArg (fun z => Ending.returned (.int .u64 z)) ?_, hbw⟩
      rw [← hm]
      exact min_lit s
    · rw [hc]
      have HC1 : Hid (c = 0) := hc
      clear hc
      rcases Nat.mod_two_eq_zero_or_one s with hp | hp
      · have p1 : ((s : Int) % 2 == 1) = false := by rw [show (s : Int) % 2 = ((s % 2 : Nat) : Int) by omega, hp]; rfl
        have HP : Hid (s % 2 = 0) := hp
        have p2 : (s : Int) % 2 = 0 := by omega
        clear hp
        obtain ⟨ck0, ck1, ck2, ck3, ck4, ck5, fk0, fk1, fk2, fk3, fk4, fk5⟩ := Xk.out
        have hnek : gk < vH.heap.size := World.block_lt_of_cell? vH _ ck0
        go_wp2_with fail
        clear ck0 ck1 ck2 ck3 ck4 ck5 fk0 fk1 fk2 fk3 fk4 fk5 hnek
        go_ret
        have hm := HCC.out.2
        rw [HC1.out] at hm
        have hu : upB (0) s = s := by unfold upB; rw [HP.out]; rfl
        rw [hu] at hm
        refine ⟨congrArg (fun z => Ending.returned (.int .u64 z)) ?_, hbw⟩
        rw [← hm]
        exact min_lit s
      · have p1 : ((s : Int) % 2 == 1) = true := by rw [show (s : Int) % 2 = ((s % 2 : Nat) : Int) by omega, hp]; rfl
        have HP : Hid (s % 2 = 1) := hp
        have p2 : (s : Int) % 2 = 1 := by omega
        clear hp
        obtain ⟨ck0, ck1, ck2, ck3, ck4, ck5, fk0, fk1, fk2, fk3, fk4, fk5⟩ := Xk.out
        have hnek : gk < vH.heap.size := World.block_lt_of_cell? vH _ ck0
        go_wp2_with fail
        clear ck0 ck1 ck2 ck3 ck4 ck5 fk0 fk1 fk2 fk3 fk4 fk5 hnek
        go_ret
        have hm := HCC.out.2
        rw [HC1.out] at hm
        have hu : upB (0) s = s + 1 := by unfold upB; rw [HP.out]; rfl
        rw [hu] at hm
        refine ⟨congrArg (fun z => Ending.returned (.int .u64 z)) ?_, hbw⟩
        rw [← hm]
        exact min_lit1 s
    · rw [hc]
      have HC1 : Hid (c = 1) := hc
      clear hc
      obtain ⟨ck0, ck1, ck2, ck3, ck4, ck5, fk0, fk1, fk2, fk3, fk4, fk5⟩ := Xk.out
      have hnek : gk < vH.heap.size := World.block_lt_of_cell? vH _ ck0
      go_wp2_with fail
      clear ck0 ck1 ck2 ck3 ck4 ck5 fk0 fk1 fk2 fk3 fk4 fk5 hnek
      go_ret
      have hm := HCC.out.2
      rw [HC1.out] at hm
      have hu : upB (1) s = s + 1 := by unfold upB; rfl
      rw [hu] at hm
      refine ⟨congrArg (fun z => Ending.returned (.int .u64 z)) ?_, hbw⟩
      rw [← hm]
      exact min_lit1 s
  · skip
    refine wpJ_two (i := 2) (k := 8) (by kernel_rfl) rfl rfl (by kernel_rfl) (by kernel_rfl) (fun KJ hK => ?_) (fun KJ hK => ?_)
    · go_simp
      refine (rwhole_64 _).mono ?_
      rintro e9 uA ⟨v, rfl, hv, hbA⟩
      obtain ⟨tA, kA, nA, rfl, hgA, hzA, hlA⟩ := hv
      skip
      have hbu' := Below.on hbu hbA
      clear hbu
      have hbu := hbu'
      clear hbu'
      replace Xk : Hid _ := Xk.out.below hbA
      replace hbw := Below.on hbw hbA
      clear hbA
      have YA : Hid (ZR uA tA (some ⟨kA, 0, none⟩) nA (ux s)) := hzA
      have HLA : Hid (nA ≤ 2200) := hlA
      clear hzA hlA hgA
      clear HJ
      have HJ : Hid ((fun W' : World => W'.cell? ⟨gk, 0, none⟩ = some (U 9223372036854775808) ∧ W'.cell? ⟨gk, 1, none⟩ = some (.int .i64 53) ∧ W'.cell? ⟨gk, 2, none⟩ = some (.int .i64 (-1074)) ∧ W'.cell? ⟨gk, 3, none⟩ = some (.int .i64 971) ∧ W'.cell? ⟨gk, 4, none⟩ = some (U 9218868437227405312) ∧ W'.cell? ⟨gk, 5, none⟩ = some (U 9221120237041090561)) uA) := ⟨Xk.out.c0, Xk.out.c1, Xk.out.c2, Xk.out.c3, Xk.out.c4, Xk.out.c5⟩
      refine hK _ _ HJ.out ?_
      clear hK
      refine wpJ_two (i := 6) (k := 8) (by kernel_rfl) rfl rfl (by kernel_rfl) (by kernel_rfl) (fun KJ hK => ?_) (fun KJ hK => ?_)
      · go_simp
        refine (rwhole_64 _).mono ?_
        rintro e9 uB ⟨v, rfl, hv, hbB⟩
        obtain ⟨tB, kB, nB, rfl, hgB, hzB, hlB⟩ := hv
        skip
        have hbu' := Below.on hbu hbB
        clear hbu
        have hbu := hbu'
        clear hbu'
        replace Xk : Hid _ := Xk.out.below hbB
        replace YA : Hid _ := YA.out.below hbB
        replace hbw := Below.on hbw hbB
        clear hbB
        have YB : Hid (ZR uB tB (some ⟨kB, 0, none⟩) nB (ux (s + 1))) := hzB
        have HLB : Hid (nB ≤ 2200) := hlB
        clear hzB hlB hgB
        clear HJ
        have HJ : Hid ((fun W' : World => W'.cell? ⟨gk, 0, none⟩ = some (U 9223372036854775808) ∧ W'.cell? ⟨gk, 1, none⟩ = some (.int .i64 53) ∧ W'.cell? ⟨gk, 2, none⟩ = some (.int .i64 (-1074)) ∧ W'.cell? ⟨gk, 3, none⟩ = some (.int .i64 971) ∧ W'.cell? ⟨gk, 4, none⟩ = some (U 9218868437227405312) ∧ W'.cell? ⟨gk, 5, none⟩ = some (U 9221120237041090561)) uB) := ⟨Xk.out.c0, Xk.out.c1, Xk.out.c2, Xk.out.c3, Xk.out.c4, Xk.out.c5⟩
        refine hK _ _ HJ.out ?_
        clear hK
        refine wpJ_two (i := 7) (k := 8) (by kernel_rfl) rfl rfl (by kernel_rfl) (by kernel_rfl) (fun KJ hK => ?_) (fun KJ hK => ?_)
        · go_simp
          refine (radd04 tA tB YA.out YB.out (by have := HLA.out; omega) (by have := HLB.out; omega)).mono ?_
          rintro e9 uF ⟨v, rfl, hv, hbF⟩
          obtain ⟨tF, kF, nF, rfl, hgF, hzF, hlF⟩ := hv
          have HGB : Hid (uB.heap.size ≤ kF) := hgF
          have hbu' := Below.on hbu hbF
          clear hbu
          have hbu := hbu'
          clear hbu'
          replace Xk : Hid _ := Xk.out.below hbF
          replace YA : Hid _ := YA.out.below hbF
          replace YB : Hid _ := YB.out.below hbF
          replace hbw := Below.on hbw hbF
          clear hbF
          have RR : Hid (ZR uF tF (some ⟨kF, 0, none⟩) nF (ux s + ux (s + 1))) := hzF
          have HLF : Hid (nF ≤ max nA nB + 1) := hlF
          clear hzF hlF hgF
          clear YA
          clear YB
          have HNF : Hid (nF ≤ 2300) := by have h1 := HLA.out; have h2 := HLB.out; have h3 := HLF.out; show _ ≤ _; omega
          refine hK _ _ ⟨Xk.out.c0, Xk.out.c1, Xk.out.c2, Xk.out.c3, Xk.out.c4, Xk.out.c5⟩ ?_
          clear hK
          refine wpJ_on 8 rfl fun KJ hK => ?_
          go_simp
          have HDktw : Hid (gk ≠ uF.heap.size) := Nat.ne_of_lt Xk.out.lt
          have HLS : Hid (∀ v0 v1, ZR (((uF.alloc (.cells #[.bool false, .slice none 0 0] 43)).setCell ⟨uF.heap.size, 0, none⟩ v0).setCell ⟨uF.heap.size, 1, none⟩ v1) tF (some ⟨kF, 0, none⟩) nF (ux s + ux (s + 1))) := fun v0 v1 => RR.out.below (bSet (bSet (below1 _ _) _ _ _ (Nat.le_refl _)) _ _ _ (Nat.le_refl _))
          have HGU : Hid (v6.heap.size ≤ uF.heap.size) := hbu.size
          have Xtw0 : Hid (Box (uF.alloc (.cells #[.bool false, .slice none 0 0] 43)) uF.heap.size (.bool false) (.slice none 0 0)) := Box.new uF _ _ _
          have hbn : Below uF.heap.size uF (uF.alloc (.cells #[.bool false, .slice none 0 0] 43)) := below1 uF _
          generalize uF.alloc (.cells #[.bool false, .slice none 0 0] 43) = Wn at *
          have HGtw : Hid (w.heap.size ≤ uF.heap.size) := hbw.size
          have hbu' := Below.on hbu hbn
          clear hbu
          have hbu := hbu'
          clear hbu'
          replace Xk : Hid _ := Xk.out.below hbn
          replace RR : Hid _ := RR.out.below hbn
          replace hbw := Below.on hbw hbn
          clear hbn
          generalize uF.heap.size = gtw at *
          have Xtw := Xtw0
          clear Xtw0
          refine hK _ _ ⟨Xk.out.c0, Xk.out.c1, Xk.out.c2, Xk.out.c3, Xk.out.c4, Xk.out.c5⟩ ?_
          clear hK
          obtain ⟨ctw0, ctw1, ftw0, ftw1⟩ := Xtw.out
          have hnetw := Xtw.out.lt
          obtain ⟨ck0, ck1, ck2, ck3, ck4, ck5, fk0, fk1, fk2, fk3, fk4, fk5⟩ := Xk.out
          have hnek : gk < Wn.heap.size := World.block_lt_of_cell? Wn _ ck0
          have qak : gk ≠ gtw := HDktw.out
          have qbk : gtw ≠ gk := fun h => qak h.symm
          refine wpJ_on 9 rfl fun KJ hK => ?_
          go_simp
          have HJ2 : Hid ((fun W' : World => W'.cell? ⟨gk, 0, none⟩ = some (U 9223372036854775808) ∧ W'.cell? ⟨gk, 1, none⟩ = some (.int .i64 53) ∧ W'.cell? ⟨gk, 2, none⟩ = some (.int .i64 (-1074)) ∧ W'.cell? ⟨gk, 3, none⟩ = some (.int .i64 971) ∧ W'.cell? ⟨gk, 4, none⟩ = some (U 9218868437227405312) ∧ W'.cell? ⟨gk, 5, none⟩ = some (U 9221120237041090561)) ((Wn.setCell ⟨gtw, 0, none⟩ (.bool tF)).setCell ⟨gtw, 1, none⟩ (.slice (some ⟨kF, 0, none⟩) nF nF))) := ⟨by go_simp, by go_simp, by go_simp, by go_simp, by go_simp, by go_simp⟩
          have Xtw2 : Hid (Box ((Wn.setCell ⟨gtw, 0, none⟩ (.bool tF)).setCell ⟨gtw, 1, none⟩ (.slice (some ⟨kF, 0, none⟩) nF nF)) gtw (.bool tF) (.slice (some ⟨kF, 0, none⟩) nF nF)) := ⟨by go_simp, by go_simp, by go_simp, by go_simp⟩
          have Xk2 : Hid (B6q ((Wn.setCell ⟨gtw, 0, none⟩ (.bool tF)).setCell ⟨gtw, 1, none⟩ (.slice (some ⟨kF, 0, none⟩) nF nF)) gk (U 9223372036854775808) (.int .i64 53) (.int .i64 (-1074)) (.int .i64 971) (U 9218868437227405312) (U 9221120237041090561)) := ⟨by go_simp, by go_simp, by go_simp, by go_simp, by go_simp, by go_simp, by go_simp, by go_simp, by go_simp, by go_simp, by go_simp, by go_simp⟩
          have RR2 : Hid (ZR ((Wn.setCell ⟨gtw, 0, none⟩ (.bool tF)).setCell ⟨gtw, 1, none⟩ (.slice (some ⟨kF, 0, none⟩) nF nF)) tF (some ⟨kF, 0, none⟩) nF (ux s + ux (s + 1))) := HLS.out _ _
          have hbu2 : Below v6.heap.size v6 ((Wn.setCell ⟨gtw, 0, none⟩ (.bool tF)).setCell ⟨gtw, 1, none⟩ (.slice (some ⟨kF, 0, none⟩) nF nF)) := bSet (bSet hbu _ _ _ HGU.out) _ _ _ HGU.out
          have hbw2 : Below w.heap.size w ((Wn.setCell ⟨gtw, 0, none⟩ (.bool tF)).setCell ⟨gtw, 1, none⟩ (.slice (some ⟨kF, 0, none⟩) nF nF)) := bSet (bSet hbw _ _ _ HGtw.out) _ _ _ HGtw.out
          refine hK _ _ HJ2.out ?_
          clear hK HJ
          have HJ := HJ2
          clear HJ2
          refine wpJ_done (by kernel_rfl) ?_ _
          exact ⟨rfl, HRQ.out _ _ _ ⟨gtw, tA, kA, nA, tB, kB, nB, tF, kF, nF, by kernel_rfl, Xtw2.out, Xk2.out, RR2.out, HGtw.out, HDktw.out, HNF.out, hbu2, hbw2⟩⟩
        · go_simp
          have HDktw : Hid (gk ≠ uB.heap.size) := Nat.ne_of_lt Xk.out.lt
          have HGU : Hid (v6.heap.size ≤ uB.heap.size) := hbu.size
          have Xtw0 : Hid (Box (uB.alloc (.cells #[.bool false, .slice none 0 0] 43)) uB.heap.size (.bool false) (.slice none 0 0)) := Box.new uB _ _ _
          have hbn : Below uB.heap.size uB (uB.alloc (.cells #[.bool false, .slice none 0 0] 43)) := below1 uB _
          generalize uB.alloc (.cells #[.bool false, .slice none 0 0] 43) = Wn at *
          have HGtw : Hid (w.heap.size ≤ uB.heap.size) := hbw.size
          have hbu' := Below.on hbu hbn
          clear hbu
          have hbu := hbu'
          clear hbu'
          replace Xk : Hid _ := Xk.out.below hbn
          replace YA : Hid _ := YA.out.below hbn
          replace YB : Hid _ := YB.out.below hbn
          replace hbw := Below.on hbw hbn
          clear hbn
          generalize uB.heap.size = gtw at *
          have Xtw := Xtw0
          clear Xtw0
          refine hK _ _ ⟨Xk.out.c0, Xk.out.c1, Xk.out.c2, Xk.out.c3, Xk.out.c4, Xk.out.c5⟩ ?_
          clear hK
          refine wpJ_on 7 rfl fun KJ hK => ?_
          go_simp
          have HLT : Hid (gtw < Wn.heap.size) := Xtw.out.lt
          refine (radd04 tA tB YA.out YB.out (by have := HLA.out; omega) (by have := HLB.out; omega)).mono ?_
          rintro e9 uF ⟨v, rfl, hv, hbF⟩
          obtain ⟨tF, kF, nF, rfl, hgF, hzF, hlF⟩ := hv
          have HGB : Hid (Wn.heap.size ≤ kF) := hgF
          have hbu' := Below.on hbu hbF
          clear hbu
          have hbu := hbu'
          clear hbu'
          replace Xk : Hid _ := Xk.out.below hbF
          replace Xtw : Hid _ := Xtw.out.below hbF
          replace YA : Hid _ := YA.out.below hbF
          replace YB : Hid _ := YB.out.below hbF
          replace hbw := Below.on hbw hbF
          clear hbF
          have RR : Hid (ZR uF tF (some ⟨kF, 0, none⟩) nF (ux s + ux (s + 1))) := hzF
          have HLF : Hid (nF ≤ max nA nB + 1) := hlF
          clear hzF hlF hgF
          clear YA
          clear YB
          have HNF : Hid (nF ≤ 2300) := by have h1 := HLA.out; have h2 := HLB.out; have h3 := HLF.out; show _ ≤ _; omega
          have HNE : Hid (kF ≠ gtw) := by have h1 := HLT.out; have h2 := HGB.out; show _ ≠ _; omega
          refine hK _ _ ⟨Xk.out.c0, Xk.out.c1, Xk.out.c2, Xk.out.c3, Xk.out.c4, Xk.out.c5⟩ ?_
          clear hK
          obtain ⟨ctw0, ctw1, ftw0, ftw1⟩ := Xtw.out
          have hnetw := Xtw.out.lt
          obtain ⟨ck0, ck1, ck2, ck3, ck4, ck5, fk0, fk1, fk2, fk3, fk4, fk5⟩ := Xk.out
          have hnek : gk < uF.heap.size := World.block_lt_of_cell? uF _ ck0
          have qak : gk ≠ gtw := HDktw.out
          have qbk : gtw ≠ gk := fun h => qak h.symm
          refine wpJ_on 9 rfl fun KJ hK => ?_
          go_simp
          have HJ2 : Hid ((fun W' : World => W'.cell? ⟨gk, 0, none⟩ = some (U 9223372036854775808) ∧ W'.cell? ⟨gk, 1, none⟩ = some (.int .i64 53) ∧ W'.cell? ⟨gk, 2, none⟩ = some (.int .i64 (-1074)) ∧ W'.cell? ⟨gk, 3, none⟩ = some (.int .i64 971) ∧ W'.cell? ⟨gk, 4, none⟩ = some (U 9218868437227405312) ∧ W'.cell? ⟨gk, 5, none⟩ = some (U 9221120237041090561)) ((uF.setCell ⟨gtw, 0, none⟩ (.bool tF)).setCell ⟨gtw, 1, none⟩ (.slice (some ⟨kF, 0, none⟩) nF nF))) := ⟨by go_simp, by go_simp, by go_simp, by go_simp, by go_simp, by go_simp⟩
          have Xtw2 : Hid (Box ((uF.setCell ⟨gtw, 0, none⟩ (.bool tF)).setCell ⟨gtw, 1, none⟩ (.slice (some ⟨kF, 0, none⟩) nF nF)) gtw (.bool tF) (.slice (some ⟨kF, 0, none⟩) nF nF)) := ⟨by go_simp, by go_simp, by go_simp, by go_simp⟩
          have Xk2 : Hid (B6q ((uF.setCell ⟨gtw, 0, none⟩ (.bool tF)).setCell ⟨gtw, 1, none⟩ (.slice (some ⟨kF, 0, none⟩) nF nF)) gk (U 9223372036854775808) (.int .i64 53) (.int .i64 (-1074)) (.int .i64 971) (U 9218868437227405312) (U 9221120237041090561)) := ⟨by go_simp, by go_simp, by go_simp, by go_simp, by go_simp, by go_simp, by go_simp, by go_simp, by go_simp, by go_simp, by go_simp, by go_simp⟩
          have RR2 : Hid (ZR ((uF.setCell ⟨gtw, 0, none⟩ (.bool tF)).setCell ⟨gtw, 1, none⟩ (.slice (some ⟨kF, 0, none⟩) nF nF)) tF (some ⟨kF, 0, none⟩) nF (ux s + ux (s + 1))) := (RR.out.set _ _ _ HNE.out).set _ _ _ HNE.out
          have hbu2 : Below v6.heap.size v6 ((uF.setCell ⟨gtw, 0, none⟩ (.bool tF)).setCell ⟨gtw, 1, none⟩ (.slice (some ⟨kF, 0, none⟩) nF nF)) := bSet (bSet hbu _ _ _ HGU.out) _ _ _ HGU.out
          have hbw2 : Below w.heap.size w ((uF.setCell ⟨gtw, 0, none⟩ (.bool tF)).setCell ⟨gtw, 1, none⟩ (.slice (some ⟨kF, 0, none⟩) nF nF)) := bSet (bSet hbw _ _ _ HGtw.out) _ _ _ HGtw.out
          refine hK _ _ HJ2.out ?_
          clear hK HJ
          have HJ := HJ2
          clear HJ2
          refine wpJ_done (by kernel_rfl) ?_ _
          exact ⟨rfl, HRQ.out _ _ _ ⟨gtw, tA, kA, nA, tB, kB, nB, tF, kF, nF, by kernel_rfl, Xtw2.out, Xk2.out, RR2.out, HGtw.out, HDktw.out, HNF.out, hbu2, hbw2⟩⟩
      · go_simp
        have HDktw : Hid (gk ≠ uA.heap.size) := Nat.ne_of_lt Xk.out.lt
        have HGU : Hid (v6.heap.size ≤ uA.heap.size) := hbu.size
        have Xtw0 : Hid (Box (uA.alloc (.cells #[.bool false, .slice none 0 0] 43)) uA.heap.size (.bool false) (.slice none 0 0)) := Box.new uA _ _ _
        have hbn : Below uA.heap.size uA (uA.alloc (.cells #[.bool false, .slice none 0 0] 43)) := below1 uA _
        generalize uA.alloc (.cells #[.bool false, .slice none 0 0] 43) = Wn at *
        have HGtw : Hid (w.heap.size ≤ uA.heap.size) := hbw.size
        have hbu' := Below.on hbu hbn
        clear hbu
        have hbu := hbu'
        clear hbu'
        replace Xk : Hid _ := Xk.out.below hbn
        replace YA : Hid _ := YA.out.below hbn
        replace hbw := Below.on hbw hbn
        clear hbn
        generalize uA.heap.size = gtw at *
        have Xtw := Xtw0
        clear Xtw0
        refine hK _ _ ⟨Xk.out.c0, Xk.out.c1, Xk.out.c2, Xk.out.c3, Xk.out.c4, Xk.out.c5⟩ ?_
        clear hK
        refine wpJ_on 6 rfl fun KJ hK => ?_
        go_simp
        refine (rwhole_64 _).mono ?_
        rintro e9 uB ⟨v, rfl, hv, hbB⟩
        obtain ⟨tB, kB, nB, rfl, hgB, hzB, hlB⟩ := hv
        skip
        have hbu' := Below.on hbu hbB
        clear hbu
        have hbu := hbu'
        clear hbu'
        replace Xk : Hid _ := Xk.out.below hbB
        replace Xtw : Hid _ := Xtw.out.below hbB
        replace YA : Hid _ := YA.out.below hbB
        replace hbw := Below.on hbw hbB
        clear hbB
        have YB : Hid (ZR uB tB (some ⟨kB, 0, none⟩) nB (ux (s + 1))) := hzB
        have HLB : Hid (nB ≤ 2200) := hlB
        clear hzB hlB hgB
        refine hK _ _ ⟨Xk.out.c0, Xk.out.c1, Xk.out.c2, Xk.out.c3, Xk.out.c4, Xk.out.c5⟩ ?_
        clear hK
        refine wpJ_on 7 rfl fun KJ hK => ?_
        go_simp
        have HLT : Hid (gtw < uB.heap.size) := Xtw.out.lt
        refine (radd04 tA tB YA.out YB.out (by have := HLA.out; omega) (by have := HLB.out; omega)).mono ?_
        rintro e9 uF ⟨v, rfl, hv, hbF⟩
        obtain ⟨tF, kF, nF, rfl, hgF, hzF, hlF⟩ := hv
        have HGB : Hid (uB.heap.size ≤ kF) := hgF
        have hbu' := Below.on hbu hbF
        clear hbu
        have hbu := hbu'
        clear hbu'
        replace Xk : Hid _ := Xk.out.below hbF
        replace Xtw : Hid _ := Xtw.out.below hbF
        replace YA : Hid _ := YA.out.below hbF
        replace YB : Hid _ := YB.out.below hbF
        replace hbw := Below.on hbw hbF
        clear hbF
        have RR : Hid (ZR uF tF (some ⟨kF, 0, none⟩) nF (ux s + ux (s + 1))) := hzF
        have HLF : Hid (nF ≤ max nA nB + 1) := hlF
        clear hzF hlF hgF
        clear YA
        clear YB
        have HNF : Hid (nF ≤ 2300) := by have h1 := HLA.out; have h2 := HLB.out; have h3 := HLF.out; show _ ≤ _; omega
        have HNE : Hid (kF ≠ gtw) := by have h1 := HLT.out; have h2 := HGB.out; show _ ≠ _; omega
        refine hK _ _ ⟨Xk.out.c0, Xk.out.c1, Xk.out.c2, Xk.out.c3, Xk.out.c4, Xk.out.c5⟩ ?_
        clear hK
        obtain ⟨ctw0, ctw1, ftw0, ftw1⟩ := Xtw.out
        have hnetw := Xtw.out.lt
        obtain ⟨ck0, ck1, ck2, ck3, ck4, ck5, fk0, fk1, fk2, fk3, fk4, fk5⟩ := Xk.out
        have hnek : gk < uF.heap.size := World.block_lt_of_cell? uF _ ck0
        have qak : gk ≠ gtw := HDktw.out
        have qbk : gtw ≠ gk := fun h => qak h.symm
        refine wpJ_on 9 rfl fun KJ hK => ?_
        go_simp
        have HJ2 : Hid ((fun W' : World => W'.cell? ⟨gk, 0, none⟩ = some (U 9223372036854775808) ∧ W'.cell? ⟨gk, 1, none⟩ = some (.int .i64 53) ∧ W'.cell? ⟨gk, 2, none⟩ = some (.int .i64 (-1074)) ∧ W'.cell? ⟨gk, 3, none⟩ = some (.int .i64 971) ∧ W'.cell? ⟨gk, 4, none⟩ = some (U 9218868437227405312) ∧ W'.cell? ⟨gk, 5, none⟩ = some (U 9221120237041090561)) ((uF.setCell ⟨gtw, 0, none⟩ (.bool tF)).setCell ⟨gtw, 1, none⟩ (.slice (some ⟨kF, 0, none⟩) nF nF))) := ⟨by go_simp, by go_simp, by go_simp, by go_simp, by go_simp, by go_simp⟩
        have Xtw2 : Hid (Box ((uF.setCell ⟨gtw, 0, none⟩ (.bool tF)).setCell ⟨gtw, 1, none⟩ (.slice (some ⟨kF, 0, none⟩) nF nF)) gtw (.bool tF) (.slice (some ⟨kF, 0, none⟩) nF nF)) := ⟨by go_simp, by go_simp, by go_simp, by go_simp⟩
        have Xk2 : Hid (B6q ((uF.setCell ⟨gtw, 0, none⟩ (.bool tF)).setCell ⟨gtw, 1, none⟩ (.slice (some ⟨kF, 0, none⟩) nF nF)) gk (U 9223372036854775808) (.int .i64 53) (.int .i64 (-1074)) (.int .i64 971) (U 9218868437227405312) (U 9221120237041090561)) := ⟨by go_simp, by go_simp, by go_simp, by go_simp, by go_simp, by go_simp, by go_simp, by go_simp, by go_simp, by go_simp, by go_simp, by go_simp⟩
        have RR2 : Hid (ZR ((uF.setCell ⟨gtw, 0, none⟩ (.bool tF)).setCell ⟨gtw, 1, none⟩ (.slice (some ⟨kF, 0, none⟩) nF nF)) tF (some ⟨kF, 0, none⟩) nF (ux s + ux (s + 1))) := (RR.out.set _ _ _ HNE.out).set _ _ _ HNE.out
        have hbu2 : Below v6.heap.size v6 ((uF.setCell ⟨gtw, 0, none⟩ (.bool tF)).setCell ⟨gtw, 1, none⟩ (.slice (some ⟨kF, 0, none⟩) nF nF)) := bSet (bSet hbu _ _ _ HGU.out) _ _ _ HGU.out
        have hbw2 : Below w.heap.size w ((uF.setCell ⟨gtw, 0, none⟩ (.bool tF)).setCell ⟨gtw, 1, none⟩ (.slice (some ⟨kF, 0, none⟩) nF nF)) := bSet (bSet hbw _ _ _ HGtw.out) _ _ _ HGtw.out
        refine hK _ _ HJ2.out ?_
        clear hK HJ
        have HJ := HJ2
        clear HJ2
        refine wpJ_done (by kernel_rfl) ?_ _
        exact ⟨rfl, HRQ.out _ _ _ ⟨gtw, tA, kA, nA, tB, kB, nB, tF, kF, nF, by kernel_rfl, Xtw2.out, Xk2.out, RR2.out, HGtw.out, HDktw.out, HNF.out, hbu2, hbw2⟩⟩
    · go_simp
      have HDktw : Hid (gk ≠ Wr.heap.size) := Nat.ne_of_lt Xk.out.lt
      have HGU : Hid (v6.heap.size ≤ Wr.heap.size) := hbu.size
      have Xtw0 : Hid (Box (Wr.alloc (.cells #[.bool false, .slice none 0 0] 43)) Wr.heap.size (.bool false) (.slice none 0 0)) := Box.new Wr _ _ _
      have hbn : Below Wr.heap.size Wr (Wr.alloc (.cells #[.bool false, .slice none 0 0] 43)) := below1 Wr _
      generalize Wr.alloc (.cells #[.bool false, .slice none 0 0] 43) = Wn at *
      have HGtw : Hid (w.heap.size ≤ Wr.heap.size) := hbw.size
      have hbu' := Below.on hbu hbn
      clear hbu
      have hbu := hbu'
      clear hbu'
      replace Xk : Hid _ := Xk.out.below hbn
      replace hbw := Below.on hbw hbn
      clear hbn
      generalize Wr.heap.size = gtw at *
      have Xtw := Xtw0
      clear Xtw0
      refine hK _ _ ⟨Xk.out.c0, Xk.out.c1, Xk.out.c2, Xk.out.c3, Xk.out.c4, Xk.out.c5⟩ ?_
      clear hK
      refine wpJ_on 2 rfl fun KJ hK => ?_
      go_simp
      refine (rwhole_64 _).mono ?_
      rintro e9 uA ⟨v, rfl, hv, hbA⟩
      obtain ⟨tA, kA, nA, rfl, hgA, hzA, hlA⟩ := hv
      skip
      have hbu' := Below.on hbu hbA
      clear hbu
      have hbu := hbu'
      clear hbu'
      replace Xk : Hid _ := Xk.out.below hbA
      replace Xtw : Hid _ := Xtw.out.below hbA
      replace hbw := Below.on hbw hbA
      clear hbA
      have YA : Hid (ZR uA tA (some ⟨kA, 0, none⟩) nA (ux s)) := hzA
      have HLA : Hid (nA ≤ 2200) := hlA
      clear hzA hlA hgA
      refine hK _ _ ⟨Xk.out.c0, Xk.out.c1, Xk.out.c2, Xk.out.c3, Xk.out.c4, Xk.out.c5⟩ ?_
      clear hK
      refine wpJ_on 6 rfl fun KJ hK => ?_
      go_simp
      refine (rwhole_64 _).mono ?_
      rintro e9 uB ⟨v, rfl, hv, hbB⟩
      obtain ⟨tB, kB, nB, rfl, hgB, hzB, hlB⟩ := hv
      skip
      have hbu' := Below.on hbu hbB
      clear hbu
      have hbu := hbu'
      clear hbu'
      replace Xk : Hid _ := Xk.out.below hbB
      replace Xtw : Hid _ := Xtw.out.below hbB
      replace YA : Hid _ := YA.out.below hbB
      replace hbw := Below.on hbw hbB
      clear hbB
      have YB : Hid (ZR uB tB (some ⟨kB, 0, none⟩) nB (ux (s + 1))) := hzB
      have HLB : Hid (nB ≤ 2200) := hlB
      clear hzB hlB hgB
      refine hK _ _ ⟨Xk.out.c0, Xk.out.c1, Xk.out.c2, Xk.out.c3, Xk.out.c4, Xk.out.c5⟩ ?_
      clear hK
      refine wpJ_on 7 rfl fun KJ hK => ?_
      go_simp
      have HLT : Hid (gtw < uB.heap.size) := Xtw.out.lt
      refine (radd04 tA tB YA.out YB.out (by have := HLA.out; omega) (by have := HLB.out; omega)).mono ?_
      rintro e9 uF ⟨v, rfl, hv, hbF⟩
      obtain ⟨tF, kF, nF, rfl, hgF, hzF, hlF⟩ := hv
      have HGB : Hid (uB.heap.size ≤ kF) := hgF
      have hbu' := Below.on hbu hbF
      clear hbu
      have hbu := hbu'
      clear hbu'
      replace Xk : Hid _ := Xk.out.below hbF
      replace Xtw : Hid _ := Xtw.out.below hbF
      replace YA : Hid _ := YA.out.below hbF
      replace YB : Hid _ := YB.out.below hbF
      replace hbw := Below.on hbw hbF
      clear hbF
      have RR : Hid (ZR uF tF (some ⟨kF, 0, none⟩) nF (ux s + ux (s + 1))) := hzF
      have HLF : Hid (nF ≤ max nA nB + 1) := hlF
      clear hzF hlF hgF
      clear YA
      clear YB
      have HNF : Hid (nF ≤ 2300) := by have h1 := HLA.out; have h2 := HLB.out; have h3 := HLF.out; show _ ≤ _; omega
      have HNE : Hid (kF ≠ gtw) := by have h1 := HLT.out; have h2 := HGB.out; show _ ≠ _; omega
      refine hK _ _ ⟨Xk.out.c0, Xk.out.c1, Xk.out.c2, Xk.out.c3, Xk.out.c4, Xk.out.c5⟩ ?_
      clear hK
      obtain ⟨ctw0, ctw1, ftw0, ftw1⟩ := Xtw.out
      have hnetw := Xtw.out.lt
      obtain ⟨ck0, ck1, ck2, ck3, ck4, ck5, fk0, fk1, fk2, fk3, fk4, fk5⟩ := Xk.out
      have hnek : gk < uF.heap.size := World.block_lt_of_cell? uF _ ck0
      have qak : gk ≠ gtw := HDktw.out
      have qbk : gtw ≠ gk := fun h => qak h.symm
      refine wpJ_on 9 rfl fun KJ hK => ?_
      go_simp
      have HJ2 : Hid ((fun W' : World => W'.cell? ⟨gk, 0, none⟩ = some (U 9223372036854775808) ∧ W'.cell? ⟨gk, 1, none⟩ = some (.int .i64 53) ∧ W'.cell? ⟨gk, 2, none⟩ = some (.int .i64 (-1074)) ∧ W'.cell? ⟨gk, 3, none⟩ = some (.int .i64 971) ∧ W'.cell? ⟨gk, 4, none⟩ = some (U 9218868437227405312) ∧ W'.cell? ⟨gk, 5, none⟩ = some (U 9221120237041090561)) ((uF.setCell ⟨gtw, 0, none⟩ (.bool tF)).setCell ⟨gtw, 1, none⟩ (.slice (some ⟨kF, 0, none⟩) nF nF))) := ⟨by go_simp, by go_simp, by go_simp, by go_simp, by go_simp, by go_simp⟩
      have Xtw2 : Hid (Box ((uF.setCell ⟨gtw, 0, none⟩ (.bool tF)).setCell ⟨gtw, 1, none⟩ (.slice (some ⟨kF, 0, none⟩) nF nF)) gtw (.bool tF) (.slice (some ⟨kF, 0, none⟩) nF nF)) := ⟨by go_simp, by go_simp, by go_simp, by go_simp⟩
      have Xk2 : Hid (B6q ((uF.setCell ⟨gtw, 0, none⟩ (.bool tF)).setCell ⟨gtw, 1, none⟩ (.slice (some ⟨kF, 0, none⟩) nF nF)) gk (U 9223372036854775808) (.int .i64 53) (.int .i64 (-1074)) (.int .i64 971) (U 9218868437227405312) (U 9221120237041090561)) := ⟨by go_simp, by go_simp, by go_simp, by go_simp, by go_simp, by go_simp, by go_simp, by go_simp, by go_simp, by go_simp, by go_simp, by go_simp⟩
      have RR2 : Hid (ZR ((uF.setCell ⟨gtw, 0, none⟩ (.bool tF)).setCell ⟨gtw, 1, none⟩ (.slice (some ⟨kF, 0, none⟩) nF nF)) tF (some ⟨kF, 0, none⟩) nF (ux s + ux (s + 1))) := (RR.out.set _ _ _ HNE.out).set _ _ _ HNE.out
      have hbu2 : Below v6.heap.size v6 ((uF.setCell ⟨gtw, 0, none⟩ (.bool tF)).setCell ⟨gtw, 1, none⟩ (.slice (some ⟨kF, 0, none⟩) nF nF)) := bSet (bSet hbu _ _ _ HGU.out) _ _ _ HGU.out
      have hbw2 : Below w.heap.size w ((uF.setCell ⟨gtw, 0, none⟩ (.bool tF)).setCell ⟨gtw, 1, none⟩ (.slice (some ⟨kF, 0, none⟩) nF nF)) := bSet (bSet hbw _ _ _ HGtw.out) _ _ _ HGtw.out
      refine hK _ _ HJ2.out ?_
      clear hK HJ
      have HJ := HJ2
      clear HJ2
      refine wpJ_done (by kernel_rfl) ?_ _
      exact ⟨rfl, HRQ.out _ _ _ ⟨gtw, tA, kA, nA, tB, kB, nB, tF, kF, nF, by kernel_rfl, Xtw2.out, Xk2.out, RR2.out, HGtw.out, HDktw.out, HNF.out, hbu2, hbw2⟩⟩
def rp (c : Nat) (z : Int) : Nat := if z < 0 then 9223372036854775808 + rg c z.natAbs else rg c z.natAbs
theorem rp_same {z : Int} {s : Nat} (h : Sm64 z s) : same19 s (rp 0 z) = true := by
  unfold same19
  by_cases h0 : z = 0
  · subst h0
    have h1 : s % 9223372036854775808 = 0 := h.size
    have h2 : rp 0 0 = 0 := rfl
    rw [h2, decide_eq_true h1]; simp
  · have h1 := h.size
    have h2 := h.sign h0
    have h3 := h.fin.lt
    have h4 : s = rp 0 z := by
      unfold rp
      by_cases hz : z < 0
      · have := h2.2 hz
        rw [if_pos hz]; omega
      · have : ¬ 9223372036854775808 ≤ s := fun h => hz (h2.1 h)
        rw [if_neg hz]; omega
    rw [decide_eq_true h4]; rfl
theorem cast_S (r : Nat) : (r : Int) + 9223372036854775808 = ((r + 9223372036854775808 : Nat) : Int) := by omega
theorem sum_bits {a b : Nat} (ka : a % 9223372036854775808 ≤ 9209861237972664320) (kb : b % 9223372036854775808 ≤ 9209861237972664320) : bitsN (ux a + ux b).natAbs ≤ 2098 := by
  obtain ⟨K, hK⟩ : ∃ K, K = 2044 := ⟨_, rfl⟩
  have ma := pow1022 hK ka
  have mb := pow1022 hK kb
  have h := bits_le_of (n := (ux a + ux b).natAbs) (k := 52 + K + 1 + 1) (by rw [p2succ, p2succ]; have := p2pos (52 + K); omega)
  omega
theorem rroundv {p : Option Addr} {m : Nat} {w : World} {z : Int} {s : Bool} (h : ZR w s p m z) (hm : m ≤ 10000) (hb : bitsN z.natAbs ≤ 2098) : Calls Try.prog 47 #[FV 9223372036854775808 53 (-1074) 971 9218868437227405312 9221120237041090561, .slice p m m, .int .i64 (-1074)] w fun en w' => en = .returned (U (rg 0 z.natAbs)) ∧ Below w.heap.size w w' := by
  obtain ⟨zs, hA, hN⟩ := h.ex
  by_cases h0 : z = 0
  · have hm0 := h.zero.2 h0
    subst hm0
    subst h0
    exact rround_z (by omega) (by omega)
  · exact rround_s hA hN hm (by omega) hb
theorem rround19 {p : Option Addr} {m : Nat} {w : World} {z : Int} (s : Bool) (h : ZR w s p m z) (hm : m ≤ 10000) (hb : bitsN z.natAbs ≤ 2098) :
    Calls Try.prog 31 #[.agg #[.bool s, .slice p m m], .int .i64 (-1074)] w fun en w' => en = .returned (U (rp 0 z)) ∧ Below w.heap.size w w' := by
  obtain ⟨r, hr⟩ : ∃ r, r = rg 0 z.natAbs := ⟨_, rfl⟩
  have hr9 : r ≤ 9218868437227405312 := by
    rw [hr]; unfold rg; split
    · omega
    · exact Nat.min_le_right ..
  have w1 : IntKind.u64.wrap ((r : Int) + 9223372036854775808) = ((r + 9223372036854775808 : Nat) : Int) := by rw [IntKind.wrap_u64]; omega
  have w2 : IntKind.u64.wrap ((9223372036854775808 : Int) + (r : Int)) = ((r + 9223372036854775808 : Nat) : Int) := by rw [IntKind.wrap_u64]; omega
  have HA : Hid (ZR w s p m z) := h
  have HX : Hid (m ≤ 10000 ∧ bitsN z.natAbs ≤ 2098 ∧ r = rg 0 z.natAbs ∧ s = decide (z < 0)) := ⟨hm, hb, hr, h.sg⟩
  have HRP : Hid ((z < 0 → rp 0 z = r + 9223372036854775808) ∧ (0 ≤ z → rp 0 z = r)) := ⟨fun h1 => by unfold rp; rw [if_pos h1, ← hr, Nat.add_comm], fun h1 => by unfold rp; rw [if_neg (by omega), ← hr]⟩
  clear h hm hb hr hr9
  go_enter Try.func31, Try.ntmps31
  go_wp2_with fail
  obtain ⟨W0, hW0⟩ : ∃ W0, W0 = (w.alloc (.cells #[.bool s, .slice p m m] 43)) := ⟨_, rfl⟩
  have Xv : Hid (Box W0 (w.heap.size) (.bool s) (.slice p m m)) := by rw [hW0]; exact ⟨by go_simp, by go_simp, by go_simp, by go_simp⟩
  have hb0 : Below w.heap.size w W0 := by rw [hW0]; exact below1 w _
  rw [← hW0]
  clear hW0
  have hbw : Below w.heap.size w w := Below.refl _ _
  obtain ⟨gv, hgv⟩ : ∃ g, g = w.heap.size := ⟨_, rfl⟩
  have HGv : Hid (w.heap.size ≤ gv) := by rw [hgv]; show _ ≤ _; omega
  rw [← hgv] at Xv
  try rw [← hgv]
  clear hgv
  replace HA : Hid _ := HA.out.below hb0
  replace hbw := Below.on hbw hb0
  clear hb0
  obtain ⟨W1, hW1⟩ : ∃ W1, W1 = W0.drew := ⟨_, rfl⟩
  have hbd : Below W0.heap.size W0 W1 := by rw [hW1]; exact bDrew1 (Below.refl _ _)
  replace Xv : Hid _ := Xv.out.below hbd
  replace HA : Hid _ := HA.out.below hbd
  replace hbw := Below.on hbw hbd
  clear hbd
  have HJ : Hid ((fun W' : World => W'.cell? ⟨gv, 1, none⟩ = some (.slice p m m)) W1) := Xv.out.c1
  refine wp_region_J (fun W' => W'.cell? ⟨gv, 1, none⟩ = some (.slice p m m)) (by kernel_rfl) ?_
  rw [← hW1]
  clear hW1
  refine wpJ_tk 1 (v := ?v1x1) rfl ?hy1x1 HJ.out ?_
  case hy1x1 => (intro W' hJ; have j0 := hJ; go_simp; first | done | with_reducible rfl)
  refine wpJ_tk 2 (v := ?v2x2) rfl ?hy2x2 HJ.out ?_
  case hy2x2 => (intro W' hJ; have j0 := hJ; go_simp; first | done | with_reducible rfl)
  refine wpJ_tk 3 (v := ?v3x3) rfl ?hy3x3 HJ.out ?_
  case hy3x3 => (intro W' hJ; have j0 := hJ; go_simp; first | done | with_reducible rfl)
  refine wpJ_on 0 rfl fun KJ hK => ?_
  go_simp
  refine (rdouble _).mono ?_
  rintro e v1 ⟨rfl, hb1⟩
  replace Xv : Hid _ := Xv.out.below hb1
  replace HA : Hid _ := HA.out.below hb1
  replace hbw := Below.on hbw hb1
  clear hb1
  refine hK _ _ Xv.out.c1 ?_
  clear hK
  refine wpJ_on 4 rfl fun KJ hK => ?_
  go_simp
  refine (rroundv HA.out HX.out.1 HX.out.2.1).mono ?_
  rintro e v2 ⟨rfl, hb2⟩
  rw [← HX.out.2.2.1]
  replace Xv : Hid _ := Xv.out.below hb2
  replace HA : Hid _ := HA.out.below hb2
  replace hbw := Below.on hbw hb2
  clear hb2
  clear HJ
  have HJ : Hid ((fun W' : World => W'.cell? ⟨gv, 1, none⟩ = some (.slice p m m)) v2) := Xv.out.c1
  refine hK _ _ HJ.out ?_
  clear hK
  refine wpJ_tk 5 (v := ?v4x5) rfl ?hy4x5 HJ.out ?_
  case hy4x5 => (intro W' hJ; have j0 := hJ; go_simp; first | done | with_reducible rfl)
  refine wpJ_done (by kernel_rfl) ?_ _
  clear HJ
  have hs := HX.out.2.2.2
  cases s
  · have HZ : Hid (rp 0 z = r) := HRP.out.2 (Int.not_lt.1 (of_decide_eq_false hs.symm))
    clear hs
    obtain ⟨cv0, cv1, fv0, fv1⟩ := Xv.out
    have hnev := Xv.out.lt
    go_wp2_with fail
    clear cv0 cv1 fv0 fv1 hnev
    go_ret
    rw [HZ.out]
    exact ⟨rfl, hbw⟩
  · have HZ : Hid (rp 0 z = r + 9223372036854775808) := HRP.out.1 (of_decide_eq_true hs.symm)
    clear hs
    obtain ⟨cv0, cv1, fv0, fv1⟩ := Xv.out
    have hnev := Xv.out.lt
    go_wp2_with fail
    clear cv0 cv1 fv0 fv1 hnev
    go_ret
    rw [HZ.out]
    exact ⟨congrArg (fun z => Ending.returned (.int .u64 z)) (cast_S r), hbw⟩
theorem rsums {a b s e : Nat} {w : World} (h : a % 9223372036854775808 ≤ 9209861237972664320 → b % 9223372036854775808 ≤ 9209861237972664320 → Sm64 (ux a + ux b) s ∧ Fin64 e ∧ ux s + ux e = ux a + ux b) :
    Calls Try.prog 15 #[U a, U b, U s, U e] w fun en w' => en = .returned (.bool true) ∧ Below w.heap.size w w' := by
  have HH : Hid (a % 9223372036854775808 ≤ 9209861237972664320 → b % 9223372036854775808 ≤ 9209861237972664320 → Sm64 (ux a + ux b) s ∧ Fin64 e ∧ ux s + ux e = ux a + ux b) := h
  clear h
  go_enter Try.func15, Try.ntmps15
  go_wp2_with fail
  have hbw : Below w.heap.size w w := Below.refl _ _
  refine (ratmost a 2045 1022 (by omega) (by omega) _).mono ?_
  rintro e' w' ⟨rfl, hw⟩
  obtain rfl := hw.symm
  clear hw
  by_cases h1 : a % 9223372036854775808 ≤ 2045 * 4503599627370496
  · rw [decide_eq_true h1]
    go_wp2_with fail
    refine (ratmost b 2045 1022 (by omega) (by omega) _).mono ?_
    rintro e' w' ⟨rfl, hw⟩
    obtain rfl := hw.symm
    clear hw
    by_cases h2 : b % 9223372036854775808 ≤ 2045 * 4503599627370496
    · rw [decide_eq_true h2]
      have HS := HH.out (by omega) (by omega)
      have HU : Hid (Sm64 (ux a + ux b) s ∧ Fin64 e ∧ ux s + ux e = ux a + ux b ∧ bitsN (ux a + ux b).natAbs ≤ 2098) := ⟨HS.1, HS.2.1, HS.2.2, sum_bits (by omega) (by omega)⟩
      clear HS HH h1 h2
      go_wp2_with fail
      refine (runits _).mono ?_
      rintro e v1 ⟨v, rfl, hv, hb1⟩
      obtain ⟨s1, g1, m1, rfl, hg1, hz1, hl1⟩ := hv
      have HN1 : Hid (w.heap.size ≤ g1) := hg1
      have HB1 : Hid (w.heap.size ≤ v1.heap.size) := hb1.size
      replace hbw := Below.on hbw hb1
      clear hb1
      have Z1 : Hid (ZR v1 s1 (some ⟨g1, 0, none⟩) m1 (ux a)) := hz1
      have HL1 : Hid (m1 ≤ 2200) := hl1
      clear hz1 hl1 hg1
      go_wp2_with fail
      refine (runits _).mono ?_
      rintro e v2 ⟨v, rfl, hv, hb2⟩
      obtain ⟨s2, g2, m2, rfl, hg2, hz2, hl2⟩ := hv
      have HN2 : Hid (v1.heap.size ≤ g2) := hg2
      have HB2 : Hid (v1.heap.size ≤ v2.heap.size) := hb2.size
      replace Z1 : Hid _ := Z1.out.below hb2
      replace hbw := Below.on hbw hb2
      clear hb2
      have Z2 : Hid (ZR v2 s2 (some ⟨g2, 0, none⟩) m2 (ux b)) := hz2
      have HL2 : Hid (m2 ≤ 2200) := hl2
      clear hz2 hl2 hg2
      go_wp2_with fail
      refine (radd04 s1 s2 Z1.out Z2.out (by have := HL1.out; omega) (by have := HL2.out; omega)).mono ?_
      rintro e v3 ⟨v, rfl, hv, hb3⟩
      obtain ⟨s3, g3, m3, rfl, hg3, hz3, hl3⟩ := hv
      have HN3 : Hid (v2.heap.size ≤ g3) := hg3
      have HB3 : Hid (v2.heap.size ≤ v3.heap.size) := hb3.size
      replace Z1 : Hid _ := Z1.out.below hb3
      replace Z2 : Hid _ := Z2.out.below hb3
      replace hbw := Below.on hbw hb3
      clear hb3
      have Z3 : Hid (ZR v3 s3 (some ⟨g3, 0, none⟩) m3 (ux a + ux b)) := hz3
      have HL3 : Hid (m3 ≤ max m1 m2 + 1) := hl3
      clear hz3 hl3 hg3
      have HL9 : Hid (m3 ≤ 2300) := by have h1 := HL1.out; have h2 := HL2.out; have h3 := HL3.out; show _ ≤ _; omega
      clear Z1
      clear Z2
      go_wp2_with fail
      have Xsm0 : Hid (Box (v3.alloc (.cells #[.bool s3, .slice (some ⟨g3, 0, none⟩) m3 m3] 43)) v3.heap.size (.bool s3) (.slice (some ⟨g3, 0, none⟩) m3 m3)) := Box.new v3 _ _ _
      have hbn : Below v3.heap.size v3 (v3.alloc (.cells #[.bool s3, .slice (some ⟨g3, 0, none⟩) m3 m3] 43)) := below1 v3 _
      generalize v3.alloc (.cells #[.bool s3, .slice (some ⟨g3, 0, none⟩) m3 m3] 43) = W4 at *
      have HGsm : Hid (w.heap.size ≤ v3.heap.size) := hbw.size
      replace Z3 : Hid _ := Z3.out.below hbn
      replace hbw := Below.on hbw hbn
      clear hbn
      generalize v3.heap.size = gsm at *
      have Xsm := Xsm0
      clear Xsm0
      refine (rround19 s3 Z3.out (by have := HL9.out; omega) HU.out.2.2.2).mono ?_
      rintro e v5 ⟨rfl, hb5⟩
      replace Xsm : Hid _ := Xsm.out.below hb5
      replace Z3 : Hid _ := Z3.out.below hb5
      replace hbw := Below.on hbw hb5
      clear hb5
      obtain ⟨csm0, csm1, fsm0, fsm1⟩ := Xsm.out
      have hnesm := Xsm.out.lt
      go_wp2_with fail
      clear csm0 csm1 fsm0 fsm1 hnesm
      refine (rsame19 s (rp 0 (ux a + ux b)) _).mono ?_
      rintro e' w' ⟨rfl, hw⟩
      obtain rfl := hw.symm
      clear hw
      rw [rp_same HU.out.1]
      obtain ⟨csm0, csm1, fsm0, fsm1⟩ := Xsm.out
      have hnesm := Xsm.out.lt
      go_wp2_with fail
      clear csm0 csm1 fsm0 fsm1 hnesm
      refine (rfin e _).mono ?_
      rintro e' w' ⟨rfl, hw⟩
      obtain rfl := hw.symm
      clear hw
      rw [decide_eq_true HU.out.2.1.fin]
      obtain ⟨csm0, csm1, fsm0, fsm1⟩ := Xsm.out
      have hnesm := Xsm.out.lt
      go_wp2_with fail
      clear csm0 csm1 fsm0 fsm1 hnesm
      obtain ⟨W7, hW7⟩ : ∃ W1, W1 = v5.drew := ⟨_, rfl⟩
      have hbd : Below v5.heap.size v5 W7 := by rw [hW7]; exact bDrew1 (Below.refl _ _)
      replace Xsm : Hid _ := Xsm.out.below hbd
      replace Z3 : Hid _ := Z3.out.below hbd
      replace hbw := Below.on hbw hbd
      clear hbd
      have HJ : Hid ((fun W' : World => W'.cell? ⟨gsm, 0, none⟩ = some (.bool s3) ∧ W'.cell? ⟨gsm, 1, none⟩ = some (.slice (some ⟨g3, 0, none⟩) m3 m3)) W7) := ⟨Xsm.out.c0, Xsm.out.c1⟩
      refine wp_region_J (fun W' => W'.cell? ⟨gsm, 0, none⟩ = some (.bool s3) ∧ W'.cell? ⟨gsm, 1, none⟩ = some (.slice (some ⟨g3, 0, none⟩) m3 m3)) (by kernel_rfl) ?_
      rw [← hW7]
      clear hW7
      refine wpJ_tq 0 rfl HJ.out ?_
      refine wpJ_tq 2 rfl HJ.out ?_
      refine wpJ_tq 5 rfl HJ.out ?_
      refine wpJ_on 1 rfl fun KJ hK => ?_
      go_simp
      refine (runits _).mono ?_
      rintro e v6 ⟨v, rfl, hv, hb6⟩
      obtain ⟨s6, g6, m6, rfl, hg6, hz6, hl6⟩ := hv
      have HN6 : Hid (W7.heap.size ≤ g6) := hg6
      have HB6 : Hid (W7.heap.size ≤ v6.heap.size) := hb6.size
      replace Xsm : Hid _ := Xsm.out.below hb6
      replace Z3 : Hid _ := Z3.out.below hb6
      replace hbw := Below.on hbw hb6
      clear hb6
      have Z6 : Hid (ZR v6 s6 (some ⟨g6, 0, none⟩) m6 (ux s)) := hz6
      have HL6 : Hid (m6 ≤ 2200) := hl6
      clear hz6 hl6 hg6
      refine hK _ _ ⟨Xsm.out.c0, Xsm.out.c1⟩ ?_
      clear hK
      refine wpJ_on 3 rfl fun KJ hK => ?_
      go_simp
      refine (runits _).mono ?_
      rintro e v7 ⟨v, rfl, hv, hb7⟩
      obtain ⟨s7, g7, m7, rfl, hg7, hz7, hl7⟩ := hv
      have HN7 : Hid (v6.heap.size ≤ g7) := hg7
      have HB7 : Hid (v6.heap.size ≤ v7.heap.size) := hb7.size
      replace Xsm : Hid _ := Xsm.out.below hb7
      replace Z3 : Hid _ := Z3.out.below hb7
      replace Z6 : Hid _ := Z6.out.below hb7
      replace hbw := Below.on hbw hb7
      clear hb7
      have Z7 : Hid (ZR v7 s7 (some ⟨g7, 0, none⟩) m7 (ux e)) := hz7
      have HL7 : Hid (m7 ≤ 2200) := hl7
      clear hz7 hl7 hg7
      refine hK _ _ ⟨Xsm.out.c0, Xsm.out.c1⟩ ?_
      clear hK
      refine wpJ_on 4 rfl fun KJ hK => ?_
      go_simp
      refine (radd04 s6 s7 Z6.out Z7.out (by have := HL6.out; omega) (by have := HL7.out; omega)).mono ?_
      rintro e v8 ⟨v, rfl, hv, hb8⟩
      obtain ⟨s8, g8, m8, rfl, hg8, hz8, hl8⟩ := hv
      have HN8 : Hid (v7.heap.size ≤ g8) := hg8
      have HB8 : Hid (v7.heap.size ≤ v8.heap.size) := hb8.size
      replace Xsm : Hid _ := Xsm.out.below hb8
      replace Z3 : Hid _ := Z3.out.below hb8
      replace Z6 : Hid _ := Z6.out.below hb8
      replace Z7 : Hid _ := Z7.out.below hb8
      replace hbw := Below.on hbw hb8
      clear hb8
      have Z8 : Hid (ZR v8 s8 (some ⟨g8, 0, none⟩) m8 (ux s + ux e)) := hz8
      have HL8 : Hid (m8 ≤ max m6 m7 + 1) := hl8
      clear hz8 hl8 hg8
      refine hK _ _ ⟨Xsm.out.c0, Xsm.out.c1⟩ ?_
      clear hK
      refine wpJ_on 6 rfl fun KJ hK => ?_
      go_simp
      refine (rcmp04 s8 s3 Z8.out Z3.out (by have h1 := HL6.out; have h2 := HL7.out; have h3 := HL8.out; omega) (by have := HL9.out; omega)).mono ?_
      rintro e v9 ⟨rfl, hb9⟩
      rw [HU.out.2.2.1, show cmpI (ux a + ux b) (ux a + ux b) = 0 from by unfold cmpI; rw [if_neg (by omega), if_pos rfl]]
      replace Xsm : Hid _ := Xsm.out.below hb9
      replace Z3 : Hid _ := Z3.out.below hb9
      replace Z6 : Hid _ := Z6.out.below hb9
      replace Z7 : Hid _ := Z7.out.below hb9
      replace Z8 : Hid _ := Z8.out.below hb9
      replace hbw := Below.on hbw hb9
      clear hb9
      clear HJ
      have HJ : Hid ((fun W' : World => W'.cell? ⟨gsm, 0, none⟩ = some (.bool s3) ∧ W'.cell? ⟨gsm, 1, none⟩ = some (.slice (some ⟨g3, 0, none⟩) m3 m3)) v9) := ⟨Xsm.out.c0, Xsm.out.c1⟩
      refine hK _ _ HJ.out ?_
      clear hK
      refine wpJ_tq 7 rfl HJ.out ?_
      refine wpJ_tq 8 rfl HJ.out ?_
      refine wpJ_done (by kernel_rfl) ?_ _
      clear HJ
      go_wp2_with fail
      go_ret
      exact ⟨rfl, hbw⟩
    · rw [decide_eq_false h2]
      go_wp2_with fail
      go_ret
      exact ⟨rfl, hbw⟩
  · rw [decide_eq_false h1]
    go_wp2_with fail
    go_ret
    exact ⟨rfl, hbw⟩
theorem ts_awake {s r : Nat} (h : TSR 4336966441157787648 4607182418800017408 s r) : s = 4607182418800017408 ∧ r = 4336966441157787648 := by
  obtain ⟨ob, oa, da, db, F1, F2, F3, F4, F5, F6⟩ := h
  obtain rfl : s = 4607182418800017408 := F1.some _ (by decide +kernel)
  obtain rfl : ob = 4607182418800017408 := F2.some _ (by decide +kernel)
  obtain rfl : oa = 0 := F3.some _ (by decide +kernel)
  obtain rfl : da = 4336966441157787648 := F4.some _ (by decide +kernel)
  obtain rfl : db = 0 := F5.some _ (by decide +kernel)
  obtain rfl : r = 4336966441157787648 := F6.some _ (by decide +kernel)
  exact ⟨rfl, rfl⟩
theorem fs_awake {s r : Nat} (h : FSR 4607182418800017408 4336966441157787648 s r) : s = 4607182418800017408 ∧ r = 4336966441157787648 := by
  obtain ⟨t, F1, F2, F3⟩ := h
  obtain rfl : s = 4607182418800017408 := F1.some _ (by decide +kernel)
  obtain rfl : t = 0 := F2.some _ (by decide +kernel)
  obtain rfl : r = 4336966441157787648 := F3.some _ (by decide +kernel)
  exact ⟨rfl, rfl⟩
theorem sp_awake {h l : Nat} (k : SPR 4607182418804211712 h l) : h = 4607182418800017408 ∧ l = 4472074429978902528 := by
  obtain ⟨c, d, F1, F2, F3, F4⟩ := k
  obtain rfl : c = 4728779608776769536 := F1.some _ (by decide +kernel)
  obtain rfl : d = 4728779608743215104 := F2.some _ (by decide +kernel)
  obtain rfl : h = 4607182418800017408 := F3.some _ (by decide +kernel)
  obtain rfl : l = 4472074429978902528 := F4.some _ (by decide +kernel)
  exact ⟨rfl, rfl⟩
theorem tp_awake {p e : Nat} (k : TPR 4607182418804211712 4607182418804211712 p e) : p = 4607182418808406016 ∧ e = 4336966441157787648 := by
  obtain ⟨ah, al, bh, bl, x1, e1, x2, e2, x3, e3, x4, F1, S1, S2, F2, F3, F4, F5, F6, F7, F8, F9⟩ := k
  obtain ⟨rfl, rfl⟩ := sp_awake S1
  obtain ⟨rfl, rfl⟩ := sp_awake S2
  obtain rfl : p = 4607182418808406016 := F1.some _ (by decide +kernel)
  obtain rfl : x1 = 4607182418800017408 := F2.some _ (by decide +kernel)
  obtain rfl : e1 = 13699950066461048832 := F3.some _ (by decide +kernel)
  obtain rfl : x2 = 4472074429978902528 := F4.some _ (by decide +kernel)
  obtain rfl : e2 = 13695446466833678336 := F5.some _ (by decide +kernel)
  obtain rfl : x3 = 4472074429978902528 := F6.some _ (by decide +kernel)
  obtain rfl : e3 = 0 := F7.some _ (by decide +kernel)
  obtain rfl : x4 = 4336966441157787648 := F8.some _ (by decide +kernel)
  obtain rfl : e = 4336966441157787648 := F9.some _ (by decide +kernel)
  exact ⟨rfl, rfl⟩
theorem awake19 (w : World) : Calls Try.prog 9 #[] w fun e w' => e = .returned (.bool true) ∧ ∃ n, w' = w.drewN n := by
  go_enter Try.func9, Try.ntmps9
  go_wp2_with fail
  refine (sumB 4336966441157787648 4607182418800017408 _).mono ?_
  rintro e w' ⟨s, r, n1, rfl, rfl, hR⟩
  obtain ⟨rfl, rfl⟩ := ts_awake hR
  clear hR
  go_wp2_with fail
  refine (fastB 4607182418800017408 4336966441157787648 _).mono ?_
  rintro e w' ⟨s, r, n2, rfl, rfl, hR⟩
  obtain ⟨rfl, rfl⟩ := fs_awake hR
  clear hR
  go_wp2_with fail
  refine (splitB 4607182418804211712 _).mono ?_
  rintro e w' ⟨s, r, n3, rfl, rfl, hR⟩
  obtain ⟨rfl, rfl⟩ := sp_awake hR
  clear hR
  go_wp2_with fail
  refine (prodB 4607182418804211712 4607182418804211712 _).mono ?_
  rintro e w' ⟨s, r, n4, rfl, rfl, hR⟩
  obtain ⟨rfl, rfl⟩ := tp_awake hR
  clear hR
  go_wp2_with fail
  go_ret
  exact ⟨rfl, _, rfl⟩
theorem below_dn (w : World) (n : Nat) : Below w.heap.size w (w.drewN n) := bDrewN (Below.refl _ _) n
theorem eftSums_w (a b : Nat) (ha : a < 18446744073709551616) (hb : b < 18446744073709551616) (w : World) : Calls Try.prog 4 #[U a, U b] w fun e w' => e = .returned (.bool true) ∧ Below w.heap.size w w' := by
  go_enter Try.func4, Try.ntmps4
  go_wp2_with fail
  refine (sumB a b _).mono ?_
  rintro e w' ⟨s, r, n1, rfl, rfl, hR⟩
  have HR : Hid (TSR a b s r ∧ a < 18446744073709551616 ∧ b < 18446744073709551616) := ⟨hR, ha, hb⟩
  clear hR ha hb
  go_wp2_with fail
  refine (awake19 _).mono ?_
  rintro e w' ⟨rfl, n2, rfl⟩
  go_wp2_with fail
  refine (rsums (a := a) (b := b) (s := s) (e := r) fun ka kb => HR.out.1.ok HR.out.2.1 HR.out.2.2 ka kb).mono ?_
  rintro e w1 ⟨rfl, hb1⟩
  have HB : Hid (Below w.heap.size w w1) := Below.on (below_dn w _) hb1
  clear hb1
  go_wp2_with fail
  go_ret
  exact ⟨rfl, HB.out⟩
theorem eftFasts_w (a b : Nat) (ha : a < 18446744073709551616) (hb : b < 18446744073709551616) (w : World) : Calls Try.prog 5 #[U a, U b] w fun e w' => e = .returned (.bool true) ∧ Below w.heap.size w w' := by
  have HH : Hid (a < 18446744073709551616 ∧ b < 18446744073709551616) := ⟨ha, hb⟩
  clear ha hb
  go_enter Try.func5, Try.ntmps5
  go_wp2_with fail
  refine (awake19 _).mono ?_
  rintro e w' ⟨rfl, n2, rfl⟩
  go_wp2_with fail
  refine (fastB a b _).mono ?_
  rintro e w' ⟨s, r, n1, rfl, rfl, hR⟩
  have HR : Hid (FSR a b s r) := hR
  clear hR
  go_wp2_with fail
  refine (rahead a b _).mono ?_
  rintro e w' ⟨⟨t, rfl, ht⟩, rfl⟩
  cases t
  · go_wp2_with fail
    go_ret
    exact ⟨rfl, below_dn w _⟩
  · have HT : Hid (AheadP a b) := ht rfl
    clear ht
    go_wp2_with fail
    refine (rsums (a := a) (b := b) (s := s) (e := r) fun ka kb => HR.out.ok HH.out.1 HH.out.2 ka kb HT.out.2.2).mono ?_
    rintro e w1 ⟨rfl, hb1⟩
    have HB : Hid (Below w.heap.size w w1) := Below.on (below_dn w _) hb1
    clear hb1
    go_wp2_with fail
    go_ret
    exact ⟨rfl, HB.out⟩
theorem eftSums_walk (a : Nat) (ha : a < B64) (b : Nat) (hb : b < B64) {w : World} : Calls Try.prog 4 #[U a, U b] w fun e w' => e = .returned (.bool true) ∧ Below w.heap.size w w' := eftSums_w a b (by rw [B64_eq] at ha; exact ha) (by rw [B64_eq] at hb; exact hb) w
theorem eftFasts_walk (a : Nat) (ha : a < B64) (b : Nat) (hb : b < B64) {w : World} : Calls Try.prog 5 #[U a, U b] w fun e w' => e = .returned (.bool true) ∧ Below w.heap.size w w' := eftFasts_w a b (by rw [B64_eq] at ha; exact ha) (by rw [B64_eq] at hb; exact hb) w
end Go.Proofs.Ytpnpdngfjgdgfaa
