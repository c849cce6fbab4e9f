import Derived.Test.YtpnpdngfjgdgfabJ7
namespace Go.Proofs.Ytpnpdngfjgdgfab
open Go.RowKit Go.Shelf
set_option maxHeartbeats 0
structure Op5 where
  k : Int
  pa : Option Addr
  na : Nat
  ca : Nat
  xa : List Nat
  pb : Option Addr
  nb : Nat
  cb : Nat
  xb : List Nat
  nn : Int
  wd : Nat
structure Scr (w : World) (P : Option Addr) (N C : Nat) (its : List Op5) : Prop where
  len : its.length = N
  cap : N ≤ C
  big : C ≤ maxLen
  ats : ∀ t ∈ its, At w t.pa t.na t.ca t.xa ∧ At w t.pb t.nb t.cb t.xb ∧ t.na ≤ 17592186044416 ∧ t.nb ≤ 17592186044416 ∧ t.wd < B64 ∧ -9223372036854775808 ≤ t.nn ∧ t.nn ≤ 9223372036854775807
  cells : N = 0 ∨ ∃ g off, P = some ⟨g, off, none⟩ ∧ ∀ i (h : i < its.length), w.cell? ⟨g, off + i * 5, none⟩ = some (.int .i64 its[i].k) ∧ w.cell? ⟨g, off + i * 5 + 1, none⟩ = some (.slice its[i].pa its[i].na its[i].ca) ∧
    w.cell? ⟨g, off + i * 5 + 2, none⟩ = some (.slice its[i].pb its[i].nb its[i].cb) ∧ w.cell? ⟨g, off + i * 5 + 3, none⟩ = some (.int .i64 its[i].nn) ∧ w.cell? ⟨g, off + i * 5 + 4, none⟩ = some (U its[i].wd)
theorem Scr.below {w w' : World} {P : Option Addr} {N C : Nat} {its : List Op5} (h : Scr w P N C its) (hb : Below w.heap.size w w') : Scr w' P N C its := by
  refine ⟨h.len, h.cap, h.big, fun t ht => ?_, ?_⟩
  · obtain ⟨h1, h2, h3⟩ := h.ats t ht
    exact ⟨h1.below hb, h2.below hb, h3⟩
  · rcases h.cells with h0 | ⟨g, off, hP, hc⟩
    · exact .inl h0
    · refine .inr ⟨g, off, hP, fun i hi => ?_⟩
      obtain ⟨h0, h1, h2, h3, h4⟩ := hc i hi
      have hl : g < w.heap.size := World.block_lt_of_cell? w _ h0
      exact ⟨(hb.cell (p := ⟨g, off + i * 5, none⟩) hl).trans h0, (hb.cell (p := ⟨g, off + i * 5 + 1, none⟩) hl).trans h1, (hb.cell (p := ⟨g, off + i * 5 + 2, none⟩) hl).trans h2,
        (hb.cell (p := ⟨g, off + i * 5 + 3, none⟩) hl).trans h3, (hb.cell (p := ⟨g, off + i * 5 + 4, none⟩) hl).trans h4⟩
def ShIs (r : Nat → Nat → Nat) (xs : List Nat) (t : Int) (us : List Nat) (f : Int) : Prop :=
  (t < 0 ∧ us = [] ∧ f = 1) ∨ (0 ≤ t ∧ formB xs = false ∧ us = [] ∧ f = 2) ∨ (0 ≤ t ∧ formB xs = true ∧ DocIs (r (valB B64 xs) t.toNat) us f)
theorem ShIs.inj {r : Nat → Nat → Nat} {xs : List Nat} {t : Int} {us us' : List Nat} {f f' : Int} (h : ShIs r xs t us f) (k : ShIs r xs t us' f') : us = us' ∧ f = f' := by
  rcases h with ⟨h1, rfl, rfl⟩ | ⟨h1, h2, rfl, rfl⟩ | ⟨h1, h2, h3⟩ <;> rcases k with ⟨k1, rfl, rfl⟩ | ⟨k1, k2, rfl, rfl⟩ | ⟨k1, k2, k3⟩
  · exact ⟨rfl, rfl⟩
  · omega
  · omega
  · omega
  · exact ⟨rfl, rfl⟩
  · rw [k2] at h2; simp at h2
  · omega
  · rw [k2] at h2; simp at h2
  · exact h3.inj k3
theorem ShIs.er {r : Nat → Nat → Nat} {xs us : List Nat} {t f : Int} (h : ShIs r xs t us f) : f = 0 ∨ f = 1 ∨ f = 2 ∨ f = 3 ∨ f = 4 ∨ f = 5 := by
  rcases h with ⟨_, _, rfl⟩ | ⟨_, _, _, rfl⟩ | ⟨_, _, ⟨_, _, rfl⟩ | ⟨_, _, rfl⟩⟩ <;> simp
theorem rsz (b : Nat) (w : World) : Calls Try.prog 10 #[U b] w fun e w' => e = .returned (U (b % 9223372036854775808)) ∧ w' = w := by
  go_enter Try.func10, Try.ntmps10
  go_wp2_with fail
  go_ret
  exact ⟨congrArg (fun z => Ending.returned (.int .u64 z)) (by omega), rfl⟩
theorem rpow19 (k : Nat) (e : Int) (he : e = (k : Int) - 1023) (hk : k ≤ 2046) (w : World) : Calls Try.prog 11 #[.int .i64 e] w fun e w' => e = .returned (U (k * 4503599627370496)) ∧ w' = w := by
  go_enter Try.func11, Try.ntmps11
  have h1 : wrap64 (e + 1023) = (k : Int) := by rw [he]; simp only [wrap64]; omega
  have h2 : IntKind.i64.wrap (e + 1023) = (k : Int) := by rw [he]; simp [IntKind.wrap, IntKind.signed, IntKind.bits]; omega
  have h3 : IntKind.u64.wrap (k : Int) = (k : Int) := by rw [IntKind.wrap_u64]; omega
  have h4 : IntKind.u64.wrap ((k : Int) * 4503599627370496) = ((k * 4503599627370496 : Nat) : Int) := by rw [IntKind.wrap_u64]; omega
  clear he
  go_wp2_with fail
  go_ret
  exact ⟨congrArg (fun z => Ending.returned (.int .u64 z)) (by omega), rfl⟩
theorem ratmost (b k : Nat) (e : Int) (he : e = (k : Int) - 1023) (hk : k ≤ 2046) (w : World) : Calls Try.prog 9 #[U b, .int .i64 e] w fun e w' => e = .returned (.bool (decide (b % 9223372036854775808 ≤ k * 4503599627370496))) ∧ w' = w := by
  have HE : Hid (e = (k : Int) - 1023) := he
  clear he
  go_enter Try.func9, Try.ntmps9
  go_wp2_with fail
  refine (rsz b _).mono ?_
  rintro e' w' ⟨rfl, rfl⟩
  go_wp2_with fail
  refine (rpow19 k e HE.out hk _).mono ?_
  rintro e' w' ⟨rfl, rfl⟩
  go_wp2_with fail
  go_ret
  exact ⟨congrArg (fun z => Ending.returned (.bool z)) (decide_eq_decide.2 (by omega)), rfl⟩
end Go.Proofs.Ytpnpdngfjgdgfab
namespace Go.Proofs.Ytpnpdngfjgdgfab
open Go.RowKit
set_option maxHeartbeats 0
theorem FlR.add {x y r : Nat} (h : FlR .add x y r) (hx : Fin64 x) (hy : Fin64 y) (hm : (ux x + ux y).natAbs ≤ MaxU) : Sm64 (ux x + ux y) r := by
  obtain ⟨v, h1, h2⟩ := fl_add_fin hx hy hm
  rw [h.some v h1]; exact h2
theorem FlR.sub {x y r : Nat} (h : FlR .sub x y r) (hx : Fin64 x) (hy : Fin64 y) (hm : (ux x - ux y).natAbs ≤ MaxU) : Sm64 (ux x - ux y) r := by
  obtain ⟨v, h1, h2⟩ := fl_sub_fin hx hy hm
  rw [h.some v h1]; exact h2
theorem ux_abs (b : Nat) : (ux b).natAbs = vs 4503599627370496 (b % 9223372036854775808) := by
  rw [ux_eq]; split <;> omega
theorem vs_le4 {s t : Nat} (h : s ≤ t) : vs 4503599627370496 s ≤ vs 4503599627370496 t := by
  rcases Nat.lt_or_eq_of_le h with h1 | h1
  · exact Nat.le_of_lt (vs_mono (by omega) h1)
  · rw [h1]; exact Nat.le_refl _
theorem ux_pow {b K : Nat} (h : b % 9223372036854775808 ≤ (K + 1) * 4503599627370496) : (ux b).natAbs ≤ 2 ^ (52 + K) := by
  rw [ux_abs]
  refine Nat.le_trans (vs_le4 h) (Nat.le_of_eq ?_)
  have := vs_at K 4503599627370496 (.inr (Nat.le_refl _)) (by omega)
  rw [show (K + 1) * 4503599627370496 = K * 4503599627370496 + 4503599627370496 by omega, this, Nat.pow_add, show (2 : Nat) ^ 52 = 4503599627370496 by decide]
theorem Rn.bound {p : Nat} {x s : Int} {K : Nat} (h : Rn p x s) (hx : x.natAbs ≤ 2 ^ K) : s.natAbs ≤ 2 ^ K := by
  have h1 := h.hi (Fl.pow p K) (by omega)
  have h2 := h.neg.hi (Fl.pow p K) (by omega)
  omega
theorem Rn.near1 {x s : Int} {M : Nat} (h : Rn 53 x s) (hs : s.natAbs ≤ 4 * M) : (x - s).natAbs ≤ M := by
  have h1 := h.little (by omega)
  rw [show (2 : Nat) ^ 53 = 9007199254740992 by decide] at h1
  omega
theorem max_big {K M : Nat} (hK : K = 2044) (h : M = 2 ^ (52 + K)) : 3 * M ≤ MaxU ∧ 2 ^ (53 + K) = 2 * M := by
  have h1 : 2 ^ (52 + K) = 2251799813685248 * 2 ^ (K + 1) := by
    rw [show (2251799813685248 : Nat) = 2 ^ 51 by decide, ← Nat.pow_add]
    congr 1
    omega
  have h2 : 2 ^ (53 + K) = 2 * 2 ^ (52 + K) := by rw [show 53 + K = 52 + K + 1 by omega, p2succ]
  refine ⟨?_, by rw [h2, h]⟩
  rw [MaxU_eq (show K + 1 = 2045 by omega), h, h1]
  generalize 2 ^ (K + 1) = z
  omega
theorem pow1022 {a K : Nat} (hK : K = 2044) (h : a % 9223372036854775808 ≤ 9209861237972664320) : (ux a).natAbs ≤ 2 ^ (52 + K) := ux_pow (by omega)
theorem TSR.ok {a b s r : Nat} (h : TSR a b s r) (ha : a < 18446744073709551616) (hb : b < 18446744073709551616) (ka : a % 9223372036854775808 ≤ 9209861237972664320) (kb : b % 9223372036854775808 ≤ 9209861237972664320) :
    Sm64 (ux a + ux b) s ∧ Fin64 r ∧ ux s + ux r = ux a + ux b := by
  obtain ⟨ob, oa, da, db, F1, F2, F3, F4, F5, F6⟩ := h
  have fa : Fin64 a := ⟨ha, by omega⟩
  have fb : Fin64 b := ⟨hb, by omega⟩
  obtain ⟨K, hK⟩ : ∃ K, K = 2044 := ⟨_, rfl⟩
  have ma := pow1022 hK ka
  have mb := pow1022 hK kb
  obtain ⟨M, hM⟩ : ∃ M, M = 2 ^ (52 + K) := ⟨_, rfl⟩
  obtain ⟨m3, m2⟩ := max_big hK hM
  rw [← hM] at ma mb
  have S1 := F1.add fa fb (by omega)
  have bs := S1.rn.bound (K := 53 + K) (by rw [m2]; omega)
  rw [m2] at bs
  have e1 := S1.rn.near1 (M := M) (by omega)
  have S2 := F2.sub S1.fin fa (by omega)
  have bb := S2.rn.bound (K := 53 + K) (by rw [m2]; omega)
  rw [m2] at bb
  have e2 := S2.rn.near1 (M := M) (by omega)
  have S3 := F3.sub S1.fin S2.fin (by omega)
  have ba := S3.rn.bound (K := 53 + K) (by rw [m2]; omega)
  rw [m2] at ba
  have S4 := F4.sub fa S3.fin (by omega)
  have S5 := F5.sub fb S2.fin (by omega)
  have hd := two_sum_a (by omega) fa.fl fb.fl S1.rn S2.rn S3.rn S4.rn S5.rn
  have S6 := F6.add S4.fin S5.fin (by omega)
  exact ⟨S1, S6.fin, two_sum (by omega) fa.fl fb.fl S1.rn S2.rn S3.rn S4.rn S5.rn S6.rn⟩
theorem FSR.ok {a b s r : Nat} (h : FSR a b s r) (ha : a < 18446744073709551616) (hb : b < 18446744073709551616) (ka : a % 9223372036854775808 ≤ 9209861237972664320) (kb : b % 9223372036854775808 ≤ 9209861237972664320) (hab : a % 9223372036854775808 = 0 ∨ b % 9223372036854775808 ≤ a % 9223372036854775808) :
    Sm64 (ux a + ux b) s ∧ Fin64 r ∧ ux s + ux r = ux a + ux b := by
  obtain ⟨t, F1, F2, F3⟩ := h
  have fa : Fin64 a := ⟨ha, by omega⟩
  have fb : Fin64 b := ⟨hb, by omega⟩
  obtain ⟨K, hK⟩ : ∃ K, K = 2044 := ⟨_, rfl⟩
  have ma := pow1022 hK ka
  have mb := pow1022 hK kb
  have hab : ux a = 0 ∨ (ux b).natAbs ≤ (ux a).natAbs := by
    rcases hab with h | h
    · refine .inl ?_
      have := ux_abs a
      rw [h, vs_zero] at this
      omega
    · refine .inr ?_
      rw [ux_abs, ux_abs]; exact vs_le4 h
  obtain ⟨M, hM⟩ : ∃ M, M = 2 ^ (52 + K) := ⟨_, rfl⟩
  obtain ⟨m3, m2⟩ := max_big hK hM
  rw [← hM] at ma mb
  have S1 := F1.add fa fb (by omega)
  have bs := S1.rn.bound (K := 53 + K) (by rw [m2]; omega)
  rw [m2] at bs
  have e1 := S1.rn.near1 (M := M) (by omega)
  have S2 := F2.sub S1.fin fa (by omega)
  have bb := S2.rn.bound (K := 53 + K) (by rw [m2]; omega)
  rw [m2] at bb
  have S3 := F3.sub fb S2.fin (by omega)
  exact ⟨S1, S3.fin, fast_sum (by omega) fa.fl fb.fl hab S1.rn S2.rn S3.rn⟩
theorem Rn.self {p : Nat} {x : Int} (h : Fl p x) : Rn p x x := ⟨h, fun z _ => by rw [Int.sub_self]; exact Nat.zero_le _⟩
theorem mul_dvd2 {L t : Nat} {s : Int} (h : ((2 ^ L : Nat) : Int) ∣ s) : ((2 ^ (L + t) : Nat) : Int) ∣ s * ((2 ^ t : Nat) : Int) := by
  rw [Nat.pow_add, Int.natCast_mul]; exact Int.mul_dvd_mul h (Int.dvd_refl _)
theorem abs_mul2 (x : Int) (t : Nat) : (x * ((2 ^ t : Nat) : Int)).natAbs = x.natAbs * 2 ^ t := by rw [Int.natAbs_mul, Int.natAbs_natCast]
theorem Fl.scale {p : Nat} {x : Int} (h : Fl p x) (t : Nat) : Fl p (x * ((2 ^ t : Nat) : Int)) := by
  obtain ⟨q, h1, h2⟩ := h
  exact ⟨q + t, mul_dvd2 h1, by rw [abs_mul2, ← Nat.add_assoc, Nat.pow_add]; exact Nat.mul_le_mul_right _ h2⟩
theorem Rn.scale {p : Nat} {x s : Int} (hp : 1 ≤ p) (h : Rn p x s) (t : Nat) : Rn p (x * ((2 ^ t : Nat) : Int)) (s * ((2 ^ t : Nat) : Int)) := by
  obtain ⟨m, m1, m2⟩ := place hp x
  have he := h.err (m := m) (Nat.le_of_lt m1)
  by_cases hm0 : m = 0
  · subst hm0
    have e1 : s = x := by simp at he; omega
    rw [e1]
    rw [e1] at h
    exact Rn.self (h.fl.scale t)
  have m2 : 2 ^ (p - 1 + m) ≤ x.natAbs := by rcases m2 with h | h; exact absurd h hm0; exact h
  have hs := (h.dvd hp m2).1
  have hb : s.natAbs ≤ 2 ^ (p + m) := by
    have h1 := h.hi (Fl.pow p (p + m)) (by omega)
    have h2 := h.neg.hi (Fl.pow p (p + m)) (by omega)
    omega
  refine rn_mk (L := m + t) hp (mul_dvd2 hs) ?_ ?_ (.inr ?_)
  · rw [abs_mul2, ← Nat.add_assoc, Nat.pow_add]; exact Nat.mul_le_mul_right _ hb
  · rw [← Int.sub_mul, abs_mul2, ← Nat.mul_assoc, Nat.pow_add]; exact Nat.mul_le_mul_right _ he
  · rw [abs_mul2, ← Nat.add_assoc, Nat.pow_add]; exact Nat.mul_le_mul_right _ m2
theorem pw (k e : Nat) : 2 ^ (k + e) = 2 ^ k * 2 ^ e := Nat.pow_add ..
theorem veltkamp_p {a c d h l : Int} {e : Nat} (h0 : 0 < a) (h1 : 2 ^ (52 + e) ≤ a.natAbs) (h2 : a.natAbs < 2 ^ (53 + e)) (hf : Fl 53 a) (hc : Rn 53 (134217729 * a) c) (hd : Rn 53 (c - a) d) (hh : Rn 53 (c - d) h) (hl : Rn 53 (a - h) l) :
    ((2 ^ (27 + e) : Nat) : Int) ∣ h ∧ ((2 ^ e : Nat) : Int) ∣ a ∧ (a - h).natAbs ≤ 2 ^ (26 + e) ∧ h.natAbs ≤ 2 ^ (53 + e) ∧ l = a - h ∧ h = c - d ∧ 67108864 * (a - h).natAbs < a.natAbs := by
  have ha : ((2 ^ e : Nat) : Int) ∣ a := hf.dvd (by omega) h1
  have hp := p2pos e
  -- the powers, by the unit of a
  have q26 : 2 ^ (26 + e) = 67108864 * 2 ^ e := by rw [pw]
  have q27 : 2 ^ (27 + e) = 134217728 * 2 ^ e := by rw [pw]
  have q28 : 2 ^ (28 + e) = 268435456 * 2 ^ e := by rw [pw]
  have q52 : 2 ^ (52 + e) = 4503599627370496 * 2 ^ e := by rw [pw]
  have q53 : 2 ^ (53 + e) = 9007199254740992 * 2 ^ e := by rw [pw]
  have q79 : 2 ^ (79 + e) = 604462909807314587353088 * 2 ^ e := by rw [pw]
  have q80 : 2 ^ (80 + e) = 1208925819614629174706176 * 2 ^ e := by rw [pw]
  have q81 : 2 ^ (81 + e) = 2417851639229258349412352 * 2 ^ e := by rw [pw]
  have hup : a.natAbs + 2 ^ e ≤ 2 ^ (53 + e) := le_of_dvd2 (dvd_abs ha) (Nat.pow_dvd_pow 2 (by omega)) h2
  have hlo : a.natAbs = 2 ^ (52 + e) ∨ 2 ^ (52 + e) + 2 ^ e ≤ a.natAbs := by
    rcases Nat.lt_or_ge (2 ^ (52 + e)) a.natAbs with h | h
    · exact .inr (le_of_dvd2 (Nat.pow_dvd_pow 2 (by omega)) (dvd_abs ha) h)
    · exact .inl (by omega)
  have hc1 := hc.err (m := 28 + e) (by rw [show 53 + (28 + e) = 81 + e by omega]; omega)
  have hc2 : (134217729 * a).natAbs < 2 ^ (80 + e) → 2 * (c - 134217729 * a).natAbs ≤ 2 ^ (27 + e) := fun h => hc.err (m := 27 + e) (by rw [show 53 + (27 + e) = 80 + e by omega]; omega)
  have hc3 := (hc.dvd (by omega) (m := 27 + e) (by rw [show 53 - 1 + (27 + e) = 79 + e by omega]; omega)).1
  rcases hlo with hA | hB
  · -- a power of two
    have ea : a = ((2 ^ (52 + e) : Nat) : Int) := by omega
    have e1 : c = 134217729 * a := by
      refine hc.ex ⟨52 + e, ⟨134217729, by rw [← ea, Int.mul_comm]⟩, ?_⟩
      rw [Int.natAbs_mul, show (134217729 : Int).natAbs = 134217729 from rfl, pw 53 (52 + e), ← hA]
      exact Nat.mul_le_mul_right _ (by decide)
    have e2 : d = c - a := by
      refine hd.ex ?_
      rw [show c - a = ((2 ^ (79 + e) : Nat) : Int) by omega]
      exact Fl.pow 53 _
    have e3 : h = c - d := by
      refine hh.ex ?_
      rw [show c - d = a by omega]; exact hf
    have e4 : h = a := by omega
    have e5 : l = a - h := by
      refine hl.ex ?_
      rw [e4, Int.sub_self]; exact Fl.zero 53
    refine ⟨?_, ha, by rw [e4, Int.sub_self]; exact Nat.zero_le _, by rw [e4]; omega, e5, e3, by rw [e4, Int.sub_self]; simp; omega⟩
    rw [e4, ea]; exact p2dvd (by omega)
  · have hca : 2 ^ (79 + e) ≤ (c - a).natAbs ∧ (c - a).natAbs ≤ 2 ^ (80 + e) ∧ 0 < c - a := by
      by_cases h3 : (134217729 * a).natAbs < 2 ^ (80 + e)
      · have := hc2 h3
        omega
      · omega
    have hd1 := hd.err (m := 27 + e) (by rw [show 53 + (27 + e) = 80 + e by omega]; omega)
    have hd2 := (hd.dvd (by omega) (m := 27 + e) (by rw [show 53 - 1 + (27 + e) = 79 + e by omega]; omega)).1
    have hcd : ((2 ^ (27 + e) : Nat) : Int) ∣ c - d := Int.dvd_sub hc3 hd2
    have hb : (c - d).natAbs ≤ 2 ^ (53 + e) := Nat.le_of_not_lt fun h3 => by
      have := le_of_dvd2 (Nat.pow_dvd_pow 2 (show 27 + e ≤ 53 + e by omega)) (dvd_abs hcd) h3
      omega
    have e3 : h = c - d := hh.ex ⟨27 + e, hcd, by rw [show 53 + (27 + e) = 80 + e by omega]; omega⟩
    have hdv : ((2 ^ e : Nat) : Int) ∣ a - h := by
      rw [e3]; exact Int.dvd_sub ha (Int.dvd_trans (p2dvd (by omega)) hcd)
    have e5 : l = a - h := hl.ex ⟨e, hdv, by omega⟩
    exact ⟨by rw [e3]; exact hcd, ha, by omega, by omega, e5, e3, by omega⟩
theorem veltkamp {a c d h l : Int} {e : Nat} (h1 : 2 ^ (52 + e) ≤ a.natAbs) (h2 : a.natAbs < 2 ^ (53 + e)) (hf : Fl 53 a) (hc : Rn 53 (134217729 * a) c) (hd : Rn 53 (c - a) d) (hh : Rn 53 (c - d) h) (hl : Rn 53 (a - h) l) :
    ((2 ^ (27 + e) : Nat) : Int) ∣ h ∧ ((2 ^ e : Nat) : Int) ∣ a ∧ (a - h).natAbs ≤ 2 ^ (26 + e) ∧ h.natAbs ≤ 2 ^ (53 + e) ∧ l = a - h ∧ h = c - d ∧ 67108864 * (a - h).natAbs < a.natAbs := by
  rcases Int.lt_trichotomy a 0 with h0 | h0 | h0
  · have := veltkamp_p (a := -a) (c := -c) (d := -d) (h := -h) (l := -l) (e := e) (by omega) (by omega) (by omega) hf.neg
      (by rw [Int.mul_neg]; exact hc.neg) (by rw [show -c - -a = -(c - a) by omega]; exact hd.neg) (by rw [show -c - -d = -(c - d) by omega]; exact hh.neg) (by rw [show -a - -h = -(a - h) by omega]; exact hl.neg)
    obtain ⟨k1, k2, k3, k4, k5, k6, k7⟩ := this
    exact ⟨Int.dvd_neg.1 k1, Int.dvd_neg.1 k2, by omega, by omega, by omega, by omega, by omega⟩
  · subst h0
    have := p2pos (52 + e)
    rw [Int.natAbs_zero] at h1
    omega
  · exact veltkamp_p h0 h1 h2 hf hc hd hh hl
theorem dekker {a b ah al bh bl p e1 e2 e3 e4 : Int} {i j : Nat} (a1 : 2 ^ (52 + i) ≤ a.natAbs) (a2 : a.natAbs < 2 ^ (53 + i)) (b1 : 2 ^ (52 + j) ≤ b.natAbs) (b2 : b.natAbs < 2 ^ (53 + j))
    (ea : al = a - ah) (eb : bl = b - bh) (da : ((2 ^ i : Nat) : Int) ∣ a) (db : ((2 ^ j : Nat) : Int) ∣ b) (dah : ((2 ^ (27 + i) : Nat) : Int) ∣ ah) (dbh : ((2 ^ (27 + j) : Nat) : Int) ∣ bh)
    (lal : al.natAbs ≤ 2 ^ (26 + i)) (lbl : bl.natAbs ≤ 2 ^ (26 + j)) (lah : ah.natAbs ≤ 2 ^ (53 + i)) (lbh : bh.natAbs ≤ 2 ^ (53 + j))
    (hp : Rn 53 (a * b) p) (h1 : Rn 53 (ah * bh - p) e1) (h2 : Rn 53 (e1 + ah * bl) e2) (h3 : Rn 53 (e2 + al * bh) e3) (h4 : Rn 53 (e3 + al * bl) e4) :
    p + e4 = a * b ∧ e1 = ah * bh - p ∧ e2 = e1 + ah * bl ∧ e3 = e2 + al * bh ∧ Fl 53 (ah * bh) ∧ Fl 53 (ah * bl) ∧ Fl 53 (al * bh) ∧ Fl 53 (al * bl) := by
  have dvd_mul : ∀ {x y : Int} {m n : Nat}, ((2 ^ m : Nat) : Int) ∣ x → ((2 ^ n : Nat) : Int) ∣ y → ((2 ^ (m + n) : Nat) : Int) ∣ x * y := fun hx hy => by
    rw [Nat.pow_add, Int.natCast_mul]; exact Int.mul_dvd_mul hx hy
  have le_mul : ∀ {x y : Int} {m n : Nat}, x.natAbs ≤ 2 ^ m → y.natAbs ≤ 2 ^ n → (x * y).natAbs ≤ 2 ^ (m + n) := fun hx hy => by
    rw [Int.natAbs_mul, Nat.pow_add]; exact Nat.mul_le_mul hx hy
  have dal : ((2 ^ i : Nat) : Int) ∣ al := by rw [ea]; exact Int.dvd_sub da (Int.dvd_trans (p2dvd (by omega)) dah)
  have dbl : ((2 ^ j : Nat) : Int) ∣ bl := by rw [eb]; exact Int.dvd_sub db (Int.dvd_trans (p2dvd (by omega)) dbh)
  obtain ⟨E, hE⟩ : ∃ E, E = i + j := ⟨_, rfl⟩
  have x1d := dvd_mul dah dbh
  have x2d := dvd_mul dah dbl
  have x3d := dvd_mul dal dbh
  have x4d := dvd_mul dal dbl
  have x1l := le_mul lah lbh
  have x2l := le_mul lah lbl
  have x3l := le_mul lal lbh
  have x4l := le_mul lal lbl
  have abl := le_mul (Nat.le_of_lt a2) (Nat.le_of_lt b2)
  have abg : 2 ^ (104 + E) ≤ (a * b).natAbs := by
    rw [Int.natAbs_mul, show 104 + E = 52 + i + (52 + j) by omega, Nat.pow_add]; exact Nat.mul_le_mul a1 b1
  rw [show 27 + i + (27 + j) = 54 + E by omega] at x1d
  rw [show 27 + i + j = 27 + E by omega] at x2d
  rw [show i + (27 + j) = 27 + E by omega] at x3d
  rw [← hE] at x4d
  rw [show 53 + i + (53 + j) = 106 + E by omega] at x1l abl
  rw [show 53 + i + (26 + j) = 79 + E by omega] at x2l
  rw [show 26 + i + (53 + j) = 79 + E by omega] at x3l
  rw [show 26 + i + (26 + j) = 52 + E by omega] at x4l
  have hsum : a * b = ah * bh + ah * bl + al * bh + al * bl := by
    rw [show a = ah + al by omega, show b = bh + bl by omega, Int.add_mul, Int.mul_add, Int.mul_add]; omega
  have pe := hp.err (m := 53 + E) (by rw [show 53 + (53 + E) = 106 + E by omega]; exact abl)
  have pd := (hp.dvd (by omega) (m := 52 + E) (by rw [show 53 - 1 + (52 + E) = 104 + E by omega]; exact abg)).1
  have hq := p2pos E
  have q27 : 2 ^ (27 + E) = 134217728 * 2 ^ E := by rw [pw]
  have q52 : 2 ^ (52 + E) = 4503599627370496 * 2 ^ E := by rw [pw]
  have q53 : 2 ^ (53 + E) = 9007199254740992 * 2 ^ E := by rw [pw]
  have q79 : 2 ^ (79 + E) = 604462909807314587353088 * 2 ^ E := by rw [pw]
  have q80 : 2 ^ (80 + E) = 1208925819614629174706176 * 2 ^ E := by rw [pw]
  have q105 : 2 ^ (105 + E) = 40564819207303340847894502572032 * 2 ^ E := by rw [pw]
  have f1 : Fl 53 (ah * bh) := ⟨54 + E, x1d, by rw [show 53 + (54 + E) = 107 + E by omega]; exact Nat.le_trans x1l (p2le (by omega))⟩
  have f2 : Fl 53 (ah * bl) := ⟨27 + E, x2d, by rw [show 53 + (27 + E) = 80 + E by omega]; omega⟩
  have f3 : Fl 53 (al * bh) := ⟨27 + E, x3d, by rw [show 53 + (27 + E) = 80 + E by omega]; omega⟩
  have f4 : Fl 53 (al * bl) := ⟨E, x4d, by omega⟩
  generalize ah * bh = X1 at *
  generalize ah * bl = X2 at *
  generalize al * bh = X3 at *
  generalize al * bl = X4 at *
  generalize a * b = AB at *
  have g1 : e1 = X1 - p := h1.ex ⟨52 + E, Int.dvd_sub (Int.dvd_trans (p2dvd (by omega)) x1d) pd, by rw [show 53 + (52 + E) = 105 + E by omega]; omega⟩
  have g2 : e2 = e1 + X2 := h2.ex ⟨27 + E, by rw [g1]; exact Int.dvd_add (Int.dvd_sub (Int.dvd_trans (p2dvd (by omega)) x1d) (Int.dvd_trans (p2dvd (by omega)) pd)) x2d, by rw [show 53 + (27 + E) = 80 + E by omega]; omega⟩
  have g3 : e3 = e2 + X3 := h3.ex ⟨27 + E, by rw [g2, g1]; exact Int.dvd_add (Int.dvd_add (Int.dvd_sub (Int.dvd_trans (p2dvd (by omega)) x1d) (Int.dvd_trans (p2dvd (by omega)) pd)) x2d) x3d, by rw [show 53 + (27 + E) = 80 + E by omega]; omega⟩
  have g4 : e4 = e3 + X4 := h4.ex ⟨E, by rw [g3, g2, g1]; exact Int.dvd_add (Int.dvd_add (Int.dvd_add (Int.dvd_sub (Int.dvd_trans (p2dvd (by omega)) x1d) (Int.dvd_trans (p2dvd (by omega)) pd)) (Int.dvd_trans (p2dvd (by omega)) x2d)) (Int.dvd_trans (p2dvd (by omega)) x3d)) x4d, by omega⟩
  exact ⟨by omega, g1, g2, g3, f1, f2, f3, f4⟩
theorem cut_all (neg : Bool) (n L : Nat) : Ieee.Toward.even.cut neg n L = rne n L := by
  rcases Nat.lt_or_ge (n.log2 + 2) L with h | h
  · have hu : n < 2 ^ (n.log2 + 1) := Nat.lt_log2_self
    have h1 : 2 ^ (n.log2 + 2) = 2 * 2 ^ (n.log2 + 1) := p2succ _
    have h2 : 2 ^ (n.log2 + 2) ≤ 2 ^ L := p2le (by omega)
    unfold Ieee.Toward.cut rne
    rw [Nat.min_eq_right (by omega), Nat.one_shiftLeft]
    dsimp only
    rw [Nat.div_eq_of_lt (show n < 2 ^ (n.log2 + 2) by omega), Nat.div_eq_of_lt (show n < 2 ^ L by omega), Nat.mod_eq_of_lt (show n < 2 ^ (n.log2 + 2) by omega), Nat.mod_eq_of_lt (show n < 2 ^ L by omega)]
    rw [decide_eq_false (show ¬ 2 ^ (n.log2 + 2) < 2 * n by omega), decide_eq_false (show ¬ 2 ^ L < 2 * n by omega), show (2 ^ (n.log2 + 2) == 2 * n) = false by simp; omega, show (2 ^ L == 2 * n) = false by simp; omega]
  · exact cut_eq neg n L h
def rgc (c n : Nat) : Nat := if n = 0 then 0 else min ((max (n.log2 - 52) c - c) * 4503599627370496 + rne n (max (n.log2 - 52) c)) 9218868437227405312
theorem nearest_rgc (neg : Bool) (mag c d : Nat) : Ieee.double.nearest neg mag (-1074 - (c : Int) + (d : Int)) = Ieee.double.word neg (rgc c (mag * 2 ^ d)) := by
  have e1 : Ieee.double.leastPlace = -1074 := by decide
  have e2 : Ieee.double.binade = 4503599627370496 := by decide
  have e3 : Ieee.double.infRung = 9218868437227405312 := by decide
  have e4 : Ieee.double.fractionBits = 52 := by decide
  have hd : 0 < 2 ^ d := p2pos d
  unfold Ieee.Format.nearest rgc
  by_cases h0 : mag = 0
  · subst h0; simp
  · have hz : mag * 2 ^ d ≠ 0 := Nat.mul_ne_zero h0 (by omega)
    rw [if_neg h0, if_neg hz, e1, e2, e3, e4]
    have hl := log2_mul mag d h0
    obtain ⟨l, hle⟩ : ∃ l, l = mag.log2 := ⟨_, rfl⟩
    rw [← hle] at hl ⊢
    rw [hl]
    obtain ⟨L, hL⟩ : ∃ L, L = max (l + d - 52) c := ⟨_, rfl⟩
    rw [← hL]
    have e5 : max (-1074 - (c : Int) + (d : Int) + (l : Int) - ((52 : Nat) : Int)) (-1074) = -1074 - (c : Int) + (L : Int) := by omega
    dsimp only
    rw [e5]
    have e6 : (-1074 - (c : Int) + (L : Int) - -1074).toNat = L - c := by omega
    rw [e6]
    have e7 : (-1074 - (c : Int) + (d : Int) - (-1074 - (c : Int) + (L : Int))).toNat = d - L := by omega
    have e8 : (-1074 - (c : Int) + (L : Int) - (-1074 - (c : Int) + (d : Int))).toNat = L - d := by omega
    rw [e7, e8, Nat.shiftLeft_eq, cut_all]
    have e9 : rne (mag * 2 ^ (d - L)) (L - d) = rne (mag * 2 ^ d) L := by
      rcases Nat.le_total L d with h1 | h1
      · rw [show L - d = 0 by omega, rne_zero]
        have h2 := rne_mul (mag * 2 ^ (d - L)) 0 L
        rw [Nat.zero_add, rne_zero, Nat.mul_assoc, ← Nat.pow_add, show d - L + L = d by omega] at h2
        exact h2.symm
      · rw [show d - L = 0 by omega, Nat.pow_zero, Nat.mul_one]
        have h2 := rne_mul mag (L - d) d
        rw [show L - d + d = L by omega] at h2
        exact h2.symm
    rw [e9]
theorem rgc_int (c n : Nat) : rgc c (n * 2 ^ c) = rg 0 n := by
  have hd : 0 < 2 ^ c := p2pos c
  unfold rgc rg
  by_cases h0 : n = 0
  · subst h0; simp
  · have hz : n * 2 ^ c ≠ 0 := Nat.mul_ne_zero h0 (by omega)
    rw [if_neg h0, if_neg hz, log2_mul n c h0, show max (n.log2 + c - 52) c = n.log2 - 52 + c by omega, rne_mul, Nat.add_sub_cancel, Nat.sub_zero]
theorem fmul_any {a b : Nat} (ha : Fin64 a) (hb : Fin64 b) : floatBits .mul .f64 a b = some (Ieee.double.word (decide (9223372036854775808 ≤ a) ^^ decide (9223372036854775808 ≤ b)) (rgc 1074 ((ux a).natAbs * (ux b).natAbs))) := by
  obtain ⟨m, q, h1, h2⟩ := read_fin ha.lt ha.fin
  obtain ⟨n, t, h3, h4⟩ := read_fin hb.lt hb.fin
  rw [ux_abs, ux_abs, ← h2, ← h4]
  show ((Ieee.double.read a).product (Ieee.double.read b)).map Ieee.double.write = _
  rw [h1, h3]
  show some (Ieee.double.nearest _ (m * n) (-1074 + (q : Int) + (-1074 + (t : Int)))) = _
  have := nearest_rgc (decide (9223372036854775808 ≤ a) ^^ decide (9223372036854775808 ≤ b)) (m * n) 1074 (q + t)
  rw [show (-1074 : Int) - ((1074 : Nat) : Int) + ((q + t : Nat) : Int) = -1074 + (q : Int) + (-1074 + (t : Int)) by omega] at this
  rw [this, show m * n * 2 ^ (q + t) = m * 2 ^ q * (n * 2 ^ t) by rw [Nat.pow_add, ← Nat.mul_assoc, ← Nat.mul_assoc, Nat.mul_assoc m n, Nat.mul_comm n, ← Nat.mul_assoc]]
theorem ux_neg {b : Nat} (h : ux b ≠ 0) : decide (9223372036854775808 ≤ b) = decide (ux b < 0) := by
  refine decide_eq_decide.2 ?_
  have := ux_eq b
  by_cases h1 : 9223372036854775808 ≤ b
  · rw [if_pos h1] at this; omega
  · rw [if_neg h1] at this; omega
theorem mul_sign {a b : Nat} (h : ux a * ux b ≠ 0) : (decide (9223372036854775808 ≤ a) ^^ decide (9223372036854775808 ≤ b)) = decide (ux a * ux b < 0) := by
  have ha : ux a ≠ 0 := fun k => h (by rw [k, Int.zero_mul])
  have hb : ux b ≠ 0 := fun k => h (by rw [k, Int.mul_zero])
  rw [ux_neg ha, ux_neg hb]
  generalize ux a = x at *
  generalize ux b = y at *
  rcases Int.lt_or_gt_of_ne ha with h1 | h1 <;> rcases Int.lt_or_gt_of_ne hb with h2 | h2
  · have := Int.mul_pos_of_neg_of_neg h1 h2
    simp [h1, h2]; omega
  · have := Int.mul_neg_of_neg_of_pos h1 h2
    simp [h1, Int.not_lt.2 (Int.le_of_lt h2), this]
  · have := Int.mul_neg_of_pos_of_neg h1 h2
    simp [h2, Int.not_lt.2 (Int.le_of_lt h1), this]
  · have := Int.mul_pos h1 h2
    simp [Int.not_lt.2 (Int.le_of_lt h1), Int.not_lt.2 (Int.le_of_lt h2)]; omega
theorem FlR.mul {x y r : Nat} (h : FlR .mul x y r) (hx : Fin64 x) (hy : Fin64 y) {X : Int} {c : Nat} (hc : c = 1074) (hX : ux x * ux y = X * ((2 ^ c : Nat) : Int)) (hm : X.natAbs ≤ MaxU) : Sm64 X r := by
  have h1 := fmul_any hx hy
  rw [← Int.natAbs_mul, hX, Int.natAbs_mul, Int.natAbs_natCast, ← hc, rgc_int] at h1
  rw [h.some _ h1]
  refine sm_word hm fun h0 => ?_
  have hp : (0 : Int) < ((2 ^ c : Nat) : Int) := Int.ofNat_lt.2 (p2pos c)
  have h2 : ux x * ux y ≠ 0 := by rw [hX]; exact Int.mul_ne_zero h0 (by omega)
  rw [mul_sign h2, hX]
  refine decide_eq_decide.2 ⟨fun h3 => ?_, fun h3 => Int.mul_neg_of_neg_of_pos h3 hp⟩
  refine Int.lt_of_not_ge fun h4 => ?_
  have := Int.mul_nonneg h4 (Int.le_of_lt hp)
  omega
structure Pm64 (V : Int) (r : Nat) : Prop where
  fin : Fin64 r
  size : r % 9223372036854775808 = rg 1074 V.natAbs
  sign : V ≠ 0 → (9223372036854775808 ≤ r ↔ V < 0)
  rn : ∀ c, c = 1074 → Rn 53 V (ux r * ((2 ^ c : Nat) : Int))
theorem FlR.big {x y r : Nat} (h : FlR .mul x y r) (hx : Fin64 x) (hy : Fin64 y) (h1 : 1126 ≤ (ux x * ux y).natAbs.log2) (h2 : (ux x * ux y).natAbs.log2 ≤ 3169) : Pm64 (ux x * ux y) r := by
  have hr := fmul_any hx hy
  rw [← Int.natAbs_mul] at hr
  have hV0 : ux x * ux y ≠ 0 := fun h0 => by rw [h0] at h1; simp at h1
  rw [mul_sign hV0] at hr
  have hr := h.some _ hr
  generalize ux x * ux y = V at *
  obtain ⟨N, hN⟩ : ∃ N, N = V.natAbs := ⟨_, rfl⟩
  have hN0 : N ≠ 0 := by omega
  rw [← hN] at h1 h2 hr
  have hl : 2 ^ N.log2 ≤ N := Nat.log2_self_le hN0
  have hu : N < 2 ^ (N.log2 + 1) := Nat.lt_log2_self
  obtain ⟨L, hL⟩ : ∃ L, L = N.log2 - 52 := ⟨_, rfl⟩
  have hk1 : rne N L ≤ 9007199254740992 := by
    refine rne_le N L _ (Nat.le_of_lt (Nat.lt_of_lt_of_le hu ?_))
    rw [show 9007199254740992 = 2 ^ 53 by decide, ← Nat.pow_add]
    exact p2le (by omega)
  have hk2 : 4503599627370496 ≤ rne N L := by
    refine le_rne N L _ (Nat.le_trans ?_ hl)
    rw [show 4503599627370496 = 2 ^ 52 by decide, ← Nat.pow_add]
    exact p2le (by omega)
  have hg : rgc 1074 N = (L - 1074) * 4503599627370496 + rne N L := by
    unfold rgc
    rw [if_neg hN0, ← hL, Nat.max_eq_left (by omega), Nat.min_eq_left (by omega)]
  have hg2 : rg 1074 N = rgc 1074 N := by
    rw [hg]; unfold rg
    rw [if_neg hN0, ← hL, Nat.min_eq_left (by omega)]
  have hlt : rgc 1074 N < 9218868437227405312 := by rw [hg]; omega
  obtain ⟨wa, wb, wc⟩ := word_facts (decide (V < 0)) hlt
  rw [← hr] at wa wb wc
  refine ⟨⟨wa, by rw [wb]; exact hlt⟩, by rw [wb, ← hN, hg2], fun _ => ?_, fun c hc => ?_⟩
  · have e4 : Ieee.double.signWeight = 9223372036854775808 := by decide
    rw [hr]
    unfold Ieee.Format.word
    rw [e4]
    by_cases h2 : V < 0
    · simp [h2]
    · simp [h2]; omega
  · have hvs : vs 4503599627370496 (rgc 1074 N) * 2 ^ c = rne N L * 2 ^ L := by
      rw [hg, vs_at _ _ (.inr hk2) hk1, Nat.mul_assoc, ← Nat.pow_add, show L - 1074 + c = L by omega]
    have hR : Rn 53 (N : Int) ((rne N L * 2 ^ L : Nat) : Int) := by
      refine rn_mk (L := L) (by omega) ⟨rne N L, by rw [Int.natCast_mul, Int.mul_comm]⟩ ?_ (rne_err N L) (.inr ?_)
      · rw [Int.natAbs_natCast, Nat.pow_add]
        exact Nat.mul_le_mul_right _ hk1
      · rw [Int.natAbs_natCast]
        exact Nat.le_trans (p2le (by omega)) hl
    rw [wc]
    by_cases h3 : V < 0
    · rw [decide_eq_true h3, if_pos rfl, Int.neg_mul, ← Int.natCast_mul, hvs]
      have := hR.neg
      rw [hN, show -((V.natAbs : Nat) : Int) = V by omega, ← hN] at this
      exact this
    · rw [decide_eq_false h3]
      simp only [Bool.false_eq_true, if_false]
      rw [← Int.natCast_mul, hvs]
      rw [show (N : Int) = V by omega] at hR
      exact hR
theorem ux_split {c : Nat} (hc : c = 1074) : ux 4728779608772575232 = 134217729 * ((2 ^ c : Nat) : Int) := by
  have h1 : 4728779608772575232 / 4503599627370496 - 1 = c - 25 := by rw [hc]
  have h2 : 4728779608772575232 - (c - 25) * 4503599627370496 = 134217729 * 33554432 := by rw [hc]
  have h3 : 2 ^ c = 33554432 * 2 ^ (c - 25) := by
    rw [show (33554432 : Nat) = 2 ^ 25 by decide, ← Nat.pow_add]
    congr 1
    omega
  rw [ux_eq, if_neg (by decide)]
  unfold vs
  rw [show 4728779608772575232 % 9223372036854775808 = 4728779608772575232 by decide, h1, h2, h3, Nat.mul_assoc, Int.natCast_mul]
  rfl
theorem fin_split : Fin64 4728779608772575232 := ⟨by decide, by decide⟩
structure Hlv (a h l : Nat) (i : Nat) : Prop where
  lo : 2 ^ (52 + i) ≤ (ux a * ((2 ^ 53 : Nat) : Int)).natAbs
  hi : (ux a * ((2 ^ 53 : Nat) : Int)).natAbs < 2 ^ (53 + i)
  dh : ((2 ^ (27 + i) : Nat) : Int) ∣ ux h * ((2 ^ 53 : Nat) : Int)
  da : ((2 ^ i : Nat) : Int) ∣ ux a * ((2 ^ 53 : Nat) : Int)
  ll : (ux l * ((2 ^ 53 : Nat) : Int)).natAbs ≤ 2 ^ (26 + i)
  lh : (ux h * ((2 ^ 53 : Nat) : Int)).natAbs ≤ 2 ^ (53 + i)
  eq : ux l = ux a - ux h
  sm : 67108864 * (ux l).natAbs < (ux a).natAbs
theorem SPR.ok {a h l : Nat} (k : SPR a h l) (ha : a < 18446744073709551616) (ka : a % 9223372036854775808 ≤ 9088264048033660928) :
    Fin64 h ∧ Fin64 l ∧ ((ux a = 0 ∧ ux h = 0 ∧ ux l = 0) ∨ ∃ i, Hlv a h l i) := by
  obtain ⟨c, d, F1, F2, F3, F4⟩ := k
  have fa : Fin64 a := ⟨ha, by omega⟩
  obtain ⟨K, hK⟩ : ∃ K, K = 2044 := ⟨_, rfl⟩
  obtain ⟨J, hJ⟩ : ∃ J, J = 2017 := ⟨_, rfl⟩
  have ma : (ux a).natAbs ≤ 2 ^ (52 + J) := ux_pow (by omega)
  obtain ⟨M, hM⟩ : ∃ M, M = 2 ^ (52 + K) := ⟨_, rfl⟩
  obtain ⟨m3, m2⟩ := max_big hK hM
  have hMJ : M = 134217728 * 2 ^ (52 + J) := by
    rw [hM, show (134217728 : Nat) = 2 ^ 27 by decide, ← Nat.pow_add]
    congr 1
    omega
  have m4 : 2 ^ (54 + K) = 4 * M := by rw [show 54 + K = 53 + K + 1 by omega, p2succ, m2]; omega
  obtain ⟨q, hq⟩ : ∃ q, q = 1074 := ⟨_, rfl⟩
  have S1 := F1.mul fin_split fa (X := 134217729 * ux a) hq (by rw [ux_split hq, Int.mul_assoc, Int.mul_comm _ (ux a), ← Int.mul_assoc]) (by omega)
  have bc := S1.rn.bound (K := 53 + K) (by rw [m2]; omega)
  rw [m2] at bc
  have S2 := F2.sub S1.fin fa (by omega)
  have bd := S2.rn.bound (K := 54 + K) (by rw [m4]; omega)
  rw [m4] at bd
  have e2 := S2.rn.near1 (M := M) (by omega)
  have S3 := F3.sub S1.fin S2.fin (by omega)
  have bh := S3.rn.bound (K := 53 + K) (by rw [m2]; omega)
  rw [m2] at bh
  have S4 := F4.sub fa S3.fin (by omega)
  refine ⟨S3.fin, S4.fin, ?_⟩
  by_cases h0 : ux a = 0
  · have z1 := S1.rn
    rw [h0, Int.mul_zero] at z1
    have z1 := z1.ex (Fl.zero 53)
    have z2 := S2.rn
    rw [z1, h0, Int.sub_zero] at z2
    have z2 := z2.ex (Fl.zero 53)
    have z3 := S3.rn
    rw [z1, z2, Int.sub_zero] at z3
    have z3 := z3.ex (Fl.zero 53)
    have z4 := S4.rn
    rw [h0, z3, Int.sub_zero] at z4
    exact .inl ⟨h0, z3, z4.ex (Fl.zero 53)⟩
  · refine .inr ?_
    have hA : 2 ^ 53 ≤ (ux a * ((2 ^ 53 : Nat) : Int)).natAbs := by
      rw [abs_mul2]
      have := Nat.mul_le_mul_right (2 ^ 53) (show 1 ≤ (ux a).natAbs by omega)
      omega
    obtain ⟨i, i1, i2⟩ := place (show 1 ≤ 53 by omega) (ux a * ((2 ^ 53 : Nat) : Int))
    have i2 : 2 ^ (52 + i) ≤ (ux a * ((2 ^ 53 : Nat) : Int)).natAbs := by
      rcases i2 with h | h
      · subst h; exact Nat.le_trans (p2le (by omega)) hA
      · exact h
    have r1 := S1.rn.scale (by omega) 53
    have r2 := S2.rn.scale (by omega) 53
    have r3 := S3.rn.scale (by omega) 53
    have r4 := S4.rn.scale (by omega) 53
    rw [Int.mul_assoc] at r1
    rw [Int.sub_mul] at r2 r3 r4
    obtain ⟨v1, v2, v3, v4, v5, v6, v7⟩ := veltkamp i2 i1 (fa.fl.scale 53) r1 r2 r3 r4
    have e5 : ux l = ux a - ux h := by
      rw [← Int.sub_mul] at v5
      exact Int.eq_of_mul_eq_mul_right (by decide) v5
    refine ⟨i, i2, i1, v1, v2, by rw [v5]; exact v3, v4, e5, ?_⟩
    rw [← Int.sub_mul, abs_mul2, abs_mul2, ← Nat.mul_assoc] at v7
    rw [e5]
    exact Nat.lt_of_mul_lt_mul_right v7
theorem Fl.unscale {p : Nat} {x : Int} {t : Nat} (h : Fl p (x * ((2 ^ t : Nat) : Int))) : Fl p x := by
  obtain ⟨q, h1, h2⟩ := h
  have ht := p2pos t
  rw [abs_mul2] at h2
  rcases Nat.lt_or_ge q t with h3 | h3
  · refine Fl.small (Nat.le_of_mul_le_mul_right (Nat.le_trans h2 ?_) ht)
    rw [← Nat.pow_add]; exact p2le (by omega)
  · obtain ⟨r, rfl⟩ : ∃ r, q = r + t := ⟨q - t, by omega⟩
    refine ⟨r, ?_, ?_⟩
    · rw [Nat.pow_add, Int.natCast_mul] at h1
      exact Int.dvd_of_mul_dvd_mul_right (by omega) h1
    · refine Nat.le_of_mul_le_mul_right (c := 2 ^ t) ?_ ht
      rw [← Nat.pow_add, Nat.add_assoc]; exact h2
theorem dvd_mul2 {x y : Int} {m n : Nat} (hx : ((2 ^ m : Nat) : Int) ∣ x) (hy : ((2 ^ n : Nat) : Int) ∣ y) : ((2 ^ (m + n) : Nat) : Int) ∣ x * y := by
  rw [Nat.pow_add, Int.natCast_mul]; exact Int.mul_dvd_mul hx hy
theorem le_mul2 {x y : Int} {m n : Nat} (hx : x.natAbs ≤ 2 ^ m) (hy : y.natAbs ≤ 2 ^ n) : (x * y).natAbs ≤ 2 ^ (m + n) := by
  rw [Int.natAbs_mul, Nat.pow_add]; exact Nat.mul_le_mul hx hy
theorem half_prod {u v : Int} {m n k l c t : Nat} (hc : c = 1074) (ht : t = 1180) (du : ((2 ^ m : Nat) : Int) ∣ u * ((2 ^ 53 : Nat) : Int)) (dv : ((2 ^ n : Nat) : Int) ∣ v * ((2 ^ 53 : Nat) : Int)) (lu : (u * ((2 ^ 53 : Nat) : Int)).natAbs ≤ 2 ^ k) (lv : (v * ((2 ^ 53 : Nat) : Int)).natAbs ≤ 2 ^ l) (h1 : 1180 ≤ m + n) (h2 : k + l ≤ 53 + (m + n)) :
    ∃ X : Int, u * v = X * ((2 ^ c : Nat) : Int) ∧ Fl 53 X ∧ X * ((2 ^ t : Nat) : Int) = u * ((2 ^ 53 : Nat) : Int) * (v * ((2 ^ 53 : Nat) : Int)) := by
  have hm : u * ((2 ^ 53 : Nat) : Int) * (v * ((2 ^ 53 : Nat) : Int)) = u * v * ((2 ^ 106 : Nat) : Int) := by
    rw [show ((2 ^ 106 : Nat) : Int) = ((2 ^ 53 : Nat) : Int) * ((2 ^ 53 : Nat) : Int) from rfl, Int.mul_assoc, Int.mul_assoc, ← Int.mul_assoc _ v, Int.mul_comm _ v, Int.mul_assoc]
  have hd := dvd_mul2 du dv
  have hl := le_mul2 lu lv
  have hf : Fl 53 (u * ((2 ^ 53 : Nat) : Int) * (v * ((2 ^ 53 : Nat) : Int))) := ⟨m + n, hd, Nat.le_trans hl (p2le h2)⟩
  rw [hm] at hd hf
  have hd2 : ((2 ^ t : Nat) : Int) ∣ u * v * ((2 ^ 106 : Nat) : Int) := Int.dvd_trans (p2dvd (by omega)) hd
  have e1 : ((2 ^ t : Nat) : Int) = ((2 ^ c : Nat) : Int) * ((2 ^ 106 : Nat) : Int) := by rw [← Int.natCast_mul, ← Nat.pow_add, show c + 106 = t by omega]
  rw [e1] at hd2
  obtain ⟨X, hX0⟩ := Int.dvd_of_mul_dvd_mul_right (by decide) hd2
  have hX : u * v = X * ((2 ^ c : Nat) : Int) := by rw [hX0, Int.mul_comm]
  refine ⟨X, hX, ?_, ?_⟩
  · rw [hX, Int.mul_assoc, ← e1] at hf
    exact hf.unscale
  · rw [hm, hX, Int.mul_assoc, ← e1]
theorem Rn.near2 {x s : Int} {M : Nat} (h : Rn 53 x s) (hs : s.natAbs ≤ 32 * M) : (x - s).natAbs ≤ M := by
  have h1 := h.little (by omega)
  rw [show (2 : Nat) ^ 53 = 9007199254740992 by decide] at h1
  omega
theorem p2x4 (k : Nat) : 2 ^ (k + 2) = 4 * 2 ^ k := by rw [p2succ, p2succ]; omega
theorem p2x8 (k : Nat) : 2 ^ (k + 3) = 8 * 2 ^ k := by rw [p2succ, p2succ, p2succ]; omega
theorem p2x16 (k : Nat) : 2 ^ (k + 4) = 16 * 2 ^ k := by rw [p2succ, p2succ, p2succ, p2succ]; omega
theorem dek_small {x y a b : Int} {k l i j : Nat} (hx : x.natAbs ≤ 2 ^ k) (hy : y.natAbs ≤ 2 ^ l) (ha : 2 ^ (52 + i) ≤ a.natAbs) (hb : 2 ^ (52 + j) ≤ b.natAbs) (h : k + l + 2 ≤ 104 + (i + j)) : 4 * (x * y).natAbs ≤ (a * b).natAbs := by
  have h1 := le_mul2 hx hy
  have h2 : 2 ^ (104 + (i + j)) ≤ (a * b).natAbs := by
    rw [Int.natAbs_mul, show 104 + (i + j) = 52 + i + (52 + j) by omega, Nat.pow_add]; exact Nat.mul_le_mul ha hb
  have h3 : 4 * 2 ^ (k + l) ≤ 2 ^ (104 + (i + j)) := by
    rw [← p2x4]; exact p2le h
  omega
theorem TPR.ok {a b p e : Nat} (h : TPR a b p e) (ha : a < 18446744073709551616) (hb : b < 18446744073709551616) (ka : a % 9223372036854775808 ≤ 9088264048033660928) (kb : b % 9223372036854775808 ≤ 9088264048033660928)
    (hV : ux a * ux b = 0 ∨ ((∀ K, K = 1188 → 2 ^ K ≤ (ux a * ux b).natAbs) ∧ ∀ K, K = 3169 → (ux a * ux b).natAbs ≤ 2 ^ K)) :
    Fin64 p ∧ Fin64 e ∧ (∀ c, c = 1074 → (ux p + ux e) * ((2 ^ c : Nat) : Int) = ux a * ux b) ∧ (ux a * ux b = 0 → ux p = 0 ∧ ux e = 0) ∧ (ux a * ux b ≠ 0 → Pm64 (ux a * ux b) p) := by
  obtain ⟨ah, al, bh, bl, x1, e1, x2, e2, x3, e3, x4, F1, S1, S2, F2, F3, F4, F5, F6, F7, F8, F9⟩ := h
  have fa : Fin64 a := ⟨ha, by omega⟩
  have fb : Fin64 b := ⟨hb, by omega⟩
  obtain ⟨f1, f2, g1⟩ := S1.ok ha ka
  obtain ⟨f3, f4, g2⟩ := S2.ok hb kb
  obtain ⟨c, hc⟩ : ∃ c, c = 1074 := ⟨_, rfl⟩
  by_cases hV0 : ux a * ux b = 0
  · -- a nought among them
    have hz : ∀ {x y r : Nat}, FlR .mul x y r → Fin64 x → Fin64 y → ux x * ux y = 0 → Fin64 r ∧ ux r = 0 := fun F hx hy h0 => by
      have S := F.mul hx hy (X := 0) hc (by rw [h0, Int.zero_mul]) (by simp)
      exact ⟨S.fin, S.rn.ex (Fl.zero 53)⟩
    have hs : ∀ {x y r : Nat}, FlR .add x y r → Fin64 x → Fin64 y → ux x = 0 → ux y = 0 → Fin64 r ∧ ux r = 0 := fun F hx hy h0 h1 => by
      have S := F.add hx hy (by rw [h0, h1]; simp)
      have R := S.rn
      rw [h0, h1, Int.add_zero] at R
      exact ⟨S.fin, R.ex (Fl.zero 53)⟩
    have hd : ∀ {x y r : Nat}, FlR .sub x y r → Fin64 x → Fin64 y → ux x = 0 → ux y = 0 → Fin64 r ∧ ux r = 0 := fun F hx hy h0 h1 => by
      have S := F.sub hx hy (by rw [h0, h1]; simp)
      have R := S.rn
      rw [h0, h1, Int.sub_zero] at R
      exact ⟨S.fin, R.ex (Fl.zero 53)⟩
    have hab : ux ah * ux bh = 0 ∧ ux ah * ux bl = 0 ∧ ux al * ux bh = 0 ∧ ux al * ux bl = 0 := by
      rcases Int.mul_eq_zero.1 hV0 with h0 | h0
      · rcases g1 with ⟨_, z1, z2⟩ | ⟨i, g⟩
        · rw [z1, z2]; simp
        · have := g.sm; rw [h0] at this; simp at this
      · rcases g2 with ⟨_, z1, z2⟩ | ⟨i, g⟩
        · rw [z1, z2]; simp
        · have := g.sm; rw [h0] at this; simp at this
    obtain ⟨y0, z0⟩ := hz F1 fa fb hV0
    obtain ⟨y1, z1⟩ := hz F2 f1 f3 hab.1
    obtain ⟨y2, z2⟩ := hd F3 y1 y0 z1 z0
    obtain ⟨y3, z3⟩ := hz F4 f1 f4 hab.2.1
    obtain ⟨y4, z4⟩ := hs F5 y2 y3 z2 z3
    obtain ⟨y5, z5⟩ := hz F6 f2 f3 hab.2.2.1
    obtain ⟨y6, z6⟩ := hs F7 y4 y5 z4 z5
    obtain ⟨y7, z7⟩ := hz F8 f2 f4 hab.2.2.2
    obtain ⟨y8, z8⟩ := hs F9 y6 y7 z6 z7
    exact ⟨y0, y8, fun c _ => by rw [z0, z8, hV0, Int.add_zero, Int.zero_mul], fun _ => ⟨z0, z8⟩, fun h => absurd hV0 h⟩
  · have hVb := hV.resolve_left hV0
    rcases g1 with ⟨z, _⟩ | ⟨i, ga⟩
    · exact absurd (by rw [z, Int.zero_mul]) hV0
    rcases g2 with ⟨z, _⟩ | ⟨j, gb⟩
    · exact absurd (by rw [z, Int.mul_zero]) hV0
    obtain ⟨k1, hk1⟩ : ∃ K, K = 1188 := ⟨_, rfl⟩
    obtain ⟨k2, hk2⟩ : ∃ K, K = 3169 := ⟨_, rfl⟩
    obtain ⟨t, ht⟩ : ∃ t, t = 1180 := ⟨_, rfl⟩
    have hV1 := hVb.1 k1 hk1
    have hV2 := hVb.2 k2 hk2
    have hm : ux a * ((2 ^ 53 : Nat) : Int) * (ux b * ((2 ^ 53 : Nat) : Int)) = ux a * ux b * ((2 ^ 106 : Nat) : Int) := by
      rw [show ((2 ^ 106 : Nat) : Int) = ((2 ^ 53 : Nat) : Int) * ((2 ^ 53 : Nat) : Int) from rfl, Int.mul_assoc, Int.mul_assoc, ← Int.mul_assoc _ (ux b), Int.mul_comm _ (ux b), Int.mul_assoc]
    have hij : 1188 ≤ i + j := by
      have h1 := le_mul2 (Nat.le_of_lt ga.hi) (Nat.le_of_lt gb.hi)
      rw [hm, abs_mul2] at h1
      have h2 := Nat.le_trans (Nat.mul_le_mul_right (2 ^ 106) hV1) h1
      rw [← Nat.pow_add] at h2
      have h3 : k1 + 106 < 53 + i + (53 + j) + 1 := p2lt (Nat.lt_of_le_of_lt h2 (by rw [p2succ]; have := p2pos (53 + i + (53 + j)); omega))
      omega
    have dal : ((2 ^ i : Nat) : Int) ∣ ux al * ((2 ^ 53 : Nat) : Int) := by rw [ga.eq, Int.sub_mul]; exact Int.dvd_sub ga.da (Int.dvd_trans (p2dvd (by omega)) ga.dh)
    have dbl : ((2 ^ j : Nat) : Int) ∣ ux bl * ((2 ^ 53 : Nat) : Int) := by rw [gb.eq, Int.sub_mul]; exact Int.dvd_sub gb.da (Int.dvd_trans (p2dvd (by omega)) gb.dh)
    obtain ⟨X1, p1, q1, s1⟩ := half_prod hc ht ga.dh gb.dh ga.lh gb.lh (by omega) (by omega)
    obtain ⟨X2, p2, q2, s2⟩ := half_prod hc ht ga.dh dbl ga.lh gb.ll (by omega) (by omega)
    obtain ⟨X3, p3, q3, s3⟩ := half_prod hc ht dal gb.dh ga.ll gb.lh (by omega) (by omega)
    obtain ⟨X4, p4, q4, s4⟩ := half_prod hc ht dal dbl ga.ll gb.ll (by omega) (by omega)
    have b2 := dek_small ga.lh gb.ll ga.lo gb.lo (by omega)
    have b3 := dek_small ga.ll gb.lh ga.lo gb.lo (by omega)
    have b4 := dek_small ga.ll gb.ll ga.lo gb.lo (by omega)
    have hsum : ux a * ux b = ux ah * ux bh + ux ah * ux bl + ux al * ux bh + ux al * ux bl := by
      have h1 := ga.eq
      have h2 := gb.eq
      rw [show ux a = ux ah + ux al by omega, show ux b = ux bh + ux bl by omega, Int.add_mul, Int.mul_add, Int.mul_add]; omega
    have hW : ux a * ux b = (X1 + X2 + X3 + X4) * ((2 ^ c : Nat) : Int) := by rw [hsum, p1, p2, p3, p4, Int.add_mul, Int.add_mul, Int.add_mul]
    have hWt : ux a * ((2 ^ 53 : Nat) : Int) * (ux b * ((2 ^ 53 : Nat) : Int)) = (X1 + X2 + X3 + X4) * ((2 ^ t : Nat) : Int) := by
      rw [hm, hW, Int.mul_assoc, ← Int.natCast_mul, ← Nat.pow_add, show c + 106 = t by omega]
    have hcp := p2pos c
    have htp := p2pos t
    rw [hWt, ← s2, abs_mul2, abs_mul2, ← Nat.mul_assoc] at b2
    rw [hWt, ← s3, abs_mul2, abs_mul2, ← Nat.mul_assoc] at b3
    rw [hWt, ← s4, abs_mul2, abs_mul2, ← Nat.mul_assoc] at b4
    have b2 := Nat.le_of_mul_le_mul_right b2 htp
    have b3 := Nat.le_of_mul_le_mul_right b3 htp
    have b4 := Nat.le_of_mul_le_mul_right b4 htp
    obtain ⟨K, hK⟩ : ∃ K, K = 2044 := ⟨_, rfl⟩
    obtain ⟨M, hM⟩ : ∃ M, M = 2 ^ (52 + K) := ⟨_, rfl⟩
    obtain ⟨m3, m2⟩ := max_big hK hM
    obtain ⟨M0, hM0⟩ : ∃ M0, M0 = 2 ^ (48 + K) := ⟨_, rfl⟩
    have hMM : M = 16 * M0 := by rw [hM, hM0, ← p2x16]; congr 1; omega
    have hWb : (X1 + X2 + X3 + X4).natAbs ≤ 8 * M0 := by
      rw [hW, abs_mul2] at hV2
      refine Nat.le_of_mul_le_mul_right (Nat.le_trans hV2 (Nat.le_of_eq ?_)) hcp
      rw [hM0, ← p2x8, ← Nat.pow_add]
      congr 1
      omega
    have hl1 : k1 ≤ (ux a * ux b).natAbs.log2 := (Nat.le_log2 (by omega)).2 hV1
    have hl2 : (ux a * ux b).natAbs.log2 ≤ k2 := by
      refine Nat.le_of_lt_succ ((Nat.log2_lt (by omega)).2 (Nat.lt_of_le_of_lt hV2 ?_))
      rw [p2succ]; have := p2pos k2; omega
    have P1 := F1.big fa fb (by omega) (by omega)
    have hp := P1.rn c hc
    have bp : (ux p).natAbs ≤ 8 * M0 := by
      have h1 := hp.bound hV2
      rw [abs_mul2] at h1
      refine Nat.le_of_mul_le_mul_right (Nat.le_trans h1 (Nat.le_of_eq ?_)) hcp
      rw [hM0, ← p2x8, ← Nat.pow_add]
      congr 1
      omega
    have T1 := F2.mul f1 f3 hc p1 (by omega)
    have T2 := F4.mul f1 f4 hc p2 (by omega)
    have T3 := F6.mul f2 f3 hc p3 (by omega)
    have T4 := F8.mul f2 f4 hc p4 (by omega)
    have y1 := T1.rn.ex q1
    have y2 := T2.rn.ex q2
    have y3 := T3.rn.ex q3
    have y4 := T4.rn.ex q4
    have U1 := F3.sub T1.fin P1.fin (by omega)
    have v1 := U1.rn.bound (K := 53 + K) (by rw [m2]; omega)
    rw [m2] at v1
    have n1 := U1.rn.near2 (M := M0) (by omega)
    have U2 := F5.add U1.fin T2.fin (by omega)
    have v2 := U2.rn.bound (K := 53 + K) (by rw [m2]; omega)
    rw [m2] at v2
    have n2 := U2.rn.near2 (M := M0) (by omega)
    have U3 := F7.add U2.fin T3.fin (by omega)
    have v3 := U3.rn.bound (K := 53 + K) (by rw [m2]; omega)
    rw [m2] at v3
    have n3 := U3.rn.near2 (M := M0) (by omega)
    have U4 := F9.add U3.fin T4.fin (by omega)
    -- in units that make normals
    have r0 := hp.scale (by omega) 106
    rw [Int.mul_assoc (ux p), ← Int.natCast_mul, ← Nat.pow_add, show c + 106 = t by omega, ← hm] at r0
    have r1 := U1.rn.scale (by omega) t
    rw [y1, Int.sub_mul, s1] at r1
    have r2 := U2.rn.scale (by omega) t
    rw [y2, Int.add_mul, s2] at r2
    have r3 := U3.rn.scale (by omega) t
    rw [y3, Int.add_mul, s3] at r3
    have r4 := U4.rn.scale (by omega) t
    rw [y4, Int.add_mul, s4] at r4
    have D := dekker ga.lo ga.hi gb.lo gb.hi (by rw [ga.eq, Int.sub_mul]) (by rw [gb.eq, Int.sub_mul]) ga.da gb.da ga.dh gb.dh ga.ll gb.ll ga.lh gb.lh r0 r1 r2 r3 r4
    have hD := D.1
    rw [← Int.add_mul, hWt] at hD
    have hD := Int.eq_of_mul_eq_mul_right (by omega) hD
    exact ⟨P1.fin, U4.fin, fun c' hc' => by rw [hD, hW, hc', hc], fun h => absurd h hV0, fun _ => P1⟩
end Go.Proofs.Ytpnpdngfjgdgfab
namespace Go.Proofs.Ytpnpdngfjgdgfab
open Go.RowKit Go.Shelf
set_option maxHeartbeats 0
theorem ts_awake {s r : Nat} (h : TSR 4336966441157787648 4607182418800017408 s r) : s = 4607182418800017408 ∧ r = 4336966441157787648 := by
  obtain ⟨ob, oa, da, db, F1, F2, F3, F4, F5, F6⟩ := h
  obtain rfl : s = 4607182418800017408 := F1.some _ (by decide +kernel)
  obtain rfl : ob = 4607182418800017408 := F2.some _ (by decide +kernel)
  obtain rfl : oa = 0 := F3.some _ (by decide +kernel)
  obtain rfl : da = 4336966441157787648 := F4.some _ (by decide +kernel)
  obtain rfl : db = 0 := F5.some _ (by decide +kernel)
  obtain rfl : r = 4336966441157787648 := F6.some _ (by decide +kernel)
  exact ⟨rfl, rfl⟩
theorem fs_awake {s r : Nat} (h : FSR 4607182418800017408 4336966441157787648 s r) : s = 4607182418800017408 ∧ r = 4336966441157787648 := by
  obtain ⟨t, F1, F2, F3⟩ := h
  obtain rfl : s = 4607182418800017408 := F1.some _ (by decide +kernel)
  obtain rfl : t = 0 := F2.some _ (by decide +kernel)
  obtain rfl : r = 4336966441157787648 := F3.some _ (by decide +kernel)
  exact ⟨rfl, rfl⟩
theorem sp_awake {h l : Nat} (k : SPR 4607182418804211712 h l) : h = 4607182418800017408 ∧ l = 4472074429978902528 := by
  obtain ⟨c, d, F1, F2, F3, F4⟩ := k
  obtain rfl : c = 4728779608776769536 := F1.some _ (by decide +kernel)
  obtain rfl : d = 4728779608743215104 := F2.some _ (by decide +kernel)
  obtain rfl : h = 4607182418800017408 := F3.some _ (by decide +kernel)
  obtain rfl : l = 4472074429978902528 := F4.some _ (by decide +kernel)
  exact ⟨rfl, rfl⟩
theorem tp_awake {p e : Nat} (k : TPR 4607182418804211712 4607182418804211712 p e) : p = 4607182418808406016 ∧ e = 4336966441157787648 := by
  obtain ⟨ah, al, bh, bl, x1, e1, x2, e2, x3, e3, x4, F1, S1, S2, F2, F3, F4, F5, F6, F7, F8, F9⟩ := k
  obtain ⟨rfl, rfl⟩ := sp_awake S1
  obtain ⟨rfl, rfl⟩ := sp_awake S2
  obtain rfl : p = 4607182418808406016 := F1.some _ (by decide +kernel)
  obtain rfl : x1 = 4607182418800017408 := F2.some _ (by decide +kernel)
  obtain rfl : e1 = 13699950066461048832 := F3.some _ (by decide +kernel)
  obtain rfl : x2 = 4472074429978902528 := F4.some _ (by decide +kernel)
  obtain rfl : e2 = 13695446466833678336 := F5.some _ (by decide +kernel)
  obtain rfl : x3 = 4472074429978902528 := F6.some _ (by decide +kernel)
  obtain rfl : e3 = 0 := F7.some _ (by decide +kernel)
  obtain rfl : x4 = 4336966441157787648 := F8.some _ (by decide +kernel)
  obtain rfl : e = 4336966441157787648 := F9.some _ (by decide +kernel)
  exact ⟨rfl, rfl⟩
theorem awake19 (w : World) : Calls Try.prog 7 #[] w fun e w' => e = .returned (.bool true) ∧ ∃ n, w' = w.drewN n := by
  go_enter Try.func7, Try.ntmps7
  go_wp2_with fail
  refine (sumB 4336966441157787648 4607182418800017408 _).mono ?_
  rintro e w' ⟨s, r, n1, rfl, rfl, hR⟩
  obtain ⟨rfl, rfl⟩ := ts_awake hR
  clear hR
  go_wp2_with fail
  refine (fastB 4607182418800017408 4336966441157787648 _).mono ?_
  rintro e w' ⟨s, r, n2, rfl, rfl, hR⟩
  obtain ⟨rfl, rfl⟩ := fs_awake hR
  clear hR
  go_wp2_with fail
  refine (splitB 4607182418804211712 _).mono ?_
  rintro e w' ⟨s, r, n3, rfl, rfl, hR⟩
  obtain ⟨rfl, rfl⟩ := sp_awake hR
  clear hR
  go_wp2_with fail
  refine (prodB 4607182418804211712 4607182418804211712 _).mono ?_
  rintro e w' ⟨s, r, n4, rfl, rfl, hR⟩
  obtain ⟨rfl, rfl⟩ := tp_awake hR
  clear hR
  go_wp2_with fail
  go_ret
  exact ⟨rfl, _, rfl⟩
theorem Sm64.little {X : Int} {s e : Nat} (h : Sm64 X s) (he : ux s + ux e = X) : 9007199254740992 * (ux e).natAbs ≤ (ux s).natAbs := by
  have h1 := h.rn.little (by omega)
  rw [show X - ux s = ux e by omega, show (2 : Nat) ^ 53 = 9007199254740992 by decide] at h1
  exact h1
theorem p2lts (k : Nat) : 2 ^ k < 2 ^ (k + 1) := by rw [p2succ]; have := p2pos k; omega
theorem size_zero {x : Nat} (h : ux x = 0) : x % 9223372036854775808 = 0 := by
  have h3 := ux_abs x
  rw [h] at h3
  refine Nat.eq_zero_of_not_pos fun h4 => ?_
  have h5 : vs 4503599627370496 0 < vs 4503599627370496 (x % 9223372036854775808) := vs_mono (by omega) h4
  rw [vs_zero] at h5
  simp at h3
  omega
theorem zero_size {x : Nat} (h : x % 9223372036854775808 = 0) : ux x = 0 := by
  have h3 := ux_abs x
  rw [h, vs_zero] at h3
  omega
structure Hf (x m k : Nat) : Prop where
  fin : Fin64 x
  dv : ((2 ^ m : Nat) : Int) ∣ ux x * ((2 ^ 53 : Nat) : Int)
  le : (ux x * ((2 ^ 53 : Nat) : Int)).natAbs ≤ 2 ^ k
  wd : k ≤ 26 + m
  lo : 675 ≤ m
  hi : k ≤ 1608
theorem Hf.most {x m k : Nat} (h : Hf x m k) : x % 9223372036854775808 ≤ 9088264048033660928 := by
  refine Nat.le_of_not_lt fun h1 => ?_
  have h2 := vs_le4 (Nat.le_of_lt h1)
  have h3 : vs 4503599627370496 9088264048033660928 = 4503599627370496 * 2 ^ 2017 := vs_at 2017 4503599627370496 (.inr (Nat.le_refl _)) (by omega)
  obtain ⟨J, hJ⟩ : ∃ J, J = 2017 := ⟨_, rfl⟩
  rw [← ux_abs, h3, ← hJ] at h2
  have h4 := h.le
  rw [abs_mul2] at h4
  have h5 := Nat.le_trans (Nat.mul_le_mul_right (2 ^ 53) h2) (Nat.le_trans h4 (p2le h.hi))
  obtain ⟨K, hK⟩ : ∃ K, K = 1608 := ⟨_, rfl⟩
  rw [← hK, show (4503599627370496 : Nat) = 2 ^ 52 by decide, ← Nat.pow_add, ← Nat.pow_add] at h5
  have h6 := p2lt (Nat.lt_of_le_of_lt h5 (p2lts K))
  omega
theorem half_law {x y p e m n k l : Nat} (hx : Hf x m k) (hy : Hf y n l) (h : TPR x y p e) : e % 9223372036854775808 = 0 ∧ (x % 9223372036854775808 ≠ 0 → y % 9223372036854775808 ≠ 0 → p % 9223372036854775808 ≠ 0) := by
  obtain ⟨c, hc⟩ : ∃ c, c = 1074 := ⟨_, rfl⟩
  obtain ⟨t, ht⟩ : ∃ c, c = 1180 := ⟨_, rfl⟩
  have a1 := hx.wd
  have a2 := hy.wd
  have a3 := hx.lo
  have a4 := hy.lo
  have a5 := hx.hi
  have a6 := hy.hi
  obtain ⟨X, p1, q1, s1⟩ := half_prod hc ht hx.dv hy.dv hx.le hy.le (by omega) (by omega)
  have hm : ux x * ((2 ^ 53 : Nat) : Int) * (ux y * ((2 ^ 53 : Nat) : Int)) = ux x * ux y * ((2 ^ 106 : Nat) : Int) := by
    rw [show ((2 ^ 106 : Nat) : Int) = ((2 ^ 53 : Nat) : Int) * ((2 ^ 53 : Nat) : Int) from rfl, Int.mul_assoc, Int.mul_assoc, ← Int.mul_assoc _ (ux y), Int.mul_comm _ (ux y), Int.mul_assoc]
  have hV : ux x * ux y = 0 ∨ ((∀ K, K = 1188 → 2 ^ K ≤ (ux x * ux y).natAbs) ∧ ∀ K, K = 3169 → (ux x * ux y).natAbs ≤ 2 ^ K) := by
    by_cases h0 : ux x * ux y = 0
    · exact .inl h0
    · have hd := dvd_mul2 hx.dv hy.dv
      have hl := le_mul2 hx.le hy.le
      rw [hm] at hd hl
      rw [abs_mul2] at hl
      have h1 : 2 ^ (m + n) ≤ (ux x * ux y).natAbs * 2 ^ 106 := by
        have := Nat.le_of_dvd (by rw [abs_mul2]; exact Nat.mul_pos (by omega) (p2pos _)) (dvd_abs hd)
        rw [abs_mul2] at this
        exact this
      refine .inr ⟨fun K hK => ?_, fun K hK => ?_⟩
      · refine Nat.le_of_mul_le_mul_right (c := 2 ^ 106) (Nat.le_trans ?_ h1) (p2pos _)
        rw [← Nat.pow_add]; exact p2le (by omega)
      · refine Nat.le_of_mul_le_mul_right (c := 2 ^ 106) (Nat.le_trans hl ?_) (p2pos _)
        rw [← Nat.pow_add]; exact p2le (by omega)
  obtain ⟨y1, y2, y3, y4, y5⟩ := h.ok hx.fin.lt hy.fin.lt hx.most hy.most hV
  by_cases h0 : ux x * ux y = 0
  · refine ⟨size_zero (y4 h0).2, fun k1 k2 => ?_⟩
    rcases Int.mul_eq_zero.1 h0 with z | z
    · exact absurd (size_zero z) k1
    · exact absurd (size_zero z) k2
  · have hR := (y5 h0).rn c hc
    have z1 := y3 c hc
    have hp : ((2 ^ c : Nat) : Int) ≠ 0 := by have := p2pos c; omega
    have e1 := hR.ex (by rw [p1]; exact q1.scale c)
    rw [← z1] at e1
    have e2 := Int.eq_of_mul_eq_mul_right hp e1
    refine ⟨size_zero (by omega), fun _ _ k3 => h0 ?_⟩
    rw [← z1, ← e2, zero_size k3, Int.zero_mul]
theorem Hlv.half {a h l i : Nat} (g : Hlv a h l i) (fh : Fin64 h) (fl : Fin64 l) (k1 : 2805742567851819008 ≤ a % 9223372036854775808) (k2 : a % 9223372036854775808 ≤ 6768910239937855488) : Hf h (27 + i) (53 + i) ∧ Hf l i (26 + i) := by
  obtain ⟨J, hJ⟩ : ∃ J, J = 1502 := ⟨_, rfl⟩
  obtain ⟨I, hI⟩ : ∃ I, I = 622 := ⟨_, rfl⟩
  have h1 : (ux a).natAbs ≤ 2 ^ (52 + J) := ux_pow (by omega)
  have h2 : 2 ^ (52 + I) ≤ (ux a).natAbs := by
    rw [ux_abs]
    refine Nat.le_trans (Nat.le_of_eq ?_) (vs_le4 k1)
    have := vs_at I 4503599627370496 (.inr (Nat.le_refl _)) (by omega)
    rw [show I * 4503599627370496 + 4503599627370496 = 2805742567851819008 by omega] at this
    rw [this, Nat.pow_add, show (2 : Nat) ^ 52 = 4503599627370496 by decide]
  have g1 := g.lo
  have g2 := g.hi
  rw [abs_mul2] at g1 g2
  have j1 : 52 + i < 52 + J + 53 + 1 := p2lt (Nat.lt_of_le_of_lt (Nat.le_trans g1 (Nat.mul_le_mul_right _ h1)) (by rw [← Nat.pow_add]; exact p2lts _))
  have j2 : 52 + I + 53 < 53 + i := p2lt (Nat.lt_of_le_of_lt (by rw [Nat.pow_add]; exact Nat.mul_le_mul_right _ h2) g2)
  have dl : ((2 ^ i : Nat) : Int) ∣ ux l * ((2 ^ 53 : Nat) : Int) := by rw [g.eq, Int.sub_mul]; exact Int.dvd_sub g.da (Int.dvd_trans (p2dvd (by omega)) g.dh)
  exact ⟨⟨fh, g.dh, g.lh, by omega, by omega, by omega⟩, ⟨fl, dl, g.ll, by omega, by omega, by omega⟩⟩
theorem split_again {a h l i j o : Nat} (g : Hlv a h l i) (fh : Hf h (27 + i) (53 + i)) (k : SPR h j o) : j = h ∧ o % 9223372036854775808 = 0 := by
  obtain ⟨f1, f2, g2⟩ := k.ok fh.fin.lt fh.most
  have b1 := g.lo
  have b2 := g.ll
  have b3 := g.lh
  have e1 := g.eq
  have hA : ux a * ((2 ^ 53 : Nat) : Int) = ux h * ((2 ^ 53 : Nat) : Int) + ux l * ((2 ^ 53 : Nat) : Int) := by rw [← Int.add_mul]; congr 1; omega
  -- the upper half is not below the number's own power of two
  have hlo : 2 ^ (52 + i) ≤ (ux h * ((2 ^ 53 : Nat) : Int)).natAbs := Nat.le_of_not_lt fun h1 => by
    have h2 := le_of_dvd2 (dvd_abs g.dh) (Nat.pow_dvd_pow 2 (show 27 + i ≤ 52 + i by omega)) h1
    have h3 : 2 ^ (27 + i) = 2 * 2 ^ (26 + i) := by rw [show 27 + i = 26 + i + 1 by omega, p2succ]
    have h4 := p2pos (26 + i)
    rw [hA] at b1
    omega
  have h0 : ux h ≠ 0 := fun z => by
    rw [z, Int.zero_mul] at hlo
    have := p2pos (52 + i)
    rw [Int.natAbs_zero] at hlo
    omega
  rcases g2 with ⟨z, _⟩ | ⟨n, g2⟩
  · exact absurd z h0
  · have c1 := g2.lo
    have c2 := g2.hi
    have c3 := g2.ll
    have hd : ((2 ^ (27 + n) : Nat) : Int) ∣ ux h * ((2 ^ 53 : Nat) : Int) := by
      have n1 : n ≤ i + 1 := by
        have := p2lt (Nat.lt_of_le_of_lt (Nat.le_trans c1 b3) (p2lts (53 + i)))
        omega
      rcases Nat.lt_or_ge i n with n2 | n2
      · obtain rfl : n = i + 1 := by omega
        have h5 : (ux h * ((2 ^ 53 : Nat) : Int)).natAbs = 2 ^ (53 + i) := by
          rw [show 52 + (i + 1) = 53 + i by omega] at c1
          omega
        refine Int.ofNat_dvd_left.2 ?_
        rw [h5]; exact Nat.pow_dvd_pow 2 (by omega)
      · exact Int.dvd_trans (p2dvd (by omega)) g.dh
    have ho : ((2 ^ (27 + n) : Nat) : Int) ∣ ux o * ((2 ^ 53 : Nat) : Int) := by rw [g2.eq, Int.sub_mul]; exact Int.dvd_sub hd g2.dh
    have hz : ux o = 0 := by
      refine Decidable.byContradiction fun h6 => ?_
      have h7 : 0 < (ux o * ((2 ^ 53 : Nat) : Int)).natAbs := by rw [abs_mul2]; exact Nat.mul_pos (by omega) (p2pos _)
      have h8 := Nat.le_of_dvd h7 (dvd_abs ho)
      have h9 : 2 ^ (27 + n) = 2 * 2 ^ (26 + n) := by rw [show 27 + n = 26 + n + 1 by omega, p2succ]
      have := p2pos (26 + n)
      omega
    refine ⟨?_, size_zero hz⟩
    have hu : ux j = ux h := by have := g2.eq; omega
    have h3 : vs 4503599627370496 (j % 9223372036854775808) = vs 4503599627370496 (h % 9223372036854775808) := by rw [← ux_abs, ← ux_abs, hu]
    have h2 : j % 9223372036854775808 = h % 9223372036854775808 := by
      rcases Nat.lt_trichotomy (j % 9223372036854775808) (h % 9223372036854775808) with q | q | q
      · have := vs_mono (H := 4503599627370496) (by omega) q; omega
      · exact q
      · have := vs_mono (H := 4503599627370496) (by omega) q; omega
    have h4 := ux_neg (hu ▸ h0 : ux j ≠ 0)
    have h5 := ux_neg h0
    rw [hu, ← h5] at h4
    have h6 := decide_eq_decide.1 h4
    have a1 := f1.lt
    have a2 := fh.fin.lt
    omega
def Gd (x y : Nat) : Prop := ∀ p e, TPR x y p e → e % 9223372036854775808 = 0 ∧ (x % 9223372036854775808 ≠ 0 → y % 9223372036854775808 ≠ 0 → p % 9223372036854775808 ≠ 0)
theorem halves_all {a b h l i k : Nat} (ha : a < 18446744073709551616) (hb : b < 18446744073709551616) (a1 : 2805742567851819008 ≤ a % 9223372036854775808) (a2 : a % 9223372036854775808 ≤ 6768910239937855488) (b1 : 2805742567851819008 ≤ b % 9223372036854775808) (b2 : b % 9223372036854775808 ≤ 6768910239937855488) (h1 : SPR a h l) (h2 : SPR b i k) :
    Gd h i ∧ Gd h k ∧ Gd l i ∧ Gd l k ∧ ∀ j o, SPR h j o → j = h ∧ o % 9223372036854775808 = 0 := by
  obtain ⟨f1, f2, g1⟩ := h1.ok ha (by omega)
  obtain ⟨f3, f4, g2⟩ := h2.ok hb (by omega)
  rcases g1 with ⟨z, _⟩ | ⟨m, g1⟩
  · have := size_zero z; omega
  rcases g2 with ⟨z, _⟩ | ⟨n, g2⟩
  · have := size_zero z; omega
  obtain ⟨x1, x2⟩ := g1.half f1 f2 a1 a2
  obtain ⟨y1, y2⟩ := g2.half f3 f4 b1 b2
  exact ⟨fun _ _ t => half_law x1 y1 t, fun _ _ t => half_law x1 y2 t, fun _ _ t => half_law x2 y1 t, fun _ _ t => half_law x2 y2 t, fun _ _ t => split_again g1 x1 t⟩
theorem eftHalves_w (a b : Nat) (ha : a < 18446744073709551616) (hb : b < 18446744073709551616) (w : World) : Calls Try.prog 4 #[U a, U b] w fun e w' => e = .returned (.bool true) ∧ Below w.heap.size w w' := by
  have HH : Hid (a < 18446744073709551616 ∧ b < 18446744073709551616) := ⟨ha, hb⟩
  clear ha hb
  have hbw : Below w.heap.size w w := Below.refl _ _
  go_enter Try.func4, Try.ntmps4
  go_wp2_with fail
  refine (awake19 _).mono ?_
  rintro e w' ⟨rfl, n1, rfl⟩
  have hbr := bDrewN (Below.refl w.heap.size w) n1
  generalize w.drewN n1 = V0 at *
  replace hbw := Below.on hbw hbr
  clear hbr
  go_wp2_with fail
  refine (ratmost a 1503 480 (by omega) (by omega) _).mono ?_
  rintro e9 w9 ⟨rfl, hw⟩
  obtain rfl := hw.symm
  clear hw
  by_cases h1 : a % 9223372036854775808 ≤ 1503 * 4503599627370496
  · rw [decide_eq_true h1]
    go_wp2_with fail
    refine (ratmost b 1503 480 (by omega) (by omega) _).mono ?_
    rintro e9 w9 ⟨rfl, hw⟩
    obtain rfl := hw.symm
    clear hw
    by_cases h2 : b % 9223372036854775808 ≤ 1503 * 4503599627370496
    · rw [decide_eq_true h2]
      go_wp2_with fail
      obtain ⟨sa, hsa⟩ : ∃ sa, sa = a % 9223372036854775808 := ⟨_, rfl⟩
      obtain ⟨sb, hsb⟩ : ∃ sb, sb = b % 9223372036854775808 := ⟨_, rfl⟩
      rw [← hsa] at h1
      rw [← hsb] at h2
      have HS : Hid (sa = a % 9223372036854775808 ∧ sb = b % 9223372036854775808 ∧ sa ≤ 6768910239937855488 ∧ sb ≤ 6768910239937855488) := ⟨hsa, hsb, by omega, by omega⟩
      clear hsa hsb h1 h2
      refine (rsz a _).mono ?_
      rintro e9 w9 ⟨rfl, hw⟩
      obtain rfl := hw.symm
      clear hw
      rw [← HS.out.1]
      go_wp2_with fail
      refine (rpow19 623 (-400) (by omega) (by omega) _).mono ?_
      rintro e9 w9 ⟨rfl, hw⟩
      obtain rfl := hw.symm
      clear hw
      rw [show 623 * 4503599627370496 = 2805742567851819008 from rfl]
      by_cases h3 : sa < 2805742567851819008
      · have d3 : decide ((sa : Int) < 2805742567851819008) = true := decide_eq_true (by omega)
        have d4 : decide (sa < 2805742567851819008) = true := decide_eq_true h3
        clear h3
        go_wp2_with fail
        go_ret
        exact ⟨rfl, hbw⟩
      · have d3 : decide ((sa : Int) < 2805742567851819008) = false := decide_eq_false (by omega)
        have d4 : decide (sa < 2805742567851819008) = false := decide_eq_false h3
        have HLa : Hid (2805742567851819008 ≤ sa) := Nat.not_lt.1 h3
        clear h3
        go_wp2_with fail
        clear d3 d4
        refine (rsz b _).mono ?_
        rintro e9 w9 ⟨rfl, hw⟩
        obtain rfl := hw.symm
        clear hw
        rw [← HS.out.2.1]
        go_wp2_with fail
        refine (rpow19 623 (-400) (by omega) (by omega) _).mono ?_
        rintro e9 w9 ⟨rfl, hw⟩
        obtain rfl := hw.symm
        clear hw
        rw [show 623 * 4503599627370496 = 2805742567851819008 from rfl]
        by_cases h3 : sb < 2805742567851819008
        · have d3 : decide ((sb : Int) < 2805742567851819008) = true := decide_eq_true (by omega)
          have d4 : decide (sb < 2805742567851819008) = true := decide_eq_true h3
          clear h3
          go_wp2_with fail
          go_ret
          exact ⟨rfl, hbw⟩
        · have d3 : decide ((sb : Int) < 2805742567851819008) = false := decide_eq_false (by omega)
          have d4 : decide (sb < 2805742567851819008) = false := decide_eq_false h3
          have HLb : Hid (2805742567851819008 ≤ sb) := Nat.not_lt.1 h3
          clear h3
          go_wp2_with fail
          clear d3 d4
          refine (splitB a _).mono ?_
          rintro e9 w9 ⟨h, l, n2, rfl, rfl, hR⟩
          have H1 : Hid (SPR a h l) := hR
          clear hR
          have hbr := bDrewN (Below.refl V0.heap.size V0) n2
          generalize V0.drewN n2 = V1 at *
          replace hbw := Below.on hbw hbr
          clear hbr
          go_wp2_with fail
          refine (splitB b _).mono ?_
          rintro e9 w9 ⟨i, k, n3, rfl, rfl, hR⟩
          have H2 : Hid (SPR b i k) := hR
          clear hR
          have hbr := bDrewN (Below.refl V1.heap.size V1) n3
          generalize V1.drewN n3 = V2 at *
          replace hbw := Below.on hbw hbr
          clear hbr
          have HG : Hid (Gd h i ∧ Gd h k ∧ Gd l i ∧ Gd l k ∧ ∀ j o, SPR h j o → j = h ∧ o % 9223372036854775808 = 0) := halves_all HH.out.1 HH.out.2 (by rw [← HS.out.1]; exact HLa.out) (by rw [← HS.out.1]; exact HS.out.2.2.1) (by rw [← HS.out.2.1]; exact HLb.out) (by rw [← HS.out.2.1]; exact HS.out.2.2.2) H1.out H2.out
          clear H1 H2 HLa HLb HS HH
          go_wp2_with fail
          have XL0 : Hid (Box (V2.alloc (.cells #[U h, U l] 22)) V2.heap.size (U h) (U l)) := Box.new V2 _ _ _
          have hbn : Below V2.heap.size V2 (V2.alloc (.cells #[U h, U l] 22)) := below1 V2 _
          generalize V2.alloc (.cells #[U h, U l] 22) = W3 at *
          have HGL : Hid (w.heap.size ≤ V2.heap.size) := hbw.size
          replace hbw := Below.on hbw hbn
          clear hbn
          generalize V2.heap.size = gL at *
          have XL := XL0
          clear XL0
          have HGL : Hid (w.heap.size ≤ gL) := HGL
          go_loopg [53] 2 (fun gk iv wr => ∃ k9 : Nat, k9 + gk = 2 ∧ iv = .int .i64 k9 ∧ Box wr gL (U h) (U l) ∧ Below w.heap.size w wr)
          case atStart => exact ⟨0, by omega, rfl, XL.out, hbw⟩
          case round =>
            clear XL hbw
            obtain ⟨k9, hkg, rfl, xl, hbw⟩ := hrel
            have XL : Hid (Box wr gL (U h) (U l)) := xl
            clear xl
            cases gk with
            | zero =>
              obtain rfl : k9 = 2 := by omega
              obtain ⟨cL0, cL1, fL0, fL1⟩ := XL.out
              have hneL := XL.out.lt
              go_wp2_with fail
              clear cL0 cL1 fL0 fL1 hneL
              refine (splitB h _).mono ?_
              rintro e9 w9 ⟨j, o, n9, rfl, rfl, hR⟩
              obtain ⟨hj, ho⟩ := HG.out.2.2.2.2 _ _ hR
              rw [hj]
              clear hR hj
              have HO : Hid (o % 9223372036854775808 = 0) := ho
              clear ho
              have hbr := bDrewN (Below.refl wr.heap.size wr) n9
              generalize wr.drewN n9 = VE at *
              replace XL : Hid _ := XL.out.below hbr
              replace hbw := Below.on hbw hbr
              clear hbr
              go_wp2_with fail
              refine (rsz o _).mono ?_
              rintro e9 w9 ⟨rfl, hw⟩
              obtain rfl := hw.symm
              clear hw
              rw [HO.out]
              go_wp2_with fail
              go_ret
              exact ⟨rfl, hbw⟩
            | succ gg =>
              rcases (show k9 = 0 ∨ k9 = 1 by omega) with hk9 | hk9
              · subst hk9
                obtain ⟨cL0, cL1, fL0, fL1⟩ := XL.out
                have hneL := XL.out.lt
                go_wp2_with fail
                clear cL0 cL1 fL0 fL1 hneL
                have XM0 : Hid (Box (wr.alloc (.cells #[U i, U k] 22)) wr.heap.size (U i) (U k)) := Box.new wr _ _ _
                have hbn : Below wr.heap.size wr (wr.alloc (.cells #[U i, U k] 22)) := below1 wr _
                generalize wr.alloc (.cells #[U i, U k] 22) = W5 at *
                have HGM : Hid (w.heap.size ≤ wr.heap.size) := hbw.size
                replace XL : Hid _ := XL.out.below hbn
                replace hbw := Below.on hbw hbn
                clear hbn
                generalize wr.heap.size = gM at *
                have XM := XM0
                clear XM0
                go_loopg [61] 2 (fun gk iv wr => ∃ k8 : Nat, k8 + gk = 2 ∧ iv = .int .i64 k8 ∧ Box wr gL (U h) (U l) ∧ Box wr gM (U i) (U k) ∧ Below w.heap.size w wr)
                case atStart => exact ⟨0, by omega, rfl, XL.out, XM.out, hbw⟩
                case round =>
                  clear XL XM hbw
                  obtain ⟨k8, hkg8, rfl, xl, xm, hbw⟩ := hrel
                  have XL : Hid (Box wr gL (U h) (U l)) := xl
                  have XM : Hid (Box wr gM (U i) (U k)) := xm
                  clear xl xm
                  cases gk with
                  | zero =>
                    obtain rfl : k8 = 2 := by omega
                    obtain ⟨cL0, cL1, fL0, fL1⟩ := XL.out
                    have hneL := XL.out.lt
                    obtain ⟨cM0, cM1, fM0, fM1⟩ := XM.out
                    have hneM := XM.out.lt
                    go_wp2_with fail
                    clear cL0 cL1 fL0 fL1 hneL
                    clear cM0 cM1 fM0 fM1 hneM
                    go_roundg gg
                    case measure => omega
                    case rel => exact ⟨1, by omega, by go_num, XL.out, hbw⟩
                  | succ g8 =>
                    rcases (show k8 = 0 ∨ k8 = 1 by omega) with hk8 | hk8
                    · subst hk8
                      obtain ⟨cL0, cL1, fL0, fL1⟩ := XL.out
                      have hneL := XL.out.lt
                      obtain ⟨cM0, cM1, fM0, fM1⟩ := XM.out
                      have hneM := XM.out.lt
                      go_wp2_with fail
                      clear cL0 cL1 fL0 fL1 hneL
                      clear cM0 cM1 fM0 fM1 hneM
                      refine (prodB h i _).mono ?_
                      rintro e9 w9 ⟨p, e, n9, rfl, rfl, hR⟩
                      have HP : Hid (e % 9223372036854775808 = 0 ∧ (h % 9223372036854775808 ≠ 0 → i % 9223372036854775808 ≠ 0 → p % 9223372036854775808 ≠ 0)) := HG.out.1 _ _ hR
                      clear hR
                      have hbr := bDrewN (Below.refl wr.heap.size wr) n9
                      generalize wr.drewN n9 = VP at *
                      replace XL : Hid _ := XL.out.below hbr
                      replace XM : Hid _ := XM.out.below hbr
                      replace hbw := Below.on hbw hbr
                      clear hbr
                      obtain ⟨cL0, cL1, fL0, fL1⟩ := XL.out
                      have hneL := XL.out.lt
                      obtain ⟨cM0, cM1, fM0, fM1⟩ := XM.out
                      have hneM := XM.out.lt
                      go_wp2_with fail
                      clear cL0 cL1 fL0 fL1 hneL
                      clear cM0 cM1 fM0 fM1 hneM
                      refine (rsz e _).mono ?_
                      rintro e9 w9 ⟨rfl, hw⟩
                      obtain rfl := hw.symm
                      clear hw
                      rw [HP.out.1]
                      obtain ⟨cL0, cL1, fL0, fL1⟩ := XL.out
                      have hneL := XL.out.lt
                      obtain ⟨cM0, cM1, fM0, fM1⟩ := XM.out
                      have hneM := XM.out.lt
                      go_wp2_with fail
                      clear cL0 cL1 fL0 fL1 hneL
                      clear cM0 cM1 fM0 fM1 hneM
                      refine (rsz h _).mono ?_
                      rintro e9 w9 ⟨rfl, hw⟩
                      obtain rfl := hw.symm
                      clear hw
                      obtain ⟨sx, hsx⟩ : ∃ z, z = h % 9223372036854775808 := ⟨_, rfl⟩
                      obtain ⟨sy, hsy⟩ : ∃ z, z = i % 9223372036854775808 := ⟨_, rfl⟩
                      obtain ⟨sp, hsp⟩ : ∃ z, z = p % 9223372036854775808 := ⟨_, rfl⟩
                      have HQ : Hid (sx = h % 9223372036854775808 ∧ sy = i % 9223372036854775808 ∧ sp = p % 9223372036854775808 ∧ (sx ≠ 0 → sy ≠ 0 → sp ≠ 0)) := ⟨hsx, hsy, hsp, by rw [hsx, hsy, hsp]; exact HP.out.2⟩
                      rw [← hsx]
                      clear hsx hsy hsp HP
                      by_cases hx0 : sx = 0
                      · subst hx0
                        obtain ⟨cL0, cL1, fL0, fL1⟩ := XL.out
                        have hneL := XL.out.lt
                        obtain ⟨cM0, cM1, fM0, fM1⟩ := XM.out
                        have hneM := XM.out.lt
                        go_wp2_with fail
                        clear cL0 cL1 fL0 fL1 hneL
                        clear cM0 cM1 fM0 fM1 hneM
                        go_roundg g8
                        case measure => omega
                        case rel => exact ⟨1, by omega, by go_num, XL.out, XM.out, hbw⟩
                      · have nx : ((sx : Int) == 0) = false := by simp; omega
                        have nx' : ¬ ((sx : Int) = 0) := by omega
                        have HX0 : Hid (sx ≠ 0) := hx0
                        obtain ⟨cL0, cL1, fL0, fL1⟩ := XL.out
                        have hneL := XL.out.lt
                        obtain ⟨cM0, cM1, fM0, fM1⟩ := XM.out
                        have hneM := XM.out.lt
                        go_wp2_with fail
                        clear cL0 cL1 fL0 fL1 hneL
                        clear cM0 cM1 fM0 fM1 hneM
                        refine (rsz i _).mono ?_
                        rintro e9 w9 ⟨rfl, hw⟩
                        obtain rfl := hw.symm
                        clear hw
                        rw [← HQ.out.2.1]
                        by_cases hy0 : sy = 0
                        · subst hy0
                          obtain ⟨cL0, cL1, fL0, fL1⟩ := XL.out
                          have hneL := XL.out.lt
                          obtain ⟨cM0, cM1, fM0, fM1⟩ := XM.out
                          have hneM := XM.out.lt
                          go_wp2_with fail
                          clear cL0 cL1 fL0 fL1 hneL
                          clear cM0 cM1 fM0 fM1 hneM
                          go_roundg g8
                          case measure => omega
                          case rel => exact ⟨1, by omega, by go_num, XL.out, XM.out, hbw⟩
                        · have ny : ((sy : Int) == 0) = false := by simp; omega
                          have ny' : ¬ ((sy : Int) = 0) := by omega
                          have hp0 : sp ≠ 0 := HQ.out.2.2.2 HX0.out hy0
                          have np : ((sp : Int) == 0) = false := by simp; omega
                          have np' : ¬ ((sp : Int) = 0) := by omega
                          obtain ⟨cL0, cL1, fL0, fL1⟩ := XL.out
                          have hneL := XL.out.lt
                          obtain ⟨cM0, cM1, fM0, fM1⟩ := XM.out
                          have hneM := XM.out.lt
                          go_wp2_with fail
                          clear cL0 cL1 fL0 fL1 hneL
                          clear cM0 cM1 fM0 fM1 hneM
                          refine (rsz p _).mono ?_
                          rintro e9 w9 ⟨rfl, hw⟩
                          obtain rfl := hw.symm
                          clear hw
                          rw [← HQ.out.2.2.1]
                          obtain ⟨cL0, cL1, fL0, fL1⟩ := XL.out
                          have hneL := XL.out.lt
                          obtain ⟨cM0, cM1, fM0, fM1⟩ := XM.out
                          have hneM := XM.out.lt
                          go_wp2_with fail
                          clear cL0 cL1 fL0 fL1 hneL
                          clear cM0 cM1 fM0 fM1 hneM
                          go_roundg g8
                          case measure => omega
                          case rel => exact ⟨1, by omega, by go_num, XL.out, XM.out, hbw⟩
                    · subst hk8
                      obtain ⟨cL0, cL1, fL0, fL1⟩ := XL.out
                      have hneL := XL.out.lt
                      obtain ⟨cM0, cM1, fM0, fM1⟩ := XM.out
                      have hneM := XM.out.lt
                      go_wp2_with fail
                      clear cL0 cL1 fL0 fL1 hneL
                      clear cM0 cM1 fM0 fM1 hneM
                      refine (prodB h k _).mono ?_
                      rintro e9 w9 ⟨p, e, n9, rfl, rfl, hR⟩
                      have HP : Hid (e % 9223372036854775808 = 0 ∧ (h % 9223372036854775808 ≠ 0 → k % 9223372036854775808 ≠ 0 → p % 9223372036854775808 ≠ 0)) := HG.out.2.1 _ _ hR
                      clear hR
                      have hbr := bDrewN (Below.refl wr.heap.size wr) n9
                      generalize wr.drewN n9 = VP at *
                      replace XL : Hid _ := XL.out.below hbr
                      replace XM : Hid _ := XM.out.below hbr
                      replace hbw := Below.on hbw hbr
                      clear hbr
                      obtain ⟨cL0, cL1, fL0, fL1⟩ := XL.out
                      have hneL := XL.out.lt
                      obtain ⟨cM0, cM1, fM0, fM1⟩ := XM.out
                      have hneM := XM.out.lt
                      go_wp2_with fail
                      clear cL0 cL1 fL0 fL1 hneL
                      clear cM0 cM1 fM0 fM1 hneM
                      refine (rsz e _).mono ?_
                      rintro e9 w9 ⟨rfl, hw⟩
                      obtain rfl := hw.symm
                      clear hw
                      rw [HP.out.1]
                      obtain ⟨cL0, cL1, fL0, fL1⟩ := XL.out
                      have hneL := XL.out.lt
                      obtain ⟨cM0, cM1, fM0, fM1⟩ := XM.out
                      have hneM := XM.out.lt
                      go_wp2_with fail
                      clear cL0 cL1 fL0 fL1 hneL
                      clear cM0 cM1 fM0 fM1 hneM
                      refine (rsz h _).mono ?_
                      rintro e9 w9 ⟨rfl, hw⟩
                      obtain rfl := hw.symm
                      clear hw
                      obtain ⟨sx, hsx⟩ : ∃ z, z = h % 9223372036854775808 := ⟨_, rfl⟩
                      obtain ⟨sy, hsy⟩ : ∃ z, z = k % 9223372036854775808 := ⟨_, rfl⟩
                      obtain ⟨sp, hsp⟩ : ∃ z, z = p % 9223372036854775808 := ⟨_, rfl⟩
                      have HQ : Hid (sx = h % 9223372036854775808 ∧ sy = k % 9223372036854775808 ∧ sp = p % 9223372036854775808 ∧ (sx ≠ 0 → sy ≠ 0 → sp ≠ 0)) := ⟨hsx, hsy, hsp, by rw [hsx, hsy, hsp]; exact HP.out.2⟩
                      rw [← hsx]
                      clear hsx hsy hsp HP
                      by_cases hx0 : sx = 0
                      · subst hx0
                        obtain ⟨cL0, cL1, fL0, fL1⟩ := XL.out
                        have hneL := XL.out.lt
                        obtain ⟨cM0, cM1, fM0, fM1⟩ := XM.out
                        have hneM := XM.out.lt
                        go_wp2_with fail
                        clear cL0 cL1 fL0 fL1 hneL
                        clear cM0 cM1 fM0 fM1 hneM
                        go_roundg g8
                        case measure => omega
                        case rel => exact ⟨2, by omega, by go_num, XL.out, XM.out, hbw⟩
                      · have nx : ((sx : Int) == 0) = false := by simp; omega
                        have nx' : ¬ ((sx : Int) = 0) := by omega
                        have HX0 : Hid (sx ≠ 0) := hx0
                        obtain ⟨cL0, cL1, fL0, fL1⟩ := XL.out
                        have hneL := XL.out.lt
                        obtain ⟨cM0, cM1, fM0, fM1⟩ := XM.out
                        have hneM := XM.out.lt
                        go_wp2_with fail
                        clear cL0 cL1 fL0 fL1 hneL
                        clear cM0 cM1 fM0 fM1 hneM
                        refine (rsz k _).mono ?_
                        rintro e9 w9 ⟨rfl, hw⟩
                        obtain rfl := hw.symm
                        clear hw
                        rw [← HQ.out.2.1]
                        by_cases hy0 : sy = 0
                        · subst hy0
                          obtain ⟨cL0, cL1, fL0, fL1⟩ := XL.out
                          have hneL := XL.out.lt
                          obtain ⟨cM0, cM1, fM0, fM1⟩ := XM.out
                          have hneM := XM.out.lt
                          go_wp2_with fail
                          clear cL0 cL1 fL0 fL1 hneL
                          clear cM0 cM1 fM0 fM1 hneM
                          go_roundg g8
                          case measure => omega
                          case rel => exact ⟨2, by omega, by go_num, XL.out, XM.out, hbw⟩
                        · have ny : ((sy : Int) == 0) = false := by simp; omega
                          have ny' : ¬ ((sy : Int) = 0) := by omega
                          have hp0 : sp ≠ 0 := HQ.out.2.2.2 HX0.out hy0
                          have np : ((sp : Int) == 0) = false := by simp; omega
                          have np' : ¬ ((sp : Int) = 0) := by omega
                          obtain ⟨cL0, cL1, fL0, fL1⟩ := XL.out
                          have hneL := XL.out.lt
                          obtain ⟨cM0, cM1, fM0, fM1⟩ := XM.out
                          have hneM := XM.out.lt
                          go_wp2_with fail
                          clear cL0 cL1 fL0 fL1 hneL
                          clear cM0 cM1 fM0 fM1 hneM
                          refine (rsz p _).mono ?_
                          rintro e9 w9 ⟨rfl, hw⟩
                          obtain rfl := hw.symm
                          clear hw
                          rw [← HQ.out.2.2.1]
                          obtain ⟨cL0, cL1, fL0, fL1⟩ := XL.out
                          have hneL := XL.out.lt
                          obtain ⟨cM0, cM1, fM0, fM1⟩ := XM.out
                          have hneM := XM.out.lt
                          go_wp2_with fail
                          clear cL0 cL1 fL0 fL1 hneL
                          clear cM0 cM1 fM0 fM1 hneM
                          go_roundg g8
                          case measure => omega
                          case rel => exact ⟨2, by omega, by go_num, XL.out, XM.out, hbw⟩
              · subst hk9
                obtain ⟨cL0, cL1, fL0, fL1⟩ := XL.out
                have hneL := XL.out.lt
                go_wp2_with fail
                clear cL0 cL1 fL0 fL1 hneL
                have XM0 : Hid (Box (wr.alloc (.cells #[U i, U k] 22)) wr.heap.size (U i) (U k)) := Box.new wr _ _ _
                have hbn : Below wr.heap.size wr (wr.alloc (.cells #[U i, U k] 22)) := below1 wr _
                generalize wr.alloc (.cells #[U i, U k] 22) = W5 at *
                have HGM : Hid (w.heap.size ≤ wr.heap.size) := hbw.size
                replace XL : Hid _ := XL.out.below hbn
                replace hbw := Below.on hbw hbn
                clear hbn
                generalize wr.heap.size = gM at *
                have XM := XM0
                clear XM0
                go_loopg [61] 2 (fun gk iv wr => ∃ k8 : Nat, k8 + gk = 2 ∧ iv = .int .i64 k8 ∧ Box wr gL (U h) (U l) ∧ Box wr gM (U i) (U k) ∧ Below w.heap.size w wr)
                case atStart => exact ⟨0, by omega, rfl, XL.out, XM.out, hbw⟩
                case round =>
                  clear XL XM hbw
                  obtain ⟨k8, hkg8, rfl, xl, xm, hbw⟩ := hrel
                  have XL : Hid (Box wr gL (U h) (U l)) := xl
                  have XM : Hid (Box wr gM (U i) (U k)) := xm
                  clear xl xm
                  cases gk with
                  | zero =>
                    obtain rfl : k8 = 2 := by omega
                    obtain ⟨cL0, cL1, fL0, fL1⟩ := XL.out
                    have hneL := XL.out.lt
                    obtain ⟨cM0, cM1, fM0, fM1⟩ := XM.out
                    have hneM := XM.out.lt
                    go_wp2_with fail
                    clear cL0 cL1 fL0 fL1 hneL
                    clear cM0 cM1 fM0 fM1 hneM
                    go_roundg gg
                    case measure => omega
                    case rel => exact ⟨2, by omega, by go_num, XL.out, hbw⟩
                  | succ g8 =>
                    rcases (show k8 = 0 ∨ k8 = 1 by omega) with hk8 | hk8
                    · subst hk8
                      obtain ⟨cL0, cL1, fL0, fL1⟩ := XL.out
                      have hneL := XL.out.lt
                      obtain ⟨cM0, cM1, fM0, fM1⟩ := XM.out
                      have hneM := XM.out.lt
                      go_wp2_with fail
                      clear cL0 cL1 fL0 fL1 hneL
                      clear cM0 cM1 fM0 fM1 hneM
                      refine (prodB l i _).mono ?_
                      rintro e9 w9 ⟨p, e, n9, rfl, rfl, hR⟩
                      have HP : Hid (e % 9223372036854775808 = 0 ∧ (l % 9223372036854775808 ≠ 0 → i % 9223372036854775808 ≠ 0 → p % 9223372036854775808 ≠ 0)) := HG.out.2.2.1 _ _ hR
                      clear hR
                      have hbr := bDrewN (Below.refl wr.heap.size wr) n9
                      generalize wr.drewN n9 = VP at *
                      replace XL : Hid _ := XL.out.below hbr
                      replace XM : Hid _ := XM.out.below hbr
                      replace hbw := Below.on hbw hbr
                      clear hbr
                      obtain ⟨cL0, cL1, fL0, fL1⟩ := XL.out
                      have hneL := XL.out.lt
                      obtain ⟨cM0, cM1, fM0, fM1⟩ := XM.out
                      have hneM := XM.out.lt
                      go_wp2_with fail
                      clear cL0 cL1 fL0 fL1 hneL
                      clear cM0 cM1 fM0 fM1 hneM
                      refine (rsz e _).mono ?_
                      rintro e9 w9 ⟨rfl, hw⟩
                      obtain rfl := hw.symm
                      clear hw
                      rw [HP.out.1]
                      obtain ⟨cL0, cL1, fL0, fL1⟩ := XL.out
                      have hneL := XL.out.lt
                      obtain ⟨cM0, cM1, fM0, fM1⟩ := XM.out
                      have hneM := XM.out.lt
                      go_wp2_with fail
                      clear cL0 cL1 fL0 fL1 hneL
                      clear cM0 cM1 fM0 fM1 hneM
                      refine (rsz l _).mono ?_
                      rintro e9 w9 ⟨rfl, hw⟩
                      obtain rfl := hw.symm
                      clear hw
                      obtain ⟨sx, hsx⟩ : ∃ z, z = l % 9223372036854775808 := ⟨_, rfl⟩
                      obtain ⟨sy, hsy⟩ : ∃ z, z = i % 9223372036854775808 := ⟨_, rfl⟩
                      obtain ⟨sp, hsp⟩ : ∃ z, z = p % 9223372036854775808 := ⟨_, rfl⟩
                      have HQ : Hid (sx = l % 9223372036854775808 ∧ sy = i % 9223372036854775808 ∧ sp = p % 9223372036854775808 ∧ (sx ≠ 0 → sy ≠ 0 → sp ≠ 0)) := ⟨hsx, hsy, hsp, by rw [hsx, hsy, hsp]; exact HP.out.2⟩
                      rw [← hsx]
                      clear hsx hsy hsp HP
                      by_cases hx0 : sx = 0
                      · subst hx0
                        obtain ⟨cL0, cL1, fL0, fL1⟩ := XL.out
                        have hneL := XL.out.lt
                        obtain ⟨cM0, cM1, fM0, fM1⟩ := XM.out
                        have hneM := XM.out.lt
                        go_wp2_with fail
                        clear cL0 cL1 fL0 fL1 hneL
                        clear cM0 cM1 fM0 fM1 hneM
                        go_roundg g8
                        case measure => omega
                        case rel => exact ⟨1, by omega, by go_num, XL.out, XM.out, hbw⟩
                      · have nx : ((sx : Int) == 0) = false := by simp; omega
                        have nx' : ¬ ((sx : Int) = 0) := by omega
                        have HX0 : Hid (sx ≠ 0) := hx0
                        obtain ⟨cL0, cL1, fL0, fL1⟩ := XL.out
                        have hneL := XL.out.lt
                        obtain ⟨cM0, cM1, fM0, fM1⟩ := XM.out
                        have hneM := XM.out.lt
                        go_wp2_with fail
                        clear cL0 cL1 fL0 fL1 hneL
                        clear cM0 cM1 fM0 fM1 hneM
                        refine (rsz i _).mono ?_
                        rintro e9 w9 ⟨rfl, hw⟩
                        obtain rfl := hw.symm
                        clear hw
                        rw [← HQ.out.2.1]
                        by_cases hy0 : sy = 0
                        · subst hy0
                          obtain ⟨cL0, cL1, fL0, fL1⟩ := XL.out
                          have hneL := XL.out.lt
                          obtain ⟨cM0, cM1, fM0, fM1⟩ := XM.out
                          have hneM := XM.out.lt
                          go_wp2_with fail
                          clear cL0 cL1 fL0 fL1 hneL
                          clear cM0 cM1 fM0 fM1 hneM
                          go_roundg g8
                          case measure => omega
                          case rel => exact ⟨1, by omega, by go_num, XL.out, XM.out, hbw⟩
                        · have ny : ((sy : Int) == 0) = false := by simp; omega
                          have ny' : ¬ ((sy : Int) = 0) := by omega
                          have hp0 : sp ≠ 0 := HQ.out.2.2.2 HX0.out hy0
                          have np : ((sp : Int) == 0) = false := by simp; omega
                          have np' : ¬ ((sp : Int) = 0) := by omega
                          obtain ⟨cL0, cL1, fL0, fL1⟩ := XL.out
                          have hneL := XL.out.lt
                          obtain ⟨cM0, cM1, fM0, fM1⟩ := XM.out
                          have hneM := XM.out.lt
                          go_wp2_with fail
                          clear cL0 cL1 fL0 fL1 hneL
                          clear cM0 cM1 fM0 fM1 hneM
                          refine (rsz p _).mono ?_
                          rintro e9 w9 ⟨rfl, hw⟩
                          obtain rfl := hw.symm
                          clear hw
                          rw [← HQ.out.2.2.1]
                          obtain ⟨cL0, cL1, fL0, fL1⟩ := XL.out
                          have hneL := XL.out.lt
                          obtain ⟨cM0, cM1, fM0, fM1⟩ := XM.out
                          have hneM := XM.out.lt
                          go_wp2_with fail
                          clear cL0 cL1 fL0 fL1 hneL
                          clear cM0 cM1 fM0 fM1 hneM
                          go_roundg g8
                          case measure => omega
                          case rel => exact ⟨1, by omega, by go_num, XL.out, XM.out, hbw⟩
                    · subst hk8
                      obtain ⟨cL0, cL1, fL0, fL1⟩ := XL.out
                      have hneL := XL.out.lt
                      obtain ⟨cM0, cM1, fM0, fM1⟩ := XM.out
                      have hneM := XM.out.lt
                      go_wp2_with fail
                      clear cL0 cL1 fL0 fL1 hneL
                      clear cM0 cM1 fM0 fM1 hneM
                      refine (prodB l k _).mono ?_
                      rintro e9 w9 ⟨p, e, n9, rfl, rfl, hR⟩
                      have HP : Hid (e % 9223372036854775808 = 0 ∧ (l % 9223372036854775808 ≠ 0 → k % 9223372036854775808 ≠ 0 → p % 9223372036854775808 ≠ 0)) := HG.out.2.2.2.1 _ _ hR
                      clear hR
                      have hbr := bDrewN (Below.refl wr.heap.size wr) n9
                      generalize wr.drewN n9 = VP at *
                      replace XL : Hid _ := XL.out.below hbr
                      replace XM : Hid _ := XM.out.below hbr
                      replace hbw := Below.on hbw hbr
                      clear hbr
                      obtain ⟨cL0, cL1, fL0, fL1⟩ := XL.out
                      have hneL := XL.out.lt
                      obtain ⟨cM0, cM1, fM0, fM1⟩ := XM.out
                      have hneM := XM.out.lt
                      go_wp2_with fail
                      clear cL0 cL1 fL0 fL1 hneL
                      clear cM0 cM1 fM0 fM1 hneM
                      refine (rsz e _).mono ?_
                      rintro e9 w9 ⟨rfl, hw⟩
                      obtain rfl := hw.symm
                      clear hw
                      rw [HP.out.1]
                      obtain ⟨cL0, cL1, fL0, fL1⟩ := XL.out
                      have hneL := XL.out.lt
                      obtain ⟨cM0, cM1, fM0, fM1⟩ := XM.out
                      have hneM := XM.out.lt
                      go_wp2_with fail
                      clear cL0 cL1 fL0 fL1 hneL
                      clear cM0 cM1 fM0 fM1 hneM
                      refine (rsz l _).mono ?_
                      rintro e9 w9 ⟨rfl, hw⟩
                      obtain rfl := hw.symm
                      clear hw
                      obtain ⟨sx, hsx⟩ : ∃ z, z = l % 9223372036854775808 := ⟨_, rfl⟩
                      obtain ⟨sy, hsy⟩ : ∃ z, z = k % 9223372036854775808 := ⟨_, rfl⟩
                      obtain ⟨sp, hsp⟩ : ∃ z, z = p % 9223372036854775808 := ⟨_, rfl⟩
                      have HQ : Hid (sx = l % 9223372036854775808 ∧ sy = k % 9223372036854775808 ∧ sp = p % 9223372036854775808 ∧ (sx ≠ 0 → sy ≠ 0 → sp ≠ 0)) := ⟨hsx, hsy, hsp, by rw [hsx, hsy, hsp]; exact HP.out.2⟩
                      rw [← hsx]
                      clear hsx hsy hsp HP
                      by_cases hx0 : sx = 0
                      · subst hx0
                        obtain ⟨cL0, cL1, fL0, fL1⟩ := XL.out
                        have hneL := XL.out.lt
                        obtain ⟨cM0, cM1, fM0, fM1⟩ := XM.out
                        have hneM := XM.out.lt
                        go_wp2_with fail
                        clear cL0 cL1 fL0 fL1 hneL
                        clear cM0 cM1 fM0 fM1 hneM
                        go_roundg g8
                        case measure => omega
                        case rel => exact ⟨2, by omega, by go_num, XL.out, XM.out, hbw⟩
                      · have nx : ((sx : Int) == 0) = false := by simp; omega
                        have nx' : ¬ ((sx : Int) = 0) := by omega
                        have HX0 : Hid (sx ≠ 0) := hx0
                        obtain ⟨cL0, cL1, fL0, fL1⟩ := XL.out
                        have hneL := XL.out.lt
                        obtain ⟨cM0, cM1, fM0, fM1⟩ := XM.out
                        have hneM := XM.out.lt
                        go_wp2_with fail
                        clear cL0 cL1 fL0 fL1 hneL
                        clear cM0 cM1 fM0 fM1 hneM
                        refine (rsz k _).mono ?_
                        rintro e9 w9 ⟨rfl, hw⟩
                        obtain rfl := hw.symm
                        clear hw
                        rw [← HQ.out.2.1]
                        by_cases hy0 : sy = 0
                        · subst hy0
                          obtain ⟨cL0, cL1, fL0, fL1⟩ := XL.out
                          have hneL := XL.out.lt
                          obtain ⟨cM0, cM1, fM0, fM1⟩ := XM.out
                          have hneM := XM.out.lt
                          go_wp2_with fail
                          clear cL0 cL1 fL0 fL1 hneL
                          clear cM0 cM1 fM0 fM1 hneM
                          go_roundg g8
                          case measure => omega
                          case rel => exact ⟨2, by omega, by go_num, XL.out, XM.out, hbw⟩
                        · have ny : ((sy : Int) == 0) = false := by simp; omega
                          have ny' : ¬ ((sy : Int) = 0) := by omega
                          have hp0 : sp ≠ 0 := HQ.out.2.2.2 HX0.out hy0
                          have np : ((sp : Int) == 0) = false := by simp; omega
                          have np' : ¬ ((sp : Int) = 0) := by omega
                          obtain ⟨cL0, cL1, fL0, fL1⟩ := XL.out
                          have hneL := XL.out.lt
                          obtain ⟨cM0, cM1, fM0, fM1⟩ := XM.out
                          have hneM := XM.out.lt
                          go_wp2_with fail
                          clear cL0 cL1 fL0 fL1 hneL
                          clear cM0 cM1 fM0 fM1 hneM
                          refine (rsz p _).mono ?_
                          rintro e9 w9 ⟨rfl, hw⟩
                          obtain rfl := hw.symm
                          clear hw
                          rw [← HQ.out.2.2.1]
                          obtain ⟨cL0, cL1, fL0, fL1⟩ := XL.out
                          have hneL := XL.out.lt
                          obtain ⟨cM0, cM1, fM0, fM1⟩ := XM.out
                          have hneM := XM.out.lt
                          go_wp2_with fail
                          clear cL0 cL1 fL0 fL1 hneL
                          clear cM0 cM1 fM0 fM1 hneM
                          go_roundg g8
                          case measure => omega
                          case rel => exact ⟨2, by omega, by go_num, XL.out, XM.out, hbw⟩
    · rw [decide_eq_false h2]
      go_wp2_with fail
      go_ret
      exact ⟨rfl, hbw⟩
  · rw [decide_eq_false h1]
    go_wp2_with fail
    go_ret
    exact ⟨rfl, hbw⟩
theorem eftHalves_walk (a : Nat) (ha : a < B64) (b : Nat) (hb : b < B64) {w : World} : Calls Try.prog 4 #[U a, U b] w fun e w' => e = .returned (.bool true) ∧ Below w.heap.size w w' := eftHalves_w a b (by rw [B64_eq] at ha; exact ha) (by rw [B64_eq] at hb; exact hb) w
end Go.Proofs.Ytpnpdngfjgdgfab
