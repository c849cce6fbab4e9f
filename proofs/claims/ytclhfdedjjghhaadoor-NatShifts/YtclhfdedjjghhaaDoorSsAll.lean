import Derived.Test.YtclhfdedjjghhaaDoorNf5
import Derived.Test.YtclhfdedjjghhaaDoorShAll
import Derived.Test.YtclhfdedjjghhaaDoorShr
namespace Go.Proofs.YtclhfdedjjghhaaDoor
open Go.RowKit Go.Shelf

-- Ss1
/-- What a shift answers: r tells it of a number and a natural shift. -/
def ShIs (r : Nat → Nat → Nat) (xs : List Nat) (t : Int) (us : List Nat) (f : Int) : Prop :=
  (t < 0 ∧ us = [] ∧ f = 1) ∨ (0 ≤ t ∧ formB xs = false ∧ us = [] ∧ f = 2) ∨ (0 ≤ t ∧ formB xs = true ∧ DocIs (r (valB B64 xs) t.toNat) us f)
theorem ShIs.inj {r : Nat → Nat → Nat} {xs : List Nat} {t : Int} {us us' : List Nat} {f f' : Int} (h : ShIs r xs t us f) (k : ShIs r xs t us' f') : us = us' ∧ f = f' := by
  rcases h with ⟨h1, rfl, rfl⟩ | ⟨h1, h2, rfl, rfl⟩ | ⟨h1, h2, h3⟩ <;> rcases k with ⟨k1, rfl, rfl⟩ | ⟨k1, k2, rfl, rfl⟩ | ⟨k1, k2, k3⟩
  · exact ⟨rfl, rfl⟩
  · omega
  · omega
  · omega
  · exact ⟨rfl, rfl⟩
  · rw [k2] at h2; simp at h2
  · omega
  · rw [k2] at h2; simp at h2
  · exact h3.inj k3
theorem ShIs.er {r : Nat → Nat → Nat} {xs us : List Nat} {t f : Int} (h : ShIs r xs t us f) : f = 0 ∨ f = 1 ∨ f = 2 ∨ f = 3 ∨ f = 4 ∨ f = 5 := by
  rcases h with ⟨_, _, rfl⟩ | ⟨_, _, _, rfl⟩ | ⟨_, _, ⟨_, _, rfl⟩ | ⟨_, _, rfl⟩⟩ <;> simp
def shlR (a n : Nat) : Nat := 2 ^ n * a
def shrR (a n : Nat) : Nat := a / 2 ^ n
def lowR (a n : Nat) : Nat := a % 2 ^ n
theorem form_lenq {xs : List Nat} (h : formB xs = true) : xs.length ≤ 8192 := ((formB_iff xs).1 h).1

set_option maxRecDepth 20000 in
set_option maxHeartbeats 2000000 in
theorem shlP {p : Option Addr} {n c : Nat} {xs : List Nat} {w : World} (h : At w p n c xs) (t : Int) (ht : t ≤ 9223372036854775807) :
    Calls Tryd.prog 4 #[.slice p n c, .int .i64 t] w fun e w' => ∃ p' m' N' us f, e = .returned (.tuple #[.slice p' m' N', .int .i64 f]) ∧ At w' p' m' N' us ∧ ShIs shlR xs t us f ∧ Below w.heap.size w w' := by
  rcases Int.lt_or_le t 0 with h0 | h0
  · have h1 : decide (t < 0) = true := decide_eq_true h0
    go_enter Tryd.func4, Tryd.ntmps4
    go_wp2_with fail
    go_ret2
    exact ⟨none, 0, 0, [], 1, rfl, At.empty _ none 0 (by decide), .inl ⟨h0, rfl, rfl⟩, Below.refl _ _⟩
  · cases hf : formB xs
    · have h1 : decide (t < 0) = false := decide_eq_false (by omega)
      go_enter Tryd.func4, Tryd.ntmps4
      go_wp2_with fail
      refine (form_any h).mono ?_
      rintro e w1 ⟨rfl, hw⟩
      rw [hf]
      obtain rfl := hw.symm
      clear hw
      go_wp2_with fail
      go_ret2
      exact ⟨none, 0, 0, [], 2, rfl, At.empty _ none 0 (by decide), .inr (.inl ⟨h0, hf, rfl, rfl⟩), Below.refl _ _⟩
    · obtain ⟨T, rfl⟩ := Int.eq_ofNat_of_zero_le h0
      refine (shl_nf h (nf_of_form h.dig hf) (by have := form_lenq hf; rw [h.len] at this; exact this) T (by omega)).mono ?_
      rintro e w' ⟨ha, hb⟩
      rcases ha with ⟨hl, p1, m1, zs, rfl, ho, hn, hm⟩ | ⟨hl, rfl⟩
      · exact ⟨p1, m1, m1, zs, 0, rfl, ho.at_ hm, .inr (.inr ⟨h0, hf, .inl ⟨hl, hn, rfl⟩⟩), hb⟩
      · exact ⟨none, 0, 0, [], 5, rfl, At.empty _ none 0 (by decide), .inr (.inr ⟨h0, hf, .inr ⟨hl, rfl, rfl⟩⟩), hb⟩

set_option maxRecDepth 20000 in
set_option maxHeartbeats 2000000 in
theorem shrP {p : Option Addr} {n c : Nat} {xs : List Nat} {w : World} (h : At w p n c xs) (t : Int) (ht : t ≤ 9223372036854775807) :
    Calls Tryd.prog 5 #[.slice p n c, .int .i64 t] w fun e w' => ∃ p' m' N' us f, e = .returned (.tuple #[.slice p' m' N', .int .i64 f]) ∧ At w' p' m' N' us ∧ ShIs shrR xs t us f ∧ Below w.heap.size w w' := by
  rcases Int.lt_or_le t 0 with h0 | h0
  · have h1 : decide (t < 0) = true := decide_eq_true h0
    go_enter Tryd.func5, Tryd.ntmps5
    go_wp2_with fail
    go_ret2
    exact ⟨none, 0, 0, [], 1, rfl, At.empty _ none 0 (by decide), .inl ⟨h0, rfl, rfl⟩, Below.refl _ _⟩
  · cases hf : formB xs
    · have h1 : decide (t < 0) = false := decide_eq_false (by omega)
      go_enter Tryd.func5, Tryd.ntmps5
      go_wp2_with fail
      refine (form_any h).mono ?_
      rintro e w1 ⟨rfl, hw⟩
      rw [hf]
      obtain rfl := hw.symm
      clear hw
      go_wp2_with fail
      go_ret2
      exact ⟨none, 0, 0, [], 2, rfl, At.empty _ none 0 (by decide), .inr (.inl ⟨h0, hf, rfl, rfl⟩), Below.refl _ _⟩
    · obtain ⟨T, rfl⟩ := Int.eq_ofNat_of_zero_le h0
      refine (shr_nf h (nf_of_form h.dig hf) (by have := form_lenq hf; rw [h.len] at this; exact this) T (by omega)).mono ?_
      rintro e w' ⟨⟨p1, m1, zs, rfl, ho, hn, hm⟩, hb⟩
      exact ⟨p1, m1, m1, zs, 0, rfl, ho.at_ hm, .inr (.inr ⟨h0, hf, .inl ⟨hn.lim.1 (by rw [ho.len]; exact hm), hn, rfl⟩⟩), hb⟩

set_option maxRecDepth 20000 in
set_option maxHeartbeats 2000000 in
theorem lowP {p : Option Addr} {n c : Nat} {xs : List Nat} {w : World} (h : At w p n c xs) (t : Int) (ht : t ≤ 9223372036854775807) :
    Calls Tryd.prog 6 #[.slice p n c, .int .i64 t] w fun e w' => ∃ p' m' N' us f, e = .returned (.tuple #[.slice p' m' N', .int .i64 f]) ∧ At w' p' m' N' us ∧ ShIs lowR xs t us f ∧ Below w.heap.size w w' := by
  rcases Int.lt_or_le t 0 with h0 | h0
  · have h1 : decide (t < 0) = true := decide_eq_true h0
    go_enter Tryd.func6, Tryd.ntmps6
    go_wp2_with fail
    go_ret2
    exact ⟨none, 0, 0, [], 1, rfl, At.empty _ none 0 (by decide), .inl ⟨h0, rfl, rfl⟩, Below.refl _ _⟩
  · cases hf : formB xs
    · have h1 : decide (t < 0) = false := decide_eq_false (by omega)
      go_enter Tryd.func6, Tryd.ntmps6
      go_wp2_with fail
      refine (form_any h).mono ?_
      rintro e w1 ⟨rfl, hw⟩
      rw [hf]
      obtain rfl := hw.symm
      clear hw
      go_wp2_with fail
      go_ret2
      exact ⟨none, 0, 0, [], 2, rfl, At.empty _ none 0 (by decide), .inr (.inl ⟨h0, hf, rfl, rfl⟩), Below.refl _ _⟩
    · obtain ⟨T, rfl⟩ := Int.eq_ofNat_of_zero_le h0
      refine (low_nf h (nf_of_form h.dig hf) (by have := form_lenq hf; rw [h.len] at this; exact this) T (by omega)).mono ?_
      rintro e w' ⟨⟨p1, m1, zs, rfl, ho, hn, hm⟩, hb⟩
      exact ⟨p1, m1, m1, zs, 0, rfl, ho.at_ hm, .inr (.inr ⟨h0, hf, .inl ⟨hn.lim.1 (by rw [ho.len]; exact hm), hn, rfl⟩⟩), hb⟩

-- Ss2
set_option maxRecDepth 20000 in
set_option maxHeartbeats 1000000 in
theorem rshr_all {p : Option Addr} {n c : Nat} {xs : List Nat} {v : Nat} {w : World} (h : At32 w p n c xs) (hx : Nf B32 xs v) (hn : n ≤ 16384) (N : Nat) (hN2 : N ≤ 9223372036854775807) :
    Calls Tryd.prog 65 #[.slice p n c, .int .i64 N] w fun e w' => ∃ p' m' zs, e = .returned (.slice p' m' m') ∧ At32 w' p' m' m' zs ∧ Nf B32 zs (v / 2 ^ N) ∧ m' ≤ n ∧ Below w.heap.size w w' := by
  rcases Nat.eq_zero_or_pos N with h0 | h0
  · subst h0
    have HX : Hid (Nf B32 xs v) := hx
    have HA : Hid (At32 w p n c xs) := h
    clear h hx
    go_enter Tryd.func65, Tryd.ntmps65
    go_wp2_with fail
    refine (rnorm_any HA.out (by omega)).mono ?_
    rw [trimL_of_Top HX.out.top]
    rintro e w1 ⟨g, rfl, hg, hb, hbl⟩
    have HB : Hid (Blk32 w1 g xs) := hb
    rw [HA.out.len]
    clear hb
    go_wp2_with fail
    go_ret
    exact ⟨_, n, xs, rfl, HB.out.at_ HX.out.dig HA.out.len (by unfold maxLen; omega), by rw [Nat.pow_zero, Nat.div_one]; exact HX.out, by omega, hbl⟩
  · exact rshr_any h hx hn N h0 hN2
set_option maxRecDepth 20000 in
set_option maxHeartbeats 1000000 in
theorem rlow_all {p : Option Addr} {n c : Nat} {xs : List Nat} {v : Nat} {w : World} (h : At32 w p n c xs) (hx : Nf B32 xs v) (hn : n ≤ 16384) (N : Nat) (hN2 : N ≤ 9223372036854775807) :
    Calls Tryd.prog 66 #[.slice p n c, .int .i64 N] w fun e w' => ∃ p' m' zs, e = .returned (.slice p' m' m') ∧ At32 w' p' m' m' zs ∧ Nf B32 zs (v % 2 ^ N) ∧ m' ≤ n ∧ Below w.heap.size w w' := by
  rcases Nat.eq_zero_or_pos N with h0 | h0
  · subst h0
    clear h hx
    go_enter Tryd.func66, Tryd.ntmps66
    go_wp2_with fail
    refine (rword0 w).mono ?_
    rintro e w1 ⟨g, rfl, hb⟩
    go_wp2_with fail
    go_ret
    exact ⟨_, 0, [], rfl, At32.empty _ _ 0 (by decide), by rw [Nat.pow_zero, Nat.mod_one]; exact nf32_nilq, by omega, hb⟩
  · exact rlow_any h hx hn N h0 hN2
theorem nf32_zeroq {zs : List Nat} {v : Nat} (h : Nf B32 zs v) : zs.length = 0 ↔ v = 0 := by
  rw [← h.zero_iff B32_one]
  exact ⟨List.eq_nil_of_length_eq_zero, fun e => by rw [e]; rfl⟩
theorem nf64_zeroq {zs : List Nat} {v : Nat} (h : Nf B64 zs v) : zs.length = 0 ↔ v = 0 := by
  rw [← h.zero_iff B64_one]
  exact ⟨List.eq_nil_of_length_eq_zero, fun e => by rw [e]; rfl⟩
theorem LIM_twoq {E : Nat} (hE : E = 524288) : LIM = 2 ^ E := by
  obtain ⟨K, hK⟩ : ∃ K, K = 8192 := ⟨8192, rfl⟩
  rw [LIM_eq K hK, B64_pow]
  have : 64 * K = E := by omega
  rw [this]
theorem LIM_posq : 0 < LIM := by
  obtain ⟨E, hE⟩ : ∃ E, E = 524288 := ⟨_, rfl⟩
  rw [LIM_twoq hE]
  exact Nat.pow_pos (by decide)
theorem nf_nilq : Nf B64 [] 0 := ⟨Dig.nil _, by intro x hx; simp at hx, rfl⟩

set_option maxRecDepth 20000 in
set_option maxHeartbeats 2000000 in
theorem docshrD {p : Option Addr} {n c : Nat} {xs : List Nat} {w : World} (h : At w p n c xs) (t : Int) (ht : t ≤ 9223372036854775807) :
    Calls Tryd.prog 43 #[.slice p n c, .int .i64 t] w fun e w' => ∃ p' m' N' us f, e = .returned (.tuple #[.slice p' m' N', .int .i64 f]) ∧ At w' p' m' N' us ∧ ShIs shrR xs t us f ∧ Below w.heap.size w w' := by
  have HA : Hid (At w p n c xs) := h
  clear h
  rcases Int.lt_or_le t 0 with h0 | h0
  · have h1 : decide (t < 0) = true := decide_eq_true h0
    go_enter Tryd.func43, Tryd.ntmps43
    go_wp2_with fail
    go_ret2
    exact ⟨none, 0, 0, [], 1, rfl, At.empty _ none 0 (by decide), .inl ⟨h0, rfl, rfl⟩, Below.refl _ _⟩
  · have h1 : decide (t < 0) = false := decide_eq_false (by omega)
    cases hf : formB xs
    · go_enter Tryd.func43, Tryd.ntmps43
      go_wp2_with fail
      refine (docform_any HA.out).mono ?_
      rintro e w1 ⟨rfl, hw⟩
      rw [hf]
      obtain rfl := hw.symm
      clear hw
      go_wp2_with fail
      go_ret2
      exact ⟨none, 0, 0, [], 2, rfl, At.empty _ none 0 (by decide), .inr (.inl ⟨h0, hf, rfl, rfl⟩), Below.refl _ _⟩
    · have HF : Hid (formB xs = true) := hf
      have hn : n ≤ 8192 := by have := form_lenq hf; rw [HA.out.len] at this; exact this
      have HNX : Hid (Nf B64 xs (valB B64 xs)) := nf_of_form HA.out.dig hf
      obtain ⟨T, rfl⟩ := Int.eq_ofNat_of_zero_le h0
      have H0 : Hid (0 ≤ (T : Int)) := h0
      clear h0
      go_enter Tryd.func43, Tryd.ntmps43
      go_wp2_with fail
      refine (docform_any HA.out).mono ?_
      rintro e w1 ⟨rfl, hw⟩
      rw [hf]
      obtain rfl := hw.symm
      clear hw hf
      go_wp2_with fail
      refine (from_any HA.out (by omega)).mono ?_
      rintro e w1 ⟨g1, z1, rfl, hg1, hk1, hn1, hl1, hb1⟩
      have A1 : Hid (At32 w1 (some ⟨g1, 0, none⟩) z1.length z1.length z1) := hk1.at_ hn1.dig rfl (by unfold maxLen; omega)
      have N1 : Hid (Nf B32 z1 (valB B64 xs)) := hn1
      have hz1 := nf32_zeroq hn1
      obtain ⟨l1, hl1e⟩ : ∃ l1, l1 = z1.length := ⟨_, rfl⟩
      rw [← hl1e] at A1 hl1 hz1 ⊢
      have hl16 : l1 ≤ 16384 := by omega
      clear hk1 hn1 hg1 hl1e hl1
      go_wp2_with fail
      refine (rshr_all A1.out N1.out hl16 T (by omega)).mono ?_
      rintro e w2 ⟨p2, m2, z2, rfl, hA2, hN2, hm2, hb2⟩
      have A2 : Hid (At32 w2 p2 m2 m2 z2) := hA2
      have N2 : Hid (Nf B32 z2 (valB B64 xs / 2 ^ T)) := hN2
      have hbw2 := Below.on hb1 hb2
      clear hA2 hN2 hb2 hb1 A1 hz1
      go_wp2_with fail
      refine (rtold_any A2.out N2.out (by omega)).mono ?_
      rintro e w3 ⟨p3, m3, N3, us, f3, rfl, hA3, hD3, hb3⟩
      have A3 : Hid (At w3 p3 m3 N3 us) := hA3
      have D3 : Hid (DocIs (shrR (valB B64 xs) T) us f3) := hD3
      have hbw3 := Below.on hbw2 hb3
      clear hA3 hD3 hb3 hbw2
      go_wp2_with fail
      go_ret2
      exact ⟨p3, m3, N3, us, f3, rfl, A3.out, .inr (.inr ⟨H0.out, HF.out, D3.out⟩), hbw3⟩

set_option maxRecDepth 20000 in
set_option maxHeartbeats 2000000 in
theorem doclowD {p : Option Addr} {n c : Nat} {xs : List Nat} {w : World} (h : At w p n c xs) (t : Int) (ht : t ≤ 9223372036854775807) :
    Calls Tryd.prog 44 #[.slice p n c, .int .i64 t] w fun e w' => ∃ p' m' N' us f, e = .returned (.tuple #[.slice p' m' N', .int .i64 f]) ∧ At w' p' m' N' us ∧ ShIs lowR xs t us f ∧ Below w.heap.size w w' := by
  have HA : Hid (At w p n c xs) := h
  clear h
  rcases Int.lt_or_le t 0 with h0 | h0
  · have h1 : decide (t < 0) = true := decide_eq_true h0
    go_enter Tryd.func44, Tryd.ntmps44
    go_wp2_with fail
    go_ret2
    exact ⟨none, 0, 0, [], 1, rfl, At.empty _ none 0 (by decide), .inl ⟨h0, rfl, rfl⟩, Below.refl _ _⟩
  · have h1 : decide (t < 0) = false := decide_eq_false (by omega)
    cases hf : formB xs
    · go_enter Tryd.func44, Tryd.ntmps44
      go_wp2_with fail
      refine (docform_any HA.out).mono ?_
      rintro e w1 ⟨rfl, hw⟩
      rw [hf]
      obtain rfl := hw.symm
      clear hw
      go_wp2_with fail
      go_ret2
      exact ⟨none, 0, 0, [], 2, rfl, At.empty _ none 0 (by decide), .inr (.inl ⟨h0, hf, rfl, rfl⟩), Below.refl _ _⟩
    · have HF : Hid (formB xs = true) := hf
      have hn : n ≤ 8192 := by have := form_lenq hf; rw [HA.out.len] at this; exact this
      have HNX : Hid (Nf B64 xs (valB B64 xs)) := nf_of_form HA.out.dig hf
      obtain ⟨T, rfl⟩ := Int.eq_ofNat_of_zero_le h0
      have H0 : Hid (0 ≤ (T : Int)) := h0
      clear h0
      go_enter Tryd.func44, Tryd.ntmps44
      go_wp2_with fail
      refine (docform_any HA.out).mono ?_
      rintro e w1 ⟨rfl, hw⟩
      rw [hf]
      obtain rfl := hw.symm
      clear hw hf
      go_wp2_with fail
      refine (from_any HA.out (by omega)).mono ?_
      rintro e w1 ⟨g1, z1, rfl, hg1, hk1, hn1, hl1, hb1⟩
      have A1 : Hid (At32 w1 (some ⟨g1, 0, none⟩) z1.length z1.length z1) := hk1.at_ hn1.dig rfl (by unfold maxLen; omega)
      have N1 : Hid (Nf B32 z1 (valB B64 xs)) := hn1
      have hz1 := nf32_zeroq hn1
      obtain ⟨l1, hl1e⟩ : ∃ l1, l1 = z1.length := ⟨_, rfl⟩
      rw [← hl1e] at A1 hl1 hz1 ⊢
      have hl16 : l1 ≤ 16384 := by omega
      clear hk1 hn1 hg1 hl1e hl1
      go_wp2_with fail
      refine (rlow_all A1.out N1.out hl16 T (by omega)).mono ?_
      rintro e w2 ⟨p2, m2, z2, rfl, hA2, hN2, hm2, hb2⟩
      have A2 : Hid (At32 w2 p2 m2 m2 z2) := hA2
      have N2 : Hid (Nf B32 z2 (valB B64 xs % 2 ^ T)) := hN2
      have hbw2 := Below.on hb1 hb2
      clear hA2 hN2 hb2 hb1 A1 hz1
      go_wp2_with fail
      refine (rtold_any A2.out N2.out (by omega)).mono ?_
      rintro e w3 ⟨p3, m3, N3, us, f3, rfl, hA3, hD3, hb3⟩
      have A3 : Hid (At w3 p3 m3 N3 us) := hA3
      have D3 : Hid (DocIs (lowR (valB B64 xs) T) us f3) := hD3
      have hbw3 := Below.on hbw2 hb3
      clear hA3 hD3 hb3 hbw2
      go_wp2_with fail
      go_ret2
      exact ⟨p3, m3, N3, us, f3, rfl, A3.out, .inr (.inr ⟨H0.out, HF.out, D3.out⟩), hbw3⟩

set_option maxRecDepth 20000 in
set_option maxHeartbeats 2000000 in
theorem docshlD {p : Option Addr} {n c : Nat} {xs : List Nat} {w : World} (h : At w p n c xs) (t : Int) (ht : t ≤ 9223372036854775807) :
    Calls Tryd.prog 42 #[.slice p n c, .int .i64 t] w fun e w' => ∃ p' m' N' us f, e = .returned (.tuple #[.slice p' m' N', .int .i64 f]) ∧ At w' p' m' N' us ∧ ShIs shlR xs t us f ∧ Below w.heap.size w w' := by
  have HA : Hid (At w p n c xs) := h
  clear h
  rcases Int.lt_or_le t 0 with h0 | h0
  · have h1 : decide (t < 0) = true := decide_eq_true h0
    go_enter Tryd.func42, Tryd.ntmps42
    go_wp2_with fail
    go_ret2
    exact ⟨none, 0, 0, [], 1, rfl, At.empty _ none 0 (by decide), .inl ⟨h0, rfl, rfl⟩, Below.refl _ _⟩
  · have h1 : decide (t < 0) = false := decide_eq_false (by omega)
    cases hf : formB xs
    · go_enter Tryd.func42, Tryd.ntmps42
      go_wp2_with fail
      refine (docform_any HA.out).mono ?_
      rintro e w1 ⟨rfl, hw⟩
      rw [hf]
      obtain rfl := hw.symm
      clear hw
      go_wp2_with fail
      go_ret2
      exact ⟨none, 0, 0, [], 2, rfl, At.empty _ none 0 (by decide), .inr (.inl ⟨h0, hf, rfl, rfl⟩), Below.refl _ _⟩
    · have HF : Hid (formB xs = true) := hf
      have hn : n ≤ 8192 := by have := form_lenq hf; rw [HA.out.len] at this; exact this
      have HNX : Hid (Nf B64 xs (valB B64 xs)) := nf_of_form HA.out.dig hf
      obtain ⟨T, rfl⟩ := Int.eq_ofNat_of_zero_le h0
      have H0 : Hid (0 ≤ (T : Int)) := h0
      clear h0
      go_enter Tryd.func42, Tryd.ntmps42
      go_wp2_with fail
      refine (docform_any HA.out).mono ?_
      rintro e w1 ⟨rfl, hw⟩
      rw [hf]
      obtain rfl := hw.symm
      clear hw hf
      have hzz := nf64_zeroq HNX.out
      rw [HA.out.len] at hzz
      rcases Nat.eq_zero_or_pos n with hn0 | hn0
      · have HV0 : Hid (valB B64 xs = 0) := hzz.1 hn0
        subst hn0
        clear hzz
        go_wp2_with fail
        go_ret2
        exact ⟨none, 0, 0, [], 0, rfl, At.empty _ none 0 (by decide), .inr (.inr ⟨H0.out, HF.out, by show DocIs (2 ^ _ * _) _ _; rw [HV0.out, Nat.mul_zero]; exact .inl ⟨LIM_posq, nf_nilq, rfl⟩⟩), Below.refl _ _⟩
      · have hne : ((n : Int) == 0) = false := by simp; omega
        have HVP : Hid (1 ≤ valB B64 xs) := by
          show 1 ≤ _
          rcases Nat.eq_zero_or_pos (valB B64 xs) with e | e
          · have := hzz.2 e; omega
          · exact e
        clear hzz
        by_cases hb : 524288 < T
        · have hbi : (524288 : Int) < (T : Int) := by omega
          go_wp2_with fail
          go_ret2
          exact ⟨none, 0, 0, [], 5, rfl, At.empty _ none 0 (by decide), .inr (.inr ⟨H0.out, HF.out, .inr ⟨by
            obtain ⟨E, hE⟩ : ∃ E, E = 524288 := ⟨_, rfl⟩
            rw [LIM_twoq hE]
            exact Nat.le_trans (Nat.pow_le_pow_right (by decide) (show E ≤ T by omega)) (Nat.le_mul_of_pos_right _ HVP.out), rfl, rfl⟩⟩), Below.refl _ _⟩
        · have hbi : ¬ (524288 : Int) < (T : Int) := by omega
          go_wp2_with fail
          refine (from_any HA.out (by omega)).mono ?_
          rintro e w1 ⟨g1, z1, rfl, hg1, hk1, hn1, hl1, hb1⟩
          have A1 : Hid (At32 w1 (some ⟨g1, 0, none⟩) z1.length z1.length z1) := hk1.at_ hn1.dig rfl (by unfold maxLen; omega)
          have N1 : Hid (Nf B32 z1 (valB B64 xs)) := hn1
          have hz1 := nf32_zeroq hn1
          obtain ⟨l1, hl1e⟩ : ∃ l1, l1 = z1.length := ⟨_, rfl⟩
          rw [← hl1e] at A1 hl1 hz1 ⊢
          have hl16 : l1 ≤ 16384 := by omega
          clear hk1 hn1 hg1 hl1e hl1
          have hl0 : 0 < l1 := by
            rcases Nat.eq_zero_or_pos l1 with e | e
            · have h2 := hz1.1 e; have h3 := HVP.out; omega
            · exact e
          go_wp2_with fail
          refine (rshl_any A1.out N1.out hl0 hl16 T (by omega)).mono ?_
          rintro e w2 ⟨p2, m2, z2, rfl, hA2, hN2, hm2, hb2⟩
          have A2 : Hid (At32 w2 p2 m2 m2 z2) := hA2
          have N2 : Hid (Nf B32 z2 (valB B64 xs * 2 ^ T)) := hN2
          have hbw2 := Below.on hb1 hb2
          clear hA2 hN2 hb2 hb1 A1 hz1
          go_wp2_with fail
          refine (rtold_any A2.out N2.out (by omega)).mono ?_
          rintro e w3 ⟨p3, m3, N3, us, f3, rfl, hA3, hD3, hb3⟩
          have A3 : Hid (At w3 p3 m3 N3 us) := hA3
          have D3 : Hid (DocIs (shlR (valB B64 xs) T) us f3) := by show DocIs (2 ^ T * _) us f3; rw [Nat.mul_comm]; exact hD3
          have hbw3 := Below.on hbw2 hb3
          clear hA3 hD3 hb3 hbw2
          go_wp2_with fail
          go_ret2
          exact ⟨p3, m3, N3, us, f3, rfl, A3.out, .inr (.inr ⟨H0.out, HF.out, D3.out⟩), hbw3⟩

-- Ss3
set_option maxRecDepth 20000 in
set_option maxHeartbeats 2000000 in
theorem list10 {pa pb : Option Addr} {na nb ca cb : Nat} {xa : List Nat} {w : World} (h : At w pa na ca xa) (nn : Int) (hnn : nn ≤ 9223372036854775807) (x : Nat) :
    Calls Tryd.prog 20 #[.agg #[.int .i64 10, .slice pa na ca, .slice pb nb cb, .int .i64 nn, U x]] w fun e w' => ∃ p' m' N' us f, e = .returned (.tuple #[.slice p' m' N', .int .u64 0, .int .i64 f]) ∧ At w' p' m' N' us ∧ ShIs shlR xa nn us f ∧ Below w.heap.size w w' := by
  have HA : Hid (At (w.alloc (.cells #[.int .i64 10, .slice pa na ca, .slice pb nb cb, .int .i64 nn, U x] 40)) pa na ca xa) := h.alloc _
  have hb0 : Below w.heap.size w (w.alloc (.cells #[.int .i64 10, .slice pa na ca, .slice pb nb cb, .int .i64 nn, U x] 40)) := below1 w _
  clear h
  go_enter Tryd.func20, Tryd.ntmps20
  go_wp2_with fail
  refine (shlP HA.out nn hnn).mono ?_
  rintro e w1 ⟨p1, m1, N1, us, f1, rfl, hA1, hD1, hb1⟩
  have A1 : Hid (At w1 p1 m1 N1 us) := hA1
  have D1 : Hid (ShIs shlR xa nn us f1) := hD1
  have hbw := Below.on hb0 hb1
  clear hA1 hD1 hb1 hb0 HA
  go_wp2_with fail
  go_ret3
  exact ⟨p1, m1, N1, us, f1, rfl, A1.out, D1.out, hbw⟩

set_option maxRecDepth 20000 in
set_option maxHeartbeats 2000000 in
theorem doc10 {pa pb : Option Addr} {na nb ca cb : Nat} {xa : List Nat} {w : World} (h : At w pa na ca xa) (nn : Int) (hnn : nn ≤ 9223372036854775807) (x : Nat) :
    Calls Tryd.prog 22 #[.agg #[.int .i64 10, .slice pa na ca, .slice pb nb cb, .int .i64 nn, U x]] w fun e w' => ∃ p' m' N' us f, e = .returned (.tuple #[.slice p' m' N', .int .u64 0, .int .i64 f]) ∧ At w' p' m' N' us ∧ ShIs shlR xa nn us f ∧ Below w.heap.size w w' := by
  have HA : Hid (At (w.alloc (.cells #[.int .i64 10, .slice pa na ca, .slice pb nb cb, .int .i64 nn, U x] 40)) pa na ca xa) := h.alloc _
  have hb0 : Below w.heap.size w (w.alloc (.cells #[.int .i64 10, .slice pa na ca, .slice pb nb cb, .int .i64 nn, U x] 40)) := below1 w _
  clear h
  go_enter Tryd.func22, Tryd.ntmps22
  go_wp2_with fail
  refine (docshlD HA.out nn hnn).mono ?_
  rintro e w1 ⟨p1, m1, N1, us, f1, rfl, hA1, hD1, hb1⟩
  have A1 : Hid (At w1 p1 m1 N1 us) := hA1
  have D1 : Hid (ShIs shlR xa nn us f1) := hD1
  have hbw := Below.on hb0 hb1
  clear hA1 hD1 hb1 hb0 HA
  go_wp2_with fail
  go_ret3
  exact ⟨p1, m1, N1, us, f1, rfl, A1.out, D1.out, hbw⟩

set_option maxRecDepth 20000 in
set_option maxHeartbeats 2000000 in
theorem list11 {pa pb : Option Addr} {na nb ca cb : Nat} {xa : List Nat} {w : World} (h : At w pa na ca xa) (nn : Int) (hnn : nn ≤ 9223372036854775807) (x : Nat) :
    Calls Tryd.prog 20 #[.agg #[.int .i64 11, .slice pa na ca, .slice pb nb cb, .int .i64 nn, U x]] w fun e w' => ∃ p' m' N' us f, e = .returned (.tuple #[.slice p' m' N', .int .u64 0, .int .i64 f]) ∧ At w' p' m' N' us ∧ ShIs shrR xa nn us f ∧ Below w.heap.size w w' := by
  have HA : Hid (At (w.alloc (.cells #[.int .i64 11, .slice pa na ca, .slice pb nb cb, .int .i64 nn, U x] 40)) pa na ca xa) := h.alloc _
  have hb0 : Below w.heap.size w (w.alloc (.cells #[.int .i64 11, .slice pa na ca, .slice pb nb cb, .int .i64 nn, U x] 40)) := below1 w _
  clear h
  go_enter Tryd.func20, Tryd.ntmps20
  go_wp2_with fail
  refine (shrP HA.out nn hnn).mono ?_
  rintro e w1 ⟨p1, m1, N1, us, f1, rfl, hA1, hD1, hb1⟩
  have A1 : Hid (At w1 p1 m1 N1 us) := hA1
  have D1 : Hid (ShIs shrR xa nn us f1) := hD1
  have hbw := Below.on hb0 hb1
  clear hA1 hD1 hb1 hb0 HA
  go_wp2_with fail
  go_ret3
  exact ⟨p1, m1, N1, us, f1, rfl, A1.out, D1.out, hbw⟩

set_option maxRecDepth 20000 in
set_option maxHeartbeats 2000000 in
theorem doc11 {pa pb : Option Addr} {na nb ca cb : Nat} {xa : List Nat} {w : World} (h : At w pa na ca xa) (nn : Int) (hnn : nn ≤ 9223372036854775807) (x : Nat) :
    Calls Tryd.prog 22 #[.agg #[.int .i64 11, .slice pa na ca, .slice pb nb cb, .int .i64 nn, U x]] w fun e w' => ∃ p' m' N' us f, e = .returned (.tuple #[.slice p' m' N', .int .u64 0, .int .i64 f]) ∧ At w' p' m' N' us ∧ ShIs shrR xa nn us f ∧ Below w.heap.size w w' := by
  have HA : Hid (At (w.alloc (.cells #[.int .i64 11, .slice pa na ca, .slice pb nb cb, .int .i64 nn, U x] 40)) pa na ca xa) := h.alloc _
  have hb0 : Below w.heap.size w (w.alloc (.cells #[.int .i64 11, .slice pa na ca, .slice pb nb cb, .int .i64 nn, U x] 40)) := below1 w _
  clear h
  go_enter Tryd.func22, Tryd.ntmps22
  go_wp2_with fail
  refine (docshrD HA.out nn hnn).mono ?_
  rintro e w1 ⟨p1, m1, N1, us, f1, rfl, hA1, hD1, hb1⟩
  have A1 : Hid (At w1 p1 m1 N1 us) := hA1
  have D1 : Hid (ShIs shrR xa nn us f1) := hD1
  have hbw := Below.on hb0 hb1
  clear hA1 hD1 hb1 hb0 HA
  go_wp2_with fail
  go_ret3
  exact ⟨p1, m1, N1, us, f1, rfl, A1.out, D1.out, hbw⟩

set_option maxRecDepth 20000 in
set_option maxHeartbeats 2000000 in
theorem list12 {pa pb : Option Addr} {na nb ca cb : Nat} {xa : List Nat} {w : World} (h : At w pa na ca xa) (nn : Int) (hnn : nn ≤ 9223372036854775807) (x : Nat) :
    Calls Tryd.prog 20 #[.agg #[.int .i64 12, .slice pa na ca, .slice pb nb cb, .int .i64 nn, U x]] w fun e w' => ∃ p' m' N' us f, e = .returned (.tuple #[.slice p' m' N', .int .u64 0, .int .i64 f]) ∧ At w' p' m' N' us ∧ ShIs lowR xa nn us f ∧ Below w.heap.size w w' := by
  have HA : Hid (At (w.alloc (.cells #[.int .i64 12, .slice pa na ca, .slice pb nb cb, .int .i64 nn, U x] 40)) pa na ca xa) := h.alloc _
  have hb0 : Below w.heap.size w (w.alloc (.cells #[.int .i64 12, .slice pa na ca, .slice pb nb cb, .int .i64 nn, U x] 40)) := below1 w _
  clear h
  go_enter Tryd.func20, Tryd.ntmps20
  go_wp2_with fail
  refine (lowP HA.out nn hnn).mono ?_
  rintro e w1 ⟨p1, m1, N1, us, f1, rfl, hA1, hD1, hb1⟩
  have A1 : Hid (At w1 p1 m1 N1 us) := hA1
  have D1 : Hid (ShIs lowR xa nn us f1) := hD1
  have hbw := Below.on hb0 hb1
  clear hA1 hD1 hb1 hb0 HA
  go_wp2_with fail
  go_ret3
  exact ⟨p1, m1, N1, us, f1, rfl, A1.out, D1.out, hbw⟩

set_option maxRecDepth 20000 in
set_option maxHeartbeats 2000000 in
theorem doc12 {pa pb : Option Addr} {na nb ca cb : Nat} {xa : List Nat} {w : World} (h : At w pa na ca xa) (nn : Int) (hnn : nn ≤ 9223372036854775807) (x : Nat) :
    Calls Tryd.prog 22 #[.agg #[.int .i64 12, .slice pa na ca, .slice pb nb cb, .int .i64 nn, U x]] w fun e w' => ∃ p' m' N' us f, e = .returned (.tuple #[.slice p' m' N', .int .u64 0, .int .i64 f]) ∧ At w' p' m' N' us ∧ ShIs lowR xa nn us f ∧ Below w.heap.size w w' := by
  have HA : Hid (At (w.alloc (.cells #[.int .i64 12, .slice pa na ca, .slice pb nb cb, .int .i64 nn, U x] 40)) pa na ca xa) := h.alloc _
  have hb0 : Below w.heap.size w (w.alloc (.cells #[.int .i64 12, .slice pa na ca, .slice pb nb cb, .int .i64 nn, U x] 40)) := below1 w _
  clear h
  go_enter Tryd.func22, Tryd.ntmps22
  go_wp2_with fail
  refine (doclowD HA.out nn hnn).mono ?_
  rintro e w1 ⟨p1, m1, N1, us, f1, rfl, hA1, hD1, hb1⟩
  have A1 : Hid (At w1 p1 m1 N1 us) := hA1
  have D1 : Hid (ShIs lowR xa nn us f1) := hD1
  have hbw := Below.on hb0 hb1
  clear hA1 hD1 hb1 hb0 HA
  go_wp2_with fail
  go_ret3
  exact ⟨p1, m1, N1, us, f1, rfl, A1.out, D1.out, hbw⟩

set_option maxRecDepth 20000 in
set_option maxHeartbeats 4000000 in
theorem plays_10 {pa pb : Option Addr} {na nb ca cb : Nat} {xa xb : List Nat} {w : World} (h : At w pa na ca xa) (k : At w pb nb cb xb) (hna : na ≤ 17592186044416) (hnb : nb ≤ 17592186044416) (nn : Int) (hnn : nn ≤ 9223372036854775807) (x : Nat) :
    Calls Tryd.prog 17 #[.agg #[.int .i64 10, .slice pa na ca, .slice pb nb cb, .int .i64 nn, U x]] w fun e w' => e = .returned (.bool true) ∧ Below w.heap.size w w' := by
  have HA : Hid (At w pa na ca xa) := h
  have HB : Hid (At w pb nb cb xb) := k
  clear h k
  go_enter Tryd.func17, Tryd.ntmps17
  go_wp2_with fail
  have X0 : B5 (w.alloc (.cells #[.int .i64 10, .slice pa na ca, .slice pb nb cb, .int .i64 nn, U x] 40)) w.heap.size (.int .i64 10) (.slice pa na ca) (.slice pb nb cb) (.int .i64 nn) (U x) := B5.new ..
  have hb0 : Below w.heap.size w (w.alloc (.cells #[.int .i64 10, .slice pa na ca, .slice pb nb cb, .int .i64 nn, U x] 40)) := below1 w _
  generalize w.alloc (.cells #[.int .i64 10, .slice pa na ca, .slice pb nb cb, .int .i64 nn, U x] 40) = W at *
  obtain ⟨g, hg⟩ : ∃ g, g = w.heap.size := ⟨_, rfl⟩
  rw [← hg] at X0 ⊢
  clear hg
  refine (twin5 (HA.out.below hb0) (HB.out.below hb0) hna hnb 10 nn x).mono ?_
  rintro e w1 ⟨p1, p2, rfl, hA1, hA2, hb1⟩
  have X1 : Hid (B5 w1 g (.int .i64 10) (.slice pa na ca) (.slice pb nb cb) (.int .i64 nn) (U x)) := X0.below hb1
  have A1 : Hid (At w1 p1 na na xa) := hA1
  have A2 : Hid (At w1 p2 nb nb xb) := hA2
  have HB1 : Hid (Below w.heap.size w w1) := Below.on hb0 hb1
  clear X0 hb0 hA1 hA2 hb1
  go_wp2_with fail
  refine (list10 A1.out nn hnn x).mono ?_
  rintro e w2 ⟨p3, m3, N3, u3, f3, rfl, hA3, hD3, hb3⟩
  have A3 : Hid (At w2 p3 m3 N3 u3) := hA3
  have D3 : Hid (ShIs shlR xa nn u3 f3) := hD3
  have HB3 : Hid (Below w.heap.size w w2) := Below.on HB1.out hb3
  obtain ⟨c0, c1, c2, c3, c4, c5, c6, c7, c8, c9⟩ := X1.out.below hb3
  clear hA3 hD3 hb3 X1 A1 A2 HB1
  go_wp2_with fail
  refine (doc10 (HA.out.below HB3.out) nn hnn x).mono ?_
  rintro e w3 ⟨p4, m4, N4, u4, f4, rfl, hA4, hD4, hb4⟩
  obtain ⟨eu, ef⟩ := D3.out.inj hD4
  subst eu ef
  have A4 : Hid (At w3 p4 m4 N4 u3) := hA4
  have A34 : Hid (At w3 p3 m3 N3 u3) := A3.out.below hb4
  have hbw := Below.on HB3.out hb4
  clear c0 c1 c2 c3 c4 c5 c6 c7 c8 c9
  clear hA4 hD4 hb4 A3 HB3
  go_wp2_with fail
  refine (told1 f3 D3.out.er A34.out A4.out).mono ?_
  rintro e w4 ⟨rfl, hb5⟩
  have hbw5 := Below.on hbw hb5
  go_wp2_with fail
  go_ret
  exact ⟨rfl, hbw5⟩

set_option maxRecDepth 20000 in
set_option maxHeartbeats 4000000 in
theorem plays_11 {pa pb : Option Addr} {na nb ca cb : Nat} {xa xb : List Nat} {w : World} (h : At w pa na ca xa) (k : At w pb nb cb xb) (hna : na ≤ 17592186044416) (hnb : nb ≤ 17592186044416) (nn : Int) (hnn : nn ≤ 9223372036854775807) (x : Nat) :
    Calls Tryd.prog 17 #[.agg #[.int .i64 11, .slice pa na ca, .slice pb nb cb, .int .i64 nn, U x]] w fun e w' => e = .returned (.bool true) ∧ Below w.heap.size w w' := by
  have HA : Hid (At w pa na ca xa) := h
  have HB : Hid (At w pb nb cb xb) := k
  clear h k
  go_enter Tryd.func17, Tryd.ntmps17
  go_wp2_with fail
  have X0 : B5 (w.alloc (.cells #[.int .i64 11, .slice pa na ca, .slice pb nb cb, .int .i64 nn, U x] 40)) w.heap.size (.int .i64 11) (.slice pa na ca) (.slice pb nb cb) (.int .i64 nn) (U x) := B5.new ..
  have hb0 : Below w.heap.size w (w.alloc (.cells #[.int .i64 11, .slice pa na ca, .slice pb nb cb, .int .i64 nn, U x] 40)) := below1 w _
  generalize w.alloc (.cells #[.int .i64 11, .slice pa na ca, .slice pb nb cb, .int .i64 nn, U x] 40) = W at *
  obtain ⟨g, hg⟩ : ∃ g, g = w.heap.size := ⟨_, rfl⟩
  rw [← hg] at X0 ⊢
  clear hg
  refine (twin5 (HA.out.below hb0) (HB.out.below hb0) hna hnb 11 nn x).mono ?_
  rintro e w1 ⟨p1, p2, rfl, hA1, hA2, hb1⟩
  have X1 : Hid (B5 w1 g (.int .i64 11) (.slice pa na ca) (.slice pb nb cb) (.int .i64 nn) (U x)) := X0.below hb1
  have A1 : Hid (At w1 p1 na na xa) := hA1
  have A2 : Hid (At w1 p2 nb nb xb) := hA2
  have HB1 : Hid (Below w.heap.size w w1) := Below.on hb0 hb1
  clear X0 hb0 hA1 hA2 hb1
  go_wp2_with fail
  refine (list11 A1.out nn hnn x).mono ?_
  rintro e w2 ⟨p3, m3, N3, u3, f3, rfl, hA3, hD3, hb3⟩
  have A3 : Hid (At w2 p3 m3 N3 u3) := hA3
  have D3 : Hid (ShIs shrR xa nn u3 f3) := hD3
  have HB3 : Hid (Below w.heap.size w w2) := Below.on HB1.out hb3
  obtain ⟨c0, c1, c2, c3, c4, c5, c6, c7, c8, c9⟩ := X1.out.below hb3
  clear hA3 hD3 hb3 X1 A1 A2 HB1
  go_wp2_with fail
  refine (doc11 (HA.out.below HB3.out) nn hnn x).mono ?_
  rintro e w3 ⟨p4, m4, N4, u4, f4, rfl, hA4, hD4, hb4⟩
  obtain ⟨eu, ef⟩ := D3.out.inj hD4
  subst eu ef
  have A4 : Hid (At w3 p4 m4 N4 u3) := hA4
  have A34 : Hid (At w3 p3 m3 N3 u3) := A3.out.below hb4
  have hbw := Below.on HB3.out hb4
  clear c0 c1 c2 c3 c4 c5 c6 c7 c8 c9
  clear hA4 hD4 hb4 A3 HB3
  go_wp2_with fail
  refine (told1 f3 D3.out.er A34.out A4.out).mono ?_
  rintro e w4 ⟨rfl, hb5⟩
  have hbw5 := Below.on hbw hb5
  go_wp2_with fail
  go_ret
  exact ⟨rfl, hbw5⟩

set_option maxRecDepth 20000 in
set_option maxHeartbeats 4000000 in
theorem plays_12 {pa pb : Option Addr} {na nb ca cb : Nat} {xa xb : List Nat} {w : World} (h : At w pa na ca xa) (k : At w pb nb cb xb) (hna : na ≤ 17592186044416) (hnb : nb ≤ 17592186044416) (nn : Int) (hnn : nn ≤ 9223372036854775807) (x : Nat) :
    Calls Tryd.prog 17 #[.agg #[.int .i64 12, .slice pa na ca, .slice pb nb cb, .int .i64 nn, U x]] w fun e w' => e = .returned (.bool true) ∧ Below w.heap.size w w' := by
  have HA : Hid (At w pa na ca xa) := h
  have HB : Hid (At w pb nb cb xb) := k
  clear h k
  go_enter Tryd.func17, Tryd.ntmps17
  go_wp2_with fail
  have X0 : B5 (w.alloc (.cells #[.int .i64 12, .slice pa na ca, .slice pb nb cb, .int .i64 nn, U x] 40)) w.heap.size (.int .i64 12) (.slice pa na ca) (.slice pb nb cb) (.int .i64 nn) (U x) := B5.new ..
  have hb0 : Below w.heap.size w (w.alloc (.cells #[.int .i64 12, .slice pa na ca, .slice pb nb cb, .int .i64 nn, U x] 40)) := below1 w _
  generalize w.alloc (.cells #[.int .i64 12, .slice pa na ca, .slice pb nb cb, .int .i64 nn, U x] 40) = W at *
  obtain ⟨g, hg⟩ : ∃ g, g = w.heap.size := ⟨_, rfl⟩
  rw [← hg] at X0 ⊢
  clear hg
  refine (twin5 (HA.out.below hb0) (HB.out.below hb0) hna hnb 12 nn x).mono ?_
  rintro e w1 ⟨p1, p2, rfl, hA1, hA2, hb1⟩
  have X1 : Hid (B5 w1 g (.int .i64 12) (.slice pa na ca) (.slice pb nb cb) (.int .i64 nn) (U x)) := X0.below hb1
  have A1 : Hid (At w1 p1 na na xa) := hA1
  have A2 : Hid (At w1 p2 nb nb xb) := hA2
  have HB1 : Hid (Below w.heap.size w w1) := Below.on hb0 hb1
  clear X0 hb0 hA1 hA2 hb1
  go_wp2_with fail
  refine (list12 A1.out nn hnn x).mono ?_
  rintro e w2 ⟨p3, m3, N3, u3, f3, rfl, hA3, hD3, hb3⟩
  have A3 : Hid (At w2 p3 m3 N3 u3) := hA3
  have D3 : Hid (ShIs lowR xa nn u3 f3) := hD3
  have HB3 : Hid (Below w.heap.size w w2) := Below.on HB1.out hb3
  obtain ⟨c0, c1, c2, c3, c4, c5, c6, c7, c8, c9⟩ := X1.out.below hb3
  clear hA3 hD3 hb3 X1 A1 A2 HB1
  go_wp2_with fail
  refine (doc12 (HA.out.below HB3.out) nn hnn x).mono ?_
  rintro e w3 ⟨p4, m4, N4, u4, f4, rfl, hA4, hD4, hb4⟩
  obtain ⟨eu, ef⟩ := D3.out.inj hD4
  subst eu ef
  have A4 : Hid (At w3 p4 m4 N4 u3) := hA4
  have A34 : Hid (At w3 p3 m3 N3 u3) := A3.out.below hb4
  have hbw := Below.on HB3.out hb4
  clear c0 c1 c2 c3 c4 c5 c6 c7 c8 c9
  clear hA4 hD4 hb4 A3 HB3
  go_wp2_with fail
  refine (told1 f3 D3.out.er A34.out A4.out).mono ?_
  rintro e w4 ⟨rfl, hb5⟩
  have hbw5 := Below.on hbw hb5
  go_wp2_with fail
  go_ret
  exact ⟨rfl, hbw5⟩

set_option maxRecDepth 20000 in
set_option maxHeartbeats 4000000 in
theorem allSh {P : Option Addr} {N C : Nat} {its : List Op5} {w : World} (h : Scr w P N C its) :
    Calls Tryd.prog 8 #[.slice P N C, .int .i64 10, .int .i64 12] w fun e w' => e = .returned (.bool true) ∧ Below w.heap.size w w' := by
  have H : Hid (Scr w P N C its) := h
  have HLN : Hid (its.length = N) := h.len
  have cap := h.cap; have big := h.big
  unfold maxLen at big
  clear h
  go_enter Tryd.func8, Tryd.ntmps8
  go_wp2_with fail
  go_loopg [11] N (fun gk iv wr => ∃ k : Nat, k + gk = N ∧ iv = .int .i64 k ∧ Below w.heap.size w wr)
  case atStart => exact ⟨0, by omega, rfl, Below.refl _ _⟩
  case round =>
    obtain ⟨k, hkg, rfl, hbw⟩ := hrel
    cases gk with
    | zero =>
      obtain rfl : k = N := by omega
      have hnk : ¬ (k : Int) < (k : Int) := by omega
      go_wp2_with fail
      go_ret
      exact ⟨rfl, hbw⟩
    | succ gg =>
      have hki : k < its.length := by rw [HLN.out]; omega
      have HR := H.out.below hbw
      obtain ⟨g, off, rfl, hc⟩ := HR.cells.resolve_left (by omega)
      obtain ⟨e0, e1, e2, e3, e4⟩ := hc k hki
      obtain ⟨hA, hB, hna, hnb, hwd, hn1, hn2⟩ := HR.ats its[k] (List.getElem_mem hki)
      have HA : Hid (At wr its[k].pa its[k].na its[k].ca its[k].xa) := hA
      have HB : Hid (At wr its[k].pb its[k].nb its[k].cb its[k].xb) := hB
      have hkk : (k : Int) < (N : Int) := by omega
      have hlt : g < wr.heap.size := World.block_lt_of_cell? wr _ e0
      clear hc HR hA hB hn1 hwd
      generalize its[k].k = kd at *
      generalize its[k].pa = pa at *
      generalize its[k].na = na at *
      generalize its[k].ca = ca at *
      generalize its[k].xa = xa at *
      generalize its[k].pb = pb at *
      generalize its[k].nb = nb at *
      generalize its[k].cb = cb at *
      generalize its[k].xb = xb at *
      generalize its[k].nn = nn at *
      generalize its[k].wd = wd at *
      by_cases h10 : kd = 10
      · subst h10
        go_wp2_with fail
        refine (plays_10 (HA.out.alloc _) (HB.out.alloc _) hna hnb nn hn2 wd).mono ?_
        rintro e wz ⟨rfl, hbz⟩
        have hbw2 := Below.on hbw (Below.on (below1 wr _) hbz)
        clear hbw hbz HA HB e0 e1 e2 e3 e4
        go_wp2_with fail
        go_roundg gg
        case measure => omega
        case rel => exact ⟨k + 1, by omega, by go_num, hbw2⟩
      · by_cases h11 : kd = 11
        · subst h11
          go_wp2_with fail
          refine (plays_11 (HA.out.alloc _) (HB.out.alloc _) hna hnb nn hn2 wd).mono ?_
          rintro e wz ⟨rfl, hbz⟩
          have hbw2 := Below.on hbw (Below.on (below1 wr _) hbz)
          clear hbw hbz HA HB e0 e1 e2 e3 e4
          go_wp2_with fail
          go_roundg gg
          case measure => omega
          case rel => exact ⟨k + 1, by omega, by go_num, hbw2⟩
        · by_cases h12 : kd = 12
          · subst h12
            go_wp2_with fail
            refine (plays_12 (HA.out.alloc _) (HB.out.alloc _) hna hnb nn hn2 wd).mono ?_
            rintro e wz ⟨rfl, hbz⟩
            have hbw2 := Below.on hbw (Below.on (below1 wr _) hbz)
            clear hbw hbz HA HB e0 e1 e2 e3 e4
            go_wp2_with fail
            go_roundg gg
            case measure => omega
            case rel => exact ⟨k + 1, by omega, by go_num, hbw2⟩
          · have hbw2 := Below.on hbw (below1 wr (.cells #[.int .i64 kd, .slice pa na ca, .slice pb nb cb, .int .i64 nn, U wd] 40))
            clear HA HB
            by_cases h5 : kd < 10
            · have h4 : decide (10 ≤ kd) = false := decide_eq_false (by omega)
              go_wp2_with fail
              go_roundg gg
              case measure => omega
              case rel => exact ⟨k + 1, by omega, by go_num, hbw2⟩
            · have h4 : decide (10 ≤ kd) = true := decide_eq_true (by omega)
              have h6 : decide (kd ≤ 12) = false := decide_eq_false (by omega)
              go_wp2_with fail
              go_roundg gg
              case measure => omega
              case rel => exact ⟨k + 1, by omega, by go_num, hbw2⟩

theorem nf_twoq {x y : Nat} (h : x < B64) (k : y < B64) (h0 : y ≠ 0) : Nf B64 [x, y] (x + B64 * y) := ⟨dig2 h k, by intro z hz; simp at hz; omega, by simp [valB]⟩
theorem known_shl : ShIs shlR [1] 65 [0, 2] 0 := by
  have n1 : Nf B64 [0, 2] (shlR (valB B64 [1]) (65 : Int).toNat) := by
    have := nf_twoq (x := 0) (y := 2) (by decide) (by decide) (by decide)
    rw [show shlR (valB B64 [1]) (65 : Int).toNat = 0 + B64 * 2 from by decide +kernel]; exact this
  exact .inr (.inr ⟨by omega, by decide, .inl ⟨n1.lim.1 (by simp), n1, rfl⟩⟩)
theorem known_shr : ShIs shrR [0, 6] 65 [3] 0 := by
  have n1 : Nf B64 [3] (shrR (valB B64 [0, 6]) (65 : Int).toNat) := by
    have := nf_one (x := 3) (by decide) (by decide)
    rw [show shrR (valB B64 [0, 6]) (65 : Int).toNat = 3 from by decide +kernel]; exact this
  exact .inr (.inr ⟨by omega, by decide, .inl ⟨n1.lim.1 (by simp), n1, rfl⟩⟩)
theorem known_low : ShIs lowR [13] 3 [5] 0 := by
  have n1 : Nf B64 [5] (lowR (valB B64 [13]) (3 : Int).toNat) := by
    have := nf_one (x := 5) (by decide) (by decide)
    rw [show lowR (valB B64 [13]) (3 : Int).toNat = 5 from by decide +kernel]; exact this
  exact .inr (.inr ⟨by omega, by decide, .inl ⟨n1.lim.1 (by simp), n1, rfl⟩⟩)

set_option maxRecDepth 20000 in
set_option maxHeartbeats 4000000 in
theorem natShifts_walk {P : Option Addr} {N C : Nat} {its : List Op5} {w : World} (h : Scr w P N C its) :
    Calls Tryd.prog 3 #[.slice P N C] w fun e w' => e = .returned (.bool true) ∧ Below w.heap.size w w' := by
  have H : Hid (Scr w P N C its) := h
  clear h
  go_enter Tryd.func3, Tryd.ntmps3
  go_wp2_with fail
  refine (shlP (lit_at w _ [1] 1 rfl rfl (dig1 (by decide)) (by omega)) 65 (by omega)).mono ?_
  rintro e w1 ⟨p1, m1, N1, u1, f1, rfl, hA1, hD1, hb1⟩
  obtain ⟨eu, ef⟩ := known_shl.inj hD1
  subst eu ef
  have A1 : Hid (At w1 p1 m1 N1 [0, 2]) := hA1
  have hbw1 := Below.on (below1 w _) hb1
  have H1 : Hid (Scr w1 P N C its) := H.out.below hbw1
  clear hA1 hD1 hb1 H
  go_wp2_with fail
  refine (shrP (lit_at w1 _ [0, 6] 2 rfl rfl (dig2 (by decide) (by decide)) (by omega)) 65 (by omega)).mono ?_
  rintro e w2 ⟨p2, m2, N2, u2, f2, rfl, hA2, hD2, hb2⟩
  obtain ⟨eu, ef⟩ := known_shr.inj hD2
  subst eu ef
  have hbx2 := Below.on (below1 w1 _) hb2
  have A2 : Hid (At w2 p2 m2 N2 [3]) := hA2
  have A12 : Hid (At w2 p1 m1 N1 [0, 2]) := A1.out.below hbx2
  have hbw2 := Below.on hbw1 hbx2
  have H2 : Hid (Scr w2 P N C its) := H1.out.below hbx2
  clear hA2 hD2 hb2 hbx2 hbw1 H1 A1
  go_wp2_with fail
  refine (lowP (lit_at w2 _ [13] 1 rfl rfl (dig1 (by decide)) (by omega)) 3 (by omega)).mono ?_
  rintro e w3 ⟨p3, m3, N3, u3, f3, rfl, hA3, hD3, hb3⟩
  obtain ⟨eu, ef⟩ := known_low.inj hD3
  subst eu ef
  have hbx3 := Below.on (below1 w2 _) hb3
  have A3 : Hid (At w3 p3 m3 N3 [5]) := hA3
  have A13 : Hid (At w3 p1 m1 N1 [0, 2]) := A12.out.below hbx3
  have A23 : Hid (At w3 p2 m2 N2 [3]) := A2.out.below hbx3
  have hbw3 := Below.on hbw2 hbx3
  have H3 : Hid (Scr w3 P N C its) := H2.out.below hbx3
  clear hA3 hD3 hb3 hbx3 hbw2 H2 A12 A2
  go_wp2_with fail
  refine (told1 0 (.inl rfl) (A13.out.alloc _) (lit_at w3 _ [0, 2] 2 rfl rfl (dig2 (by decide) (by decide)) (by omega))).mono ?_
  rintro e w4 ⟨rfl, hb4⟩
  have hbx4 := Below.on (below1 w3 _) hb4
  have A24 : Hid (At w4 p2 m2 N2 [3]) := A23.out.below hbx4
  have A34 : Hid (At w4 p3 m3 N3 [5]) := A3.out.below hbx4
  have hbw4 := Below.on hbw3 hbx4
  have H4 : Hid (Scr w4 P N C its) := H3.out.below hbx4
  clear hb4 hbx4 hbw3 H3 A13 A23 A3
  go_wp2_with fail
  refine (told1 0 (.inl rfl) (A24.out.alloc _) (lit_at w4 _ [3] 1 rfl rfl (dig1 (by decide)) (by omega))).mono ?_
  rintro e w5 ⟨rfl, hb5⟩
  have hbx5 := Below.on (below1 w4 _) hb5
  have A35 : Hid (At w5 p3 m3 N3 [5]) := A34.out.below hbx5
  have hbw5 := Below.on hbw4 hbx5
  have H5 : Hid (Scr w5 P N C its) := H4.out.below hbx5
  clear hb5 hbx5 hbw4 H4 A24 A34
  go_wp2_with fail
  refine (told1 0 (.inl rfl) (A35.out.alloc _) (lit_at w5 _ [5] 1 rfl rfl (dig1 (by decide)) (by omega))).mono ?_
  rintro e w6 ⟨rfl, hb6⟩
  have hbx6 := Below.on (below1 w5 _) hb6
  have hbw6 := Below.on hbw5 hbx6
  have H6 : Hid (Scr w6 P N C its) := H5.out.below hbx6
  clear hb6 hbx6 hbw5 H5 A35
  go_wp2_with fail
  refine (allSh H6.out).mono ?_
  rintro e w7 ⟨rfl, hb7⟩
  have hbw := Below.on hbw6 hb7
  clear hb7 hbw6
  go_wp2_with fail
  go_ret
  exact ⟨rfl, hbw⟩

end Go.Proofs.YtclhfdedjjghhaaDoor
