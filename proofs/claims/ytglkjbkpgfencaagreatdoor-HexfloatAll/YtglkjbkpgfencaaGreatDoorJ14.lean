import Derived.Test.YtglkjbkpgfencaaGreatDoorJ13
import Derived.Test.YtglkjbkpgfencaaGreatDoorJ11
import Derived.WalkSmall
import Derived.Recover
import Derived.Test.YtglkjbkpgfencaaGreatDoorJ12
import Derived.Lib.ItoaMem
import Derived.Laws.IdiomStrings
import Derived.Shelf.Strings.Repeat
import Derived.Shelf.Strings.Trim
import Derived.Shelf.Strings.Builder1
import Derived.Shelf.Strconv.Itoa3
import Derived.Test.YtglkjbkpgfencaaGreatDoorSmall
namespace Go.Proofs.YtglkjbkpgfencaaGreatDoor
open Go.RowKit Go.Shelf
set_option maxRecDepth 20000
set_option maxHeartbeats 0
def neN (a d : Nat) : Nat := a / d + (neUp a d).toNat
theorem neN_mul (a d c : Nat) (hc : 0 < c) : neN (a * c) (d * c) = neN a d := by
  have h1 : a * c / (d * c) = a / d := Nat.mul_div_mul_right _ _ hc
  have h2 : a * c % (d * c) = a % d * c := Nat.mul_mod_mul_right _ _ _
  have h3 : decide (d * c < 2 * (a % d * c)) = decide (d < 2 * (a % d)) := by
    rw [← Nat.mul_assoc]
    exact decide_eq_decide.2 (Nat.mul_lt_mul_right hc)
  have h4 : decide (2 * (a % d * c) = d * c) = decide (2 * (a % d) = d) := by
    rw [← Nat.mul_assoc]
    exact decide_eq_decide.2 (Nat.mul_right_cancel_iff hc)
  unfold neN neUp
  rw [h1, h2, h3, h4]
theorem neN_ex (a d : Nat) (hd : 0 < d) : neN (a * d) d = a := by
  unfold neN neUp
  rw [Nat.mul_div_cancel _ hd, Nat.mul_mod_left]
  have h1 : decide (d < 2 * 0) = false := decide_eq_false (by omega)
  have h2 : decide (2 * 0 = d) = false := decide_eq_false (by omega)
  rw [h1, h2]
  rfl
def hv (H z : Nat) : Nat := 2 * vs H z + 2 ^ (z / H - 1)
theorem hv_gt (H z : Nat) : 2 * vs H z < hv H z := by
  unfold hv
  have : 0 < 2 ^ (z / H - 1) := Nat.pow_pos (by omega)
  omega
theorem hv_lt {H : Nat} (hH : 0 < H) (z : Nat) : hv H z < 2 * vs H (z + 1) := by
  have : 0 < 2 ^ (z / H - 1) := Nat.pow_pos (by omega)
  rw [vs_next hH]
  unfold hv
  omega
theorem vs_le {H : Nat} (hH : 0 < H) {s t : Nat} (h : s ≤ t) : vs H s ≤ vs H t := by
  rcases Nat.lt_or_eq_of_le h with h1 | h1
  · exact Nat.le_of_lt (vs_mono hH h1)
  · rw [h1]; exact Nat.le_refl _
theorem hv_mono {H : Nat} (hH : 0 < H) {s t : Nat} (h : s < t) : hv H s < hv H t := by
  have h1 := hv_lt hH s
  have h2 := vs_le hH (show s + 1 ≤ t from h)
  have h3 := hv_gt H t
  omega
structure RNz (H : Nat) (l : Int) (I : Nat) (A : Int) (Z : Nat) : Prop where
  le : Z ≤ I
  lo : ∀ z, z < I → A < dv (hv H z : Int) (l - 1) → Z ≤ z
  hi : ∀ z, z < I → dv (hv H z : Int) (l - 1) < A → z < Z
  eq : ∀ z, z < I → A = dv (hv H z : Int) (l - 1) → (Z = z ∨ Z = z + 1) ∧ Z % 2 = 0
theorem RNz.mono {H : Nat} {l : Int} {I : Nat} {A B : Int} {Z Y : Nat} (h : RNz H l I A Z) (k : RNz H l I B Y) (hAB : A ≤ B) : Z ≤ Y := by
  refine Nat.le_of_not_lt fun hlt => ?_
  have hY : Y < I := Nat.lt_of_lt_of_le hlt h.le
  have hz : ∀ x : Int, x = dv (hv H Y : Int) (l - 1) → False := fun x hx => by
    rcases Int.lt_trichotomy B x with h1 | h1 | h1
    · have := h.lo Y hY (by omega); omega
    · have h2 := k.eq Y hY (by omega)
      rcases Int.lt_or_eq_of_le hAB with h3 | h3
      · have := h.lo Y hY (by omega); omega
      · have h4 := h.eq Y hY (by omega)
        omega
    · have := k.hi Y hY (by omega); omega
  exact hz _ rfl
theorem RNz.uniq {H : Nat} {l : Int} {I : Nat} {A : Int} {Z Y : Nat} (h : RNz H l I A Z) (k : RNz H l I A Y) : Z = Y :=
  Nat.le_antisymm (h.mono k (Int.le_refl _)) (k.mono h (Int.le_refl _))
def rnz (l : Int) (sd : Nat) (Be : Int) (I m : Nat) (e : Int) : Nat :=
  if Be ≤ e + bitsN m - 1 then I
  else ((max (e + bitsN m - 1 - sd) l - l).toNat) * 2 ^ sd +
    (if e < max (e + bitsN m - 1 - sd) l then neN m (2 ^ (max (e + bitsN m - 1 - sd) l - e).toNat) else m * 2 ^ (e - max (e + bitsN m - 1 - sd) l).toNat)
theorem dv_lt_iff {x y : Int} (e : Int) : dv x e < dv y e ↔ x < y := by
  refine ⟨fun h => ?_, dv_lt e⟩
  rcases Int.lt_or_le x y with h1 | h1
  · exact h1
  · have := dv_le e h1; omega
theorem nat_pow_split {a b c : Nat} (h : a + b = c) : 2 ^ a * 2 ^ b = 2 ^ c := by rw [← Nat.pow_add, h]
theorem rnz_ok {l : Int} {sd : Nat} {Be : Int} {I m : Nat} {e : Int} (hI : (I : Int) = (Be - l - sd + 1) * ((2 ^ sd : Nat) : Int)) (hsd : 1 ≤ sd) (hBe : 0 < Be - l - sd) (hl : -4194303 ≤ l) (hm : m ≠ 0) (he : -4194304 ≤ e) :
    RNz (2 ^ sd) l I (dv m e) (rnz l sd Be I m e) := by
  obtain ⟨H, hH⟩ : ∃ H, H = 2 ^ sd := ⟨_, rfl⟩
  have hHp : 0 < H := by rw [hH]; exact Nat.pow_pos (by omega)
  have hH2 : H % 2 = 0 := by
    obtain ⟨k, rfl⟩ : ∃ k, sd = k + 1 := ⟨sd - 1, by omega⟩
    rw [hH, Nat.pow_succ]; omega
  obtain ⟨t, ht⟩ : ∃ t : Int, t = min e (l - 1) := ⟨_, rfl⟩
  have hB1 := bitsN_lt m
  have hB2 := bitsN_le m hm
  have hB0 : 1 ≤ bitsN m := by unfold bitsN; rw [if_neg hm]; omega
  obtain ⟨L, hL⟩ : ∃ L, L = bitsN m := ⟨_, rfl⟩
  obtain ⟨A, hA⟩ : ∃ A, A = m * 2 ^ (e - t).toNat := ⟨_, rfl⟩
  obtain ⟨K, hK⟩ : ∃ K, K = 2 ^ (l - 1 - t).toNat := ⟨_, rfl⟩
  have hKp : 0 < K := by rw [hK]; exact Nat.pow_pos (by omega)
  have eA : dv m e = dv (A : Int) t := by
    have := dv_shift (z := (m : Int)) (e := e) (f := t) (by omega) (by omega)
    rw [this, hA, Int.natCast_mul]
  have eM : ∀ z : Nat, dv (hv H z : Int) (l - 1) = dv ((hv H z * K : Nat) : Int) t := fun z => by
    have := dv_shift (z := (hv H z : Int)) (e := l - 1) (f := t) (by omega) (by omega)
    rw [this, hK, Int.natCast_mul]
  have key : ∀ Z : Nat, Z ≤ I → (∀ z, z < I → (A < hv H z * K → Z ≤ z) ∧ (hv H z * K < A → z < Z) ∧ (A = hv H z * K → (Z = z ∨ Z = z + 1) ∧ Z % 2 = 0)) → RNz H l I (dv m e) Z := fun Z h1 h2 =>
    ⟨h1, fun z hz h => (h2 z hz).1 (by rw [eA, eM, dv_lt_iff] at h; omega), fun z hz h => (h2 z hz).2.1 (by rw [eA, eM, dv_lt_iff] at h; omega), fun z hz h => (h2 z hz).2.2 (by
      rw [eA, eM] at h
      rcases Nat.lt_trichotomy A (hv H z * K) with h3 | h3 | h3
      · have := dv_lt t (Int.ofNat_lt.2 h3); omega
      · exact h3
      · have := dv_lt t (Int.ofNat_lt.2 h3); omega)⟩
  obtain ⟨N, hN⟩ : ∃ N : Nat, (N : Int) = Be - l - sd := ⟨(Be - l - sd).toNat, by omega⟩
  have hIN : I = (N + 1) * H := by
    rw [← hN, ← hH] at hI
    exact Int.ofNat.inj (by rw [Int.ofNat_eq_natCast, hI, Int.ofNat_eq_natCast, Int.natCast_mul]; rfl)
  rw [← hH]
  unfold rnz
  rw [← hL, ← hH]
  rw [← hL] at hB1 hB2 hB0
  by_cases htop : Be ≤ e + L - 1
  · rw [if_pos htop]
    refine key I (Nat.le_refl _) fun z hz => ?_
    have h1 : hv H z * K < A := by
      have h2 := hv_lt hHp z
      have h3 := vs_le hHp (show z + 1 ≤ I from hz)
      have h4 : vs H I = H * 2 ^ N := by
        unfold vs
        rw [hIN, Nat.mul_div_cancel _ hHp, Nat.add_sub_cancel, Nat.add_mul, Nat.one_mul, Nat.add_sub_cancel_left]
      have h5 : hv H z < 2 * (H * 2 ^ N) := by omega
      have h6 : hv H z * K < 2 * (H * 2 ^ N) * K := Nat.mul_lt_mul_of_pos_right h5 hKp
      have h7 : 2 * (H * 2 ^ N) * K = 2 ^ (Be - t).toNat := by
        rw [hH, hK, nat_pow_split (rfl : sd + N = sd + N), ← Nat.pow_succ', nat_pow_split rfl]
        congr 1
        omega
      have h8 : 2 ^ (Be - t).toNat ≤ A := by
        rw [hA]
        have h9 : 2 ^ (L - 1) * 2 ^ (e - t).toNat ≤ m * 2 ^ (e - t).toNat := Nat.mul_le_mul_right _ hB2
        rw [nat_pow_split rfl] at h9
        exact Nat.le_trans (Nat.pow_le_pow_right (by omega) (by omega)) h9
      omega
    exact ⟨fun h => by omega, fun _ => hz, fun h => by omega⟩
  · rw [if_neg htop]
    obtain ⟨u, hu⟩ : ∃ u : Int, u = max (e + L - 1 - sd) l := ⟨_, rfl⟩
    rw [← hu]
    obtain ⟨q, hq⟩ : ∃ q, q = (u - l).toNat := ⟨_, rfl⟩
    rw [← hq]
    obtain ⟨D, hD⟩ : ∃ D, D = 2 ^ (u - t).toNat := ⟨_, rfl⟩
    have hDp : 0 < D := by rw [hD]; exact Nat.pow_pos (by omega)
    have hDK : D = 2 * (2 ^ q * K) := by
      rw [hD, hK, nat_pow_split rfl, ← Nat.pow_succ']
      congr 1
      omega
    have hz0 : (if e < u then neN m (2 ^ (u - e).toNat) else m * 2 ^ (e - u).toNat) = neN A D := by
      by_cases heu : e < u
      · rw [if_pos heu, hA, hD, ← neN_mul m (2 ^ (u - e).toNat) (2 ^ (e - t).toNat) (Nat.pow_pos (by omega)), nat_pow_split (a := (u - e).toNat) rfl]
        congr 2
        omega
      · rw [if_neg heu, ← neN_ex (m * 2 ^ (e - u).toNat) D hDp, hA, hD, Nat.mul_assoc, nat_pow_split (a := (e - u).toNat) rfl]
        congr 3
        omega
    rw [hz0]
    obtain ⟨y, hy⟩ : ∃ y, y = A / D := ⟨_, rfl⟩
    obtain ⟨r, hr⟩ : ∃ r, r = A % D := ⟨_, rfl⟩
    have hAyr : D * y + r = A := by rw [hy, hr]; exact Nat.div_add_mod A D
    have hrD : r < D := by rw [hr]; exact Nat.mod_lt _ hDp
    have hAlt : A < 2 * H * D := by
      have h1 : A < 2 ^ L * 2 ^ (e - t).toNat := by rw [hA]; exact Nat.mul_lt_mul_of_pos_right hB1 (Nat.pow_pos (by omega))
      rw [nat_pow_split rfl] at h1
      refine Nat.lt_of_lt_of_le h1 ?_
      rw [hH, hD, ← Nat.pow_succ', nat_pow_split rfl]
      exact Nat.pow_le_pow_right (by omega) (by omega)
    have hy2 : y < 2 * H := by rw [hy]; exact Nat.div_lt_of_lt_mul (by rw [Nat.mul_comm]; exact hAlt)
    have hyH : q ≠ 0 → H ≤ y := by
      intro hq0
      rw [hy]
      refine (Nat.le_div_iff_mul_le hDp).2 ?_
      have h9 : 2 ^ (L - 1) * 2 ^ (e - t).toNat ≤ A := by rw [hA]; exact Nat.mul_le_mul_right _ hB2
      rw [nat_pow_split rfl] at h9
      refine Nat.le_trans ?_ h9
      rw [hH, hD, nat_pow_split rfl]
      exact Nat.pow_le_pow_right (by omega) (by omega)
    obtain ⟨zf, hzf⟩ : ∃ zf, zf = q * H + y := ⟨_, rfl⟩
    have hzq : zf / H - 1 = q := by
      have h1 : zf / H = q + y / H := by rw [hzf, Nat.mul_comm, Nat.mul_add_div hHp]
      rw [h1]
      have h3 : y / H < 2 := Nat.div_lt_of_lt_mul (by omega)
      by_cases hq0 : q = 0
      · omega
      · have h2 : 1 ≤ y / H := (Nat.le_div_iff_mul_le hHp).2 (by have := hyH hq0; omega)
        omega
    have hvz : vs H zf = y * 2 ^ q := by unfold vs; rw [hzq, hzf, Nat.add_sub_cancel_left]
    have hvn : vs H (zf + 1) = (y + 1) * 2 ^ q := by rw [vs_next hHp, hvz, hzq, Nat.add_mul, Nat.one_mul]
    have hqN : q < N := by omega
    have hzI : zf < I := by
      have h1 : (q + 2) * H ≤ (N + 1) * H := Nat.mul_le_mul_right _ (by omega)
      rw [Nat.add_mul] at h1
      omega
    have hDy : 2 * (y * 2 ^ q) * K = D * y := by
      rw [hDK, Nat.mul_comm y, Nat.mul_assoc, Nat.mul_assoc, Nat.mul_assoc, Nat.mul_assoc, Nat.mul_comm y K]
    have hDy1 : 2 * ((y + 1) * 2 ^ q) * K = D * y + D := by
      rw [hDK, Nat.mul_comm (y + 1), Nat.mul_assoc, Nat.mul_assoc, Nat.mul_comm (y + 1) K, ← Nat.mul_succ, Nat.mul_assoc, Nat.mul_assoc]
    have hmid : 2 * (hv H zf * K) = 2 * (D * y) + D := by
      have h1 : hv H zf = 2 * (y * 2 ^ q) + 2 ^ q := by unfold hv; rw [hvz, hzq]
      rw [h1, Nat.add_mul, hDy, Nat.mul_add, ← hDK]
    have hne : neN A D = y + (decide (D < 2 * r) || (decide (2 * r = D) && decide (y % 2 = 1))).toNat := by
      unfold neN neUp
      rw [← hy, ← hr]
    rw [hne]
    obtain ⟨b, hb⟩ : ∃ b, b = (decide (D < 2 * r) || (decide (2 * r = D) && decide (y % 2 = 1))).toNat := ⟨_, rfl⟩
    rw [← hb]
    have hb1 : b ≤ 1 := by rw [hb]; exact Bool.toNat_le _
    have hbl : 2 * r < D → b = 0 := fun h => by
      rw [hb, decide_eq_false (show ¬ D < 2 * r by omega), decide_eq_false (show ¬ 2 * r = D by omega)]; rfl
    have hbg : D < 2 * r → b = 1 := fun h => by rw [hb, decide_eq_true h]; rfl
    have hbe : 2 * r = D → b = y % 2 := fun h => by
      rw [hb, decide_eq_false (show ¬ D < 2 * r by omega), decide_eq_true h]
      rcases Nat.mod_two_eq_zero_or_one y with h1 | h1 <;> rw [h1] <;> rfl
    have hpar : (q * H + (y + b)) % 2 = (y + b) % 2 := by
      have : q * H % 2 = 0 := by rw [Nat.mul_mod, hH2]; simp
      omega
    refine key _ (by omega) fun z hz => ?_
    rcases Nat.lt_trichotomy z zf with h1 | h1 | h1
    · have h2 := hv_lt hHp z
      have h3 := vs_le hHp (show z + 1 ≤ zf from h1)
      have h4 : hv H z < 2 * (y * 2 ^ q) := by rw [← hvz]; omega
      have h5 : hv H z * K < 2 * (y * 2 ^ q) * K := Nat.mul_lt_mul_of_pos_right h4 hKp
      exact ⟨fun h => by omega, fun _ => by omega, fun h => by omega⟩
    · subst h1
      exact ⟨fun h => by have := hbl (by omega); omega, fun h => by have := hbg (by omega); omega, fun h => by have := hbe (by omega); omega⟩
    · have h2 := hv_gt H z
      have h3 := vs_le hHp (show zf + 1 ≤ z from h1)
      have h4 : 2 * ((y + 1) * 2 ^ q) < hv H z := by rw [← hvn]; omega
      have h5 : 2 * ((y + 1) * 2 ^ q) * K < hv H z * K := Nat.mul_lt_mul_of_pos_right h4 hKp
      exact ⟨fun _ => by omega, fun h => by omega, fun h => by omega⟩
theorem RNz.exact {H : Nat} {l : Int} {I Z : Nat} (hH : 0 < H) (hl : -4194303 ≤ l) (hZ : Z ≤ I) : RNz H l I (dv (vs H Z) l) Z := by
  have e1 : dv (vs H Z : Int) l = dv ((2 * vs H Z : Nat) : Int) (l - 1) := by
    have := dv_up (x := (vs H Z : Int)) (e := l - 1) 1 (by omega)
    rw [show l - 1 + ((1 : Nat) : Int) = l from by omega] at this
    rw [this, Nat.mul_comm, Int.natCast_mul]
  have low : ∀ z, z < Z → dv (hv H z : Int) (l - 1) < dv (vs H Z) l := fun z hz => by
    rw [e1]
    have h1 := hv_lt hH z
    have h2 := vs_le hH (show z + 1 ≤ Z from hz)
    exact dv_lt _ (by omega)
  have high : ∀ z, Z ≤ z → dv (vs H Z) l < dv (hv H z : Int) (l - 1) := fun z hz => by
    rw [e1]
    have h1 := hv_gt H z
    have h2 := vs_le hH hz
    exact dv_lt _ (by omega)
  refine ⟨hZ, fun z _ h => ?_, fun z _ h => ?_, fun z _ h => ?_⟩
  · refine Nat.le_of_not_lt fun h2 => ?_
    have := low z h2; omega
  · refine Nat.lt_of_not_le fun h2 => ?_
    have := high z h2; omega
  · rcases Nat.lt_or_ge z Z with h2 | h2
    · have := low z h2; omega
    · have := high z h2; omega
structure Jn (f p m l : Int) (S I H sd : Nat) (Be : Int) : Prop where
  jm : Jm f p m l S I H sd Be
  hI : (I : Int) = (Be - l - sd + 1) * ((2 ^ sd : Nat) : Int)
  hB : 0 < Be - l - sd
  hS : S % 2 = 0
  hB9 : Be - l - sd ≤ 2046
  cl : ∀ (b : Nat) w, b < 2 * S → Calls Tryz.prog 14 #[.int .i64 f, U b] w fun en w' => en = .returned (.tuple #[.int .i64 (clsN H I (b % S)), .int .i64 0]) ∧ Below w.heap.size w w'
theorem jn_32 : Jn 32 32 24 (-149) 2147483648 2139095040 8388608 23 128 := ⟨jm_32, by decide, by decide, by decide, by decide, fun b w hb => clsof_32 b hb w⟩
theorem jn_64 : Jn 64 64 53 (-1074) 9223372036854775808 9218868437227405312 4503599627370496 52 1024 := ⟨jm_64, by decide, by decide, by decide, by decide, fun b w hb => clsof_64 b hb w⟩
def rnp (l : Int) (sd : Nat) (Be : Int) (S I : Nat) (x e : Int) : Nat :=
  if x = 0 then 0 else if x < 0 then S + rnz l sd Be I x.natAbs e else rnz l sd Be I x.natAbs e
theorem RNz.nought {H : Nat} {l : Int} {I : Nat} (hH : 0 < H) (hl : -4194303 ≤ l) : RNz H l I 0 0 := by
  have := RNz.exact (H := H) (l := l) (I := I) (Z := 0) hH hl (Nat.zero_le _)
  rwa [vs_zero, show ((0 : Nat) : Int) = 0 from rfl, dv_zero] at this
theorem RNz.cell {H : Nat} {l : Int} {I : Nat} {A : Int} {Z : Nat} (h : RNz H l I A Z) (h0 : Z ≠ 0) (h1 : Z < I) :
    dv (hv H (Z - 1) : Int) (l - 1) ≤ A ∧ A ≤ dv (hv H Z : Int) (l - 1) ∧ (Z % 2 = 1 → dv (hv H (Z - 1) : Int) (l - 1) < A ∧ A < dv (hv H Z : Int) (l - 1)) := by
  have a1 : ¬ A < dv (hv H (Z - 1) : Int) (l - 1) := fun h2 => by have := h.lo _ (by omega) h2; omega
  have a2 : ¬ dv (hv H Z : Int) (l - 1) < A := fun h2 => by have := h.hi _ h1 h2; omega
  refine ⟨by omega, by omega, fun ho => ⟨?_, ?_⟩⟩
  · rcases Int.lt_or_eq_of_le (Int.not_lt.1 a1) with h2 | h2
    · exact h2
    · have := h.eq (Z - 1) (by omega) h2.symm; omega
  · rcases Int.lt_or_eq_of_le (Int.not_lt.1 a2) with h2 | h2
    · exact h2
    · have := h.eq Z h1 h2; omega
theorem RNz.none {H : Nat} {l : Int} {I : Nat} {A : Int} (h : RNz H l I A 0) (hI : 0 < I) : A ≤ dv (hv H 0 : Int) (l - 1) :=
  Int.not_lt.1 fun h2 => by have := h.hi 0 hI h2; omega
theorem RNz.all {H : Nat} {l : Int} {I : Nat} {A : Int} (h : RNz H l I A I) (hI : 0 < I) : dv (hv H (I - 1) : Int) (l - 1) ≤ A :=
  Int.not_lt.1 fun h2 => by have := h.lo (I - 1) (by omega) h2; omega
theorem rn_of {f p m l : Int} {S I H sd : Nat} {Be : Int} (J : Jn f p m l S I H sd Be) {n : Nat} {e : Int} (hn : n ≠ 0) (he : -4194304 ≤ e) : RNz H l I (dv n e) (rnz l sd Be I n e) := by
  have := rnz_ok J.hI J.jm.sl.1 J.hB (by have := J.jm.pm.lo; omega) hn he
  rwa [← J.jm.hs] at this
theorem rnp_is {f p m l : Int} {S I H sd : Nat} {Be : Int} (J : Jn f p m l S I H sd Be) (x e : Int) (he : -4194304 ≤ e) :
    ∃ Z, Z ≤ I ∧ RNz H l I (dv x.natAbs e) Z ∧ rnp l sd Be S I x e = (if x < 0 then S + Z else Z) ∧ rnp l sd Be S I x e < 2 * S ∧ rnp l sd Be S I x e % S = Z ∧ decide (S ≤ rnp l sd Be S I x e) = decide (x < 0) ∧ rnp l sd Be S I x e % 2 = Z % 2 := by
  have hlt := J.jm.pm.fm.lt
  have hS := J.hS
  by_cases h0 : x = 0
  · refine ⟨0, by omega, ?_, ?_⟩
    · rw [h0]
      have : dv ((0 : Int).natAbs : Int) e = 0 := dv_zero e
      rw [this]
      exact RNz.nought J.jm.pm.hp (by have := J.jm.pm.lo; omega)
    · unfold rnp
      rw [if_pos h0, if_neg (by omega)]
      exact ⟨rfl, by omega, Nat.zero_mod _, by rw [decide_eq_false (by omega), decide_eq_false (by omega)], rfl⟩
  · have hR := rn_of J (n := x.natAbs) (e := e) (by omega) he
    obtain ⟨Z, hZ⟩ : ∃ Z, Z = rnz l sd Be I x.natAbs e := ⟨_, rfl⟩
    rw [← hZ] at hR
    refine ⟨Z, hR.le, hR, ?_⟩
    unfold rnp
    rw [if_neg h0, ← hZ]
    have hle := hR.le
    by_cases hx : x < 0
    · rw [if_pos hx]
      refine ⟨rfl, by omega, ?_, ?_, by omega⟩
      · rw [Nat.add_mod_left, Nat.mod_eq_of_lt (by omega)]
      · rw [decide_eq_true hx, decide_eq_true (by omega)]
    · rw [if_neg hx]
      refine ⟨rfl, by omega, Nat.mod_eq_of_lt (by omega), ?_, rfl⟩
      rw [decide_eq_false hx, decide_eq_false (by omega)]
theorem Own.word {B : Nat} {w : World} {p : Option Addr} {m y : Nat} {zs : List Nat} (ho : Own B w p m zs) (hn : Nf B64 zs y) (hy : y < B64) :
    (y = 0 ∧ m = 0) ∨ (y ≠ 0 ∧ m = 1 ∧ ∃ g, p = some ⟨g, 0, none⟩ ∧ B ≤ g ∧ w.cell? ⟨g, 0, none⟩ = some (U y)) := by
  have hl := ho.len
  have h1 : zs.length ≤ 1 := (hn.len_le B64_one (k := 1)).2 (by rw [Nat.pow_one]; exact hy)
  rcases Nat.eq_zero_or_pos m with h0 | h0
  · left
    rw [h0] at hl
    have := hn.val
    rw [List.eq_nil_of_length_eq_zero hl] at this
    exact ⟨this.symm, h0⟩
  · right
    have hm1 : m = 1 := by omega
    subst hm1
    obtain ⟨a, rfl⟩ : ∃ a, zs = [a] := List.length_eq_one_iff.1 hl
    have hv : a = y := by have := hn.val; simpa [valB] using this
    obtain ⟨g, hp, hB, hc⟩ := ho.mem.resolve_left (by omega)
    refine ⟨?_, rfl, g, hp, hB, ?_⟩
    · intro h9
      have h8 : ([a] : List Nat) = [] := hn.inj B64_one (by rw [h9]; exact Nf.nil _)
      cases h8
    · have := hc.cell 0 (by omega)
      rw [Nat.add_zero] at this
      rw [this]
      simp [hv]
theorem multiple_n {p : Option Addr} {m c : Nat} {w : World} {x : Int} {s : Bool} (h : ZN w s p m c x) (k r : Nat) (n : Int) (hn : n = -(k : Int)) (hk : 0 < k ∧ k ≤ 4611686018427387904) (hr : r = neN x.natAbs (2 ^ k)) (hl : r < B64) (hT : Tab w) :
    Calls Tryz.prog 66 #[ZV s p m c, .int .i64 n] w fun en w' => en = .returned (U r) ∧ Below w.heap.size w w' := by
  have H : Hid (ZN w s p m c x) := h
  have HV : Hid (r < B64 ∧ r = neN x.natAbs (2 ^ k) ∧ k ≤ 9223372036854775807) := ⟨hl, hr, by omega⟩
  have TB : Hid (Tab w) := hT
  have d1 : decide (n < 0) = true := decide_eq_true (by omega)
  have d2 : wrap64 (-n) = (k : Int) := by rw [hn]; simp only [wrap64]; omega
  have d3 : IntKind.i64.wrap (-n) = (k : Int) := by rw [hn]; simp [IntKind.wrap, IntKind.signed, IntKind.bits]; omega
  clear h hr hl hT hn hk
  go_enter Tryz.func66, Tryz.ntmps66
  go_wp2_with fail
  obtain ⟨W0, hW0⟩ : ∃ W0, W0 = (w.alloc (.cells #[.bool s, .slice p m c] 63)) := ⟨_, rfl⟩
  have Xm : Hid (Box W0 (w.heap.size) (.bool s) (.slice p m c)) := by rw [hW0]; exact ⟨by go_simp, by go_simp, by go_simp, by go_simp⟩
  have hb0 : Below w.heap.size w W0 := by rw [hW0]; exact below1 w _
  rw [← hW0]
  clear hW0
  have hbw : Below w.heap.size w w := Below.refl _ _
  obtain ⟨gm, hgm⟩ : ∃ g, g = w.heap.size := ⟨_, rfl⟩
  have HGm : Hid (w.heap.size ≤ gm) := by rw [hgm]; show _ ≤ _; omega
  rw [← hgm] at Xm
  try rw [← hgm]
  clear hgm
  replace hbw := Below.on hbw hb0
  clear hb0
  have HL : Hid (gm < W0.heap.size) := Xm.out.lt
  obtain ⟨xs, hX⟩ := (H.out.below hbw).ex
  refine (rshr_any s hX H.out.pos k HV.out.2.2 (TB.out.below hbw)).mono ?_
  rintro e2 v1 ⟨v, rfl, hv, hb1⟩
  obtain ⟨p1, m1, z1, rfl, ho1, hn1, hm1⟩ := hv
  rw [show (ne s x.natAbs (2 ^ k)).natAbs = r from by rw [HV.out.2.1]; exact iv_natAbs _ _] at hn1
  generalize decide (ne s x.natAbs (2 ^ k) < 0) = s1
  clear hX
  replace Xm : Hid _ := Xm.out.below hb1
  replace hbw := Below.on hbw hb1
  clear hb1
  have HO : Hid (Own W0.heap.size v1 p1 m1 z1) := ho1
  have HN : Hid (Nf B64 z1 r ∧ m1 ≤ 8192) := ⟨hn1, hm1⟩
  clear ho1 hn1 hm1
  rcases HO.out.word HN.out.1 HV.out.1 with ⟨h0, h1⟩ | ⟨h0, h1, g1, h2, hg1, h3⟩
  · subst h1
    have hr0 : r = 0 := h0
    clear HV
    subst hr0
    obtain ⟨cm0, cm1, fm0, fm1⟩ := Xm.out
    have hnem := Xm.out.lt
    go_wp2_with fail
    go_ret
    exact ⟨rfl, bSet (bSet hbw _ _ _ HGm.out) _ _ _ HGm.out⟩
  · subst h1
    subst h2
    have hgm : gm ≠ g1 := by have := HL.out; omega
    have hgm2 : g1 ≠ gm := fun h => hgm h.symm
    have hg2 : g1 < v1.heap.size := World.block_lt_of_cell? v1 _ h3
    obtain ⟨cm0, cm1, fm0, fm1⟩ := Xm.out
    have hnem := Xm.out.lt
    go_wp2_with fail
    go_ret
    exact ⟨rfl, bSet (bSet hbw _ _ _ HGm.out) _ _ _ HGm.out⟩
theorem multiple_p {p : Option Addr} {m c : Nat} {w : World} {x : Int} {s : Bool} (h : ZN w s p m c x) (k r : Nat) (n : Int) (hn : n = (k : Int)) (hk : k ≤ 4611686018427387904) (hr : r = x.natAbs * 2 ^ k) (hl : r < B64) :
    Calls Tryz.prog 66 #[ZV s p m c, .int .i64 n] w fun en w' => en = .returned (U r) ∧ Below w.heap.size w w' := by
  have H : Hid (ZN w s p m c x) := h
  have HV : Hid (r < B64 ∧ r = x.natAbs * 2 ^ k ∧ k ≤ 9223372036854775807) := ⟨hl, hr, by omega⟩
  have d1 : decide (n < 0) = false := decide_eq_false (by omega)
  subst hn
  clear h hr hl hk
  go_enter Tryz.func66, Tryz.ntmps66
  go_wp2_with fail
  obtain ⟨W0, hW0⟩ : ∃ W0, W0 = (w.alloc (.cells #[.bool s, .slice p m c] 63)) := ⟨_, rfl⟩
  have Xm : Hid (Box W0 (w.heap.size) (.bool s) (.slice p m c)) := by rw [hW0]; exact ⟨by go_simp, by go_simp, by go_simp, by go_simp⟩
  have hb0 : Below w.heap.size w W0 := by rw [hW0]; exact below1 w _
  rw [← hW0]
  clear hW0
  have hbw : Below w.heap.size w w := Below.refl _ _
  obtain ⟨gm, hgm⟩ : ∃ g, g = w.heap.size := ⟨_, rfl⟩
  have HGm : Hid (w.heap.size ≤ gm) := by rw [hgm]; show _ ≤ _; omega
  rw [← hgm] at Xm
  try rw [← hgm]
  clear hgm
  replace hbw := Below.on hbw hb0
  clear hb0
  have HL : Hid (gm < W0.heap.size) := Xm.out.lt
  obtain ⟨xs, hX⟩ := (H.out.below hbw).ex
  refine (nshl_any s hX H.out.pos k HV.out.2.2).mono ?_
  rintro e2 v1 ⟨ha, hb1⟩
  obtain ⟨p1, m1, z1, rfl, ho1, hn1, hm1⟩ := ha.ok (lt_LIM (L := 64) (by rw [iv_natAbs, Nat.mul_comm, ← HV.out.2.1]; exact HV.out.1) (by decide))
  clear ha
  rw [show (iv s (2 ^ k * x.natAbs)).natAbs = r from by rw [iv_natAbs, HV.out.2.1, Nat.mul_comm]] at hn1
  generalize decide (iv s (2 ^ k * x.natAbs) < 0) = s1
  clear hX
  replace Xm : Hid _ := Xm.out.below hb1
  replace hbw := Below.on hbw hb1
  clear hb1
  have HO : Hid (Own W0.heap.size v1 p1 m1 z1) := ho1
  have HN : Hid (Nf B64 z1 r ∧ m1 ≤ 8192) := ⟨hn1, hm1⟩
  clear ho1 hn1 hm1
  rcases HO.out.word HN.out.1 HV.out.1 with ⟨h0, h1⟩ | ⟨h0, h1, g1, h2, hg1, h3⟩
  · subst h1
    have hr0 : r = 0 := h0
    clear HV
    subst hr0
    obtain ⟨cm0, cm1, fm0, fm1⟩ := Xm.out
    have hnem := Xm.out.lt
    go_wp2_with fail
    go_ret
    exact ⟨rfl, bSet (bSet hbw _ _ _ HGm.out) _ _ _ HGm.out⟩
  · subst h1
    subst h2
    have hgm : gm ≠ g1 := by have := HL.out; omega
    have hgm2 : g1 ≠ gm := fun h => hgm h.symm
    have hg2 : g1 < v1.heap.size := World.block_lt_of_cell? v1 _ h3
    obtain ⟨cm0, cm1, fm0, fm1⟩ := Xm.out
    have hnem := Xm.out.lt
    go_wp2_with fail
    go_ret
    exact ⟨rfl, bSet (bSet hbw _ _ _ HGm.out) _ _ _ HGm.out⟩
theorem nearest_z {f p m l : Int} {S I H sd : Nat} {Be : Int} (_J : Jn f p m l S I H sd Be) {q : Option Addr} {n c : Nat} {w : World} {x e : Int} {s : Bool} (h : ZN w s q n c x) (h0 : x = 0) :
    Calls Tryz.prog 34 #[WV p m l, ZV s q n c, .int .i64 e] w fun en w' => en = .returned (U (rnp l sd Be S I x e)) ∧ Below w.heap.size w w' := by
  have HZN : Hid (ZN w s q n c x) := h
  have h1 : rnp l sd Be S I x e = 0 := by unfold rnp; rw [if_pos h0]
  have HS : Hid (sgnI x = 0) := by rw [h0]; rfl
  rw [h1]
  clear _J h h0 h1
  go_enter Tryz.func34, Tryz.ntmps34
  go_wp2_with fail
  obtain ⟨W0, hW0⟩ : ∃ W0, W0 = ((w.alloc (.cells #[.int .i64 p, .int .i64 m, .int .i64 l] 46)).alloc (.cells #[.bool s, .slice q n c] 63)) := ⟨_, rfl⟩
  have Xg : Hid (B3q W0 (w.heap.size) (.int .i64 p) (.int .i64 m) (.int .i64 l)) := by rw [hW0]; exact ⟨by go_simp, by go_simp, by go_simp, by go_simp, by go_simp, by go_simp⟩
  have Xm : Hid (Box W0 (w.heap.size + 1) (.bool s) (.slice q n c)) := by rw [hW0]; exact ⟨by go_simp, by go_simp, by go_simp, by go_simp⟩
  have hb0 : Below w.heap.size w W0 := by rw [hW0]; exact below2 w _ _
  rw [← hW0]
  clear hW0
  have hbw : Below w.heap.size w w := Below.refl _ _
  obtain ⟨gm, hgm⟩ : ∃ g, g = w.heap.size + 1 := ⟨_, rfl⟩
  have HGm : Hid (w.heap.size ≤ gm) := by rw [hgm]; show _ ≤ _; omega
  rw [← hgm] at Xm
  try rw [← hgm]
  obtain ⟨gg, hgg⟩ : ∃ g, g = w.heap.size := ⟨_, rfl⟩
  have HGg : Hid (w.heap.size ≤ gg) := by rw [hgg]; show _ ≤ _; omega
  rw [← hgg] at Xg
  try rw [← hgg]
  have HGD : Hid (gg ≠ gm ∧ gm ≠ gg) := by rw [hgg, hgm]; exact ⟨by omega, by omega⟩
  clear hgg hgm
  replace hbw := Below.on hbw hb0
  clear hb0
  refine (zsign (HZN.out.below hbw)).mono ?_
  rintro e v1 ⟨rfl, hb1⟩
  rw [HS.out]
  replace Xg : Hid _ := Xg.out.below hb1
  replace Xm : Hid _ := Xm.out.below hb1
  replace hbw := Below.on hbw hb1
  clear hb1
  obtain ⟨cm0, cm1, fm0, fm1⟩ := Xm.out
  have hnem := Xm.out.lt
  go_wp2_with fail
  clear cm0 cm1 fm0 fm1 hnem
  go_ret
  exact ⟨rfl, hbw⟩
theorem nearest_b {f p m l : Int} {S I H sd : Nat} {Be : Int} (J : Jn f p m l S I H sd Be) {q : Option Addr} {n c : Nat} {w : World} {x e : Int} {s : Bool} (h : ZN w s q n c x) (he : -4194304 ≤ e ∧ e ≤ 4194304) (h0 : x ≠ 0) (ht : Be ≤ e + bitsN x.natAbs - 1) :
    Calls Tryz.prog 34 #[WV p m l, ZV s q n c, .int .i64 e] w fun en w' => en = .returned (U (rnp l sd Be S I x e)) ∧ Below w.heap.size w w' := by
  have HZN : Hid (ZN w s q n c x) := h
  have HJN : Hid (Jn f p m l S I H sd Be) := J
  have hsg : (sgnI x == 0) = false := by
    have : sgnI x ≠ 0 := by rcases sgn3 x with ⟨_, h2⟩ | ⟨h1, _⟩ | ⟨_, h2⟩ <;> omega
    simp [this]
  obtain ⟨sx, hsx⟩ : ∃ sx, sx = sgnI x := ⟨_, rfl⟩
  rw [← hsx] at hsg
  have HSX : Hid (sgnI x = sx) := hsx.symm
  have hbn := (lim_bits x.natAbs).1 h.lim
  have hb0 := bitsN_pos (a := x.natAbs) (by omega)
  have hB1 := bitsN_lt x.natAbs
  have hB2 := bitsN_le x.natAbs (by omega)
  obtain ⟨L, hL⟩ : ∃ L, L = bitsN x.natAbs := ⟨_, rfl⟩
  rw [← hL] at ht
  have HLB : Hid (bitsN x.natAbs = L) := hL.symm
  obtain ⟨s1, hs1⟩ : ∃ s1 : Int, s1 = e + L := ⟨_, rfl⟩
  obtain ⟨top, htop⟩ : ∃ t : Int, t = s1 - 1 := ⟨_, rfl⟩
  rw [← hL] at hbn hb0 hB1 hB2
  have a1 : wrap64 (e + (L : Int)) = s1 := by rw [hs1]; simp only [wrap64]; omega
  have a2 : IntKind.i64.wrap (e + (L : Int)) = s1 := by rw [hs1]; simp [IntKind.wrap, IntKind.signed, IntKind.bits]; omega
  have a3 : wrap64 (s1 - 1) = top := by rw [htop]; simp only [wrap64]; omega
  have a4 : IntKind.i64.wrap (s1 - 1) = top := by rw [htop]; simp [IntKind.wrap, IntKind.signed, IntKind.bits]; omega
  have hneg : decide (x < 0) = s := h.sg.symm
  have d1 : decide (Be ≤ top) = true := decide_eq_true (by omega)
  obtain ⟨r, hr⟩ : ∃ r, r = rnp l sd Be S I x e := ⟨_, rfl⟩
  have HR : Hid ((if s then S + I else I) = r) := by
    show (if s then S + I else I) = r
    rw [hr]; unfold rnp rnz
    rw [if_neg h0, ← hL, if_pos (show Be ≤ e + L - 1 by omega), ← hneg]
    by_cases hx : x < 0
    · rw [decide_eq_true hx, if_pos rfl, if_pos hx]
    · rw [decide_eq_false hx, if_neg (by simp), if_neg hx]
  have HIS : Hid (I < S) := J.jm.pm.fm.lt
  rw [← hr]
  clear J h h0 hsx hbn hb0 hB1 hB2 hL hs1 htop hneg hr ht he
  go_enter Tryz.func34, Tryz.ntmps34
  go_wp2_with fail
  obtain ⟨W0, hW0⟩ : ∃ W0, W0 = ((w.alloc (.cells #[.int .i64 p, .int .i64 m, .int .i64 l] 46)).alloc (.cells #[.bool s, .slice q n c] 63)) := ⟨_, rfl⟩
  have Xg : Hid (B3q W0 (w.heap.size) (.int .i64 p) (.int .i64 m) (.int .i64 l)) := by rw [hW0]; exact ⟨by go_simp, by go_simp, by go_simp, by go_simp, by go_simp, by go_simp⟩
  have Xm : Hid (Box W0 (w.heap.size + 1) (.bool s) (.slice q n c)) := by rw [hW0]; exact ⟨by go_simp, by go_simp, by go_simp, by go_simp⟩
  have hb0 : Below w.heap.size w W0 := by rw [hW0]; exact below2 w _ _
  rw [← hW0]
  clear hW0
  have hbw : Below w.heap.size w w := Below.refl _ _
  obtain ⟨gm, hgm⟩ : ∃ g, g = w.heap.size + 1 := ⟨_, rfl⟩
  have HGm : Hid (w.heap.size ≤ gm) := by rw [hgm]; show _ ≤ _; omega
  rw [← hgm] at Xm
  try rw [← hgm]
  obtain ⟨gg, hgg⟩ : ∃ g, g = w.heap.size := ⟨_, rfl⟩
  have HGg : Hid (w.heap.size ≤ gg) := by rw [hgg]; show _ ≤ _; omega
  rw [← hgg] at Xg
  try rw [← hgg]
  have HGD : Hid (gg ≠ gm ∧ gm ≠ gg) := by rw [hgg, hgm]; exact ⟨by omega, by omega⟩
  clear hgg hgm
  replace hbw := Below.on hbw hb0
  clear hb0
  refine (zsign (HZN.out.below hbw)).mono ?_
  rintro e v1 ⟨rfl, hb1⟩
  rw [HSX.out]
  replace Xg : Hid _ := Xg.out.below hb1
  replace Xm : Hid _ := Xm.out.below hb1
  replace hbw := Below.on hbw hb1
  clear hb1
  obtain ⟨cm0, cm1, fm0, fm1⟩ := Xm.out
  have hnem := Xm.out.lt
  go_wp2_with fail
  clear cm0 cm1 fm0 fm1 hnem
  obtain ⟨xs, hX⟩ := (HZN.out.below hbw).ex
  refine (bits_any hX.at_ (by have := hX.le; omega)).mono ?_
  rintro e2 v2 ⟨rfl, hw⟩
  obtain rfl := hw.symm
  clear hw
  rw [hX.nf.val, HLB.out]
  clear hX
  obtain ⟨cg0, cg1, cg2, fg0, fg1, fg2⟩ := Xg.out
  have hneg : gg < v1.heap.size := World.block_lt_of_cell? v1 _ cg0
  go_wp2_with fail
  clear cg0 cg1 cg2 fg0 fg1 fg2 hneg
  refine (HJN.out.jm.be _).mono ?_
  rintro e v3 ⟨rfl, hb3⟩
  replace Xg : Hid _ := Xg.out.below hb3
  replace Xm : Hid _ := Xm.out.below hb3
  replace hbw := Below.on hbw hb3
  clear hb3
  obtain ⟨cg0, cg1, cg2, fg0, fg1, fg2⟩ := Xg.out
  have hneg : gg < v3.heap.size := World.block_lt_of_cell? v3 _ cg0
  obtain ⟨cm0, cm1, fm0, fm1⟩ := Xm.out
  have hnem := Xm.out.lt
  go_wp2_with fail
  clear cg0 cg1 cg2 fg0 fg1 fg2 hneg
  clear cm0 cm1 fm0 fm1 hnem
  obtain ⟨W5, hW5⟩ : ∃ W1, W1 = v3.drew := ⟨_, rfl⟩
  have hbd : Below v3.heap.size v3 W5 := by rw [hW5]; exact bDrew1 (Below.refl _ _)
  replace Xg : Hid _ := Xg.out.below hbd
  replace Xm : Hid _ := Xm.out.below hbd
  replace hbw := Below.on hbw hbd
  clear hbd
  have HJ : Hid ((fun W' : World => W'.cell? ⟨gg, 0, none⟩ = some (.int .i64 p) ∧ W'.cell? ⟨gg, 1, none⟩ = some (.int .i64 m) ∧ W'.cell? ⟨gg, 2, none⟩ = some (.int .i64 l) ∧ W'.cell? ⟨gm, 0, none⟩ = some (.bool s)) W5) := ⟨Xg.out.c0, Xg.out.c1, Xg.out.c2, Xm.out.c0⟩
  refine wp_region_J (fun W' => W'.cell? ⟨gg, 0, none⟩ = some (.int .i64 p) ∧ W'.cell? ⟨gg, 1, none⟩ = some (.int .i64 m) ∧ W'.cell? ⟨gg, 2, none⟩ = some (.int .i64 l) ∧ W'.cell? ⟨gm, 0, none⟩ = some (.bool s)) (by kernel_rfl) ?_
  rw [← hW5]
  clear hW5
  refine wpJ_tq 0 rfl HJ.out ?_
  refine wpJ_tq 1 rfl HJ.out ?_
  refine wpJ_tq 2 rfl HJ.out ?_
  refine wpJ_tq 3 rfl HJ.out ?_
  refine wpJ_on 4 rfl fun KJ hK => ?_
  go_simp
  refine (HJN.out.jm.pm.fm.inf _).mono ?_
  rintro e v5 ⟨rfl, hb5⟩
  replace Xg : Hid _ := Xg.out.below hb5
  replace Xm : Hid _ := Xm.out.below hb5
  replace hbw := Below.on hbw hb5
  clear hb5
  refine hK _ _ ⟨Xg.out.c0, Xg.out.c1, Xg.out.c2, Xm.out.c0⟩ ?_
  clear hK
  refine wpJ_on 5 rfl fun KJ hK => ?_
  go_simp
  refine (HJN.out.jm.pm.fm.sgn s I _ HIS.out).mono ?_
  rintro e v6 ⟨rfl, hb6⟩
  rw [HR.out]
  replace Xg : Hid _ := Xg.out.below hb6
  replace Xm : Hid _ := Xm.out.below hb6
  replace hbw := Below.on hbw hb6
  clear hb6
  clear HJ
  have HJ : Hid ((fun W' : World => W'.cell? ⟨gg, 0, none⟩ = some (.int .i64 p) ∧ W'.cell? ⟨gg, 1, none⟩ = some (.int .i64 m) ∧ W'.cell? ⟨gg, 2, none⟩ = some (.int .i64 l) ∧ W'.cell? ⟨gm, 0, none⟩ = some (.bool s)) v6) := ⟨Xg.out.c0, Xg.out.c1, Xg.out.c2, Xm.out.c0⟩
  refine hK _ _ HJ.out ?_
  clear hK
  refine wpJ_tq 6 rfl HJ.out ?_
  refine wpJ_done (by kernel_rfl) ?_ _
  clear HJ
  go_wp2_with fail
  go_ret
  exact ⟨rfl, hbw⟩
theorem nearest_n {f p m l : Int} {S I H sd : Nat} {Be : Int} (J : Jn f p m l S I H sd Be) {q : Option Addr} {n c : Nat} {w : World} {x e : Int} {s : Bool} (h : ZN w s q n c x) (he : -4194304 ≤ e ∧ e ≤ 4194304) (h0 : x ≠ 0) (ht : ¬ Be ≤ e + bitsN x.natAbs - 1) (heu : e < max (e + bitsN x.natAbs - 1 - sd) l) (hT : Tab w) :
    Calls Tryz.prog 34 #[WV p m l, ZV s q n c, .int .i64 e] w fun en w' => en = .returned (U (rnp l sd Be S I x e)) ∧ Below w.heap.size w w' := by
  have HZN : Hid (ZN w s q n c x) := h
  have HJN : Hid (Jn f p m l S I H sd Be) := J
  have hsg : (sgnI x == 0) = false := by
    have : sgnI x ≠ 0 := by rcases sgn3 x with ⟨_, h2⟩ | ⟨h1, _⟩ | ⟨_, h2⟩ <;> omega
    simp [this]
  obtain ⟨sx, hsx⟩ : ∃ sx, sx = sgnI x := ⟨_, rfl⟩
  rw [← hsx] at hsg
  have HSX : Hid (sgnI x = sx) := hsx.symm
  have hbn := (lim_bits x.natAbs).1 h.lim
  have hb0 := bitsN_pos (a := x.natAbs) (by omega)
  have hB1 := bitsN_lt x.natAbs
  have hB2 := bitsN_le x.natAbs (by omega)
  obtain ⟨L, hL⟩ : ∃ L, L = bitsN x.natAbs := ⟨_, rfl⟩
  rw [← hL] at ht heu
  have HLB : Hid (bitsN x.natAbs = L) := hL.symm
  obtain ⟨s1, hs1⟩ : ∃ s1 : Int, s1 = e + L := ⟨_, rfl⟩
  obtain ⟨top, htop⟩ : ∃ t : Int, t = s1 - 1 := ⟨_, rfl⟩
  rw [← hL] at hbn hb0 hB1 hB2
  have a1 : wrap64 (e + (L : Int)) = s1 := by rw [hs1]; simp only [wrap64]; omega
  have a2 : IntKind.i64.wrap (e + (L : Int)) = s1 := by rw [hs1]; simp [IntKind.wrap, IntKind.signed, IntKind.bits]; omega
  have a3 : wrap64 (s1 - 1) = top := by rw [htop]; simp only [wrap64]; omega
  have a4 : IntKind.i64.wrap (s1 - 1) = top := by rw [htop]; simp [IntKind.wrap, IntKind.signed, IntKind.bits]; omega
  have hneg : decide (x < 0) = s := h.sg.symm
  have d1 : decide (Be ≤ top) = false := decide_eq_false (by omega)
  have hRN := rn_of J (n := x.natAbs) (e := e) (by omega) he.1
  have hsl := J.jm.sl
  have hlo := J.jm.pm.lo
  have h9 := J.jm.pm.h9
  have hbu := J.jm.bu
  have hlt := J.jm.pm.fm.lt
  obtain ⟨u, hu⟩ : ∃ u : Int, u = max (top - sd) l := ⟨_, rfl⟩
  obtain ⟨k, hk⟩ : ∃ k : Nat, k = (u - e).toNat := ⟨_, rfl⟩
  obtain ⟨Q, hQ⟩ : ∃ Q : Nat, Q = (u - l).toNat := ⟨_, rfl⟩
  obtain ⟨y, hy⟩ : ∃ y : Nat, y = neN x.natAbs (2 ^ k) := ⟨_, rfl⟩
  obtain ⟨nn, hnn⟩ : ∃ nn : Int, nn = e - u := ⟨_, rfl⟩
  have hrz : rnz l sd Be I x.natAbs e = Q * H + y := by
    unfold rnz
    rw [← hL, if_neg (show ¬ Be ≤ e + L - 1 by omega), show e + (L : Int) - 1 - sd = top - sd from by omega, ← hu, ← hQ, ← J.jm.hs, if_pos (show e < u by omega), ← hk, ← hy]
  have hy2 : y ≤ 2 * H := by
    have g1 := hRN.le
    rw [hrz] at g1
    have g2 : y = x.natAbs / 2 ^ k + (neUp x.natAbs (2 ^ k)).toNat := by rw [hy]; rfl
    have g3 := Bool.toNat_le (neUp x.natAbs (2 ^ k))
    have g4 : x.natAbs / 2 ^ k < 2 * H := by
      refine Nat.div_lt_of_lt_mul (Nat.lt_of_lt_of_le hB1 ?_)
      rw [J.jm.hs, ← Nat.pow_succ', ← Nat.pow_add]
      exact Nat.pow_le_pow_right (by omega) (by omega)
    omega
  obtain ⟨r, hr⟩ : ∃ r, r = rnp l sd Be S I x e := ⟨_, rfl⟩
  have hQB : (Q : Int) < Be - l - sd := by have := J.hB; omega
  have HR : Hid ((if s then S + (Q * H + y) else Q * H + y) = r ∧ Q * H + y < S) := by
    refine ⟨?_, by rw [← hrz]; exact Nat.lt_of_le_of_lt hRN.le hlt⟩
    rw [hr]; unfold rnp
    rw [if_neg h0, hrz, ← hneg]
    by_cases hx : x < 0
    · rw [decide_eq_true hx, if_pos rfl, if_pos hx]
    · rw [decide_eq_false hx, if_neg (by simp), if_neg hx]
  have HTP : Hid (-1000000000000 ≤ top ∧ top ≤ 5000 ∧ max (top - sd) l = u) := ⟨by omega, by omega, hu.symm⟩
  have HSZ : Hid (u = l + Q ∧ Q < 2046 ∧ (Q : Int) < Be - l - sd ∧ y ≤ 2 * H) := ⟨by omega, by have := J.hB9; omega, hQB, hy2⟩
  have HMU : Hid (nn = -(k : Int) ∧ (0 < k ∧ k ≤ 4611686018427387904) ∧ y = neN x.natAbs (2 ^ k) ∧ y < B64) := ⟨by omega, by omega, hy, by rw [B64_eq]; omega⟩
  have a5 : wrap64 (e - u) = nn := by rw [hnn]; simp only [wrap64]; omega
  have a6 : IntKind.i64.wrap (e - u) = nn := by rw [hnn]; simp [IntKind.wrap, IntKind.signed, IntKind.bits]; omega
  rw [← hr]
  have TB : Hid (Tab w) := hT
  clear J h h0 hT hsx hbn hb0 hB1 hB2 hL hs1 htop hneg hr ht he hRN hsl hlo h9 hbu hlt hu hk hQ hy hnn hrz hy2 hQB heu
  go_enter Tryz.func34, Tryz.ntmps34
  go_wp2_with fail
  obtain ⟨W0, hW0⟩ : ∃ W0, W0 = ((w.alloc (.cells #[.int .i64 p, .int .i64 m, .int .i64 l] 46)).alloc (.cells #[.bool s, .slice q n c] 63)) := ⟨_, rfl⟩
  have Xg : Hid (B3q W0 (w.heap.size) (.int .i64 p) (.int .i64 m) (.int .i64 l)) := by rw [hW0]; exact ⟨by go_simp, by go_simp, by go_simp, by go_simp, by go_simp, by go_simp⟩
  have Xm : Hid (Box W0 (w.heap.size + 1) (.bool s) (.slice q n c)) := by rw [hW0]; exact ⟨by go_simp, by go_simp, by go_simp, by go_simp⟩
  have hb0 : Below w.heap.size w W0 := by rw [hW0]; exact below2 w _ _
  rw [← hW0]
  clear hW0
  have hbw : Below w.heap.size w w := Below.refl _ _
  obtain ⟨gm, hgm⟩ : ∃ g, g = w.heap.size + 1 := ⟨_, rfl⟩
  have HGm : Hid (w.heap.size ≤ gm) := by rw [hgm]; show _ ≤ _; omega
  rw [← hgm] at Xm
  try rw [← hgm]
  obtain ⟨gg, hgg⟩ : ∃ g, g = w.heap.size := ⟨_, rfl⟩
  have HGg : Hid (w.heap.size ≤ gg) := by rw [hgg]; show _ ≤ _; omega
  rw [← hgg] at Xg
  try rw [← hgg]
  have HGD : Hid (gg ≠ gm ∧ gm ≠ gg) := by rw [hgg, hgm]; exact ⟨by omega, by omega⟩
  clear hgg hgm
  replace hbw := Below.on hbw hb0
  clear hb0
  refine (zsign (HZN.out.below hbw)).mono ?_
  rintro e v1 ⟨rfl, hb1⟩
  rw [HSX.out]
  replace Xg : Hid _ := Xg.out.below hb1
  replace Xm : Hid _ := Xm.out.below hb1
  replace hbw := Below.on hbw hb1
  clear hb1
  obtain ⟨cm0, cm1, fm0, fm1⟩ := Xm.out
  have hnem := Xm.out.lt
  go_wp2_with fail
  clear cm0 cm1 fm0 fm1 hnem
  obtain ⟨xs, hX⟩ := (HZN.out.below hbw).ex
  refine (bits_any hX.at_ (by have := hX.le; omega)).mono ?_
  rintro e2 v2 ⟨rfl, hw⟩
  obtain rfl := hw.symm
  clear hw
  rw [hX.nf.val, HLB.out]
  clear hX
  obtain ⟨cg0, cg1, cg2, fg0, fg1, fg2⟩ := Xg.out
  have hneg : gg < v1.heap.size := World.block_lt_of_cell? v1 _ cg0
  go_wp2_with fail
  clear cg0 cg1 cg2 fg0 fg1 fg2 hneg
  refine (HJN.out.jm.be _).mono ?_
  rintro e v3 ⟨rfl, hb3⟩
  replace Xg : Hid _ := Xg.out.below hb3
  replace Xm : Hid _ := Xm.out.below hb3
  replace hbw := Below.on hbw hb3
  clear hb3
  obtain ⟨cg0, cg1, cg2, fg0, fg1, fg2⟩ := Xg.out
  have hneg : gg < v3.heap.size := World.block_lt_of_cell? v3 _ cg0
  obtain ⟨cm0, cm1, fm0, fm1⟩ := Xm.out
  have hnem := Xm.out.lt
  go_wp2_with fail
  clear cg0 cg1 cg2 fg0 fg1 fg2 hneg
  clear cm0 cm1 fm0 fm1 hnem
  refine (HJN.out.jm.un top _ HTP.out.1 HTP.out.2.1).mono ?_
  rintro e v4 ⟨rfl, hb4⟩
  rw [HTP.out.2.2]
  replace Xg : Hid _ := Xg.out.below hb4
  replace Xm : Hid _ := Xm.out.below hb4
  replace hbw := Below.on hbw hb4
  clear hb4
  obtain ⟨cg0, cg1, cg2, fg0, fg1, fg2⟩ := Xg.out
  have hneg : gg < v4.heap.size := World.block_lt_of_cell? v4 _ cg0
  obtain ⟨cm0, cm1, fm0, fm1⟩ := Xm.out
  have hnem := Xm.out.lt
  go_wp2_with fail
  clear cg0 cg1 cg2 fg0 fg1 fg2 hneg
  clear cm0 cm1 fm0 fm1 hnem
  obtain ⟨W5, hW5⟩ : ∃ W1, W1 = v4.drew := ⟨_, rfl⟩
  have hbd : Below v4.heap.size v4 W5 := by rw [hW5]; exact bDrew1 (Below.refl _ _)
  replace Xg : Hid _ := Xg.out.below hbd
  replace Xm : Hid _ := Xm.out.below hbd
  replace hbw := Below.on hbw hbd
  clear hbd
  have HJ : Hid ((fun W' : World => W'.cell? ⟨gg, 0, none⟩ = some (.int .i64 p) ∧ W'.cell? ⟨gg, 1, none⟩ = some (.int .i64 m) ∧ W'.cell? ⟨gg, 2, none⟩ = some (.int .i64 l) ∧ W'.cell? ⟨gm, 0, none⟩ = some (.bool s) ∧ W'.cell? ⟨gm, 1, none⟩ = some (.slice q n c)) W5) := ⟨Xg.out.c0, Xg.out.c1, Xg.out.c2, Xm.out.c0, Xm.out.c1⟩
  refine wp_region_J (fun W' => W'.cell? ⟨gg, 0, none⟩ = some (.int .i64 p) ∧ W'.cell? ⟨gg, 1, none⟩ = some (.int .i64 m) ∧ W'.cell? ⟨gg, 2, none⟩ = some (.int .i64 l) ∧ W'.cell? ⟨gm, 0, none⟩ = some (.bool s) ∧ W'.cell? ⟨gm, 1, none⟩ = some (.slice q n c)) (by kernel_rfl) ?_
  rw [← hW5]
  clear hW5
  refine wpJ_tq 0 rfl HJ.out ?_
  refine wpJ_tq 1 rfl HJ.out ?_
  refine wpJ_tq 2 rfl HJ.out ?_
  refine wpJ_tq 3 rfl HJ.out ?_
  refine wpJ_tq 4 rfl HJ.out ?_
  refine wpJ_tq 5 rfl HJ.out ?_
  refine wpJ_tq 6 rfl HJ.out ?_
  refine wpJ_tq 7 rfl HJ.out ?_
  refine wpJ_tq 9 rfl HJ.out ?_
  refine wpJ_on 8 rfl fun KJ hK => ?_
  go_simp
  refine (multiple_n (HZN.out.below hbw) k y nn HMU.out.1 HMU.out.2.1 HMU.out.2.2.1 HMU.out.2.2.2 (TB.out.below hbw)).mono ?_
  rintro e v5 ⟨rfl, hb5⟩
  replace Xg : Hid _ := Xg.out.below hb5
  replace Xm : Hid _ := Xm.out.below hb5
  replace hbw := Below.on hbw hb5
  clear hb5
  refine hK _ _ ⟨Xg.out.c0, Xg.out.c1, Xg.out.c2, Xm.out.c0, Xm.out.c1⟩ ?_
  clear hK
  refine wpJ_on 10 rfl fun KJ hK => ?_
  go_simp
  refine (HJN.out.jm.sz y Q u _ HSZ.out.1 HSZ.out.2.1 HSZ.out.2.2.1 HSZ.out.2.2.2).mono ?_
  rintro e v6 ⟨rfl, hb6⟩
  replace Xg : Hid _ := Xg.out.below hb6
  replace Xm : Hid _ := Xm.out.below hb6
  replace hbw := Below.on hbw hb6
  clear hb6
  refine hK _ _ ⟨Xg.out.c0, Xg.out.c1, Xg.out.c2, Xm.out.c0, Xm.out.c1⟩ ?_
  clear hK
  refine wpJ_on 11 rfl fun KJ hK => ?_
  go_simp
  refine (HJN.out.jm.pm.fm.sgn s (Q * H + y) _ HR.out.2).mono ?_
  rintro e v7 ⟨rfl, hb7⟩
  rw [HR.out.1]
  replace Xg : Hid _ := Xg.out.below hb7
  replace Xm : Hid _ := Xm.out.below hb7
  replace hbw := Below.on hbw hb7
  clear hb7
  clear HJ
  have HJ : Hid ((fun W' : World => W'.cell? ⟨gg, 0, none⟩ = some (.int .i64 p) ∧ W'.cell? ⟨gg, 1, none⟩ = some (.int .i64 m) ∧ W'.cell? ⟨gg, 2, none⟩ = some (.int .i64 l) ∧ W'.cell? ⟨gm, 0, none⟩ = some (.bool s) ∧ W'.cell? ⟨gm, 1, none⟩ = some (.slice q n c)) v7) := ⟨Xg.out.c0, Xg.out.c1, Xg.out.c2, Xm.out.c0, Xm.out.c1⟩
  refine hK _ _ HJ.out ?_
  clear hK
  refine wpJ_tq 12 rfl HJ.out ?_
  refine wpJ_done (by kernel_rfl) ?_ _
  clear HJ
  go_wp2_with fail
  go_ret
  exact ⟨rfl, hbw⟩
theorem nearest_p {f p m l : Int} {S I H sd : Nat} {Be : Int} (J : Jn f p m l S I H sd Be) {q : Option Addr} {n c : Nat} {w : World} {x e : Int} {s : Bool} (h : ZN w s q n c x) (he : -4194304 ≤ e ∧ e ≤ 4194304) (h0 : x ≠ 0) (ht : ¬ Be ≤ e + bitsN x.natAbs - 1) (heu : ¬ e < max (e + bitsN x.natAbs - 1 - sd) l) :
    Calls Tryz.prog 34 #[WV p m l, ZV s q n c, .int .i64 e] w fun en w' => en = .returned (U (rnp l sd Be S I x e)) ∧ Below w.heap.size w w' := by
  have HZN : Hid (ZN w s q n c x) := h
  have HJN : Hid (Jn f p m l S I H sd Be) := J
  have hsg : (sgnI x == 0) = false := by
    have : sgnI x ≠ 0 := by rcases sgn3 x with ⟨_, h2⟩ | ⟨h1, _⟩ | ⟨_, h2⟩ <;> omega
    simp [this]
  obtain ⟨sx, hsx⟩ : ∃ sx, sx = sgnI x := ⟨_, rfl⟩
  rw [← hsx] at hsg
  have HSX : Hid (sgnI x = sx) := hsx.symm
  have hbn := (lim_bits x.natAbs).1 h.lim
  have hb0 := bitsN_pos (a := x.natAbs) (by omega)
  have hB1 := bitsN_lt x.natAbs
  have hB2 := bitsN_le x.natAbs (by omega)
  obtain ⟨L, hL⟩ : ∃ L, L = bitsN x.natAbs := ⟨_, rfl⟩
  rw [← hL] at ht heu
  have HLB : Hid (bitsN x.natAbs = L) := hL.symm
  obtain ⟨s1, hs1⟩ : ∃ s1 : Int, s1 = e + L := ⟨_, rfl⟩
  obtain ⟨top, htop⟩ : ∃ t : Int, t = s1 - 1 := ⟨_, rfl⟩
  rw [← hL] at hbn hb0 hB1 hB2
  have a1 : wrap64 (e + (L : Int)) = s1 := by rw [hs1]; simp only [wrap64]; omega
  have a2 : IntKind.i64.wrap (e + (L : Int)) = s1 := by rw [hs1]; simp [IntKind.wrap, IntKind.signed, IntKind.bits]; omega
  have a3 : wrap64 (s1 - 1) = top := by rw [htop]; simp only [wrap64]; omega
  have a4 : IntKind.i64.wrap (s1 - 1) = top := by rw [htop]; simp [IntKind.wrap, IntKind.signed, IntKind.bits]; omega
  have hneg : decide (x < 0) = s := h.sg.symm
  have d1 : decide (Be ≤ top) = false := decide_eq_false (by omega)
  have hRN := rn_of J (n := x.natAbs) (e := e) (by omega) he.1
  have hsl := J.jm.sl
  have hlo := J.jm.pm.lo
  have h9 := J.jm.pm.h9
  have hbu := J.jm.bu
  have hlt := J.jm.pm.fm.lt
  obtain ⟨u, hu⟩ : ∃ u : Int, u = max (top - sd) l := ⟨_, rfl⟩
  obtain ⟨k, hk⟩ : ∃ k : Nat, k = (e - u).toNat := ⟨_, rfl⟩
  obtain ⟨Q, hQ⟩ : ∃ Q : Nat, Q = (u - l).toNat := ⟨_, rfl⟩
  obtain ⟨y, hy⟩ : ∃ y : Nat, y = x.natAbs * 2 ^ k := ⟨_, rfl⟩
  obtain ⟨nn, hnn⟩ : ∃ nn : Int, nn = e - u := ⟨_, rfl⟩
  have hrz : rnz l sd Be I x.natAbs e = Q * H + y := by
    unfold rnz
    rw [← hL, if_neg (show ¬ Be ≤ e + L - 1 by omega), show e + (L : Int) - 1 - sd = top - sd from by omega, ← hu, ← hQ, ← J.jm.hs, if_neg (show ¬ e < u by omega), ← hk, ← hy]
  have hy2 : y ≤ 2 * H := by
    have g4 : x.natAbs * 2 ^ k < 2 ^ L * 2 ^ k := Nat.mul_lt_mul_of_pos_right hB1 (Nat.pow_pos (by omega))
    have g5 : 2 ^ L * 2 ^ k ≤ 2 * H := by
      rw [J.jm.hs, ← Nat.pow_succ', ← Nat.pow_add]
      exact Nat.pow_le_pow_right (by omega) (by omega)
    omega
  obtain ⟨r, hr⟩ : ∃ r, r = rnp l sd Be S I x e := ⟨_, rfl⟩
  have hQB : (Q : Int) < Be - l - sd := by have := J.hB; omega
  have HR : Hid ((if s then S + (Q * H + y) else Q * H + y) = r ∧ Q * H + y < S) := by
    refine ⟨?_, by rw [← hrz]; exact Nat.lt_of_le_of_lt hRN.le hlt⟩
    rw [hr]; unfold rnp
    rw [if_neg h0, hrz, ← hneg]
    by_cases hx : x < 0
    · rw [decide_eq_true hx, if_pos rfl, if_pos hx]
    · rw [decide_eq_false hx, if_neg (by simp), if_neg hx]
  have HTP : Hid (-1000000000000 ≤ top ∧ top ≤ 5000 ∧ max (top - sd) l = u) := ⟨by omega, by omega, hu.symm⟩
  have HSZ : Hid (u = l + Q ∧ Q < 2046 ∧ (Q : Int) < Be - l - sd ∧ y ≤ 2 * H) := ⟨by omega, by have := J.hB9; omega, hQB, hy2⟩
  have HMU : Hid (nn = (k : Int) ∧ k ≤ 4611686018427387904 ∧ y = x.natAbs * 2 ^ k ∧ y < B64) := ⟨by omega, by omega, hy, by rw [B64_eq]; omega⟩
  have a5 : wrap64 (e - u) = nn := by rw [hnn]; simp only [wrap64]; omega
  have a6 : IntKind.i64.wrap (e - u) = nn := by rw [hnn]; simp [IntKind.wrap, IntKind.signed, IntKind.bits]; omega
  rw [← hr]
  clear J h h0 hsx hbn hb0 hB1 hB2 hL hs1 htop hneg hr ht he hRN hsl hlo h9 hbu hlt hu hk hQ hy hnn hrz hy2 hQB heu
  go_enter Tryz.func34, Tryz.ntmps34
  go_wp2_with fail
  obtain ⟨W0, hW0⟩ : ∃ W0, W0 = ((w.alloc (.cells #[.int .i64 p, .int .i64 m, .int .i64 l] 46)).alloc (.cells #[.bool s, .slice q n c] 63)) := ⟨_, rfl⟩
  have Xg : Hid (B3q W0 (w.heap.size) (.int .i64 p) (.int .i64 m) (.int .i64 l)) := by rw [hW0]; exact ⟨by go_simp, by go_simp, by go_simp, by go_simp, by go_simp, by go_simp⟩
  have Xm : Hid (Box W0 (w.heap.size + 1) (.bool s) (.slice q n c)) := by rw [hW0]; exact ⟨by go_simp, by go_simp, by go_simp, by go_simp⟩
  have hb0 : Below w.heap.size w W0 := by rw [hW0]; exact below2 w _ _
  rw [← hW0]
  clear hW0
  have hbw : Below w.heap.size w w := Below.refl _ _
  obtain ⟨gm, hgm⟩ : ∃ g, g = w.heap.size + 1 := ⟨_, rfl⟩
  have HGm : Hid (w.heap.size ≤ gm) := by rw [hgm]; show _ ≤ _; omega
  rw [← hgm] at Xm
  try rw [← hgm]
  obtain ⟨gg, hgg⟩ : ∃ g, g = w.heap.size := ⟨_, rfl⟩
  have HGg : Hid (w.heap.size ≤ gg) := by rw [hgg]; show _ ≤ _; omega
  rw [← hgg] at Xg
  try rw [← hgg]
  have HGD : Hid (gg ≠ gm ∧ gm ≠ gg) := by rw [hgg, hgm]; exact ⟨by omega, by omega⟩
  clear hgg hgm
  replace hbw := Below.on hbw hb0
  clear hb0
  refine (zsign (HZN.out.below hbw)).mono ?_
  rintro e v1 ⟨rfl, hb1⟩
  rw [HSX.out]
  replace Xg : Hid _ := Xg.out.below hb1
  replace Xm : Hid _ := Xm.out.below hb1
  replace hbw := Below.on hbw hb1
  clear hb1
  obtain ⟨cm0, cm1, fm0, fm1⟩ := Xm.out
  have hnem := Xm.out.lt
  go_wp2_with fail
  clear cm0 cm1 fm0 fm1 hnem
  obtain ⟨xs, hX⟩ := (HZN.out.below hbw).ex
  refine (bits_any hX.at_ (by have := hX.le; omega)).mono ?_
  rintro e2 v2 ⟨rfl, hw⟩
  obtain rfl := hw.symm
  clear hw
  rw [hX.nf.val, HLB.out]
  clear hX
  obtain ⟨cg0, cg1, cg2, fg0, fg1, fg2⟩ := Xg.out
  have hneg : gg < v1.heap.size := World.block_lt_of_cell? v1 _ cg0
  go_wp2_with fail
  clear cg0 cg1 cg2 fg0 fg1 fg2 hneg
  refine (HJN.out.jm.be _).mono ?_
  rintro e v3 ⟨rfl, hb3⟩
  replace Xg : Hid _ := Xg.out.below hb3
  replace Xm : Hid _ := Xm.out.below hb3
  replace hbw := Below.on hbw hb3
  clear hb3
  obtain ⟨cg0, cg1, cg2, fg0, fg1, fg2⟩ := Xg.out
  have hneg : gg < v3.heap.size := World.block_lt_of_cell? v3 _ cg0
  obtain ⟨cm0, cm1, fm0, fm1⟩ := Xm.out
  have hnem := Xm.out.lt
  go_wp2_with fail
  clear cg0 cg1 cg2 fg0 fg1 fg2 hneg
  clear cm0 cm1 fm0 fm1 hnem
  refine (HJN.out.jm.un top _ HTP.out.1 HTP.out.2.1).mono ?_
  rintro e v4 ⟨rfl, hb4⟩
  rw [HTP.out.2.2]
  replace Xg : Hid _ := Xg.out.below hb4
  replace Xm : Hid _ := Xm.out.below hb4
  replace hbw := Below.on hbw hb4
  clear hb4
  obtain ⟨cg0, cg1, cg2, fg0, fg1, fg2⟩ := Xg.out
  have hneg : gg < v4.heap.size := World.block_lt_of_cell? v4 _ cg0
  obtain ⟨cm0, cm1, fm0, fm1⟩ := Xm.out
  have hnem := Xm.out.lt
  go_wp2_with fail
  clear cg0 cg1 cg2 fg0 fg1 fg2 hneg
  clear cm0 cm1 fm0 fm1 hnem
  obtain ⟨W5, hW5⟩ : ∃ W1, W1 = v4.drew := ⟨_, rfl⟩
  have hbd : Below v4.heap.size v4 W5 := by rw [hW5]; exact bDrew1 (Below.refl _ _)
  replace Xg : Hid _ := Xg.out.below hbd
  replace Xm : Hid _ := Xm.out.below hbd
  replace hbw := Below.on hbw hbd
  clear hbd
  have HJ : Hid ((fun W' : World => W'.cell? ⟨gg, 0, none⟩ = some (.int .i64 p) ∧ W'.cell? ⟨gg, 1, none⟩ = some (.int .i64 m) ∧ W'.cell? ⟨gg, 2, none⟩ = some (.int .i64 l) ∧ W'.cell? ⟨gm, 0, none⟩ = some (.bool s) ∧ W'.cell? ⟨gm, 1, none⟩ = some (.slice q n c)) W5) := ⟨Xg.out.c0, Xg.out.c1, Xg.out.c2, Xm.out.c0, Xm.out.c1⟩
  refine wp_region_J (fun W' => W'.cell? ⟨gg, 0, none⟩ = some (.int .i64 p) ∧ W'.cell? ⟨gg, 1, none⟩ = some (.int .i64 m) ∧ W'.cell? ⟨gg, 2, none⟩ = some (.int .i64 l) ∧ W'.cell? ⟨gm, 0, none⟩ = some (.bool s) ∧ W'.cell? ⟨gm, 1, none⟩ = some (.slice q n c)) (by kernel_rfl) ?_
  rw [← hW5]
  clear hW5
  refine wpJ_tq 0 rfl HJ.out ?_
  refine wpJ_tq 1 rfl HJ.out ?_
  refine wpJ_tq 2 rfl HJ.out ?_
  refine wpJ_tq 3 rfl HJ.out ?_
  refine wpJ_tq 4 rfl HJ.out ?_
  refine wpJ_tq 5 rfl HJ.out ?_
  refine wpJ_tq 6 rfl HJ.out ?_
  refine wpJ_tq 7 rfl HJ.out ?_
  refine wpJ_tq 9 rfl HJ.out ?_
  refine wpJ_on 8 rfl fun KJ hK => ?_
  go_simp
  refine (multiple_p (HZN.out.below hbw) k y nn HMU.out.1 HMU.out.2.1 HMU.out.2.2.1 HMU.out.2.2.2).mono ?_
  rintro e v5 ⟨rfl, hb5⟩
  replace Xg : Hid _ := Xg.out.below hb5
  replace Xm : Hid _ := Xm.out.below hb5
  replace hbw := Below.on hbw hb5
  clear hb5
  refine hK _ _ ⟨Xg.out.c0, Xg.out.c1, Xg.out.c2, Xm.out.c0, Xm.out.c1⟩ ?_
  clear hK
  refine wpJ_on 10 rfl fun KJ hK => ?_
  go_simp
  refine (HJN.out.jm.sz y Q u _ HSZ.out.1 HSZ.out.2.1 HSZ.out.2.2.1 HSZ.out.2.2.2).mono ?_
  rintro e v6 ⟨rfl, hb6⟩
  replace Xg : Hid _ := Xg.out.below hb6
  replace Xm : Hid _ := Xm.out.below hb6
  replace hbw := Below.on hbw hb6
  clear hb6
  refine hK _ _ ⟨Xg.out.c0, Xg.out.c1, Xg.out.c2, Xm.out.c0, Xm.out.c1⟩ ?_
  clear hK
  refine wpJ_on 11 rfl fun KJ hK => ?_
  go_simp
  refine (HJN.out.jm.pm.fm.sgn s (Q * H + y) _ HR.out.2).mono ?_
  rintro e v7 ⟨rfl, hb7⟩
  rw [HR.out.1]
  replace Xg : Hid _ := Xg.out.below hb7
  replace Xm : Hid _ := Xm.out.below hb7
  replace hbw := Below.on hbw hb7
  clear hb7
  clear HJ
  have HJ : Hid ((fun W' : World => W'.cell? ⟨gg, 0, none⟩ = some (.int .i64 p) ∧ W'.cell? ⟨gg, 1, none⟩ = some (.int .i64 m) ∧ W'.cell? ⟨gg, 2, none⟩ = some (.int .i64 l) ∧ W'.cell? ⟨gm, 0, none⟩ = some (.bool s) ∧ W'.cell? ⟨gm, 1, none⟩ = some (.slice q n c)) v7) := ⟨Xg.out.c0, Xg.out.c1, Xg.out.c2, Xm.out.c0, Xm.out.c1⟩
  refine hK _ _ HJ.out ?_
  clear hK
  refine wpJ_tq 12 rfl HJ.out ?_
  refine wpJ_done (by kernel_rfl) ?_ _
  clear HJ
  go_wp2_with fail
  go_ret
  exact ⟨rfl, hbw⟩
theorem nearest_ok {f p m l : Int} {S I H sd : Nat} {Be : Int} (J : Jn f p m l S I H sd Be) {q : Option Addr} {n c : Nat} {w : World} {x e : Int} {s : Bool} (h : ZN w s q n c x) (he : -4194304 ≤ e ∧ e ≤ 4194304) (hT : Tab w) :
    Calls Tryz.prog 34 #[WV p m l, ZV s q n c, .int .i64 e] w fun en w' => en = .returned (U (rnp l sd Be S I x e)) ∧ Below w.heap.size w w' := by
  by_cases h0 : x = 0
  · exact nearest_z J h h0
  · by_cases ht : Be ≤ e + bitsN x.natAbs - 1
    · exact nearest_b J h he h0 ht
    · by_cases heu : e < max (e + bitsN x.natAbs - 1 - sd) l
      · exact nearest_n J h he h0 ht heu hT
      · exact nearest_p J h he h0 ht heu
theorem rnearest {f p m l : Int} {S I H sd : Nat} {Be : Int} (J : Jn f p m l S I H sd Be) {q : Option Addr} {n c : Nat} {w : World} {x e : Int} {s : Bool} (h : DN w s q n c e x) (hT : Tab w) :
    Calls Tryz.prog 52 #[.int .i64 f, DV s q n c e] w fun en w' => en = .returned (.tuple #[U (rnp l sd Be S I x e), .int .i64 0]) ∧ Below w.heap.size w w' := by
  have HJN : Hid (Jn f p m l S I H sd Be) := J
  have HDN : Hid (DN w s q n c e x) := h
  have TB : Hid (Tab w) := hT
  have HE : Hid (-4194304 ≤ e ∧ e ≤ 4194304) := by rcases h.fm with ⟨_, h2⟩ | ⟨_, h2, h3⟩ <;> (show _ ∧ _) <;> omega
  obtain ⟨r, hr⟩ : ∃ r, r = rnp l sd Be S I x e := ⟨_, rfl⟩
  have HR : Hid (rnp l sd Be S I x e = r) := hr.symm
  rw [← hr]
  clear J h hT hr
  go_enter Tryz.func52, Tryz.ntmps52
  go_wp2_with fail
  obtain ⟨W0, hW0⟩ : ∃ W0, W0 = (w.alloc (.cells #[.bool s, .slice q n c, .int .i64 e] 65)) := ⟨_, rfl⟩
  have Xd : Hid (B3q W0 (w.heap.size) (.bool s) (.slice q n c) (.int .i64 e)) := by rw [hW0]; exact ⟨by go_simp, by go_simp, by go_simp, by go_simp, by go_simp, by go_simp⟩
  have hb0 : Below w.heap.size w W0 := by rw [hW0]; exact below1 w _
  rw [← hW0]
  clear hW0
  have hbw : Below w.heap.size w w := Below.refl _ _
  obtain ⟨gd, hgd⟩ : ∃ g, g = w.heap.size := ⟨_, rfl⟩
  have HGd : Hid (w.heap.size ≤ gd) := by rw [hgd]; show _ ≤ _; omega
  rw [← hgd] at Xd
  try rw [← hgd]
  clear hgd
  replace hbw := Below.on hbw hb0
  clear hb0
  refine (HJN.out.jm.pm.fm.of _).mono ?_
  rintro e v1 ⟨rfl, hb1⟩
  replace Xd : Hid _ := Xd.out.below hb1
  replace hbw := Below.on hbw hb1
  clear hb1
  obtain ⟨cd0, cd1, cd2, fd0, fd1, fd2⟩ := Xd.out
  have hned : gd < v1.heap.size := World.block_lt_of_cell? v1 _ cd0
  go_wp2_with fail
  clear cd0 cd1 cd2 fd0 fd1 fd2 hned
  have Xg0 : Hid (B3q (v1.alloc (.cells #[.int .i64 p, .int .i64 m, .int .i64 l] 46)) v1.heap.size (.int .i64 p) (.int .i64 m) (.int .i64 l)) := B3q.new v1 _ _ _ _
  have hbn : Below v1.heap.size v1 (v1.alloc (.cells #[.int .i64 p, .int .i64 m, .int .i64 l] 46)) := below1 v1 _
  generalize v1.alloc (.cells #[.int .i64 p, .int .i64 m, .int .i64 l] 46) = Wg at *
  have HGg : Hid (w.heap.size ≤ v1.heap.size) := hbw.size
  replace Xd : Hid _ := Xd.out.below hbn
  replace hbw := Below.on hbw hbn
  clear hbn
  generalize v1.heap.size = gg at *
  have Xg := Xg0
  clear Xg0
  refine (dform_t (HDN.out.below hbw)).mono ?_
  rintro e v2 ⟨rfl, hb2⟩
  replace Xd : Hid _ := Xd.out.below hb2
  replace Xg : Hid _ := Xg.out.below hb2
  replace hbw := Below.on hbw hb2
  clear hb2
  obtain ⟨cd0, cd1, cd2, fd0, fd1, fd2⟩ := Xd.out
  have hned : gd < v2.heap.size := World.block_lt_of_cell? v2 _ cd0
  obtain ⟨cg0, cg1, cg2, fg0, fg1, fg2⟩ := Xg.out
  have hneg : gg < v2.heap.size := World.block_lt_of_cell? v2 _ cg0
  go_wp2_with fail
  clear cd0 cd1 cd2 fd0 fd1 fd2 hned
  clear cg0 cg1 cg2 fg0 fg1 fg2 hneg
  refine (nearest_ok HJN.out (HDN.out.zn.below hbw) HE.out (TB.out.below hbw)).mono ?_
  rintro e v3 ⟨rfl, hb3⟩
  rw [HR.out]
  replace Xd : Hid _ := Xd.out.below hb3
  replace Xg : Hid _ := Xg.out.below hb3
  replace hbw := Below.on hbw hb3
  clear hb3
  go_wp2_with fail
  go_ret2
  exact ⟨rfl, hbw⟩
theorem hnear {f p m l : Int} {S I H sd : Nat} {Be : Int} (J : Jn f p m l S I H sd Be) {q : Option Addr} {n c : Nat} {w : World} {x e : Int} {s : Bool} (h : DN w s q n c e x) (hT : Tab w) :
    Calls Tryz.prog 26 #[.int .i64 f, DV s q n c e] w fun en w' => en = .returned (U (rnp l sd Be S I x e)) ∧ Below w.heap.size w w' := by
  have HJN : Hid (Jn f p m l S I H sd Be) := J
  have HDN : Hid (DN w s q n c e x) := h
  have TB : Hid (Tab w) := hT
  obtain ⟨r, hr⟩ : ∃ r, r = rnp l sd Be S I x e := ⟨_, rfl⟩
  have HR : Hid (rnp l sd Be S I x e = r) := hr.symm
  rw [← hr]
  clear J h hT hr
  go_enter Tryz.func26, Tryz.ntmps26
  go_wp2_with fail
  obtain ⟨W0, hW0⟩ : ∃ W0, W0 = (w.alloc (.cells #[.bool s, .slice q n c, .int .i64 e] 65)) := ⟨_, rfl⟩
  have Xd : Hid (B3q W0 (w.heap.size) (.bool s) (.slice q n c) (.int .i64 e)) := by rw [hW0]; exact ⟨by go_simp, by go_simp, by go_simp, by go_simp, by go_simp, by go_simp⟩
  have hb0 : Below w.heap.size w W0 := by rw [hW0]; exact below1 w _
  rw [← hW0]
  clear hW0
  have hbw : Below w.heap.size w w := Below.refl _ _
  obtain ⟨gd, hgd⟩ : ∃ g, g = w.heap.size := ⟨_, rfl⟩
  have HGd : Hid (w.heap.size ≤ gd) := by rw [hgd]; show _ ≤ _; omega
  rw [← hgd] at Xd
  try rw [← hgd]
  clear hgd
  replace hbw := Below.on hbw hb0
  clear hb0
  obtain ⟨cd0, cd1, cd2, fd0, fd1, fd2⟩ := Xd.out
  have hned : gd < W0.heap.size := World.block_lt_of_cell? W0 _ cd0
  go_wp2_with fail
  clear cd0 cd1 cd2 fd0 fd1 fd2 hned
  refine (rnearest HJN.out (HDN.out.below hbw) (TB.out.below hbw)).mono ?_
  rintro e v1 ⟨rfl, hb1⟩
  rw [HR.out]
  replace Xd : Hid _ := Xd.out.below hb1
  replace hbw := Below.on hbw hb1
  clear hb1
  go_wp2_with fail
  go_ret
  exact ⟨rfl, hbw⟩
theorem wpS_act {P : Program} {c : Code} {Q : Exit → Act → List Frame → World → Prop} {a a' : Act} {cs : List Frame} {w : World} (h : a = a') (k : c.wpS P Q a' cs w) : c.wpS P Q a cs w := h ▸ k
theorem tafl (n : Int) : ∀ W : World, (Instr.typeAssert (FltV n) 20 54 true).run Tryz.prog W = .ok (.tuple #[.agg #[.int .i64 n], .bool true]) W := fun _ => by kernel_rfl
theorem pcatch {gb ge B : Nat} {x y n : Int} {w : World} (hb : B1t w gb (.int .u64 x)) (he : B1t w ge (.int .i64 y)) (hne : gb ≠ ge) (hB : B ≤ gb ∧ B ≤ ge) :
    CallsD Tryz.prog 19 #[.pointer (some ⟨gb, 0, none⟩), .pointer (some ⟨ge, 0, none⟩)] (.panicking [{ v := FltV n, recovered := false }]) w fun e u' w' =>
      e = .returned (.tuple #[]) ∧ u' = .panicking [{ v := FltV n, recovered := true }] ∧ B1t w' gb (.int .u64 0) ∧ B1t w' ge (.int .i64 n) ∧ Below B w w' := by
  have HX : Hid (B1t w gb (.int .u64 x) ∧ B1t w ge (.int .i64 y) ∧ gb ≠ ge ∧ B ≤ gb ∧ B ≤ ge) := ⟨hb, he, hne, hB⟩
  clear hb he hne hB
  refine callsD_of_wpS Tryz.func19 rfl fun c₀ cs hu => ?_
  apply wpS_seq
  apply wpS_region
  simp [wpOpsS, go_sem, recoverD, hu, Tryz.ntmps19, Exit.thenS]
  refine wpS_act (a' := ⟨#[.pointer (some ⟨gb, 0, none⟩), .pointer (some ⟨ge, 0, none⟩), FltV n, undef, undef, FltV n, undef, undef, undef, undef, undef, undef, undef, undef, undef, undef, undef], []⟩) rfl ?_
  refine wpS_of_wp ?_
  have hta := tafl n
  go_wp2_with fail
  obtain ⟨W0, hW0⟩ : ∃ W0, W0 = w.alloc (.cells #[.int .i64 n] 54) := ⟨_, rfl⟩
  have hbl : Below w.heap.size w W0 := by rw [hW0]; exact below1 w _
  obtain ⟨cf, ff⟩ : B1t W0 w.heap.size (.int .i64 n) := by rw [hW0]; exact B1t.new w _ _
  obtain ⟨cb, fb⟩ := HX.out.1.below hbl
  obtain ⟨ce, fe⟩ := HX.out.2.1.below hbl
  obtain ⟨gf, hgf⟩ : ∃ gf, gf = w.heap.size := ⟨_, rfl⟩
  have n1 : gf ≠ gb := by have := HX.out.1.lt; omega
  have n2 : gf ≠ ge := by have := HX.out.2.1.lt; omega
  have n3 : gb ≠ ge := HX.out.2.2.1
  have n4 : ge ≠ gb := Ne.symm n3
  have HBL : Hid (Below B w W0) := hbl.mono (by have := HX.out.1.lt; have := HX.out.2.2.2; omega)
  rw [← hgf] at cf ff
  rw [← hW0, ← hgf]
  clear hW0 hbl hgf
  go_region
  all_goals refine ⟨rfl, _, rfl, _, results_none rfl _ _ _, rfl, rfl, ⟨by go_simp, by go_simp⟩, ⟨by go_simp, by go_simp⟩, ?_⟩
  all_goals exact bDrew (bSet (bSet HBL.out _ _ _ HX.out.2.2.2.1) _ _ _ HX.out.2.2.2.2)
theorem pidle {gb ge : Nat} {w : World} :
    CallsD Tryz.prog 19 #[.pointer (some ⟨gb, 0, none⟩), .pointer (some ⟨ge, 0, none⟩)] .returning w fun e u' w' =>
      e = .returned (.tuple #[]) ∧ u' = .returning ∧ Below w.heap.size w w' := by
  refine callsD_of_wpS Tryz.func19 rfl fun c₀ cs hu => ?_
  apply wpS_seq
  apply wpS_region
  simp [wpOpsS, go_sem, recoverD, hu, Tryz.ntmps19, Exit.thenS]
  refine wpS_act (a' := ⟨#[.pointer (some ⟨gb, 0, none⟩), .pointer (some ⟨ge, 0, none⟩), .nilIface, undef, undef, .nilIface, undef, undef, undef, undef, undef, undef, undef, undef, undef, undef, undef], []⟩) rfl ?_
  refine wpS_of_wp ?_
  have hta : ∀ W : World, (Instr.typeAssert .nilIface 20 54 true).run Tryz.prog W = .ok (.tuple #[.agg #[.int .i64 0], .bool false]) W := fun _ => by kernel_rfl
  have hni : ∀ W : World, (binOp BinOp.neq 20 .nilIface .nilIface).run Tryz.prog W = .ok (.bool false) W := fun _ => by kernel_rfl
  go_wp2_with fail
  exact ⟨rfl, .returning, by rw [← hu], _, results_none rfl _ _ _, rfl, rfl, below1 w _⟩
theorem B1t.growX {w w' : World} {k : Nat} {v0 : Value} {row : Option Nat} (h : B1t w k v0) (hg : w.grownBy w' row) (hne : some k ≠ row) : B1t w' k v0 :=
  have hb := hg.block k h.lt hne
  ⟨by have h1 := h.c0; unfold World.cell? at h1 ⊢; rw [hb]; exact h1, by have h1 := h.f0; unfold World.frozen? at h1 ⊢; rw [hb]; exact h1⟩
theorem B1t.setOff {W : World} {g g2 : Nat} {v0 v : Value} (h : B1t W g v0) (hne : g ≠ g2) (o : Nat := 0) : B1t (W.setCell ⟨g2, o, none⟩ v) g v0 := by
  obtain ⟨c, f⟩ := h
  exact ⟨by go_simp, by go_simp⟩
def sgq (S : Nat) (neg : Bool) (s : Nat) : Nat := if neg then S + s else s
def parseF (le : Int) (sd : Nat) (Be : Int) (S I Q : Nat) (l : List UInt8) : Nat × Int :=
  if 4000 < l.length then (0, 7) else if l = [110, 97, 110] then (Q, 0) else if (minusF l).2 = [105, 110, 102] then (sgq S (minusF l).1 I, 0) else
    match numF (minusF l).2 with
    | none => (0, 8)
    | some (ds, be, ex) => (sgq S (minusF l).1 (rnp le sd Be S I (hexF 0 ds : Int) (ex - 4 * ((be : Nat) : Int))), 0)
theorem parseF_long {le : Int} {sd : Nat} {Be : Int} {S I Q : Nat} {l : List UInt8} (h : 4000 < l.length) : parseF le sd Be S I Q l = (0, 7) := by unfold parseF; rw [if_pos h]
theorem parseF_nan {le : Int} {sd : Nat} {Be : Int} {S I Q : Nat} {l : List UInt8} (h : ¬ 4000 < l.length) (h1 : l = [110, 97, 110]) : parseF le sd Be S I Q l = (Q, 0) := by unfold parseF; rw [if_neg h, if_pos h1]
theorem parseF_inf {le : Int} {sd : Nat} {Be : Int} {S I Q : Nat} {l : List UInt8} (h : ¬ 4000 < l.length) (h1 : l ≠ [110, 97, 110]) (h2 : (minusF l).2 = [105, 110, 102]) : parseF le sd Be S I Q l = (sgq S (minusF l).1 I, 0) := by unfold parseF; rw [if_neg h, if_neg h1, if_pos h2]
theorem parseF_no {le : Int} {sd : Nat} {Be : Int} {S I Q : Nat} {l : List UInt8} (h : ¬ 4000 < l.length) (h1 : l ≠ [110, 97, 110]) (h2 : (minusF l).2 ≠ [105, 110, 102]) (h3 : numF (minusF l).2 = none) : parseF le sd Be S I Q l = (0, 8) := by unfold parseF; rw [if_neg h, if_neg h1, if_neg h2, h3]
theorem parseF_num {le : Int} {sd : Nat} {Be : Int} {S I Q : Nat} {l ds : List UInt8} {be : Nat} {ex : Int} (h : ¬ 4000 < l.length) (h1 : l ≠ [110, 97, 110]) (h2 : (minusF l).2 ≠ [105, 110, 102]) (h3 : numF (minusF l).2 = some (ds, be, ex)) : parseF le sd Be S I Q l = (sgq S (minusF l).1 (rnp le sd Be S I (hexF 0 ds : Int) (ex - 4 * ((be : Nat) : Int))), 0) := by unfold parseF; rw [if_neg h, if_neg h1, if_neg h2, h3]
theorem B1t.belowB {W W' : World} {g B : Nat} {v0 : Value} (h : B1t W g v0) (hb : Below B W W') (hB : g < B) : B1t W' g v0 := ⟨(hb.cell (p := ⟨g, 0, none⟩) hB).trans h.c0, (hb.frozen (p := ⟨g, 0, none⟩) hB).trans h.f0⟩
theorem B3q.belowB {W W' : World} {g B : Nat} {v0 v1 v2 : Value} (h : B3q W g v0 v1 v2) (hb : Below B W W') (hB : g < B) : B3q W' g v0 v1 v2 := ⟨(hb.cell (p := ⟨g, 0, none⟩) hB).trans h.c0, (hb.cell (p := ⟨g, 1, none⟩) hB).trans h.c1, (hb.cell (p := ⟨g, 2, none⟩) hB).trans h.c2, (hb.frozen (p := ⟨g, 0, none⟩) hB).trans h.f0, (hb.frozen (p := ⟨g, 1, none⟩) hB).trans h.f1, (hb.frozen (p := ⟨g, 2, none⟩) hB).trans h.f2⟩
theorem numF_spec {l ds : List UInt8} {be : Nat} {ex : Int} (h : numF l = some (ds, be, ex)) : ∃ d, ds = Lib.trimLeftS d [48] ∧ (∀ c ∈ d, hexd c = true) ∧ d.length ≤ 2 * l.length ∧ be ≤ l.length ∧ -100000 ≤ ex ∧ ex ≤ 100000 := by
  unfold numF at h
  split at h
  · cases h
  · rename_i r1 h1
    have hl1 := takes_len h1
    have hd := digs_len hexs r1
    split at h
    · cases h
    · split at h
      · cases h
      · rename_i r2 h2
        split at h
        · cases h
        · split at h
          · cases h
            have he := exp_le r2
            exact ⟨_, rfl, digs_in r1, by omega, by omega, he.1, he.2⟩
          · cases h
theorem rnp_same {f p m l : Int} {S I H sd : Nat} {Be : Int} (J : Jn f p m l S I H sd Be) {x y e g : Int} (hx : 0 ≤ x) (hy : 0 ≤ y) (he : -4194304 ≤ e) (hg : -4194304 ≤ g) (h : dv x e = dv y g) : rnp l sd Be S I x e = rnp l sd Be S I y g := by
  obtain ⟨Z, _, h2, h3, _⟩ := rnp_is J x e he
  obtain ⟨Y, _, k2, k3, _⟩ := rnp_is J y g hg
  rw [h3, k3, if_neg (by omega), if_neg (by omega)]
  rw [show ((x.natAbs : Nat) : Int) = x by omega] at h2
  rw [show ((y.natAbs : Nat) : Int) = y by omega, ← h] at k2
  exact h2.uniq k2
theorem rnp_le {f p m l : Int} {S I H sd : Nat} {Be : Int} (J : Jn f p m l S I H sd Be) {x e : Int} (hx : 0 ≤ x) (he : -4194304 ≤ e) : rnp l sd Be S I x e ≤ I := by
  obtain ⟨Z, h1, _, h3, _⟩ := rnp_is J x e he
  rw [h3, if_neg (by omega)]
  exact h1
theorem results_cc {fn : Func} {p u : Tmp} {ty ty2 : TypeId} (h : fn.results = #[.cell p ty, .cell u ty2]) (tmps : Array Value) (P : Program) (w : World) :
    (results fn tmps).run P w = ((asAddr (tmps.getD p undef)).run P w).andThen fun a w₁ => ((loadVar ty a).run P w₁).andThen fun v w₂ => ((asAddr (tmps.getD u undef)).run P w₂).andThen fun b w₃ => ((loadVar ty2 b).run P w₃).andThen fun v2 w₄ => .ok (.tuple #[v, v2]) w₄ := by
  simp only [results, h]
  simp [Sem.run_bind, Result.andThen]
theorem res_P {tmps : Array Value} {gb ge : Nat} {a b : Int} {w : World} (h4 : tmps.getD 4 undef = .pointer (some ⟨gb, 0, none⟩)) (h5 : tmps.getD 5 undef = .pointer (some ⟨ge, 0, none⟩)) (hb : B1t w gb (.int .u64 a)) (he : B1t w ge (.int .i64 b)) :
    (results Tryz.f9 tmps).run Tryz.prog w = .ok (.tuple #[.int .u64 a, .int .i64 b]) w := by
  rw [results_cc rfl, h4, h5]
  obtain ⟨c0, f0⟩ := hb
  obtain ⟨c1, f1⟩ := he
  go_simp
theorem leaves_tm {P : Program} {fn : Func} {t1 t2 : Array Value} {R : Ending → World → Prop} (h : ∀ W, (results fn t1).run P W = (results fn t2).run P W) : ∀ (ds : List Deferred) (u : FrameMode) (w : World), Leaves P fn t1 R ds u w → Leaves P fn t2 R ds u w
  | [], .returning, w, ⟨v, h1, h2⟩ => ⟨v, (h w).symm.trans h1, h2⟩
  | [], .panicking _, _, k => k
  | [], .run, _, k => k
  | d :: ds, u, w, ⟨a, fv, cap, f, args, h1, h2, h3⟩ => ⟨a, fv, cap, f, args, h1, h2, h3.mono (by
      intro e u' w' k
      cases e with
      | returned v => exact leaves_tm h ds _ _ k
      | panicked c => exact leaves_tm h ds _ _ k
      | outgrown => exact k)⟩
theorem putP (k : Nat) {v : Value} {c : List PanicEntry} {a : Act} {w : World} {R : Ending → World → Prop} (hk : k ≠ 4) (hk5 : k ≠ 5) (h : bodyPostD Tryz.prog Tryz.f9 R (.panic c) (a.put (some k) v) w) : bodyPostD Tryz.prog Tryz.f9 R (.panic c) a w := by
  refine leaves_tm (fun W => ?_) a.defers _ w h
  have e : ∀ j, k ≠ j → (a.put (some k) v).tmps.getD j undef = a.tmps.getD j undef := by
    intro j hj
    show (a.tmps.setIfInBounds k v).getD j undef = _
    rw [Array.getD_eq_getD_getElem?, Array.getD_eq_getD_getElem?, Array.getElem?_setIfInBounds_ne hj]
  rw [results_cc rfl, results_cc rfl, e 4 hk, e 5 hk5]
theorem leaveG {tmps : Array Value} {gb ge B : Nat} {x y n : Int} {w V : World} {R : Ending → World → Prop} (h4 : tmps.getD 4 undef = .pointer (some ⟨gb, 0, none⟩)) (h5 : tmps.getD 5 undef = .pointer (some ⟨ge, 0, none⟩)) (hb : B1t V gb (.int .u64 x)) (he : B1t V ge (.int .i64 y)) (hne : gb ≠ ge) (hB : B ≤ gb ∧ B ≤ ge) (hbw : Below B w V) (hR : ∀ W, Below B w W → R (.returned (.tuple #[.int .u64 0, .int .i64 n])) W) :
    Leaves Tryz.prog Tryz.f9 tmps R [{ target := .fn (.func 19) #[.pointer (some ⟨gb, 0, none⟩), .pointer (some ⟨ge, 0, none⟩)], args := #[] }] (.panicking [{ v := FltV n, recovered := false }]) V := by
  refine leaves_cons (f := 19) (args := #[.pointer (some ⟨gb, 0, none⟩), .pointer (some ⟨ge, 0, none⟩)]) (by simp) (by simp [go_sem]) ?_
  refine (pcatch hb he hne hB).mono ?_
  rintro e u' W ⟨rfl, rfl, k1, k2, k3⟩
  exact ⟨_, res_P h4 h5 k1 k2, hR W (hbw.trans k3)⟩
theorem leaveR {tmps : Array Value} {gb ge B : Nat} {x y : Int} {w V : World} {R : Ending → World → Prop} (h4 : tmps.getD 4 undef = .pointer (some ⟨gb, 0, none⟩)) (h5 : tmps.getD 5 undef = .pointer (some ⟨ge, 0, none⟩)) (hb : B1t V gb (.int .u64 x)) (he : B1t V ge (.int .i64 y)) (hB : B ≤ V.heap.size) (hbw : Below B w V) (hR : ∀ W, Below B w W → R (.returned (.tuple #[.int .u64 x, .int .i64 y])) W) :
    Leaves Tryz.prog Tryz.f9 tmps R [{ target := .fn (.func 19) #[.pointer (some ⟨gb, 0, none⟩), .pointer (some ⟨ge, 0, none⟩)], args := #[] }] .returning V := by
  refine leaves_cons (f := 19) (args := #[.pointer (some ⟨gb, 0, none⟩), .pointer (some ⟨ge, 0, none⟩)]) (by simp) (by simp [go_sem]) ?_
  refine (pidle (gb := gb) (ge := ge)).mono ?_
  rintro e u' W ⟨rfl, rfl, k3⟩
  exact ⟨_, res_P h4 h5 (hb.below k3) (he.below k3), hR W (hbw.trans (k3.mono hB))⟩
theorem parse_c {f p m le : Int} {S I H sd Q : Nat} {Be : Int} (J : Jn f p m le S I H sd Be) (hQ : ∀ w, Calls Tryz.prog 22 #[WV p m le] w fun e w' => e = .returned (U Q) ∧ Below w.heap.size w w') {l : List UInt8} {w : World} (hT : Tab w) (hTB : 0 < w.heap.size) :
    Calls Tryz.prog 9 #[.int .i64 f, .string (bs l)] w fun en w' => en = .returned (.tuple #[U (parseF le sd Be S I Q l).1, .int .i64 (parseF le sd Be S I Q l).2]) ∧ Below w.heap.size w w' := by
  have HJN : Hid (Jn f p m le S I H sd Be) := J
  have HQ : Hid (∀ w, Calls Tryz.prog 22 #[WV p m le] w fun e w' => e = .returned (U Q) ∧ Below w.heap.size w w') := hQ
  have HT : Hid (Tab w ∧ 0 < w.heap.size) := ⟨hT, hTB⟩
  clear J hQ hT hTB
  have hmf : ∀ (fn : Fn) (first cap : Array Value) (w : World), (Instr.makeFunc fn first cap).run Tryz.prog w = .ok (.func fn first cap) w := fun _ _ _ _ => rfl
  go_enter_defers Tryz.func9, Tryz.ntmps9
  go_wp2_with fail
  obtain ⟨W0, hW0⟩ : ∃ W0, W0 = (w.alloc (.cells #[.int .u64 0] 25)).alloc (.cells #[.int .i64 0] 31) := ⟨_, rfl⟩
  have hb0 : Below w.heap.size w W0 := by rw [hW0]; exact below2 w _ _
  have XB : Hid (B1t W0 w.heap.size (.int .u64 0)) := by rw [hW0]; exact (B1t.new w _ _).below (below1 _ _)
  have XE : Hid (B1t W0 (w.heap.size + 1) (.int .i64 0)) := by rw [hW0]; have h := B1t.new (w.alloc (.cells #[.int .u64 0] 25)) 31 (.int .i64 0); rwa [show (w.alloc (.cells #[.int .u64 0] 25)).heap.size = w.heap.size + 1 by simp] at h
  obtain ⟨gb, hgb⟩ : ∃ gb, gb = w.heap.size := ⟨_, rfl⟩
  obtain ⟨ge, hge⟩ : ∃ ge, ge = w.heap.size + 1 := ⟨_, rfl⟩
  rw [← hW0]
  rw [← hge]
  rw [← hge] at XE
  rw [← hgb] at XB
  rw [← hgb]
  have HN : Hid (gb ≠ ge ∧ gb = w.heap.size ∧ w.heap.size ≤ gb ∧ w.heap.size ≤ ge) := ⟨by omega, hgb, by omega, by omega⟩
  have HB : Hid (Below w.heap.size w W0) := hb0
  clear hW0 hb0 hgb hge
  refine (HJN.out.jm.pm.fm.of _).mono ?_
  rintro e V1 ⟨rfl, hb1⟩
  have XB1 : Hid (B1t V1 gb (.int .u64 0)) := XB.out.below hb1
  have XE1 : Hid (B1t V1 ge (.int .i64 0)) := XE.out.below hb1
  have HB1 : Hid (Below w.heap.size w V1) := Below.on HB.out hb1
  clear XB XE HB hb1
  obtain ⟨ce, fe⟩ := XE1.out
  have lte : ge < V1.heap.size := XE1.out.lt
  go_wp2_with fail
  have XB2 : Hid (B1t ((V1.setCell ⟨ge, 0, none⟩ (.int .i64 0)).alloc (.cells #[.int .i64 p, .int .i64 m, .int .i64 le] 46)) gb (.int .u64 0)) := (XB1.out.setOff HN.out.1).below (below1 _ _)
  have XE2 : Hid (B1t ((V1.setCell ⟨ge, 0, none⟩ (.int .i64 0)).alloc (.cells #[.int .i64 p, .int .i64 m, .int .i64 le] 46)) ge (.int .i64 0)) := (XE1.out.put _).below (below1 _ _)
  have XW2 : Hid (B3q ((V1.setCell ⟨ge, 0, none⟩ (.int .i64 0)).alloc (.cells #[.int .i64 p, .int .i64 m, .int .i64 le] 46)) V1.heap.size (.int .i64 p) (.int .i64 m) (.int .i64 le)) := by have h := B3q.new (V1.setCell ⟨ge, 0, none⟩ (.int .i64 0)) 46 (.int .i64 p) (.int .i64 m) (.int .i64 le); rwa [show (V1.setCell ⟨ge, 0, none⟩ (.int .i64 0)).heap.size = V1.heap.size by simp] at h
  have HB2 : Hid (Below w.heap.size w ((V1.setCell ⟨ge, 0, none⟩ (.int .i64 0)).alloc (.cells #[.int .i64 p, .int .i64 m, .int .i64 le] 46))) := Below.on (bSet HB1.out _ _ _ HN.out.2.2.2) (below1 _ _)
  have HW : Hid (w.heap.size ≤ V1.heap.size) := HB1.out.size
  have HGV : Hid (V1.heap.size ≠ gb ∧ V1.heap.size ≠ ge) := by have h1 := XB1.out.lt; have h2 := XE1.out.lt; exact ⟨by omega, by omega⟩
  generalize ((V1.setCell ⟨ge, 0, none⟩ (.int .i64 0)).alloc (.cells #[.int .i64 p, .int .i64 m, .int .i64 le] 46)) = V2 at *
  obtain ⟨gw, hgw⟩ : ∃ gw, gw = V1.heap.size := ⟨_, rfl⟩
  rw [← hgw]
  rw [← hgw] at XW2 HW HGV
  clear ce fe lte hgw XB1 XE1 HB1
  rcases Nat.lt_or_ge 4000 l.length with hl | hl
  · refine (open_long hl).mono ?_
    rintro e V3 ⟨rfl, hb3⟩
    exact leaveG (B := w.heap.size) rfl rfl (XB2.out.below hb3) (XE2.out.below hb3) HN.out.1 HN.out.2.2 (Below.on HB2.out hb3) (fun W hW => ⟨by rw [parseF_long hl]; rfl, hW⟩)
  · refine (open_ok hl).mono ?_
    rintro e V3 ⟨g, rfl, hg, hx, hb3⟩
    have XB3 : Hid (B1t V3 gb (.int .u64 0)) := XB2.out.below hb3
    have XE3 : Hid (B1t V3 ge (.int .i64 0)) := XE2.out.below hb3
    have XW3 : Hid (B3q V3 gw (.int .i64 p) (.int .i64 m) (.int .i64 le)) := XW2.out.below hb3
    have HB3 : Hid (Below w.heap.size w V3) := Below.on HB2.out hb3
    have XT3 : Hid (B1t V3 g (.string (bs l))) := hx
    have HG : Hid (V2.heap.size ≤ g ∧ w.heap.size ≤ g ∧ w.heap.size ≤ V2.heap.size ∧ gb < V2.heap.size ∧ ge < V2.heap.size ∧ gw < V2.heap.size) := by have h1 := HB2.out.size; have h2 := XB2.out.lt; have h3 := XE2.out.lt; have h4 := XW2.out.lt; exact ⟨hg, by omega, h1, h2, h3, h4⟩
    have HGW : Hid (gw ≠ gb ∧ gw ≠ ge) := HGV.out
    have HL : Hid (l.length ≤ 4000) := hl
    clear hg hx hb3 XB2 XE2 XW2 HB2 hl
    go_wp2_with fail
    refine (is_ok (p := [110, 97, 110]) XT3.out).mono ?_
    rintro e V4 ⟨rfl, rfl⟩
    by_cases hn : l = [110, 97, 110]
    · rw [decide_eq_true hn]
      have HF : Hid (parseF le sd Be S I Q l = (Q, 0)) := parseF_nan (by have := HL.out; omega) hn
      clear hn
      obtain ⟨cw0, cw1, cw2, fw0, fw1, fw2⟩ := XW3.out
      have ltw : gw < V4.heap.size := XW3.out.lt
      go_wp2_with fail
      refine (HQ.out _).mono ?_
      rintro e V5 ⟨rfl, hb5⟩
      have XB5 : Hid (B1t V5 gb (.int .u64 0)) := XB3.out.below hb5
      have XE5 : Hid (B1t V5 ge (.int .i64 0)) := XE3.out.below hb5
      have HB5 : Hid (Below w.heap.size w V5) := Below.on HB3.out hb5
      clear cw0 cw1 cw2 fw0 fw1 fw2 ltw XB3 XE3 XW3 HB3 hb5
      obtain ⟨cb, fb⟩ := XB5.out
      obtain ⟨ce, fe⟩ := XE5.out
      have ltb : gb < V5.heap.size := XB5.out.lt
      have lte : ge < V5.heap.size := XE5.out.lt
      have n1 : gb ≠ ge := HN.out.1
      have n2 : ge ≠ gb := Ne.symm n1
      go_wp2_with fail
      refine leaveR (B := w.heap.size) (x := (Q : Int)) (y := 0) rfl rfl (((XB5.out.put _).setOff n1).below (Below.refl _ _)) ((XE5.out.setOff n2).put _) (by have := HB5.out.size; simpa using this) (bSet (bSet HB5.out _ _ _ HN.out.2.2.1) _ _ _ HN.out.2.2.2) (fun W hW => ⟨by rw [HF.out], hW⟩)
    · rw [decide_eq_false hn]
      have HNN : Hid (l ≠ [110, 97, 110] ∧ ¬ 4000 < l.length) := ⟨hn, by have := HL.out; omega⟩
      clear hn
      go_wp2_with fail
      refine (minus_ok XT3.out (Nat.le_refl _)).mono ?_
      rintro e V5 ⟨rfl, hx5, hg5⟩
      obtain ⟨M, hM⟩ : ∃ M, M = minusF l := ⟨_, rfl⟩
      rw [← hM] at hx5
      rw [← hM]
      have XB5 : Hid (B1t V5 gb (.int .u64 0)) := XB3.out.growX hg5 (by intro h; cases h; have := HG.out; omega)
      have XE5 : Hid (B1t V5 ge (.int .i64 0)) := XE3.out.growX hg5 (by intro h; cases h; have := HG.out; omega)
      have XW5 : Hid (B3q V5 gw (.int .i64 p) (.int .i64 m) (.int .i64 le)) := XW3.out.growX hg5 (by intro h; cases h; have := HG.out; omega)
      have HB5 : Hid (Below w.heap.size w V5) := HB3.out.trans (gbBelow hg5 HG.out.2.1 HB3.out.size)
      clear XB3 XE3 XW3 HB3
      have XT5 : Hid (B1t V5 g (.string (bs M.2))) := hx5
      have HM : Hid (M = minusF l ∧ M.2.length ≤ 4000) := ⟨hM, by rw [hM]; have := minusF_len l; have := HL.out; omega⟩
      clear hx5 hg5 hM XT3
      go_wp2_with fail
      refine (is_ok (p := [105, 110, 102]) XT5.out).mono ?_
      rintro e V6 ⟨rfl, rfl⟩
      by_cases hi : M.2 = [105, 110, 102]
      · rw [decide_eq_true hi]
        have HF : Hid (parseF le sd Be S I Q l = (sgq S M.1 I, 0)) := by rw [HM.out.1]; rw [HM.out.1] at hi; exact parseF_inf HNN.out.2 HNN.out.1 hi
        clear hi
        obtain ⟨cw0, cw1, cw2, fw0, fw1, fw2⟩ := XW5.out
        have ltw : gw < V6.heap.size := XW5.out.lt
        go_wp2_with fail
        clear cw0 cw1 cw2 fw0 fw1 fw2 ltw
        obtain ⟨V7, hV7⟩ : ∃ W1, W1 = V6.drew := ⟨_, rfl⟩
        have hbd : Below V6.heap.size V6 V7 := by rw [hV7]; exact bDrew1 (Below.refl _ _)
        have XB6 : Hid (B1t V7 gb (.int .u64 0)) := XB5.out.below hbd
        have XE6 : Hid (B1t V7 ge (.int .i64 0)) := XE5.out.below hbd
        have XW6 : Hid (B3q V7 gw (.int .i64 p) (.int .i64 m) (.int .i64 le)) := XW5.out.below hbd
        have HB6 : Hid (Below w.heap.size w V7) := Below.on HB5.out hbd
        have HJ6 : Hid ((fun W' : World => W'.cell? ⟨gw, 0, none⟩ = some (.int .i64 p) ∧ W'.cell? ⟨gw, 1, none⟩ = some (.int .i64 m) ∧ W'.cell? ⟨gw, 2, none⟩ = some (.int .i64 le)) V7) := ⟨XW6.out.c0, XW6.out.c1, XW6.out.c2⟩
        clear hbd XB5 XE5 XW5 HB5
        refine wp_region_J (fun W' => W'.cell? ⟨gw, 0, none⟩ = some (.int .i64 p) ∧ W'.cell? ⟨gw, 1, none⟩ = some (.int .i64 m) ∧ W'.cell? ⟨gw, 2, none⟩ = some (.int .i64 le)) (by kernel_rfl) ?_
        rw [← hV7]
        clear hV7
        refine wpJ_take (i := 0) (v := ?v1y0) rfl (by kernel_rfl) (by kernel_rfl) (by kernel_rfl) (fun _ _ _ h => putP 28 (by decide) (by decide) h) (by kernel_rfl) ?hy1y0 HJ6.out ?rest1y0
        case hy1y0 => (intro W' hJ; obtain ⟨j0, j1, j2⟩ := hJ; go_simp; first | done | with_reducible rfl)
        refine wpJ_take (i := 1) (v := ?v2y1) rfl (by kernel_rfl) (by kernel_rfl) (by kernel_rfl) (fun _ _ _ h => putP 29 (by decide) (by decide) h) (by kernel_rfl) ?hy2y1 HJ6.out ?rest2y1
        case hy2y1 => (intro W' hJ; obtain ⟨j0, j1, j2⟩ := hJ; go_simp; first | done | with_reducible rfl)
        refine wpJ_take (i := 2) (v := ?v3y2) rfl (by kernel_rfl) (by kernel_rfl) (by kernel_rfl) (fun _ _ _ h => putP 30 (by decide) (by decide) h) (by kernel_rfl) ?hy3y2 HJ6.out ?rest3y2
        case hy3y2 => (intro W' hJ; obtain ⟨j0, j1, j2⟩ := hJ; go_simp; first | done | with_reducible rfl)
        refine wpJ_on 3 rfl fun KJ hK => ?_
        go_simp
        refine (HJN.out.jm.pm.fm.inf _).mono ?_
        rintro e V8 ⟨rfl, hb8⟩
        have XB7 : Hid (B1t V8 gb (.int .u64 0)) := XB6.out.below hb8
        have XE7 : Hid (B1t V8 ge (.int .i64 0)) := XE6.out.below hb8
        have XW7 : Hid (B3q V8 gw (.int .i64 p) (.int .i64 m) (.int .i64 le)) := XW6.out.below hb8
        have HB7 : Hid (Below w.heap.size w V8) := Below.on HB6.out hb8
        have HJ7 : Hid ((fun W' : World => W'.cell? ⟨gw, 0, none⟩ = some (.int .i64 p) ∧ W'.cell? ⟨gw, 1, none⟩ = some (.int .i64 m) ∧ W'.cell? ⟨gw, 2, none⟩ = some (.int .i64 le)) V8) := ⟨XW7.out.c0, XW7.out.c1, XW7.out.c2⟩
        clear hb8 XB6 XE6 XW6 HB6
        refine hK _ _ HJ7.out ?_
        clear hK
        refine wpJ_on 4 rfl fun KJ hK => ?_
        go_simp
        refine (HJN.out.jm.pm.fm.sgn M.1 I _ HJN.out.jm.pm.fm.lt).mono ?_
        rintro e V9 ⟨rfl, hb9⟩
        rw [show (if M.1 = true then S + I else I) = sgq S M.1 I from rfl]
        have XB10 : Hid (B1t V9 gb (.int .u64 0)) := XB7.out.below hb9
        have XE10 : Hid (B1t V9 ge (.int .i64 0)) := XE7.out.below hb9
        have XW10 : Hid (B3q V9 gw (.int .i64 p) (.int .i64 m) (.int .i64 le)) := XW7.out.below hb9
        have HB10 : Hid (Below w.heap.size w V9) := Below.on HB7.out hb9
        have HJ10 : Hid ((fun W' : World => W'.cell? ⟨gw, 0, none⟩ = some (.int .i64 p) ∧ W'.cell? ⟨gw, 1, none⟩ = some (.int .i64 m) ∧ W'.cell? ⟨gw, 2, none⟩ = some (.int .i64 le)) V9) := ⟨XW10.out.c0, XW10.out.c1, XW10.out.c2⟩
        clear hb9 XB7 XE7 XW7 HB7
        refine hK _ _ HJ10.out ?_
        clear hK
        clear HJ6 HJ7
        obtain ⟨cb, fb⟩ := XB10.out
        obtain ⟨ce, fe⟩ := XE10.out
        have ltb : gb < V9.heap.size := XB10.out.lt
        have lte : ge < V9.heap.size := XE10.out.lt
        have n1 : gb ≠ ge := HN.out.1
        have n2 : ge ≠ gb := Ne.symm n1
        have n3 : gw ≠ gb := by have := HGW.out; omega
        have n4 : gw ≠ ge := by have := HGW.out; omega
        obtain ⟨j0, j1, j2⟩ := HJ10.out
        refine wpJ_on 5 rfl fun KJ hK => ?_
        go_simp
        have HJ8 : Hid ((fun W' : World => W'.cell? ⟨gw, 0, none⟩ = some (.int .i64 p) ∧ W'.cell? ⟨gw, 1, none⟩ = some (.int .i64 m) ∧ W'.cell? ⟨gw, 2, none⟩ = some (.int .i64 le)) (V9.setCell ⟨gb, 0, none⟩ (.int .u64 ((sgq S M.1 I : Nat) : Int)))) := ⟨by go_simp, by go_simp, by go_simp⟩
        refine hK _ _ HJ8.out ?_
        clear hK
        refine wpJ_on 6 rfl fun KJ hK => ?_
        go_simp
        have HJ9 : Hid ((fun W' : World => W'.cell? ⟨gw, 0, none⟩ = some (.int .i64 p) ∧ W'.cell? ⟨gw, 1, none⟩ = some (.int .i64 m) ∧ W'.cell? ⟨gw, 2, none⟩ = some (.int .i64 le)) ((V9.setCell ⟨gb, 0, none⟩ (.int .u64 ((sgq S M.1 I : Nat) : Int))).setCell ⟨ge, 0, none⟩ (.int .i64 0))) := ⟨by go_simp, by go_simp, by go_simp⟩
        refine hK _ _ HJ9.out ?_
        clear hK
        refine wpJ_done (by kernel_rfl) ?_ _
        clear HJ8 HJ9
        go_wp2_with fail
        exact leaveR (B := w.heap.size) (x := ((sgq S M.1 I : Nat) : Int)) (y := 0) rfl rfl (((XB10.out.put _).setOff n1).below (Below.refl _ _)) ((XE10.out.setOff n2).put _) (by have := HB10.out.size; simpa using this) (bSet (bSet HB10.out _ _ _ HN.out.2.2.1) _ _ _ HN.out.2.2.2) (fun W hW => ⟨by rw [HF.out], hW⟩)
      · rw [decide_eq_false hi]
        have HII : Hid (M.2 ≠ [105, 110, 102]) := hi
        clear hi
        obtain ⟨cw0, cw1, cw2, fw0, fw1, fw2⟩ := XW5.out
        have ltw : gw < V6.heap.size := XW5.out.lt
        go_wp2_with fail
        clear cw0 cw1 cw2 fw0 fw1 fw2 ltw
        obtain ⟨V7, hV7⟩ : ∃ W1, W1 = V6.drew := ⟨_, rfl⟩
        have hbd : Below V6.heap.size V6 V7 := by rw [hV7]; exact bDrew1 (Below.refl _ _)
        have XB6 : Hid (B1t V7 gb (.int .u64 0)) := XB5.out.below hbd
        have XE6 : Hid (B1t V7 ge (.int .i64 0)) := XE5.out.below hbd
        have XW6 : Hid (B3q V7 gw (.int .i64 p) (.int .i64 m) (.int .i64 le)) := XW5.out.below hbd
        have XT6 : Hid (B1t V7 g (.string (bs M.2))) := XT5.out.below hbd
        have HB6 : Hid (Below w.heap.size w V7) := Below.on HB5.out hbd
        have HJ6 : Hid ((fun W' : World => W'.cell? ⟨gw, 0, none⟩ = some (.int .i64 p) ∧ W'.cell? ⟨gw, 1, none⟩ = some (.int .i64 m) ∧ W'.cell? ⟨gw, 2, none⟩ = some (.int .i64 le)) V7) := ⟨XW6.out.c0, XW6.out.c1, XW6.out.c2⟩
        clear hbd XB5 XE5 XW5 XT5 HB5
        refine wp_region_J (fun W' => W'.cell? ⟨gw, 0, none⟩ = some (.int .i64 p) ∧ W'.cell? ⟨gw, 1, none⟩ = some (.int .i64 m) ∧ W'.cell? ⟨gw, 2, none⟩ = some (.int .i64 le)) (by kernel_rfl) ?_
        rw [← hV7]
        clear hV7
        refine wpJ_take (i := 0) (v := ?v4y0) rfl (by kernel_rfl) (by kernel_rfl) (by kernel_rfl) (fun _ _ _ h => putP 33 (by decide) (by decide) h) (by kernel_rfl) ?hy4y0 HJ6.out ?rest4y0
        case hy4y0 => (intro W' hJ; obtain ⟨j0, j1, j2⟩ := hJ; go_simp; first | done | with_reducible rfl)
        refine wpJ_take (i := 1) (v := ?v5y1) rfl (by kernel_rfl) (by kernel_rfl) (by kernel_rfl) (fun _ _ _ h => putP 34 (by decide) (by decide) h) (by kernel_rfl) ?hy5y1 HJ6.out ?rest5y1
        case hy5y1 => (intro W' hJ; obtain ⟨j0, j1, j2⟩ := hJ; go_simp; first | done | with_reducible rfl)
        refine wpJ_take (i := 2) (v := ?v6y2) rfl (by kernel_rfl) (by kernel_rfl) (by kernel_rfl) (fun _ _ _ h => putP 35 (by decide) (by decide) h) (by kernel_rfl) ?hy6y2 HJ6.out ?rest6y2
        case hy6y2 => (intro W' hJ; obtain ⟨j0, j1, j2⟩ := hJ; go_simp; first | done | with_reducible rfl)
        refine wpJ_take (i := 3) (v := ?v7y3) rfl (by kernel_rfl) (by kernel_rfl) (by kernel_rfl) (fun _ _ _ h => putP 36 (by decide) (by decide) h) (by kernel_rfl) ?hy7y3 HJ6.out ?rest7y3
        case hy7y3 => (intro W' hJ; obtain ⟨j0, j1, j2⟩ := hJ; go_simp; first | done | with_reducible rfl)
        refine wpJ_on 4 rfl fun KJ hK => ?_
        go_simp
        refine (number_c (B := V2.heap.size) XT6.out HG.out.1 HM.out.2 (Tab.belowB HT.out.1 HB6.out HT.out.2) (by have := HT.out.2; have := HG.out.2.2.1; omega)).mono ?_
        rintro e V8 (⟨hnn, rfl, hb8⟩ | ⟨ds, be, ex, zo, eo, er, s9, p9, m9, c9, hnn, hM, rfl, hQ9, hb8⟩)
        · exact leaveG (B := w.heap.size) rfl rfl (XB6.out.belowB hb8 HG.out.2.2.2.1) (XE6.out.belowB hb8 HG.out.2.2.2.2.1) HN.out.1 HN.out.2.2 (HB6.out.trans (hb8.mono HG.out.2.2.1)) (fun W hW => ⟨by rw [parseF_no HNN.out.2 HNN.out.1 (by rw [← HM.out.1]; exact HII.out) (by rw [← HM.out.1]; exact hnn)]; rfl, hW⟩)
        · obtain ⟨d, hds, hdh, hdl, hbe, hx1, hx2⟩ := numF_spec hnn
          have hml := HM.out.2
          obtain ⟨rfl, hz0, heo, hdv⟩ := make_text hdh (by omega) ⟨by omega, by omega⟩ (hds ▸ hM)
          have HNM : Hid (rnp le sd Be S I zo eo = rnp le sd Be S I (hexF 0 ds : Int) (ex - 4 * ((be : Nat) : Int))) := by rw [hds, hexF_trim]; exact rnp_same HJN.out hz0 (Int.natCast_nonneg _) (by omega) (by omega) hdv
          have HRL : Hid (rnp le sd Be S I zo eo < S) := Nat.lt_of_le_of_lt (rnp_le HJN.out hz0 (by omega)) HJN.out.jm.pm.fm.lt
          have HF : Hid (parseF le sd Be S I Q l = (sgq S M.1 (rnp le sd Be S I zo eo), 0)) := by rw [HNM.out, HM.out.1]; exact parseF_num HNN.out.2 HNN.out.1 (by rw [← HM.out.1]; exact HII.out) (by rw [← HM.out.1]; exact hnn)
          have D9 : Hid (DN V8 s9 p9 m9 c9 eo zo) := hQ9.dn
          clear hds hdh hdl hbe hx1 hx2 hml hz0 heo hdv hnn hM hQ9 HNM
          obtain ⟨R, hR⟩ : ∃ R, R = rnp le sd Be S I zo eo := ⟨_, rfl⟩
          rw [← hR] at HRL HF
          have XB7 : Hid (B1t V8 gb (.int .u64 0)) := XB6.out.belowB hb8 HG.out.2.2.2.1
          have XE7 : Hid (B1t V8 ge (.int .i64 0)) := XE6.out.belowB hb8 HG.out.2.2.2.2.1
          have XW7 : Hid (B3q V8 gw (.int .i64 p) (.int .i64 m) (.int .i64 le)) := XW6.out.belowB hb8 HG.out.2.2.2.2.2
          have HB7 : Hid (Below w.heap.size w V8) := HB6.out.trans (hb8.mono HG.out.2.2.1)
          have HJ7 : Hid ((fun W' : World => W'.cell? ⟨gw, 0, none⟩ = some (.int .i64 p) ∧ W'.cell? ⟨gw, 1, none⟩ = some (.int .i64 m) ∧ W'.cell? ⟨gw, 2, none⟩ = some (.int .i64 le)) V8) := ⟨XW7.out.c0, XW7.out.c1, XW7.out.c2⟩
          have HR9 : Hid (rnp le sd Be S I zo eo = R) := hR.symm
          clear hb8 hR XB6 XE6 XW6 XT6 HB6 HJ6
          refine hK _ _ HJ7.out ?_
          clear hK
          refine wpJ_on 5 rfl fun KJ hK => ?_
          go_simp
          refine (hnear HJN.out D9.out (Tab.belowB HT.out.1 HB7.out HT.out.2)).mono ?_
          rintro e V9 ⟨rfl, hb9⟩
          rw [HR9.out]
          have XB8 : Hid (B1t V9 gb (.int .u64 0)) := XB7.out.below hb9
          have XE8 : Hid (B1t V9 ge (.int .i64 0)) := XE7.out.below hb9
          have XW8 : Hid (B3q V9 gw (.int .i64 p) (.int .i64 m) (.int .i64 le)) := XW7.out.below hb9
          have HB8 : Hid (Below w.heap.size w V9) := Below.on HB7.out hb9
          have HJ8 : Hid ((fun W' : World => W'.cell? ⟨gw, 0, none⟩ = some (.int .i64 p) ∧ W'.cell? ⟨gw, 1, none⟩ = some (.int .i64 m) ∧ W'.cell? ⟨gw, 2, none⟩ = some (.int .i64 le)) V9) := ⟨XW8.out.c0, XW8.out.c1, XW8.out.c2⟩
          clear hb9 XB7 XE7 XW7 HB7
          refine hK _ _ HJ8.out ?_
          clear hK
          refine wpJ_on 6 rfl fun KJ hK => ?_
          go_simp
          refine (HJN.out.jm.pm.fm.sgn M.1 R _ HRL.out).mono ?_
          rintro e V10 ⟨rfl, hb10⟩
          rw [show (if M.1 = true then S + R else R) = sgq S M.1 R from rfl]
          have XB10 : Hid (B1t V10 gb (.int .u64 0)) := XB8.out.below hb10
          have XE10 : Hid (B1t V10 ge (.int .i64 0)) := XE8.out.below hb10
          have XW10 : Hid (B3q V10 gw (.int .i64 p) (.int .i64 m) (.int .i64 le)) := XW8.out.below hb10
          have HB10 : Hid (Below w.heap.size w V10) := Below.on HB8.out hb10
          have HJ10 : Hid ((fun W' : World => W'.cell? ⟨gw, 0, none⟩ = some (.int .i64 p) ∧ W'.cell? ⟨gw, 1, none⟩ = some (.int .i64 m) ∧ W'.cell? ⟨gw, 2, none⟩ = some (.int .i64 le)) V10) := ⟨XW10.out.c0, XW10.out.c1, XW10.out.c2⟩
          clear hb10 XB8 XE8 XW8 HB8
          refine hK _ _ HJ10.out ?_
          clear hK
          clear HJ7 HJ8
          obtain ⟨cb, fb⟩ := XB10.out
          obtain ⟨ce, fe⟩ := XE10.out
          have ltb : gb < V10.heap.size := XB10.out.lt
          have lte : ge < V10.heap.size := XE10.out.lt
          have n1 : gb ≠ ge := HN.out.1
          have n2 : ge ≠ gb := Ne.symm n1
          have n3 : gw ≠ gb := by have := HGW.out; omega
          have n4 : gw ≠ ge := by have := HGW.out; omega
          obtain ⟨j0, j1, j2⟩ := HJ10.out
          refine wpJ_on 7 rfl fun KJ hK => ?_
          go_simp
          have HJ8 : Hid ((fun W' : World => W'.cell? ⟨gw, 0, none⟩ = some (.int .i64 p) ∧ W'.cell? ⟨gw, 1, none⟩ = some (.int .i64 m) ∧ W'.cell? ⟨gw, 2, none⟩ = some (.int .i64 le)) (V10.setCell ⟨gb, 0, none⟩ (.int .u64 ((sgq S M.1 R : Nat) : Int)))) := ⟨by go_simp, by go_simp, by go_simp⟩
          refine hK _ _ HJ8.out ?_
          clear hK
          refine wpJ_on 8 rfl fun KJ hK => ?_
          go_simp
          have HJ9 : Hid ((fun W' : World => W'.cell? ⟨gw, 0, none⟩ = some (.int .i64 p) ∧ W'.cell? ⟨gw, 1, none⟩ = some (.int .i64 m) ∧ W'.cell? ⟨gw, 2, none⟩ = some (.int .i64 le)) ((V10.setCell ⟨gb, 0, none⟩ (.int .u64 ((sgq S M.1 R : Nat) : Int))).setCell ⟨ge, 0, none⟩ (.int .i64 0))) := ⟨by go_simp, by go_simp, by go_simp⟩
          refine hK _ _ HJ9.out ?_
          clear hK
          refine wpJ_done (by kernel_rfl) ?_ _
          clear HJ8 HJ9
          go_wp2_with fail
          exact leaveR (B := w.heap.size) (x := ((sgq S M.1 R : Nat) : Int)) (y := 0) rfl rfl (((XB10.out.put _).setOff n1).below (Below.refl _ _)) ((XE10.out.setOff n2).put _) (by have := HB10.out.size; simpa using this) (bSet (bSet HB10.out _ _ _ HN.out.2.2.1) _ _ _ HN.out.2.2.2) (fun W hW => ⟨by rw [HF.out], hW⟩)
def hxc (d : Nat) : Nat := if d < 10 then 48 + d else 87 + d
def hexL : Nat → Nat → List UInt8
  | 0, _ => []
  | f + 1, x => if x < 16 then [UInt8.ofNat (hxc x)] else hexL f (x / 16) ++ [UInt8.ofNat (hxc (x % 16))]
theorem dig36 (d : Nat) (h : d < (⟨#[48, 49, 50, 51, 52, 53, 54, 55, 56, 57, 97, 98, 99, 100, 101, 102, 103, 104, 105, 106, 107, 108, 109, 110, 111, 112, 113, 114, 115, 116, 117, 118, 119, 120, 121, 122]⟩ : ByteArray).size) (h16 : d < 16) : ((⟨#[48, 49, 50, 51, 52, 53, 54, 55, 56, 57, 97, 98, 99, 100, 101, 102, 103, 104, 105, 106, 107, 108, 109, 110, 111, 112, 113, 114, 115, 116, 117, 118, 119, 120, 121, 122]⟩ : ByteArray)[d]'h).toNat = hxc d := by
  obtain rfl | rfl | rfl | rfl | rfl | rfl | rfl | rfl | rfl | rfl | rfl | rfl | rfl | rfl | rfl | rfl : d = 0 ∨ d = 1 ∨ d = 2 ∨ d = 3 ∨ d = 4 ∨ d = 5 ∨ d = 6 ∨ d = 7 ∨ d = 8 ∨ d = 9 ∨ d = 10 ∨ d = 11 ∨ d = 12 ∨ d = 13 ∨ d = 14 ∨ d = 15 := by omega
  all_goals rfl
theorem hxc_lt {d : Nat} (h : d < 16) : hxc d < 256 := by unfold hxc; split <;> omega
theorem hxc_to {d : Nat} (h : d < 16) : (UInt8.ofNat (hxc d)).toNat = hxc d := by
  rw [UInt8.toNat_ofNat']
  exact Nat.mod_eq_of_lt (hxc_lt h)
theorem and15 (a : Nat) (ha : a < 18446744073709551616) : bits BinOp.and IntKind.u64 (a : Int) 15 = ((a % 16 : Nat) : Int) := by
  have h := bits_and_u64_nat a 15 ha (by decide)
  rw [show (15 : Nat) = 2 ^ 4 - 1 from rfl, Nat.and_two_pow_sub_one_eq_mod] at h
  exact h
structure By (w : World) (g n : Nat) (f : Nat → Nat) : Prop where
  cell : ∀ j, j < n → w.cell? ⟨g, j, none⟩ = some (.int .u8 (f j : Int))
  frz : ∀ j, j < n → w.frozen? ⟨g, j, none⟩ = false
theorem By.below {w w' : World} {g n : Nat} {f : Nat → Nat} (h : By w g n f) (hb : Below w.heap.size w w') : By w' g n f :=
  ⟨fun j hj => (hb.cell (p := ⟨g, j, none⟩) (World.block_lt_of_cell? w _ (h.cell j hj))).trans (h.cell j hj), fun j hj => (hb.frozen (p := ⟨g, j, none⟩) (World.block_lt_of_cell? w _ (h.cell j hj))).trans (h.frz j hj)⟩
theorem By.set {w : World} {g n : Nat} {f : Nat → Nat} (h : By w g n f) (k y : Nat) (hk : k < n) : By (w.setCell ⟨g, k, none⟩ (.int .u8 (y : Int))) g n (fun j => if j = k then y else f j) := by
  refine ⟨fun j hj => ?_, fun j hj => by rw [World.frozen?_setCell]; exact h.frz j hj⟩
  by_cases e : j = k
  · subst e; rw [if_pos rfl]; exact World.cell?_setCell_same _ _ _ (h.cell j hj)
  · rw [if_neg e, World.cell?_setCell_other _ _ _ _ (by intro e2; cases e2; exact e rfl)]; exact h.cell j hj
theorem By.new (w : World) : By (w.alloc (.cells Tryz.zeroCells210 210)) w.heap.size 65 (fun _ => 0) := by
  have hz : Tryz.zeroCells210 = Array.replicate 65 (.int .u8 0) := by kernel_rfl
  refine ⟨fun j hj => ?_, fun j hj => by go_simp⟩
  rw [hz, World.cell?_alloc_new]
  simp [hj]
theorem by_conv {w : World} {g n i : Nat} {f : Nat → Nat} {l : List UInt8} (c : Nat) (h : By w g n f) (hl : i + l.length ≤ n) (hf : ∀ j, j < l.length → (l.getD j 0).toNat = f (i + j)) :
    (convert 168 9 (.slice (some ⟨g, i, none⟩) l.length c)).run Tryz.prog w = .ok (.string (bs l)) w := by
  exact run_convert_bytes_back (P := Tryz.prog) w 168 9 5 ⟨g, i, none⟩ c l Tryz.underlying168 Tryz.underlying5 Tryz.underlying9 (fun j hj => by
    rw [Lib.add_plain, h.cell (i + j) (by omega), ← hf j hj, List.getD_eq_getElem?_getD, List.getElem?_eq_getElem hj]; rfl)
theorem ipow (w : World) : Calls Tryz.prog 158 #[.int .i64 16] w fun e w' => e = .returned (.bool true) ∧ w' = w := by
  go_enter Tryz.func158, Tryz.ntmps158
  go_wp2_with fail
  go_ret
  exact ⟨rfl, rfl⟩
theorem tz16 {w : World} (hT : Tab w) : Calls Tryz.prog 159 #[.int .u64 16] w fun e w' => e = .returned (.int .i64 4) ∧ w' = w := by
  have HT : Hid (Tab w) := hT
  clear hT
  go_enter Tryz.func159, Tryz.ntmps159
  go_wp2_with fail
  refine (tz_any (x := 16) (r := 4) (by decide) (by decide) (by unfold TzIs; decide) HT.out).mono ?_
  rintro e v ⟨rfl, rfl⟩
  go_wp2_with fail
  go_ret
  exact ⟨rfl, rfl⟩
theorem fbits {x : Nat} {w : World} (hx : x < B64) (hT : Tab w) :
    Calls Tryz.prog 136 #[.slice none 0 0, U x, .int .i64 16, .bool false, .bool false] w fun en w' => en = .returned (.tuple #[.slice none 0 0, .string (bs (hexL 16 x))]) ∧ Below w.heap.size w w' := by
  have H : Hid (x < B64 ∧ Tab w) := ⟨hx, hT⟩
  clear hx hT
  go_enter Tryz.func136, Tryz.ntmps136
  go_wp2_with fail
  obtain ⟨V0, hV0⟩ : ∃ V0, V0 = w.alloc (.cells Tryz.zeroCells210 210) := ⟨_, rfl⟩
  have hb0 : Below w.heap.size w V0 := by rw [hV0]; exact below1 w _
  have Y0 : Hid (By V0 w.heap.size 65 (fun _ => 0)) := by rw [hV0]; exact By.new w
  obtain ⟨ga, hga⟩ : ∃ ga, ga = w.heap.size := ⟨_, rfl⟩
  rw [← hV0]
  rw [← hga] at Y0
  have HA : Hid (w.heap.size ≤ ga ∧ Tab V0 ∧ Below w.heap.size w V0) := ⟨by omega, H.out.2.below hb0, hb0⟩
  rw [← hga]
  clear hV0 hb0 hga
  refine (ipow _).mono ?_
  rintro e v ⟨rfl, rfl⟩
  go_wp2_with fail
  refine (tz16 HA.out.2.1).mono ?_
  rintro e v1 ⟨rfl, rfl⟩
  go_wp2_with fail
  go_loopg [1, 13] x (fun gk uv iv wr => ∃ (t : Nat) (S : List UInt8) (f : Nat → Nat), uv = U gk ∧ iv = .int .i64 ((65 - t : Nat) : Int) ∧ t ≤ 15 ∧ gk < 16 ^ (16 - t) ∧ hexL 16 x = hexL (16 - t) gk ++ S ∧ S.length = t ∧ By wr ga 65 f ∧ (∀ j, j < t → (S.getD j 0).toNat = f (65 - t + j)) ∧ Below w.heap.size w wr)
  case atStart => exact ⟨0, [], _, rfl, rfl, by omega, H.out.1, (List.append_nil _).symm, rfl, Y0.out, fun j hj => absurd hj (Nat.not_lt_zero _), HA.out.2.2⟩
  case round =>
    obtain ⟨t, S, f, rfl, rfl, ht, hg, hx, hS, hY, hf, hbw⟩ := hrel
    have HR : Hid (t ≤ 15 ∧ gk < 16 ^ (16 - t) ∧ hexL 16 x = hexL (16 - t) gk ++ S ∧ S.length = t ∧ By wr ga 65 f ∧ (∀ j, j < t → (S.getD j 0).toNat = f (65 - t + j)) ∧ Below w.heap.size w wr) := ⟨ht, hg, hx, hS, hY, hf, hbw⟩
    obtain ⟨i, hi⟩ : ∃ i, i = 64 - t := ⟨_, rfl⟩
    have hi1 : 65 - t = i + 1 := by omega
    rw [hi1]
    have hi2 : i ≤ 64 := by omega
    have hi3 : 49 ≤ i := by omega
    have HI : Hid (i = 64 - t ∧ t = 64 - i) := ⟨hi, by omega⟩
    have hgB : gk < 18446744073709551616 := Nat.lt_of_lt_of_le hg (Nat.le_trans (Nat.pow_le_pow_right (by decide) (by omega : 16 - t ≤ 16)) (by decide))
    have hci := hY.cell i (by omega)
    have hfi := hY.frz i (by omega)
    clear hi hi1 ht hg hx hS hY hf hbw
    rcases Nat.lt_or_ge gk 16 with h16 | h16
    · have hd0 : decide ((16 : Int) ≤ (gk : Int)) = false := decide_eq_false (by omega)
      go_wp2_with fail
      rw [dig36 gk _ h16]
      have HL : Hid (hexL 16 x = UInt8.ofNat (hxc gk) :: S) := by obtain ⟨m, hm⟩ : ∃ m, 16 - t = m + 1 := ⟨15 - t, by have := HR.out.1; omega⟩; have h := HR.out.2.2.1; rw [hm] at h; rw [h]; show (if gk < 16 then _ else _) ++ S = _; rw [if_pos h16]; rfl
      have HT2 : Hid ((UInt8.ofNat (hxc gk)).toNat = hxc gk) := hxc_to h16
      obtain ⟨c, hc⟩ : ∃ c, c = hxc gk := ⟨_, rfl⟩
      rw [← hc]
      have Y2 : Hid (By (wr.setCell ⟨ga, i, none⟩ (.int .u8 (c : Int))) ga 65 (fun j => if j = i then c else f j)) := HR.out.2.2.2.2.1.set i c (by omega)
      have HB2 : Hid (Below w.heap.size w (wr.setCell ⟨ga, i, none⟩ (.int .u8 (c : Int)))) := bSet HR.out.2.2.2.2.2.2 _ _ _ HA.out.1
      generalize wr.setCell ⟨ga, i, none⟩ (.int .u8 (c : Int)) = V2 at *
      have hlen : (hexL 16 x).length = 65 - i := by rw [HL.out, List.length_cons, HR.out.2.2.2.1, HI.out.2]; omega
      have hcv := by_conv (w := V2) (g := ga) (n := 65) (i := i) (f := fun j => if j = i then c else f j) (l := hexL 16 x) (65 - i) Y2.out (by omega) (by intro j hj; rw [HL.out]; cases j with | zero => (show (UInt8.ofNat (hxc gk)).toNat = if i + 0 = i then c else _; rw [if_pos (Nat.add_zero i), HT2.out, hc]) | succ j => (show (S.getD j 0).toNat = if i + (j + 1) = i then c else f (i + (j + 1)); rw [if_neg (by omega), HR.out.2.2.2.2.2.1 j (by have := HI.out.2; omega)]; congr 1; have := HI.out.2; omega))
      rw [hlen] at hcv
      have hal : Program.arrayLen Tryz.prog 210 = 65 := by simp [Program.arrayLen, Tryz.underlying210]
      have hsl : ∀ W, (Instr.sliceAt 210 (.pointer (some ⟨ga, 0, none⟩)) (some (.int .i64 (i : Int))) none none).run Tryz.prog W = .ok (.slice (some ⟨ga, i, none⟩) (65 - i) (65 - i)) W := fun W => by rw [run_sliceAt_array_l W 210 ⟨ga, 0, none⟩ (by simp [Program.arrayLen, Program.elem, Tryz.underlying210]) .i64 (i : Int) (by omega) (by rw [hal]; omega)]; have hne : ¬ 65 = i := (by omega); go_simp
      clear hal hc hd0 h16 hci hfi hgB
      rw [hsl V2]
      go_simp
      go_wp2_with fail
      go_ret2
      exact ⟨rfl, HB2.out⟩
    · have hd0 : decide ((16 : Int) ≤ (gk : Int)) = true := decide_eq_true (by omega)
      have hand := and15 gk hgB
      obtain ⟨d, hd⟩ : ∃ d, d = gk % 16 := ⟨_, rfl⟩
      have hd16 : d < 16 := by omega
      rw [← hd] at hand
      have h36 : (d : Int) < 36 := by omega
      have HD : Hid (d = gk % 16 ∧ 16 ≤ gk) := ⟨hd, h16⟩
      clear hd
      go_wp2_with fail
      rw [dig36 d _ hd16]
      obtain ⟨m, hm⟩ : ∃ m, 16 - t = m + 1 := ⟨15 - t, by have := HR.out.1; omega⟩
      have ht14 : t ≤ 14 := by refine Nat.le_of_not_lt fun h => ?_; have h1 := HR.out.1; have h2 := HR.out.2.1; rw [show 16 - t = 1 by omega] at h2; have := HD.out.2; omega
      have hstep : hexL (16 - t) gk = hexL (16 - (t + 1)) (gk / 16) ++ [UInt8.ofNat (hxc d)] := by rw [show 16 - (t + 1) = m by omega, hm, HD.out.1]; show (if gk < 16 then _ else _) = _; rw [if_neg (by have := HD.out.2; omega)]
      have hlt2 : gk / 16 < 16 ^ (16 - (t + 1)) := by have h2 := HR.out.2.1; rw [hm, Nat.pow_succ] at h2; rw [show 16 - (t + 1) = m by omega]; omega
      have HT2 : Hid ((UInt8.ofNat (hxc d)).toNat = hxc d) := hxc_to hd16
      go_roundg (gk / 16)
      case measure => have := HD.out.2; omega
      case rel =>
        refine ⟨t + 1, UInt8.ofNat (hxc d) :: S, fun j => if j = i then hxc d else f j, congrArg (Value.int IntKind.u64) (by omega), congrArg (Value.int IntKind.i64) (by have := HI.out; omega), by omega, hlt2, by rw [HR.out.2.2.1, hstep, List.append_assoc]; rfl, by rw [List.length_cons, HR.out.2.2.2.1], HR.out.2.2.2.2.1.set i (hxc d) (by omega), ?_, bSet HR.out.2.2.2.2.2.2 _ _ _ HA.out.1⟩
        intro j hj
        have hit := HI.out
        cases j with
        | zero => (show (UInt8.ofNat (hxc d)).toNat = if 65 - (t + 1) + 0 = i then hxc d else _; rw [if_pos (by omega), HT2.out])
        | succ j => (show (S.getD j 0).toNat = if 65 - (t + 1) + (j + 1) = i then hxc d else f (65 - (t + 1) + (j + 1)); rw [if_neg (by omega), HR.out.2.2.2.2.2.1 j (by omega)]; congr 1; omega)
theorem fmt16i {x : Nat} {w : World} (hx : x < B64) (hT : Tab w) :
    Calls Tryz.prog 107 #[U x, .int .i64 16] w fun en w' => en = .returned (.string (bs (hexL 16 x))) ∧ Below w.heap.size w w' := by
  have H : Hid (x < B64 ∧ Tab w) := ⟨hx, hT⟩
  clear hx hT
  go_enter Tryz.func107, Tryz.ntmps107
  go_wp2_with fail
  refine (fbits H.out.1 H.out.2).mono ?_
  rintro e w2 ⟨rfl, hb⟩
  go_wp2_with fail
  go_ret
  exact ⟨rfl, hb⟩
theorem fmt16 {x : Nat} {w : World} (hx : x < B64) (hT : Tab w) :
    Calls Tryz.prog 81 #[U x, .int .i64 16] w fun en w' => en = .returned (.string (bs (hexL 16 x))) ∧ Below w.heap.size w w' := by
  have H : Hid (x < B64 ∧ Tab w) := ⟨hx, hT⟩
  clear hx hT
  go_enter Tryz.func81, Tryz.ntmps81
  go_wp2_with fail
  refine (fmt16i H.out.1 H.out.2).mono ?_
  rintro e w2 ⟨rfl, hb⟩
  go_wp2_with fail
  go_ret
  exact ⟨rfl, hb⟩
def renT : Ren := ⟨fun x => match x with | 99 => 113 | 103 => 84 | 105 => 83 | 119 => 173 | 120 => 160 | 129 => 47 | 137 => 172 | 151 => 139 | 152 => 161 | 161 => 88 | 162 => 82 | 165 => 114 | 166 => 115 | 169 => 117 | 170 => 116 | 171 => 44 | 197 => 145 | 205 => 170 | 206 => 142 | 210 => 118 | 212 => 112 | 217 => 178 | 224 => 174 | 225 => 175 | 227 => 109 | 228 => 137 | 231 => 120 | 232 => 108 | 233 => 121 | 234 => 110 | 235 => 122 | 236 => 111 | 240 => 143 | 241 => 144 | 243 => 79 | 245 => 127 | 246 => 106 | 260 => 164 | 263 => 140 | 264 => 141 | 266 => 180 | 271 => 138 | 276 => 162 | 277 => 163 | 279 => 150 | 280 => 151 | 281 => 152 | 282 => 153 | 283 => 133 | 284 => 134 | 285 => 135 | 286 => 136 | 287 => 126 | 316 => 169 | 317 => 156 | 318 => 157 | 319 => 158 | 320 => 159 | 321 => 148 | 322 => 149 | 337 => 171 | 338 => 60 | n => n, fun x => match x with | 0 => 0 | 1 => 1 | 2 => 2 | 3 => 3 | 4 => 4 | 5 => 5 | 6 => 6 | 7 => 7 | 8 => 8 | 9 => 9 | 10 => 10 | 11 => 11 | 12 => 12 | 13 => 13 | 14 => 14 | 15 => 15 | 16 => 16 | 17 => 17 | 18 => 18 | 19 => 19 | 20 => 20 | 21 => 21 | 22 => 166 | 23 => 129 | 24 => 82 | 25 => 132 | 26 => 130 | 27 => 227 | 31 => 131 | 37 => 168 | 40 => 226 | 41 => 191 | 46 => 128 | 47 => 212 | 51 => 118 | 52 => 224 | 53 => 25 | 54 => 96 | 55 => 225 | 63 => 194 | 64 => 213 | 69 => 134 | 70 => 167 | 71 => 169 | 72 => 170 | 73 => 171 | 74 => 140 | 75 => 141 | 76 => 172 | 77 => 173 | 80 => 174 | 81 => 100 | 83 => 94 | 84 => 156 | 104 => 58 | 105 => 192 | 106 => 193 | 108 => 223 | 109 => 164 | 110 => 165 | 111 => 211 | 114 => 107 | 115 => 158 | 116 => 159 | 117 => 160 | 118 => 161 | 119 => 228 | 122 => 157 | 123 => 162 | 124 => 163 | 127 => 199 | 128 => 182 | 137 => 229 | 138 => 230 | 139 => 231 | 143 => 234 | 144 => 235 | 145 => 236 | 146 => 195 | 147 => 196 | 148 => 197 | 149 => 198 | 164 => 214 | 165 => 215 | 166 => 216 | 167 => 201 | 168 => 203 | 169 => 204 | 170 => 205 | 171 => 187 | 172 => 188 | 173 => 189 | 174 => 190 | 175 => 142 | 176 => 143 | 209 => 221 | 210 => 222 | 211 => 208 | 212 => 209 | 213 => 210 | 214 => 202 | 220 => 49 | 232 => 237 | 233 => 144 | 238 => 239 | 239 => 240 | 240 => 241 | 241 => 242 | 242 => 243 | 243 => 244 | 244 => 245 | 245 => 246 | 246 => 247 | 247 => 248 | 248 => 249 | 249 => 250 | n => n, fun x => match x with | 1 => 4 | 3 => 5 | 4 => 6 | 15 => 2 | 16 => 3 | 17 => 1 | 18 => 7 | 19 => 0 | n => n⟩
theorem laytn105 : Lays.n105 Tryz.prog renT :=
  { mixed := by kernel_rfl, f99 := Tryz.func113.trans (congrArg some (by kernel_rfl)), f105 := Tryz.func83.trans (congrArg some (by kernel_rfl)), f165 := Tryz.func114.trans (congrArg some (by kernel_rfl)), f166 := Tryz.func115.trans (congrArg some (by kernel_rfl)), f169 := Tryz.func117.trans (congrArg some (by kernel_rfl)), f170 := Tryz.func116.trans (congrArg some (by kernel_rfl)), f206 := Tryz.func142.trans (congrArg some (by kernel_rfl)), f212 := Tryz.func112.trans (congrArg some (by kernel_rfl)), f240 := Tryz.func143.trans (congrArg some (by kernel_rfl)), f241 := Tryz.func144.trans (congrArg some (by kernel_rfl)), f263 := Tryz.func140.trans (congrArg some (by kernel_rfl)), f264 := Tryz.func141.trans (congrArg some (by kernel_rfl)), f276 := Tryz.func162.trans (congrArg some (by kernel_rfl)), f277 := Tryz.func163.trans (congrArg some (by kernel_rfl)), t0 := Tryz.underlying0, a0 := Tryz.isAgg0, z0 := Tryz.sizeOf0, v0 := Tryz.zeroValue0, t3 := Tryz.underlying3, a3 := Tryz.isAgg3, z3 := Tryz.sizeOf3, v3 := Tryz.zeroValue3, t4 := Tryz.underlying4, a4 := Tryz.isAgg4, z4 := Tryz.sizeOf4, v4 := Tryz.zeroValue4, t5 := Tryz.underlying5, a5 := Tryz.isAgg5, z5 := Tryz.sizeOf5, v5 := Tryz.zeroValue5, t9 := Tryz.underlying9, a9 := Tryz.isAgg9, z9 := Tryz.sizeOf9, v9 := Tryz.zeroValue9, t20 := Tryz.underlying20, a20 := Tryz.isAgg20, z20 := Tryz.sizeOf20, v20 := Tryz.zeroValue20, t37 := Tryz.underlying168, a37 := Tryz.isAgg168, z37 := Tryz.sizeOf168, v37 := Tryz.zeroValue168, t46 := Tryz.underlying128, a46 := Tryz.isAgg128, z46 := Tryz.sizeOf128, v46 := Tryz.zeroValue128, t51 := Tryz.underlying118, a51 := Tryz.isAgg118, z51 := Tryz.sizeOf118, v51 := Tryz.zeroValue118, t53 := Tryz.underlying25, a53 := Tryz.isAgg25, z53 := Tryz.sizeOf25, v53 := Tryz.zeroValue25, t70 := Tryz.underlying167, a70 := Tryz.isAgg167, z70 := Tryz.sizeOf167, v70 := Tryz.zeroValue167, t72 := Tryz.underlying170, a72 := Tryz.isAgg170, z72 := Tryz.sizeOf170, v72 := Tryz.zeroValue170, t75 := Tryz.underlying141, a75 := Tryz.isAgg141, z75 := Tryz.sizeOf141, v75 := Tryz.zeroValue141, t76 := Tryz.underlying172, a76 := Tryz.isAgg172, z76 := Tryz.sizeOf172, v76 := Tryz.zeroValue172, t109 := Tryz.underlying164, a109 := Tryz.isAgg164, z109 := Tryz.sizeOf164, v109 := Tryz.zeroValue164, t127 := Tryz.underlying199, a127 := Tryz.isAgg199, z127 := Tryz.sizeOf199, v127 := Tryz.zeroValue199, t146 := Tryz.underlying195, a146 := Tryz.isAgg195, z146 := Tryz.sizeOf195, v146 := Tryz.zeroValue195, t148 := Tryz.underlying197, a148 := Tryz.isAgg197, z148 := Tryz.sizeOf197, v148 := Tryz.zeroValue197, t164 := Tryz.underlying214, a164 := Tryz.isAgg214, z164 := Tryz.sizeOf214, v164 := Tryz.zeroValue214 }
theorem laytn232 : Lays.n232 Tryz.prog renT :=
  { mixed := by kernel_rfl, f232 := Tryz.func108.trans (congrArg some (by kernel_rfl)), t3 := Tryz.underlying3, a3 := Tryz.isAgg3, z3 := Tryz.sizeOf3, v3 := Tryz.zeroValue3, t4 := Tryz.underlying4, a4 := Tryz.isAgg4, z4 := Tryz.sizeOf4, v4 := Tryz.zeroValue4, t5 := Tryz.underlying5, a5 := Tryz.isAgg5, z5 := Tryz.sizeOf5, v5 := Tryz.zeroValue5, t9 := Tryz.underlying9, a9 := Tryz.isAgg9, z9 := Tryz.sizeOf9, v9 := Tryz.zeroValue9 }
theorem laytn171 : LaysM.n171 Tryz.prog renT :=
  { mixed := by kernel_rfl, f129 := Tryz.func47.trans (congrArg some (by kernel_rfl)), f171 := Tryz.func44.trans (congrArg some (by kernel_rfl)), f243 := Tryz.func79.trans (congrArg some (by kernel_rfl)), f246 := Tryz.func106.trans (congrArg some (by kernel_rfl)), f283 := Tryz.func133.trans (congrArg some (by kernel_rfl)), f284 := Tryz.func134.trans (congrArg some (by kernel_rfl)), f285 := Tryz.func135.trans (congrArg some (by kernel_rfl)), f286 := Tryz.func136.trans (congrArg some (by kernel_rfl)), f317 := Tryz.func156.trans (congrArg some (by kernel_rfl)), f318 := Tryz.func157.trans (congrArg some (by kernel_rfl)), f319 := Tryz.func158.trans (congrArg some (by kernel_rfl)), f320 := Tryz.func159.trans (congrArg some (by kernel_rfl)), f337 := Tryz.func171.trans (congrArg some (by kernel_rfl)), f338 := Tryz.func60.trans (congrArg some (by kernel_rfl)), t0 := Tryz.underlying0, a0 := Tryz.isAgg0, z0 := Tryz.sizeOf0, v0 := Tryz.zeroValue0, t2 := Tryz.underlying2, a2 := Tryz.isAgg2, z2 := Tryz.sizeOf2, v2 := Tryz.zeroValue2, t3 := Tryz.underlying3, a3 := Tryz.isAgg3, z3 := Tryz.sizeOf3, v3 := Tryz.zeroValue3, t4 := Tryz.underlying4, a4 := Tryz.isAgg4, z4 := Tryz.sizeOf4, v4 := Tryz.zeroValue4, t5 := Tryz.underlying5, a5 := Tryz.isAgg5, z5 := Tryz.sizeOf5, v5 := Tryz.zeroValue5, t9 := Tryz.underlying9, a9 := Tryz.isAgg9, z9 := Tryz.sizeOf9, v9 := Tryz.zeroValue9, t20 := Tryz.underlying20, a20 := Tryz.isAgg20, z20 := Tryz.sizeOf20, v20 := Tryz.zeroValue20, t37 := Tryz.underlying168, a37 := Tryz.isAgg168, z37 := Tryz.sizeOf168, v37 := Tryz.zeroValue168, t46 := Tryz.underlying128, a46 := Tryz.isAgg128, z46 := Tryz.sizeOf128, v46 := Tryz.zeroValue128, t51 := Tryz.underlying118, a51 := Tryz.isAgg118, z51 := Tryz.sizeOf118, v51 := Tryz.zeroValue118, t53 := Tryz.underlying25, a53 := Tryz.isAgg25, z53 := Tryz.sizeOf25, v53 := Tryz.zeroValue25, t171 := Tryz.underlying187, a171 := Tryz.isAgg187, z171 := Tryz.sizeOf187, v171 := Tryz.zeroValue187, t173 := Tryz.underlying189, a173 := Tryz.isAgg189, z173 := Tryz.sizeOf189, v173 := Tryz.zeroValue189, t212 := Tryz.underlying209, a212 := Tryz.isAgg209, z212 := Tryz.sizeOf209, v212 := Tryz.zeroValue209, t213 := Tryz.underlying210, a213 := Tryz.isAgg210, z213 := Tryz.sizeOf210, t232 := Tryz.underlying237, a232 := Tryz.isAgg237, z232 := Tryz.sizeOf237, v232 := Tryz.zeroValue237, t233 := Tryz.underlying144, a233 := Tryz.isAgg144, z233 := Tryz.sizeOf144, v233 := Tryz.zeroValue144, g17 := by kernel_rfl, g18 := by kernel_rfl, g19 := by kernel_rfl, i0 := by kernel_rfl, i2 := by kernel_rfl, i3 := by kernel_rfl, i4 := by kernel_rfl, i5 := by kernel_rfl, i9 := by kernel_rfl, i20 := by kernel_rfl, i37 := by kernel_rfl, i46 := by kernel_rfl, i51 := by kernel_rfl, i53 := by kernel_rfl, i171 := by kernel_rfl, i173 := by kernel_rfl, i212 := by kernel_rfl, i232 := by kernel_rfl, i233 := by kernel_rfl, m17 := by kernel_rfl, m18 := by kernel_rfl, m19 := by kernel_rfl }
theorem laytX : Builder.Extra Tryz.prog renT :=
  { sizeBuilder := by kernel_rfl, liesBuilder := by kernel_rfl, t5 := Tryz.underlying5, a5 := Tryz.isAgg5, z5 := Tryz.sizeOf5, v5 := Tryz.zeroValue5, infoByte := by kernel_rfl, cellsByte := by kernel_rfl, sizeByte := by kernel_rfl, neB5 := by decide }
end Go.Proofs.YtglkjbkpgfencaaGreatDoor
