import Derived.Test.YtfofoookdlaipaaGreatDoorJ23
import Derived.Test.YtfofoookdlaipaaGreatDoorBb5
import Derived.Test.YtfofoookdlaipaaGreatDoorJ21
import Derived.Test.YtfofoookdlaipaaGreatDoorJ16
import Derived.Test.YtfofoookdlaipaaGreatDoorJ15
import Derived.Test.YtfofoookdlaipaaGreatDoorJ10
import Derived.Test.YtfofoookdlaipaaGreatDoorJ8
import Derived.Test.YtfofoookdlaipaaGreatDoorJ14
import Derived.Laws.EntriesVeiled
namespace Go.Proofs.YtfofoookdlaipaaGreatDoor
open Go.RowKit Go.Shelf

theorem rd_size (up : Bool) {z : Int} {b n : Nat} (hb : z.natAbs < 2 ^ b) : (rd up z (2 ^ n)).natAbs ≤ 2 ^ (b - n) := by
  have h1 : z.natAbs < 2 ^ (b - n) * 2 ^ n := by
    rw [← Nat.pow_add]
    exact Nat.lt_of_lt_of_le hb (Nat.pow_le_pow_right (by omega) (by omega))
  have hd : 0 < 2 ^ n := Nat.pow_pos (by omega)
  generalize hD : 2 ^ n = d at *
  generalize hP : 2 ^ (b - n) = P at *
  have h3 : z < (P : Int) * d ∧ -((P : Int) * d) < z := by
    have : ((P * d : Nat) : Int) = (P : Int) * d := Int.natCast_mul _ _
    omega
  cases up
  · have h4 := rd_down z hd
    generalize rd false z d = F at *
    have h6 := Int.lt_of_mul_lt_mul_right (show F * d < P * d by omega) (by omega)
    have h8 := Int.lt_of_mul_lt_mul_right (show (-(P : Int)) * d < (F + 1) * d by rw [Int.neg_mul]; omega) (by omega)
    omega
  · have h4 := rd_up z hd
    generalize rd true z d = F at *
    have h6 := Int.lt_of_mul_lt_mul_right (show (F - 1) * d < P * d by omega) (by omega)
    have h8 := Int.lt_of_mul_lt_mul_right (show (-(P : Int)) * d < F * d by rw [Int.neg_mul]; omega) (by omega)
    omega
theorem odd_bits {z : Int} {P : Nat} (hz : z % 2 = 1) (hP : 1 ≤ P) (h : z.natAbs ≤ 2 ^ P) : bitsN z.natAbs ≤ P := by
  have h1 : z.natAbs ≠ 2 ^ P := by
    intro h9
    obtain ⟨q, rfl⟩ : ∃ q, P = q + 1 := ⟨P - 1, by omega⟩
    rw [Nat.pow_succ] at h9
    omega
  have h2 := bitsN_le z.natAbs (by omega)
  have h3 := (Nat.pow_lt_pow_iff_right (by omega : 1 < 2)).1 (Nat.lt_of_le_of_lt h2 (show z.natAbs < 2 ^ P by omega))
  omega
theorem dv_lt {x y : Int} (e : Int) (h : x < y) : dv x e < dv y e := by
  have h1 : (0 : Int) < ((2 ^ (e + 4194304).toNat : Nat) : Int) := by have := Nat.pow_pos (n := (e + 4194304).toNat) (show 0 < 2 by omega); omega
  exact Int.mul_lt_mul_of_pos_right h h1
theorem form_len {z e F g h : Int} (hv : dv z e = dv F g) (h1 : g ≤ h) (h2 : h ≤ e) (hg : -4194304 ≤ g) : (z * 2 ^ (e - h).toNat).natAbs ≤ F.natAbs := by
  rw [dv_shift (show g ≤ e by omega) hg] at hv
  unfold dv at hv
  have h3 := Int.eq_of_mul_eq_mul_right (pow_pos_int _) hv
  rw [← h3, pow_cast, Int.natAbs_mul, Int.natAbs_mul, Int.natAbs_natCast, Int.natAbs_natCast]
  exact Nat.mul_le_mul_left _ (Nat.pow_le_pow_right (by omega) (by omega))
theorem lim_two {P : Nat} (hP : P ≤ 524287) {n : Nat} (h : n ≤ 2 ^ P) : n < LIM := by
  have h1 : 2 ^ P < 2 ^ (P + 1) := Nat.pow_lt_pow_right (by omega) (by omega)
  exact lt_LIM (L := P + 1) (by omega) (by omega)
theorem gap_len {zl el zh eh F C g : Int} {P : Nat} (hl : dv zl el = dv F g) (hh : dv zh eh = dv C g) (hF : F.natAbs ≤ 2 ^ P) (hC : C.natAbs ≤ 2 ^ P) (h1 : g ≤ el) (h2 : g ≤ eh) (hg : -4194304 ≤ g) (hP : P ≤ 90000) :
    (zh * 2 ^ (eh - min eh el).toNat).natAbs < LIM ∧ (zl * 2 ^ (el - min eh el).toNat).natAbs < LIM ∧ (zh * 2 ^ (eh - min eh el).toNat - zl * 2 ^ (el - min eh el).toNat).natAbs < LIM := by
  have a1 := form_len hh (show g ≤ min eh el by omega) (by omega) hg
  have a2 := form_len hl (show g ≤ min eh el by omega) (by omega) hg
  generalize zh * 2 ^ (eh - min eh el).toNat = X at *
  generalize zl * 2 ^ (el - min eh el).toNat = Y at *
  have h3 : (2 : Nat) ^ (P + 1) = 2 * 2 ^ P := by rw [Nat.pow_succ]; omega
  exact ⟨lim_two (P := P) (by omega) (by omega), lim_two (P := P) (by omega) (by omega), lim_two (P := P + 1) (by omega) (by omega)⟩
end Go.Proofs.YtfofoookdlaipaaGreatDoor

namespace Go.Proofs.YtfofoookdlaipaaGreatDoor
open Go.RowKit Go.Shelf

end Go.Proofs.YtfofoookdlaipaaGreatDoor

namespace Go.Proofs.YtfofoookdlaipaaGreatDoor
open Go.RowKit Go.Shelf

def neN (a d : Nat) : Nat := a / d + (neUp a d).toNat
theorem neN_mul (a d c : Nat) (hc : 0 < c) : neN (a * c) (d * c) = neN a d := by
  have h1 : a * c / (d * c) = a / d := Nat.mul_div_mul_right _ _ hc
  have h2 : a * c % (d * c) = a % d * c := Nat.mul_mod_mul_right _ _ _
  have h3 : decide (d * c < 2 * (a % d * c)) = decide (d < 2 * (a % d)) := by
    rw [← Nat.mul_assoc]
    exact decide_eq_decide.2 (Nat.mul_lt_mul_right hc)
  have h4 : decide (2 * (a % d * c) = d * c) = decide (2 * (a % d) = d) := by
    rw [← Nat.mul_assoc]
    exact decide_eq_decide.2 (Nat.mul_right_cancel_iff hc)
  unfold neN neUp
  rw [h1, h2, h3, h4]
theorem neN_ex (a d : Nat) (hd : 0 < d) : neN (a * d) d = a := by
  unfold neN neUp
  rw [Nat.mul_div_cancel _ hd, Nat.mul_mod_left]
  have h1 : decide (d < 2 * 0) = false := decide_eq_false (by omega)
  have h2 : decide (2 * 0 = d) = false := decide_eq_false (by omega)
  rw [h1, h2]
  rfl
def hv (H z : Nat) : Nat := 2 * vs H z + 2 ^ (z / H - 1)
theorem hv_gt (H z : Nat) : 2 * vs H z < hv H z := by
  unfold hv
  have : 0 < 2 ^ (z / H - 1) := Nat.pow_pos (by omega)
  omega
theorem hv_lt {H : Nat} (hH : 0 < H) (z : Nat) : hv H z < 2 * vs H (z + 1) := by
  have : 0 < 2 ^ (z / H - 1) := Nat.pow_pos (by omega)
  rw [vs_next hH]
  unfold hv
  omega
theorem vs_le {H : Nat} (hH : 0 < H) {s t : Nat} (h : s ≤ t) : vs H s ≤ vs H t := by
  rcases Nat.lt_or_eq_of_le h with h1 | h1
  · exact Nat.le_of_lt (vs_mono hH h1)
  · rw [h1]; exact Nat.le_refl _
structure RNz (H : Nat) (l : Int) (I : Nat) (A : Int) (Z : Nat) : Prop where
  le : Z ≤ I
  lo : ∀ z, z < I → A < dv (hv H z : Int) (l - 1) → Z ≤ z
  hi : ∀ z, z < I → dv (hv H z : Int) (l - 1) < A → z < Z
  eq : ∀ z, z < I → A = dv (hv H z : Int) (l - 1) → (Z = z ∨ Z = z + 1) ∧ Z % 2 = 0
theorem RNz.mono {H : Nat} {l : Int} {I : Nat} {A B : Int} {Z Y : Nat} (h : RNz H l I A Z) (k : RNz H l I B Y) (hAB : A ≤ B) : Z ≤ Y := by
  refine Nat.le_of_not_lt fun hlt => ?_
  have hY : Y < I := Nat.lt_of_lt_of_le hlt h.le
  have hz : ∀ x : Int, x = dv (hv H Y : Int) (l - 1) → False := fun x hx => by
    rcases Int.lt_trichotomy B x with h1 | h1 | h1
    · have := h.lo Y hY (by omega); omega
    · have h2 := k.eq Y hY (by omega)
      rcases Int.lt_or_eq_of_le hAB with h3 | h3
      · have := h.lo Y hY (by omega); omega
      · have h4 := h.eq Y hY (by omega)
        omega
    · have := k.hi Y hY (by omega); omega
  exact hz _ rfl
theorem RNz.uniq {H : Nat} {l : Int} {I : Nat} {A : Int} {Z Y : Nat} (h : RNz H l I A Z) (k : RNz H l I A Y) : Z = Y :=
  Nat.le_antisymm (h.mono k (Int.le_refl _)) (k.mono h (Int.le_refl _))
def rnz (l : Int) (sd : Nat) (Be : Int) (I m : Nat) (e : Int) : Nat :=
  if Be ≤ e + bitsN m - 1 then I
  else ((max (e + bitsN m - 1 - sd) l - l).toNat) * 2 ^ sd +
    (if e < max (e + bitsN m - 1 - sd) l then neN m (2 ^ (max (e + bitsN m - 1 - sd) l - e).toNat) else m * 2 ^ (e - max (e + bitsN m - 1 - sd) l).toNat)
theorem dv_lt_iff {x y : Int} (e : Int) : dv x e < dv y e ↔ x < y := by
  refine ⟨fun h => ?_, dv_lt e⟩
  rcases Int.lt_or_le x y with h1 | h1
  · exact h1
  · have := dv_le e h1; omega
theorem nat_pow_split {a b c : Nat} (h : a + b = c) : 2 ^ a * 2 ^ b = 2 ^ c := by rw [← Nat.pow_add, h]
theorem rnz_ok {l : Int} {sd : Nat} {Be : Int} {I m : Nat} {e : Int} (hI : (I : Int) = (Be - l - sd + 1) * ((2 ^ sd : Nat) : Int)) (hsd : 1 ≤ sd) (hBe : 0 < Be - l - sd) (hl : -4194303 ≤ l) (hm : m ≠ 0) (he : -4194304 ≤ e) :
    RNz (2 ^ sd) l I (dv m e) (rnz l sd Be I m e) := by
  obtain ⟨H, hH⟩ : ∃ H, H = 2 ^ sd := ⟨_, rfl⟩
  have hHp : 0 < H := by rw [hH]; exact Nat.pow_pos (by omega)
  have hH2 : H % 2 = 0 := by
    obtain ⟨k, rfl⟩ : ∃ k, sd = k + 1 := ⟨sd - 1, by omega⟩
    rw [hH, Nat.pow_succ]; omega
  obtain ⟨t, ht⟩ : ∃ t : Int, t = min e (l - 1) := ⟨_, rfl⟩
  have hB1 := bitsN_lt m
  have hB2 := bitsN_le m hm
  have hB0 : 1 ≤ bitsN m := by unfold bitsN; rw [if_neg hm]; omega
  obtain ⟨L, hL⟩ : ∃ L, L = bitsN m := ⟨_, rfl⟩
  obtain ⟨A, hA⟩ : ∃ A, A = m * 2 ^ (e - t).toNat := ⟨_, rfl⟩
  obtain ⟨K, hK⟩ : ∃ K, K = 2 ^ (l - 1 - t).toNat := ⟨_, rfl⟩
  have hKp : 0 < K := by rw [hK]; exact Nat.pow_pos (by omega)
  have eA : dv m e = dv (A : Int) t := by
    have := dv_shift (z := (m : Int)) (e := e) (f := t) (by omega) (by omega)
    rw [this, hA, Int.natCast_mul]
  have eM : ∀ z : Nat, dv (hv H z : Int) (l - 1) = dv ((hv H z * K : Nat) : Int) t := fun z => by
    have := dv_shift (z := (hv H z : Int)) (e := l - 1) (f := t) (by omega) (by omega)
    rw [this, hK, Int.natCast_mul]
  have key : ∀ Z : Nat, Z ≤ I → (∀ z, z < I → (A < hv H z * K → Z ≤ z) ∧ (hv H z * K < A → z < Z) ∧ (A = hv H z * K → (Z = z ∨ Z = z + 1) ∧ Z % 2 = 0)) → RNz H l I (dv m e) Z := fun Z h1 h2 =>
    ⟨h1, fun z hz h => (h2 z hz).1 (by rw [eA, eM, dv_lt_iff] at h; omega), fun z hz h => (h2 z hz).2.1 (by rw [eA, eM, dv_lt_iff] at h; omega), fun z hz h => (h2 z hz).2.2 (by
      rw [eA, eM] at h
      rcases Nat.lt_trichotomy A (hv H z * K) with h3 | h3 | h3
      · have := dv_lt t (Int.ofNat_lt.2 h3); omega
      · exact h3
      · have := dv_lt t (Int.ofNat_lt.2 h3); omega)⟩
  obtain ⟨N, hN⟩ : ∃ N : Nat, (N : Int) = Be - l - sd := ⟨(Be - l - sd).toNat, by omega⟩
  have hIN : I = (N + 1) * H := by
    rw [← hN, ← hH] at hI
    exact Int.ofNat.inj (by rw [Int.ofNat_eq_natCast, hI, Int.ofNat_eq_natCast, Int.natCast_mul]; rfl)
  rw [← hH]
  unfold rnz
  rw [← hL, ← hH]
  rw [← hL] at hB1 hB2 hB0
  by_cases htop : Be ≤ e + L - 1
  · rw [if_pos htop]
    refine key I (Nat.le_refl _) fun z hz => ?_
    have h1 : hv H z * K < A := by
      have h2 := hv_lt hHp z
      have h3 := vs_le hHp (show z + 1 ≤ I from hz)
      have h4 : vs H I = H * 2 ^ N := by
        unfold vs
        rw [hIN, Nat.mul_div_cancel _ hHp, Nat.add_sub_cancel, Nat.add_mul, Nat.one_mul, Nat.add_sub_cancel_left]
      have h5 : hv H z < 2 * (H * 2 ^ N) := by omega
      have h6 : hv H z * K < 2 * (H * 2 ^ N) * K := Nat.mul_lt_mul_of_pos_right h5 hKp
      have h7 : 2 * (H * 2 ^ N) * K = 2 ^ (Be - t).toNat := by
        rw [hH, hK, nat_pow_split (rfl : sd + N = sd + N), ← Nat.pow_succ', nat_pow_split rfl]
        congr 1
        omega
      have h8 : 2 ^ (Be - t).toNat ≤ A := by
        rw [hA]
        have h9 : 2 ^ (L - 1) * 2 ^ (e - t).toNat ≤ m * 2 ^ (e - t).toNat := Nat.mul_le_mul_right _ hB2
        rw [nat_pow_split rfl] at h9
        exact Nat.le_trans (Nat.pow_le_pow_right (by omega) (by omega)) h9
      omega
    exact ⟨fun h => by omega, fun _ => hz, fun h => by omega⟩
  · rw [if_neg htop]
    obtain ⟨u, hu⟩ : ∃ u : Int, u = max (e + L - 1 - sd) l := ⟨_, rfl⟩
    rw [← hu]
    obtain ⟨q, hq⟩ : ∃ q, q = (u - l).toNat := ⟨_, rfl⟩
    rw [← hq]
    obtain ⟨D, hD⟩ : ∃ D, D = 2 ^ (u - t).toNat := ⟨_, rfl⟩
    have hDp : 0 < D := by rw [hD]; exact Nat.pow_pos (by omega)
    have hDK : D = 2 * (2 ^ q * K) := by
      rw [hD, hK, nat_pow_split rfl, ← Nat.pow_succ']
      congr 1
      omega
    have hz0 : (if e < u then neN m (2 ^ (u - e).toNat) else m * 2 ^ (e - u).toNat) = neN A D := by
      by_cases heu : e < u
      · rw [if_pos heu, hA, hD, ← neN_mul m (2 ^ (u - e).toNat) (2 ^ (e - t).toNat) (Nat.pow_pos (by omega)), nat_pow_split (a := (u - e).toNat) rfl]
        congr 2
        omega
      · rw [if_neg heu, ← neN_ex (m * 2 ^ (e - u).toNat) D hDp, hA, hD, Nat.mul_assoc, nat_pow_split (a := (e - u).toNat) rfl]
        congr 3
        omega
    rw [hz0]
    obtain ⟨y, hy⟩ : ∃ y, y = A / D := ⟨_, rfl⟩
    obtain ⟨r, hr⟩ : ∃ r, r = A % D := ⟨_, rfl⟩
    have hAyr : D * y + r = A := by rw [hy, hr]; exact Nat.div_add_mod A D
    have hrD : r < D := by rw [hr]; exact Nat.mod_lt _ hDp
    have hAlt : A < 2 * H * D := by
      have h1 : A < 2 ^ L * 2 ^ (e - t).toNat := by rw [hA]; exact Nat.mul_lt_mul_of_pos_right hB1 (Nat.pow_pos (by omega))
      rw [nat_pow_split rfl] at h1
      refine Nat.lt_of_lt_of_le h1 ?_
      rw [hH, hD, ← Nat.pow_succ', nat_pow_split rfl]
      exact Nat.pow_le_pow_right (by omega) (by omega)
    have hy2 : y < 2 * H := by rw [hy]; exact Nat.div_lt_of_lt_mul (by rw [Nat.mul_comm]; exact hAlt)
    have hyH : q ≠ 0 → H ≤ y := by
      intro hq0
      rw [hy]
      refine (Nat.le_div_iff_mul_le hDp).2 ?_
      have h9 : 2 ^ (L - 1) * 2 ^ (e - t).toNat ≤ A := by rw [hA]; exact Nat.mul_le_mul_right _ hB2
      rw [nat_pow_split rfl] at h9
      refine Nat.le_trans ?_ h9
      rw [hH, hD, nat_pow_split rfl]
      exact Nat.pow_le_pow_right (by omega) (by omega)
    obtain ⟨zf, hzf⟩ : ∃ zf, zf = q * H + y := ⟨_, rfl⟩
    have hzq : zf / H - 1 = q := by
      have h1 : zf / H = q + y / H := by rw [hzf, Nat.mul_comm, Nat.mul_add_div hHp]
      rw [h1]
      have h3 : y / H < 2 := Nat.div_lt_of_lt_mul (by omega)
      by_cases hq0 : q = 0
      · omega
      · have h2 : 1 ≤ y / H := (Nat.le_div_iff_mul_le hHp).2 (by have := hyH hq0; omega)
        omega
    have hvz : vs H zf = y * 2 ^ q := by unfold vs; rw [hzq, hzf, Nat.add_sub_cancel_left]
    have hvn : vs H (zf + 1) = (y + 1) * 2 ^ q := by rw [vs_next hHp, hvz, hzq, Nat.add_mul, Nat.one_mul]
    have hqN : q < N := by omega
    have hzI : zf < I := by
      have h1 : (q + 2) * H ≤ (N + 1) * H := Nat.mul_le_mul_right _ (by omega)
      rw [Nat.add_mul] at h1
      omega
    have hDy : 2 * (y * 2 ^ q) * K = D * y := by
      rw [hDK, Nat.mul_comm y, Nat.mul_assoc, Nat.mul_assoc, Nat.mul_assoc, Nat.mul_assoc, Nat.mul_comm y K]
    have hDy1 : 2 * ((y + 1) * 2 ^ q) * K = D * y + D := by
      rw [hDK, Nat.mul_comm (y + 1), Nat.mul_assoc, Nat.mul_assoc, Nat.mul_comm (y + 1) K, ← Nat.mul_succ, Nat.mul_assoc, Nat.mul_assoc]
    have hmid : 2 * (hv H zf * K) = 2 * (D * y) + D := by
      have h1 : hv H zf = 2 * (y * 2 ^ q) + 2 ^ q := by unfold hv; rw [hvz, hzq]
      rw [h1, Nat.add_mul, hDy, Nat.mul_add, ← hDK]
    have hne : neN A D = y + (decide (D < 2 * r) || (decide (2 * r = D) && decide (y % 2 = 1))).toNat := by
      unfold neN neUp
      rw [← hy, ← hr]
    rw [hne]
    obtain ⟨b, hb⟩ : ∃ b, b = (decide (D < 2 * r) || (decide (2 * r = D) && decide (y % 2 = 1))).toNat := ⟨_, rfl⟩
    rw [← hb]
    have hb1 : b ≤ 1 := by rw [hb]; exact Bool.toNat_le _
    have hbl : 2 * r < D → b = 0 := fun h => by
      rw [hb, decide_eq_false (show ¬ D < 2 * r by omega), decide_eq_false (show ¬ 2 * r = D by omega)]; rfl
    have hbg : D < 2 * r → b = 1 := fun h => by rw [hb, decide_eq_true h]; rfl
    have hbe : 2 * r = D → b = y % 2 := fun h => by
      rw [hb, decide_eq_false (show ¬ D < 2 * r by omega), decide_eq_true h]
      rcases Nat.mod_two_eq_zero_or_one y with h1 | h1 <;> rw [h1] <;> rfl
    have hpar : (q * H + (y + b)) % 2 = (y + b) % 2 := by
      have : q * H % 2 = 0 := by rw [Nat.mul_mod, hH2]; simp
      omega
    refine key _ (by omega) fun z hz => ?_
    rcases Nat.lt_trichotomy z zf with h1 | h1 | h1
    · have h2 := hv_lt hHp z
      have h3 := vs_le hHp (show z + 1 ≤ zf from h1)
      have h4 : hv H z < 2 * (y * 2 ^ q) := by rw [← hvz]; omega
      have h5 : hv H z * K < 2 * (y * 2 ^ q) * K := Nat.mul_lt_mul_of_pos_right h4 hKp
      exact ⟨fun h => by omega, fun _ => by omega, fun h => by omega⟩
    · subst h1
      exact ⟨fun h => by have := hbl (by omega); omega, fun h => by have := hbg (by omega); omega, fun h => by have := hbe (by omega); omega⟩
    · have h2 := hv_gt H z
      have h3 := vs_le hHp (show zf + 1 ≤ z from h1)
      have h4 : 2 * ((y + 1) * 2 ^ q) < hv H z := by rw [← hvn]; omega
      have h5 : 2 * ((y + 1) * 2 ^ q) * K < hv H z * K := Nat.mul_lt_mul_of_pos_right h4 hKp
      exact ⟨fun _ => by omega, fun h => by omega, fun h => by omega⟩
theorem RNz.exact {H : Nat} {l : Int} {I Z : Nat} (hH : 0 < H) (hl : -4194303 ≤ l) (hZ : Z ≤ I) : RNz H l I (dv (vs H Z) l) Z := by
  have e1 : dv (vs H Z : Int) l = dv ((2 * vs H Z : Nat) : Int) (l - 1) := by
    have := dv_up (x := (vs H Z : Int)) (e := l - 1) 1 (by omega)
    rw [show l - 1 + ((1 : Nat) : Int) = l from by omega] at this
    rw [this, Nat.mul_comm, Int.natCast_mul]
  have low : ∀ z, z < Z → dv (hv H z : Int) (l - 1) < dv (vs H Z) l := fun z hz => by
    rw [e1]
    have h1 := hv_lt hH z
    have h2 := vs_le hH (show z + 1 ≤ Z from hz)
    exact dv_lt _ (by omega)
  have high : ∀ z, Z ≤ z → dv (vs H Z) l < dv (hv H z : Int) (l - 1) := fun z hz => by
    rw [e1]
    have h1 := hv_gt H z
    have h2 := vs_le hH hz
    exact dv_lt _ (by omega)
  refine ⟨hZ, fun z _ h => ?_, fun z _ h => ?_, fun z _ h => ?_⟩
  · refine Nat.le_of_not_lt fun h2 => ?_
    have := low z h2; omega
  · refine Nat.lt_of_not_le fun h2 => ?_
    have := high z h2; omega
  · rcases Nat.lt_or_ge z Z with h2 | h2
    · have := low z h2; omega
    · have := high z h2; omega
end Go.Proofs.YtfofoookdlaipaaGreatDoor

namespace Go.Proofs.YtfofoookdlaipaaGreatDoor
open Go.RowKit Go.Shelf

structure Jn (f p m l : Int) (S I H sd : Nat) (Be : Int) : Prop where
  jm : Jm f p m l S I H sd Be
  hI : (I : Int) = (Be - l - sd + 1) * ((2 ^ sd : Nat) : Int)
  hB : 0 < Be - l - sd
  hS : S % 2 = 0
  hB9 : Be - l - sd ≤ 2046
  cl : ∀ (b : Nat) w, b < 2 * S → Calls Tryz.prog 15 #[.int .i64 f, U b] w fun en w' => en = .returned (.tuple #[.int .i64 (clsN H I (b % S)), .int .i64 0]) ∧ Below w.heap.size w w'
theorem jn_32 : Jn 32 32 24 (-149) 2147483648 2139095040 8388608 23 128 := ⟨jm_32, by decide, by decide, by decide, by decide, fun b w hb => clsof_32 b hb w⟩
theorem jn_64 : Jn 64 64 53 (-1074) 9223372036854775808 9218868437227405312 4503599627370496 52 1024 := ⟨jm_64, by decide, by decide, by decide, by decide, fun b w hb => clsof_64 b hb w⟩
def rnp (l : Int) (sd : Nat) (Be : Int) (S I : Nat) (x e : Int) : Nat :=
  if x = 0 then 0 else if x < 0 then S + rnz l sd Be I x.natAbs e else rnz l sd Be I x.natAbs e
theorem RNz.nought {H : Nat} {l : Int} {I : Nat} (hH : 0 < H) (hl : -4194303 ≤ l) : RNz H l I 0 0 := by
  have := RNz.exact (H := H) (l := l) (I := I) (Z := 0) hH hl (Nat.zero_le _)
  rwa [vs_zero, show ((0 : Nat) : Int) = 0 from rfl, dv_zero] at this
theorem mid_dv {H : Nat} {l : Int} (z : Nat) (hl : -4194303 ≤ l) : dv ((2 * (z - (z / H - 1) * H) + 1 : Nat) : Int) (l + ((z / H - 1 : Nat) : Int) - 1) = dv (hv H z : Int) (l - 1) := by
  have h1 := dv_up (x := ((2 * (z - (z / H - 1) * H) + 1 : Nat) : Int)) (e := l - 1) (z / H - 1) (by omega)
  rw [show l - 1 + ((z / H - 1 : Nat) : Int) = l + ((z / H - 1 : Nat) : Int) - 1 from by omega] at h1
  rw [h1, ← Int.natCast_mul]
  congr 2
  unfold hv vs
  rw [Nat.add_mul, Nat.one_mul, Nat.mul_assoc]
theorem RNz.cell {H : Nat} {l : Int} {I : Nat} {A : Int} {Z : Nat} (h : RNz H l I A Z) (h0 : Z ≠ 0) (h1 : Z < I) :
    dv (hv H (Z - 1) : Int) (l - 1) ≤ A ∧ A ≤ dv (hv H Z : Int) (l - 1) ∧ (Z % 2 = 1 → dv (hv H (Z - 1) : Int) (l - 1) < A ∧ A < dv (hv H Z : Int) (l - 1)) := by
  have a1 : ¬ A < dv (hv H (Z - 1) : Int) (l - 1) := fun h2 => by have := h.lo _ (by omega) h2; omega
  have a2 : ¬ dv (hv H Z : Int) (l - 1) < A := fun h2 => by have := h.hi _ h1 h2; omega
  refine ⟨by omega, by omega, fun ho => ⟨?_, ?_⟩⟩
  · rcases Int.lt_or_eq_of_le (Int.not_lt.1 a1) with h2 | h2
    · exact h2
    · have := h.eq (Z - 1) (by omega) h2.symm; omega
  · rcases Int.lt_or_eq_of_le (Int.not_lt.1 a2) with h2 | h2
    · exact h2
    · have := h.eq Z h1 h2; omega
theorem RNz.none {H : Nat} {l : Int} {I : Nat} {A : Int} (h : RNz H l I A 0) (hI : 0 < I) : A ≤ dv (hv H 0 : Int) (l - 1) :=
  Int.not_lt.1 fun h2 => by have := h.hi 0 hI h2; omega
theorem RNz.all {H : Nat} {l : Int} {I : Nat} {A : Int} (h : RNz H l I A I) (hI : 0 < I) : dv (hv H (I - 1) : Int) (l - 1) ≤ A :=
  Int.not_lt.1 fun h2 => by have := h.lo (I - 1) (by omega) h2; omega
theorem rn_of {f p m l : Int} {S I H sd : Nat} {Be : Int} (J : Jn f p m l S I H sd Be) {n : Nat} {e : Int} (hn : n ≠ 0) (he : -4194304 ≤ e) : RNz H l I (dv n e) (rnz l sd Be I n e) := by
  have := rnz_ok J.hI J.jm.sl.1 J.hB (by have := J.jm.pm.lo; omega) hn he
  rwa [← J.jm.hs] at this
theorem rnp_is {f p m l : Int} {S I H sd : Nat} {Be : Int} (J : Jn f p m l S I H sd Be) (x e : Int) (he : -4194304 ≤ e) :
    ∃ Z, Z ≤ I ∧ RNz H l I (dv x.natAbs e) Z ∧ rnp l sd Be S I x e = (if x < 0 then S + Z else Z) ∧ rnp l sd Be S I x e < 2 * S ∧ rnp l sd Be S I x e % S = Z ∧ decide (S ≤ rnp l sd Be S I x e) = decide (x < 0) ∧ rnp l sd Be S I x e % 2 = Z % 2 := by
  have hlt := J.jm.pm.fm.lt
  have hS := J.hS
  by_cases h0 : x = 0
  · refine ⟨0, by omega, ?_, ?_⟩
    · rw [h0]
      have : dv ((0 : Int).natAbs : Int) e = 0 := dv_zero e
      rw [this]
      exact RNz.nought J.jm.pm.hp (by have := J.jm.pm.lo; omega)
    · unfold rnp
      rw [if_pos h0, if_neg (by omega)]
      exact ⟨rfl, by omega, Nat.zero_mod _, by rw [decide_eq_false (by omega), decide_eq_false (by omega)], rfl⟩
  · have hR := rn_of J (n := x.natAbs) (e := e) (by omega) he
    obtain ⟨Z, hZ⟩ : ∃ Z, Z = rnz l sd Be I x.natAbs e := ⟨_, rfl⟩
    rw [← hZ] at hR
    refine ⟨Z, hR.le, hR, ?_⟩
    unfold rnp
    rw [if_neg h0, ← hZ]
    have hle := hR.le
    by_cases hx : x < 0
    · rw [if_pos hx]
      refine ⟨rfl, by omega, ?_, ?_, by omega⟩
      · rw [Nat.add_mod_left, Nat.mod_eq_of_lt (by omega)]
      · rw [decide_eq_true hx, decide_eq_true (by omega)]
    · rw [if_neg hx]
      refine ⟨rfl, by omega, Nat.mod_eq_of_lt (by omega), ?_, rfl⟩
      rw [decide_eq_false hx, decide_eq_false (by omega)]
end Go.Proofs.YtfofoookdlaipaaGreatDoor

namespace Go.Proofs.YtfofoookdlaipaaGreatDoor
open Go.RowKit Go.Shelf

theorem Own.word {B : Nat} {w : World} {p : Option Addr} {m y : Nat} {zs : List Nat} (ho : Own B w p m zs) (hn : Nf B64 zs y) (hy : y < B64) :
    (y = 0 ∧ m = 0) ∨ (y ≠ 0 ∧ m = 1 ∧ ∃ g, p = some ⟨g, 0, none⟩ ∧ B ≤ g ∧ w.cell? ⟨g, 0, none⟩ = some (U y)) := by
  have hl := ho.len
  have h1 : zs.length ≤ 1 := (hn.len_le B64_one (k := 1)).2 (by rw [Nat.pow_one]; exact hy)
  rcases Nat.eq_zero_or_pos m with h0 | h0
  · left
    rw [h0] at hl
    have := hn.val
    rw [List.eq_nil_of_length_eq_zero hl] at this
    exact ⟨this.symm, h0⟩
  · right
    have hm1 : m = 1 := by omega
    subst hm1
    obtain ⟨a, rfl⟩ : ∃ a, zs = [a] := List.length_eq_one_iff.1 hl
    have hv : a = y := by have := hn.val; simpa [valB] using this
    obtain ⟨g, hp, hB, hc⟩ := ho.mem.resolve_left (by omega)
    refine ⟨?_, rfl, g, hp, hB, ?_⟩
    · intro h9
      have h8 : ([a] : List Nat) = [] := hn.inj B64_one (by rw [h9]; exact Nf.nil _)
      cases h8
    · have := hc.cell 0 (by omega)
      rw [Nat.add_zero] at this
      rw [this]
      simp [hv]
set_option maxRecDepth 20000 in
set_option maxHeartbeats 8000000 in
theorem multiple_n {p : Option Addr} {m c : Nat} {w : World} {x : Int} {s : Bool} (h : ZN w s p m c x) (k r : Nat) (n : Int) (hn : n = -(k : Int)) (hk : 0 < k ∧ k ≤ 4611686018427387904) (hr : r = neN x.natAbs (2 ^ k)) (hl : r < B64) (hT : Tab w) :
    Calls Tryz.prog 84 #[ZV s p m c, .int .i64 n] w fun en w' => en = .returned (U r) ∧ Below w.heap.size w w' := by
  have H : Hid (ZN w s p m c x) := h
  have HV : Hid (r < B64 ∧ r = neN x.natAbs (2 ^ k) ∧ k ≤ 9223372036854775807) := ⟨hl, hr, by omega⟩
  have TB : Hid (Tab w) := hT
  have d1 : decide (n < 0) = true := decide_eq_true (by omega)
  have d2 : wrap64 (-n) = (k : Int) := by rw [hn]; simp only [wrap64]; omega
  have d3 : IntKind.i64.wrap (-n) = (k : Int) := by rw [hn]; simp [IntKind.wrap, IntKind.signed, IntKind.bits]; omega
  clear h hr hl hT hn hk
  go_enter Tryz.func84, Tryz.ntmps84
  go_wp2_with fail
  obtain ⟨W0, hW0⟩ : ∃ W0, W0 = (w.alloc (.cells #[.bool s, .slice p m c] 32)) := ⟨_, rfl⟩
  have Xm : Hid (Box W0 (w.heap.size) (.bool s) (.slice p m c)) := by rw [hW0]; exact ⟨by go_simp, by go_simp, by go_simp, by go_simp⟩
  have hb0 : Below w.heap.size w W0 := by rw [hW0]; exact below1 w _
  rw [← hW0]
  clear hW0
  have hbw : Below w.heap.size w w := Below.refl _ _
  obtain ⟨gm, hgm⟩ : ∃ g, g = w.heap.size := ⟨_, rfl⟩
  have HGm : Hid (w.heap.size ≤ gm) := by rw [hgm]; show _ ≤ _; omega
  rw [← hgm] at Xm
  try rw [← hgm]
  clear hgm
  replace hbw := Below.on hbw hb0
  clear hb0
  have HL : Hid (gm < W0.heap.size) := Xm.out.lt
  obtain ⟨xs, hX⟩ := (H.out.below hbw).ex
  refine (rshr_any s hX H.out.pos k HV.out.2.2 (TB.out.below hbw)).mono ?_
  rintro e2 v1 ⟨v, rfl, hv, hb1⟩
  obtain ⟨p1, m1, z1, rfl, ho1, hn1, hm1⟩ := hv
  rw [show (ne s x.natAbs (2 ^ k)).natAbs = r from by rw [HV.out.2.1]; exact iv_natAbs _ _] at hn1
  generalize decide (ne s x.natAbs (2 ^ k) < 0) = s1
  clear hX
  replace Xm : Hid _ := Xm.out.below hb1
  replace hbw := Below.on hbw hb1
  clear hb1
  have HO : Hid (Own W0.heap.size v1 p1 m1 z1) := ho1
  have HN : Hid (Nf B64 z1 r ∧ m1 ≤ 8192) := ⟨hn1, hm1⟩
  clear ho1 hn1 hm1
  rcases HO.out.word HN.out.1 HV.out.1 with ⟨h0, h1⟩ | ⟨h0, h1, g1, h2, hg1, h3⟩
  · subst h1
    have hr0 : r = 0 := h0
    clear HV
    subst hr0
    obtain ⟨cm0, cm1, fm0, fm1⟩ := Xm.out
    have hnem := Xm.out.lt
    go_wp2_with fail
    go_ret
    exact ⟨rfl, bSet (bSet hbw _ _ _ HGm.out) _ _ _ HGm.out⟩
  · subst h1
    subst h2
    have hgm : gm ≠ g1 := by have := HL.out; omega
    have hgm2 : g1 ≠ gm := fun h => hgm h.symm
    have hg2 : g1 < v1.heap.size := World.block_lt_of_cell? v1 _ h3
    obtain ⟨cm0, cm1, fm0, fm1⟩ := Xm.out
    have hnem := Xm.out.lt
    go_wp2_with fail
    go_ret
    exact ⟨rfl, bSet (bSet hbw _ _ _ HGm.out) _ _ _ HGm.out⟩
set_option maxRecDepth 20000 in
set_option maxHeartbeats 8000000 in
theorem multiple_p {p : Option Addr} {m c : Nat} {w : World} {x : Int} {s : Bool} (h : ZN w s p m c x) (k r : Nat) (n : Int) (hn : n = (k : Int)) (hk : k ≤ 4611686018427387904) (hr : r = x.natAbs * 2 ^ k) (hl : r < B64) :
    Calls Tryz.prog 84 #[ZV s p m c, .int .i64 n] w fun en w' => en = .returned (U r) ∧ Below w.heap.size w w' := by
  have H : Hid (ZN w s p m c x) := h
  have HV : Hid (r < B64 ∧ r = x.natAbs * 2 ^ k ∧ k ≤ 9223372036854775807) := ⟨hl, hr, by omega⟩
  have d1 : decide (n < 0) = false := decide_eq_false (by omega)
  subst hn
  clear h hr hl hk
  go_enter Tryz.func84, Tryz.ntmps84
  go_wp2_with fail
  obtain ⟨W0, hW0⟩ : ∃ W0, W0 = (w.alloc (.cells #[.bool s, .slice p m c] 32)) := ⟨_, rfl⟩
  have Xm : Hid (Box W0 (w.heap.size) (.bool s) (.slice p m c)) := by rw [hW0]; exact ⟨by go_simp, by go_simp, by go_simp, by go_simp⟩
  have hb0 : Below w.heap.size w W0 := by rw [hW0]; exact below1 w _
  rw [← hW0]
  clear hW0
  have hbw : Below w.heap.size w w := Below.refl _ _
  obtain ⟨gm, hgm⟩ : ∃ g, g = w.heap.size := ⟨_, rfl⟩
  have HGm : Hid (w.heap.size ≤ gm) := by rw [hgm]; show _ ≤ _; omega
  rw [← hgm] at Xm
  try rw [← hgm]
  clear hgm
  replace hbw := Below.on hbw hb0
  clear hb0
  have HL : Hid (gm < W0.heap.size) := Xm.out.lt
  obtain ⟨xs, hX⟩ := (H.out.below hbw).ex
  refine (nshl_any s hX H.out.pos k HV.out.2.2).mono ?_
  rintro e2 v1 ⟨ha, hb1⟩
  obtain ⟨p1, m1, z1, rfl, ho1, hn1, hm1⟩ := ha.ok (lt_LIM (L := 64) (by rw [iv_natAbs, Nat.mul_comm, ← HV.out.2.1]; exact HV.out.1) (by decide))
  clear ha
  rw [show (iv s (2 ^ k * x.natAbs)).natAbs = r from by rw [iv_natAbs, HV.out.2.1, Nat.mul_comm]] at hn1
  generalize decide (iv s (2 ^ k * x.natAbs) < 0) = s1
  clear hX
  replace Xm : Hid _ := Xm.out.below hb1
  replace hbw := Below.on hbw hb1
  clear hb1
  have HO : Hid (Own W0.heap.size v1 p1 m1 z1) := ho1
  have HN : Hid (Nf B64 z1 r ∧ m1 ≤ 8192) := ⟨hn1, hm1⟩
  clear ho1 hn1 hm1
  rcases HO.out.word HN.out.1 HV.out.1 with ⟨h0, h1⟩ | ⟨h0, h1, g1, h2, hg1, h3⟩
  · subst h1
    have hr0 : r = 0 := h0
    clear HV
    subst hr0
    obtain ⟨cm0, cm1, fm0, fm1⟩ := Xm.out
    have hnem := Xm.out.lt
    go_wp2_with fail
    go_ret
    exact ⟨rfl, bSet (bSet hbw _ _ _ HGm.out) _ _ _ HGm.out⟩
  · subst h1
    subst h2
    have hgm : gm ≠ g1 := by have := HL.out; omega
    have hgm2 : g1 ≠ gm := fun h => hgm h.symm
    have hg2 : g1 < v1.heap.size := World.block_lt_of_cell? v1 _ h3
    obtain ⟨cm0, cm1, fm0, fm1⟩ := Xm.out
    have hnem := Xm.out.lt
    go_wp2_with fail
    go_ret
    exact ⟨rfl, bSet (bSet hbw _ _ _ HGm.out) _ _ _ HGm.out⟩
end Go.Proofs.YtfofoookdlaipaaGreatDoor

namespace Go.Proofs.YtfofoookdlaipaaGreatDoor
open Go.RowKit Go.Shelf

set_option maxRecDepth 20000 in
set_option maxHeartbeats 8000000 in
theorem nearest_z {f p m l : Int} {S I H sd : Nat} {Be : Int} (_J : Jn f p m l S I H sd Be) {q : Option Addr} {n c : Nat} {w : World} {x e : Int} {s : Bool} (h : ZN w s q n c x) (h0 : x = 0) :
    Calls Tryz.prog 39 #[WV p m l, ZV s q n c, .int .i64 e] w fun en w' => en = .returned (U (rnp l sd Be S I x e)) ∧ Below w.heap.size w w' := by
  have HZN : Hid (ZN w s q n c x) := h
  have h1 : rnp l sd Be S I x e = 0 := by unfold rnp; rw [if_pos h0]
  have HS : Hid (sgnI x = 0) := by rw [h0]; rfl
  rw [h1]
  clear _J h h0 h1
  go_enter Tryz.func39, Tryz.ntmps39
  go_wp2_with fail
  obtain ⟨W0, hW0⟩ : ∃ W0, W0 = ((w.alloc (.cells #[.int .i64 p, .int .i64 m, .int .i64 l] 71)).alloc (.cells #[.bool s, .slice q n c] 32)) := ⟨_, rfl⟩
  have Xg : Hid (B3q W0 (w.heap.size) (.int .i64 p) (.int .i64 m) (.int .i64 l)) := by rw [hW0]; exact ⟨by go_simp, by go_simp, by go_simp, by go_simp, by go_simp, by go_simp⟩
  have Xm : Hid (Box W0 (w.heap.size + 1) (.bool s) (.slice q n c)) := by rw [hW0]; exact ⟨by go_simp, by go_simp, by go_simp, by go_simp⟩
  have hb0 : Below w.heap.size w W0 := by rw [hW0]; exact below2 w _ _
  rw [← hW0]
  clear hW0
  have hbw : Below w.heap.size w w := Below.refl _ _
  obtain ⟨gm, hgm⟩ : ∃ g, g = w.heap.size + 1 := ⟨_, rfl⟩
  have HGm : Hid (w.heap.size ≤ gm) := by rw [hgm]; show _ ≤ _; omega
  rw [← hgm] at Xm
  try rw [← hgm]
  obtain ⟨gg, hgg⟩ : ∃ g, g = w.heap.size := ⟨_, rfl⟩
  have HGg : Hid (w.heap.size ≤ gg) := by rw [hgg]; show _ ≤ _; omega
  rw [← hgg] at Xg
  try rw [← hgg]
  have HGD : Hid (gg ≠ gm ∧ gm ≠ gg) := by rw [hgg, hgm]; exact ⟨by omega, by omega⟩
  clear hgg hgm
  replace hbw := Below.on hbw hb0
  clear hb0
  refine (zsign (HZN.out.below hbw)).mono ?_
  rintro e v1 ⟨rfl, hb1⟩
  rw [HS.out]
  replace Xg : Hid _ := Xg.out.below hb1
  replace Xm : Hid _ := Xm.out.below hb1
  replace hbw := Below.on hbw hb1
  clear hb1
  obtain ⟨cm0, cm1, fm0, fm1⟩ := Xm.out
  have hnem := Xm.out.lt
  go_wp2_with fail
  clear cm0 cm1 fm0 fm1 hnem
  go_ret
  exact ⟨rfl, hbw⟩
set_option maxRecDepth 20000 in
set_option maxHeartbeats 8000000 in
theorem nearest_b {f p m l : Int} {S I H sd : Nat} {Be : Int} (J : Jn f p m l S I H sd Be) {q : Option Addr} {n c : Nat} {w : World} {x e : Int} {s : Bool} (h : ZN w s q n c x) (he : -4194304 ≤ e ∧ e ≤ 4194304) (h0 : x ≠ 0) (ht : Be ≤ e + bitsN x.natAbs - 1) :
    Calls Tryz.prog 39 #[WV p m l, ZV s q n c, .int .i64 e] w fun en w' => en = .returned (U (rnp l sd Be S I x e)) ∧ Below w.heap.size w w' := by
  have HZN : Hid (ZN w s q n c x) := h
  have HJN : Hid (Jn f p m l S I H sd Be) := J
  have hsg : (sgnI x == 0) = false := by
    have : sgnI x ≠ 0 := by rcases sgn3 x with ⟨_, h2⟩ | ⟨h1, _⟩ | ⟨_, h2⟩ <;> omega
    simp [this]
  obtain ⟨sx, hsx⟩ : ∃ sx, sx = sgnI x := ⟨_, rfl⟩
  rw [← hsx] at hsg
  have HSX : Hid (sgnI x = sx) := hsx.symm
  have hbn := (lim_bits x.natAbs).1 h.lim
  have hb0 := bitsN_pos (a := x.natAbs) (by omega)
  have hB1 := bitsN_lt x.natAbs
  have hB2 := bitsN_le x.natAbs (by omega)
  obtain ⟨L, hL⟩ : ∃ L, L = bitsN x.natAbs := ⟨_, rfl⟩
  rw [← hL] at ht
  have HLB : Hid (bitsN x.natAbs = L) := hL.symm
  obtain ⟨s1, hs1⟩ : ∃ s1 : Int, s1 = e + L := ⟨_, rfl⟩
  obtain ⟨top, htop⟩ : ∃ t : Int, t = s1 - 1 := ⟨_, rfl⟩
  rw [← hL] at hbn hb0 hB1 hB2
  have a1 : wrap64 (e + (L : Int)) = s1 := by rw [hs1]; simp only [wrap64]; omega
  have a2 : IntKind.i64.wrap (e + (L : Int)) = s1 := by rw [hs1]; simp [IntKind.wrap, IntKind.signed, IntKind.bits]; omega
  have a3 : wrap64 (s1 - 1) = top := by rw [htop]; simp only [wrap64]; omega
  have a4 : IntKind.i64.wrap (s1 - 1) = top := by rw [htop]; simp [IntKind.wrap, IntKind.signed, IntKind.bits]; omega
  have hneg : decide (x < 0) = s := h.sg.symm
  have d1 : decide (Be ≤ top) = true := decide_eq_true (by omega)
  obtain ⟨r, hr⟩ : ∃ r, r = rnp l sd Be S I x e := ⟨_, rfl⟩
  have HR : Hid ((if s then S + I else I) = r) := by
    show (if s then S + I else I) = r
    rw [hr]; unfold rnp rnz
    rw [if_neg h0, ← hL, if_pos (show Be ≤ e + L - 1 by omega), ← hneg]
    by_cases hx : x < 0
    · rw [decide_eq_true hx, if_pos rfl, if_pos hx]
    · rw [decide_eq_false hx, if_neg (by simp), if_neg hx]
  have HIS : Hid (I < S) := J.jm.pm.fm.lt
  rw [← hr]
  clear J h h0 hsx hbn hb0 hB1 hB2 hL hs1 htop hneg hr ht he
  go_enter Tryz.func39, Tryz.ntmps39
  go_wp2_with fail
  obtain ⟨W0, hW0⟩ : ∃ W0, W0 = ((w.alloc (.cells #[.int .i64 p, .int .i64 m, .int .i64 l] 71)).alloc (.cells #[.bool s, .slice q n c] 32)) := ⟨_, rfl⟩
  have Xg : Hid (B3q W0 (w.heap.size) (.int .i64 p) (.int .i64 m) (.int .i64 l)) := by rw [hW0]; exact ⟨by go_simp, by go_simp, by go_simp, by go_simp, by go_simp, by go_simp⟩
  have Xm : Hid (Box W0 (w.heap.size + 1) (.bool s) (.slice q n c)) := by rw [hW0]; exact ⟨by go_simp, by go_simp, by go_simp, by go_simp⟩
  have hb0 : Below w.heap.size w W0 := by rw [hW0]; exact below2 w _ _
  rw [← hW0]
  clear hW0
  have hbw : Below w.heap.size w w := Below.refl _ _
  obtain ⟨gm, hgm⟩ : ∃ g, g = w.heap.size + 1 := ⟨_, rfl⟩
  have HGm : Hid (w.heap.size ≤ gm) := by rw [hgm]; show _ ≤ _; omega
  rw [← hgm] at Xm
  try rw [← hgm]
  obtain ⟨gg, hgg⟩ : ∃ g, g = w.heap.size := ⟨_, rfl⟩
  have HGg : Hid (w.heap.size ≤ gg) := by rw [hgg]; show _ ≤ _; omega
  rw [← hgg] at Xg
  try rw [← hgg]
  have HGD : Hid (gg ≠ gm ∧ gm ≠ gg) := by rw [hgg, hgm]; exact ⟨by omega, by omega⟩
  clear hgg hgm
  replace hbw := Below.on hbw hb0
  clear hb0
  refine (zsign (HZN.out.below hbw)).mono ?_
  rintro e v1 ⟨rfl, hb1⟩
  rw [HSX.out]
  replace Xg : Hid _ := Xg.out.below hb1
  replace Xm : Hid _ := Xm.out.below hb1
  replace hbw := Below.on hbw hb1
  clear hb1
  obtain ⟨cm0, cm1, fm0, fm1⟩ := Xm.out
  have hnem := Xm.out.lt
  go_wp2_with fail
  clear cm0 cm1 fm0 fm1 hnem
  obtain ⟨xs, hX⟩ := (HZN.out.below hbw).ex
  refine (bits_any hX.at_ (by have := hX.le; omega)).mono ?_
  rintro e2 v2 ⟨rfl, hw⟩
  obtain rfl := hw.symm
  clear hw
  rw [hX.nf.val, HLB.out]
  clear hX
  obtain ⟨cg0, cg1, cg2, fg0, fg1, fg2⟩ := Xg.out
  have hneg : gg < v1.heap.size := World.block_lt_of_cell? v1 _ cg0
  go_wp2_with fail
  clear cg0 cg1 cg2 fg0 fg1 fg2 hneg
  refine (HJN.out.jm.be _).mono ?_
  rintro e v3 ⟨rfl, hb3⟩
  replace Xg : Hid _ := Xg.out.below hb3
  replace Xm : Hid _ := Xm.out.below hb3
  replace hbw := Below.on hbw hb3
  clear hb3
  obtain ⟨cg0, cg1, cg2, fg0, fg1, fg2⟩ := Xg.out
  have hneg : gg < v3.heap.size := World.block_lt_of_cell? v3 _ cg0
  obtain ⟨cm0, cm1, fm0, fm1⟩ := Xm.out
  have hnem := Xm.out.lt
  go_wp2_with fail
  clear cg0 cg1 cg2 fg0 fg1 fg2 hneg
  clear cm0 cm1 fm0 fm1 hnem
  obtain ⟨W5, hW5⟩ : ∃ W1, W1 = v3.drew := ⟨_, rfl⟩
  have hbd : Below v3.heap.size v3 W5 := by rw [hW5]; exact bDrew1 (Below.refl _ _)
  replace Xg : Hid _ := Xg.out.below hbd
  replace Xm : Hid _ := Xm.out.below hbd
  replace hbw := Below.on hbw hbd
  clear hbd
  have HJ : Hid ((fun W' : World => W'.cell? ⟨gg, 0, none⟩ = some (.int .i64 p) ∧ W'.cell? ⟨gg, 1, none⟩ = some (.int .i64 m) ∧ W'.cell? ⟨gg, 2, none⟩ = some (.int .i64 l) ∧ W'.cell? ⟨gm, 0, none⟩ = some (.bool s)) W5) := ⟨Xg.out.c0, Xg.out.c1, Xg.out.c2, Xm.out.c0⟩
  refine wp_region_J (fun W' => W'.cell? ⟨gg, 0, none⟩ = some (.int .i64 p) ∧ W'.cell? ⟨gg, 1, none⟩ = some (.int .i64 m) ∧ W'.cell? ⟨gg, 2, none⟩ = some (.int .i64 l) ∧ W'.cell? ⟨gm, 0, none⟩ = some (.bool s)) (by kernel_rfl) ?_
  rw [← hW5]
  clear hW5
  refine wpJ_take (i := 0) (v := ?v1x0) rfl (by kernel_rfl) (by kernel_rfl) (by kernel_rfl) (fun _ _ _ h => h) (by kernel_rfl) ?hy1x0 HJ.out ?rest1x0
  case hy1x0 => (intro W' hJ; obtain ⟨j0, j1, j2, j3⟩ := hJ; go_simp; first | done | with_reducible rfl)
  refine wpJ_take (i := 1) (v := ?v2x1) rfl (by kernel_rfl) (by kernel_rfl) (by kernel_rfl) (fun _ _ _ h => h) (by kernel_rfl) ?hy2x1 HJ.out ?rest2x1
  case hy2x1 => (intro W' hJ; obtain ⟨j0, j1, j2, j3⟩ := hJ; go_simp; first | done | with_reducible rfl)
  refine wpJ_take (i := 2) (v := ?v3x2) rfl (by kernel_rfl) (by kernel_rfl) (by kernel_rfl) (fun _ _ _ h => h) (by kernel_rfl) ?hy3x2 HJ.out ?rest3x2
  case hy3x2 => (intro W' hJ; obtain ⟨j0, j1, j2, j3⟩ := hJ; go_simp; first | done | with_reducible rfl)
  refine wpJ_take (i := 3) (v := ?v4x3) rfl (by kernel_rfl) (by kernel_rfl) (by kernel_rfl) (fun _ _ _ h => h) (by kernel_rfl) ?hy4x3 HJ.out ?rest4x3
  case hy4x3 => (intro W' hJ; obtain ⟨j0, j1, j2, j3⟩ := hJ; go_simp; first | done | with_reducible rfl)
  refine wpJ_one (i := 4) (by kernel_rfl) rfl (by kernel_rfl) (fun KJ hK => ?_)
  go_simp
  refine (HJN.out.jm.pm.fm.inf _).mono ?_
  rintro e v5 ⟨rfl, hb5⟩
  replace Xg : Hid _ := Xg.out.below hb5
  replace Xm : Hid _ := Xm.out.below hb5
  replace hbw := Below.on hbw hb5
  clear hb5
  refine hK _ _ ⟨Xg.out.c0, Xg.out.c1, Xg.out.c2, Xm.out.c0⟩ ?_
  clear hK
  refine wpJ_one (i := 5) (by kernel_rfl) rfl (by kernel_rfl) (fun KJ hK => ?_)
  go_simp
  refine (HJN.out.jm.pm.fm.sgn s I _ HIS.out).mono ?_
  rintro e v6 ⟨rfl, hb6⟩
  rw [HR.out]
  replace Xg : Hid _ := Xg.out.below hb6
  replace Xm : Hid _ := Xm.out.below hb6
  replace hbw := Below.on hbw hb6
  clear hb6
  clear HJ
  have HJ : Hid ((fun W' : World => W'.cell? ⟨gg, 0, none⟩ = some (.int .i64 p) ∧ W'.cell? ⟨gg, 1, none⟩ = some (.int .i64 m) ∧ W'.cell? ⟨gg, 2, none⟩ = some (.int .i64 l) ∧ W'.cell? ⟨gm, 0, none⟩ = some (.bool s)) v6) := ⟨Xg.out.c0, Xg.out.c1, Xg.out.c2, Xm.out.c0⟩
  refine hK _ _ HJ.out ?_
  clear hK
  refine wpJ_take (i := 6) (v := ?v5x6) rfl (by kernel_rfl) (by kernel_rfl) (by kernel_rfl) (fun _ _ _ h => h) (by kernel_rfl) ?hy5x6 HJ.out ?rest5x6
  case hy5x6 => (intro W' hJ; obtain ⟨j0, j1, j2, j3⟩ := hJ; go_simp; first | done | with_reducible rfl)
  refine wpJ_done (by kernel_rfl) ?_ _
  clear HJ
  go_wp2_with fail
  go_ret
  exact ⟨rfl, hbw⟩
set_option maxRecDepth 20000 in
set_option maxHeartbeats 8000000 in
theorem nearest_n {f p m l : Int} {S I H sd : Nat} {Be : Int} (J : Jn f p m l S I H sd Be) {q : Option Addr} {n c : Nat} {w : World} {x e : Int} {s : Bool} (h : ZN w s q n c x) (he : -4194304 ≤ e ∧ e ≤ 4194304) (h0 : x ≠ 0) (ht : ¬ Be ≤ e + bitsN x.natAbs - 1) (heu : e < max (e + bitsN x.natAbs - 1 - sd) l) (hT : Tab w) :
    Calls Tryz.prog 39 #[WV p m l, ZV s q n c, .int .i64 e] w fun en w' => en = .returned (U (rnp l sd Be S I x e)) ∧ Below w.heap.size w w' := by
  have HZN : Hid (ZN w s q n c x) := h
  have HJN : Hid (Jn f p m l S I H sd Be) := J
  have hsg : (sgnI x == 0) = false := by
    have : sgnI x ≠ 0 := by rcases sgn3 x with ⟨_, h2⟩ | ⟨h1, _⟩ | ⟨_, h2⟩ <;> omega
    simp [this]
  obtain ⟨sx, hsx⟩ : ∃ sx, sx = sgnI x := ⟨_, rfl⟩
  rw [← hsx] at hsg
  have HSX : Hid (sgnI x = sx) := hsx.symm
  have hbn := (lim_bits x.natAbs).1 h.lim
  have hb0 := bitsN_pos (a := x.natAbs) (by omega)
  have hB1 := bitsN_lt x.natAbs
  have hB2 := bitsN_le x.natAbs (by omega)
  obtain ⟨L, hL⟩ : ∃ L, L = bitsN x.natAbs := ⟨_, rfl⟩
  rw [← hL] at ht heu
  have HLB : Hid (bitsN x.natAbs = L) := hL.symm
  obtain ⟨s1, hs1⟩ : ∃ s1 : Int, s1 = e + L := ⟨_, rfl⟩
  obtain ⟨top, htop⟩ : ∃ t : Int, t = s1 - 1 := ⟨_, rfl⟩
  rw [← hL] at hbn hb0 hB1 hB2
  have a1 : wrap64 (e + (L : Int)) = s1 := by rw [hs1]; simp only [wrap64]; omega
  have a2 : IntKind.i64.wrap (e + (L : Int)) = s1 := by rw [hs1]; simp [IntKind.wrap, IntKind.signed, IntKind.bits]; omega
  have a3 : wrap64 (s1 - 1) = top := by rw [htop]; simp only [wrap64]; omega
  have a4 : IntKind.i64.wrap (s1 - 1) = top := by rw [htop]; simp [IntKind.wrap, IntKind.signed, IntKind.bits]; omega
  have hneg : decide (x < 0) = s := h.sg.symm
  have d1 : decide (Be ≤ top) = false := decide_eq_false (by omega)
  have hRN := rn_of J (n := x.natAbs) (e := e) (by omega) he.1
  have hsl := J.jm.sl
  have hlo := J.jm.pm.lo
  have h9 := J.jm.pm.h9
  have hbu := J.jm.bu
  have hlt := J.jm.pm.fm.lt
  obtain ⟨u, hu⟩ : ∃ u : Int, u = max (top - sd) l := ⟨_, rfl⟩
  obtain ⟨k, hk⟩ : ∃ k : Nat, k = (u - e).toNat := ⟨_, rfl⟩
  obtain ⟨Q, hQ⟩ : ∃ Q : Nat, Q = (u - l).toNat := ⟨_, rfl⟩
  obtain ⟨y, hy⟩ : ∃ y : Nat, y = neN x.natAbs (2 ^ k) := ⟨_, rfl⟩
  obtain ⟨nn, hnn⟩ : ∃ nn : Int, nn = e - u := ⟨_, rfl⟩
  have hrz : rnz l sd Be I x.natAbs e = Q * H + y := by
    unfold rnz
    rw [← hL, if_neg (show ¬ Be ≤ e + L - 1 by omega), show e + (L : Int) - 1 - sd = top - sd from by omega, ← hu, ← hQ, ← J.jm.hs, if_pos (show e < u by omega), ← hk, ← hy]
  have hy2 : y ≤ 2 * H := by
    have g1 := hRN.le
    rw [hrz] at g1
    have g2 : y = x.natAbs / 2 ^ k + (neUp x.natAbs (2 ^ k)).toNat := by rw [hy]; rfl
    have g3 := Bool.toNat_le (neUp x.natAbs (2 ^ k))
    have g4 : x.natAbs / 2 ^ k < 2 * H := by
      refine Nat.div_lt_of_lt_mul (Nat.lt_of_lt_of_le hB1 ?_)
      rw [J.jm.hs, ← Nat.pow_succ', ← Nat.pow_add]
      exact Nat.pow_le_pow_right (by omega) (by omega)
    omega
  obtain ⟨r, hr⟩ : ∃ r, r = rnp l sd Be S I x e := ⟨_, rfl⟩
  have hQB : (Q : Int) < Be - l - sd := by have := J.hB; omega
  have HR : Hid ((if s then S + (Q * H + y) else Q * H + y) = r ∧ Q * H + y < S) := by
    refine ⟨?_, by rw [← hrz]; exact Nat.lt_of_le_of_lt hRN.le hlt⟩
    rw [hr]; unfold rnp
    rw [if_neg h0, hrz, ← hneg]
    by_cases hx : x < 0
    · rw [decide_eq_true hx, if_pos rfl, if_pos hx]
    · rw [decide_eq_false hx, if_neg (by simp), if_neg hx]
  have HTP : Hid (-1000000000000 ≤ top ∧ top ≤ 5000 ∧ max (top - sd) l = u) := ⟨by omega, by omega, hu.symm⟩
  have HSZ : Hid (u = l + Q ∧ Q < 2046 ∧ (Q : Int) < Be - l - sd ∧ y ≤ 2 * H) := ⟨by omega, by have := J.hB9; omega, hQB, hy2⟩
  have HMU : Hid (nn = -(k : Int) ∧ (0 < k ∧ k ≤ 4611686018427387904) ∧ y = neN x.natAbs (2 ^ k) ∧ y < B64) := ⟨by omega, by omega, hy, by rw [B64_eq]; omega⟩
  have a5 : wrap64 (e - u) = nn := by rw [hnn]; simp only [wrap64]; omega
  have a6 : IntKind.i64.wrap (e - u) = nn := by rw [hnn]; simp [IntKind.wrap, IntKind.signed, IntKind.bits]; omega
  rw [← hr]
  have TB : Hid (Tab w) := hT
  clear J h h0 hT hsx hbn hb0 hB1 hB2 hL hs1 htop hneg hr ht he hRN hsl hlo h9 hbu hlt hu hk hQ hy hnn hrz hy2 hQB heu
  go_enter Tryz.func39, Tryz.ntmps39
  go_wp2_with fail
  obtain ⟨W0, hW0⟩ : ∃ W0, W0 = ((w.alloc (.cells #[.int .i64 p, .int .i64 m, .int .i64 l] 71)).alloc (.cells #[.bool s, .slice q n c] 32)) := ⟨_, rfl⟩
  have Xg : Hid (B3q W0 (w.heap.size) (.int .i64 p) (.int .i64 m) (.int .i64 l)) := by rw [hW0]; exact ⟨by go_simp, by go_simp, by go_simp, by go_simp, by go_simp, by go_simp⟩
  have Xm : Hid (Box W0 (w.heap.size + 1) (.bool s) (.slice q n c)) := by rw [hW0]; exact ⟨by go_simp, by go_simp, by go_simp, by go_simp⟩
  have hb0 : Below w.heap.size w W0 := by rw [hW0]; exact below2 w _ _
  rw [← hW0]
  clear hW0
  have hbw : Below w.heap.size w w := Below.refl _ _
  obtain ⟨gm, hgm⟩ : ∃ g, g = w.heap.size + 1 := ⟨_, rfl⟩
  have HGm : Hid (w.heap.size ≤ gm) := by rw [hgm]; show _ ≤ _; omega
  rw [← hgm] at Xm
  try rw [← hgm]
  obtain ⟨gg, hgg⟩ : ∃ g, g = w.heap.size := ⟨_, rfl⟩
  have HGg : Hid (w.heap.size ≤ gg) := by rw [hgg]; show _ ≤ _; omega
  rw [← hgg] at Xg
  try rw [← hgg]
  have HGD : Hid (gg ≠ gm ∧ gm ≠ gg) := by rw [hgg, hgm]; exact ⟨by omega, by omega⟩
  clear hgg hgm
  replace hbw := Below.on hbw hb0
  clear hb0
  refine (zsign (HZN.out.below hbw)).mono ?_
  rintro e v1 ⟨rfl, hb1⟩
  rw [HSX.out]
  replace Xg : Hid _ := Xg.out.below hb1
  replace Xm : Hid _ := Xm.out.below hb1
  replace hbw := Below.on hbw hb1
  clear hb1
  obtain ⟨cm0, cm1, fm0, fm1⟩ := Xm.out
  have hnem := Xm.out.lt
  go_wp2_with fail
  clear cm0 cm1 fm0 fm1 hnem
  obtain ⟨xs, hX⟩ := (HZN.out.below hbw).ex
  refine (bits_any hX.at_ (by have := hX.le; omega)).mono ?_
  rintro e2 v2 ⟨rfl, hw⟩
  obtain rfl := hw.symm
  clear hw
  rw [hX.nf.val, HLB.out]
  clear hX
  obtain ⟨cg0, cg1, cg2, fg0, fg1, fg2⟩ := Xg.out
  have hneg : gg < v1.heap.size := World.block_lt_of_cell? v1 _ cg0
  go_wp2_with fail
  clear cg0 cg1 cg2 fg0 fg1 fg2 hneg
  refine (HJN.out.jm.be _).mono ?_
  rintro e v3 ⟨rfl, hb3⟩
  replace Xg : Hid _ := Xg.out.below hb3
  replace Xm : Hid _ := Xm.out.below hb3
  replace hbw := Below.on hbw hb3
  clear hb3
  obtain ⟨cg0, cg1, cg2, fg0, fg1, fg2⟩ := Xg.out
  have hneg : gg < v3.heap.size := World.block_lt_of_cell? v3 _ cg0
  obtain ⟨cm0, cm1, fm0, fm1⟩ := Xm.out
  have hnem := Xm.out.lt
  go_wp2_with fail
  clear cg0 cg1 cg2 fg0 fg1 fg2 hneg
  clear cm0 cm1 fm0 fm1 hnem
  refine (HJN.out.jm.un top _ HTP.out.1 HTP.out.2.1).mono ?_
  rintro e v4 ⟨rfl, hb4⟩
  rw [HTP.out.2.2]
  replace Xg : Hid _ := Xg.out.below hb4
  replace Xm : Hid _ := Xm.out.below hb4
  replace hbw := Below.on hbw hb4
  clear hb4
  obtain ⟨cg0, cg1, cg2, fg0, fg1, fg2⟩ := Xg.out
  have hneg : gg < v4.heap.size := World.block_lt_of_cell? v4 _ cg0
  obtain ⟨cm0, cm1, fm0, fm1⟩ := Xm.out
  have hnem := Xm.out.lt
  go_wp2_with fail
  clear cg0 cg1 cg2 fg0 fg1 fg2 hneg
  clear cm0 cm1 fm0 fm1 hnem
  obtain ⟨W5, hW5⟩ : ∃ W1, W1 = v4.drew := ⟨_, rfl⟩
  have hbd : Below v4.heap.size v4 W5 := by rw [hW5]; exact bDrew1 (Below.refl _ _)
  replace Xg : Hid _ := Xg.out.below hbd
  replace Xm : Hid _ := Xm.out.below hbd
  replace hbw := Below.on hbw hbd
  clear hbd
  have HJ : Hid ((fun W' : World => W'.cell? ⟨gg, 0, none⟩ = some (.int .i64 p) ∧ W'.cell? ⟨gg, 1, none⟩ = some (.int .i64 m) ∧ W'.cell? ⟨gg, 2, none⟩ = some (.int .i64 l) ∧ W'.cell? ⟨gm, 0, none⟩ = some (.bool s) ∧ W'.cell? ⟨gm, 1, none⟩ = some (.slice q n c)) W5) := ⟨Xg.out.c0, Xg.out.c1, Xg.out.c2, Xm.out.c0, Xm.out.c1⟩
  refine wp_region_J (fun W' => W'.cell? ⟨gg, 0, none⟩ = some (.int .i64 p) ∧ W'.cell? ⟨gg, 1, none⟩ = some (.int .i64 m) ∧ W'.cell? ⟨gg, 2, none⟩ = some (.int .i64 l) ∧ W'.cell? ⟨gm, 0, none⟩ = some (.bool s) ∧ W'.cell? ⟨gm, 1, none⟩ = some (.slice q n c)) (by kernel_rfl) ?_
  rw [← hW5]
  clear hW5
  refine wpJ_take (i := 0) (v := ?v6x0) rfl (by kernel_rfl) (by kernel_rfl) (by kernel_rfl) (fun _ _ _ h => h) (by kernel_rfl) ?hy6x0 HJ.out ?rest6x0
  case hy6x0 => (intro W' hJ; obtain ⟨j0, j1, j2, j3, j4⟩ := hJ; go_simp; first | done | with_reducible rfl)
  refine wpJ_take (i := 1) (v := ?v7x1) rfl (by kernel_rfl) (by kernel_rfl) (by kernel_rfl) (fun _ _ _ h => h) (by kernel_rfl) ?hy7x1 HJ.out ?rest7x1
  case hy7x1 => (intro W' hJ; obtain ⟨j0, j1, j2, j3, j4⟩ := hJ; go_simp; first | done | with_reducible rfl)
  refine wpJ_take (i := 2) (v := ?v8x2) rfl (by kernel_rfl) (by kernel_rfl) (by kernel_rfl) (fun _ _ _ h => h) (by kernel_rfl) ?hy8x2 HJ.out ?rest8x2
  case hy8x2 => (intro W' hJ; obtain ⟨j0, j1, j2, j3, j4⟩ := hJ; go_simp; first | done | with_reducible rfl)
  refine wpJ_take (i := 3) (v := ?v9x3) rfl (by kernel_rfl) (by kernel_rfl) (by kernel_rfl) (fun _ _ _ h => h) (by kernel_rfl) ?hy9x3 HJ.out ?rest9x3
  case hy9x3 => (intro W' hJ; obtain ⟨j0, j1, j2, j3, j4⟩ := hJ; go_simp; first | done | with_reducible rfl)
  refine wpJ_take (i := 4) (v := ?v10x4) rfl (by kernel_rfl) (by kernel_rfl) (by kernel_rfl) (fun _ _ _ h => h) (by kernel_rfl) ?hy10x4 HJ.out ?rest10x4
  case hy10x4 => (intro W' hJ; obtain ⟨j0, j1, j2, j3, j4⟩ := hJ; go_simp; first | done | with_reducible rfl)
  refine wpJ_take (i := 5) (v := ?v11x5) rfl (by kernel_rfl) (by kernel_rfl) (by kernel_rfl) (fun _ _ _ h => h) (by kernel_rfl) ?hy11x5 HJ.out ?rest11x5
  case hy11x5 => (intro W' hJ; obtain ⟨j0, j1, j2, j3, j4⟩ := hJ; go_simp; first | done | with_reducible rfl)
  refine wpJ_take (i := 6) (v := ?v12x6) rfl (by kernel_rfl) (by kernel_rfl) (by kernel_rfl) (fun _ _ _ h => h) (by kernel_rfl) ?hy12x6 HJ.out ?rest12x6
  case hy12x6 => (intro W' hJ; obtain ⟨j0, j1, j2, j3, j4⟩ := hJ; go_simp; first | done | with_reducible rfl)
  refine wpJ_take (i := 7) (v := ?v13x7) rfl (by kernel_rfl) (by kernel_rfl) (by kernel_rfl) (fun _ _ _ h => h) (by kernel_rfl) ?hy13x7 HJ.out ?rest13x7
  case hy13x7 => (intro W' hJ; obtain ⟨j0, j1, j2, j3, j4⟩ := hJ; go_simp; first | done | with_reducible rfl)
  refine wpJ_take (i := 9) (v := ?v14x9) rfl (by kernel_rfl) (by kernel_rfl) (by kernel_rfl) (fun _ _ _ h => h) (by kernel_rfl) ?hy14x9 HJ.out ?rest14x9
  case hy14x9 => (intro W' hJ; obtain ⟨j0, j1, j2, j3, j4⟩ := hJ; go_simp; first | done | with_reducible rfl)
  refine wpJ_one (i := 8) (by kernel_rfl) rfl (by kernel_rfl) (fun KJ hK => ?_)
  go_simp
  refine (multiple_n (HZN.out.below hbw) k y nn HMU.out.1 HMU.out.2.1 HMU.out.2.2.1 HMU.out.2.2.2 (TB.out.below hbw)).mono ?_
  rintro e v5 ⟨rfl, hb5⟩
  replace Xg : Hid _ := Xg.out.below hb5
  replace Xm : Hid _ := Xm.out.below hb5
  replace hbw := Below.on hbw hb5
  clear hb5
  refine hK _ _ ⟨Xg.out.c0, Xg.out.c1, Xg.out.c2, Xm.out.c0, Xm.out.c1⟩ ?_
  clear hK
  refine wpJ_one (i := 10) (by kernel_rfl) rfl (by kernel_rfl) (fun KJ hK => ?_)
  go_simp
  refine (HJN.out.jm.sz y Q u _ HSZ.out.1 HSZ.out.2.1 HSZ.out.2.2.1 HSZ.out.2.2.2).mono ?_
  rintro e v6 ⟨rfl, hb6⟩
  replace Xg : Hid _ := Xg.out.below hb6
  replace Xm : Hid _ := Xm.out.below hb6
  replace hbw := Below.on hbw hb6
  clear hb6
  refine hK _ _ ⟨Xg.out.c0, Xg.out.c1, Xg.out.c2, Xm.out.c0, Xm.out.c1⟩ ?_
  clear hK
  refine wpJ_one (i := 11) (by kernel_rfl) rfl (by kernel_rfl) (fun KJ hK => ?_)
  go_simp
  refine (HJN.out.jm.pm.fm.sgn s (Q * H + y) _ HR.out.2).mono ?_
  rintro e v7 ⟨rfl, hb7⟩
  rw [HR.out.1]
  replace Xg : Hid _ := Xg.out.below hb7
  replace Xm : Hid _ := Xm.out.below hb7
  replace hbw := Below.on hbw hb7
  clear hb7
  clear HJ
  have HJ : Hid ((fun W' : World => W'.cell? ⟨gg, 0, none⟩ = some (.int .i64 p) ∧ W'.cell? ⟨gg, 1, none⟩ = some (.int .i64 m) ∧ W'.cell? ⟨gg, 2, none⟩ = some (.int .i64 l) ∧ W'.cell? ⟨gm, 0, none⟩ = some (.bool s) ∧ W'.cell? ⟨gm, 1, none⟩ = some (.slice q n c)) v7) := ⟨Xg.out.c0, Xg.out.c1, Xg.out.c2, Xm.out.c0, Xm.out.c1⟩
  refine hK _ _ HJ.out ?_
  clear hK
  refine wpJ_take (i := 12) (v := ?v15x12) rfl (by kernel_rfl) (by kernel_rfl) (by kernel_rfl) (fun _ _ _ h => h) (by kernel_rfl) ?hy15x12 HJ.out ?rest15x12
  case hy15x12 => (intro W' hJ; obtain ⟨j0, j1, j2, j3, j4⟩ := hJ; go_simp; first | done | with_reducible rfl)
  refine wpJ_done (by kernel_rfl) ?_ _
  clear HJ
  go_wp2_with fail
  go_ret
  exact ⟨rfl, hbw⟩
set_option maxRecDepth 20000 in
set_option maxHeartbeats 8000000 in
theorem nearest_p {f p m l : Int} {S I H sd : Nat} {Be : Int} (J : Jn f p m l S I H sd Be) {q : Option Addr} {n c : Nat} {w : World} {x e : Int} {s : Bool} (h : ZN w s q n c x) (he : -4194304 ≤ e ∧ e ≤ 4194304) (h0 : x ≠ 0) (ht : ¬ Be ≤ e + bitsN x.natAbs - 1) (heu : ¬ e < max (e + bitsN x.natAbs - 1 - sd) l) :
    Calls Tryz.prog 39 #[WV p m l, ZV s q n c, .int .i64 e] w fun en w' => en = .returned (U (rnp l sd Be S I x e)) ∧ Below w.heap.size w w' := by
  have HZN : Hid (ZN w s q n c x) := h
  have HJN : Hid (Jn f p m l S I H sd Be) := J
  have hsg : (sgnI x == 0) = false := by
    have : sgnI x ≠ 0 := by rcases sgn3 x with ⟨_, h2⟩ | ⟨h1, _⟩ | ⟨_, h2⟩ <;> omega
    simp [this]
  obtain ⟨sx, hsx⟩ : ∃ sx, sx = sgnI x := ⟨_, rfl⟩
  rw [← hsx] at hsg
  have HSX : Hid (sgnI x = sx) := hsx.symm
  have hbn := (lim_bits x.natAbs).1 h.lim
  have hb0 := bitsN_pos (a := x.natAbs) (by omega)
  have hB1 := bitsN_lt x.natAbs
  have hB2 := bitsN_le x.natAbs (by omega)
  obtain ⟨L, hL⟩ : ∃ L, L = bitsN x.natAbs := ⟨_, rfl⟩
  rw [← hL] at ht heu
  have HLB : Hid (bitsN x.natAbs = L) := hL.symm
  obtain ⟨s1, hs1⟩ : ∃ s1 : Int, s1 = e + L := ⟨_, rfl⟩
  obtain ⟨top, htop⟩ : ∃ t : Int, t = s1 - 1 := ⟨_, rfl⟩
  rw [← hL] at hbn hb0 hB1 hB2
  have a1 : wrap64 (e + (L : Int)) = s1 := by rw [hs1]; simp only [wrap64]; omega
  have a2 : IntKind.i64.wrap (e + (L : Int)) = s1 := by rw [hs1]; simp [IntKind.wrap, IntKind.signed, IntKind.bits]; omega
  have a3 : wrap64 (s1 - 1) = top := by rw [htop]; simp only [wrap64]; omega
  have a4 : IntKind.i64.wrap (s1 - 1) = top := by rw [htop]; simp [IntKind.wrap, IntKind.signed, IntKind.bits]; omega
  have hneg : decide (x < 0) = s := h.sg.symm
  have d1 : decide (Be ≤ top) = false := decide_eq_false (by omega)
  have hRN := rn_of J (n := x.natAbs) (e := e) (by omega) he.1
  have hsl := J.jm.sl
  have hlo := J.jm.pm.lo
  have h9 := J.jm.pm.h9
  have hbu := J.jm.bu
  have hlt := J.jm.pm.fm.lt
  obtain ⟨u, hu⟩ : ∃ u : Int, u = max (top - sd) l := ⟨_, rfl⟩
  obtain ⟨k, hk⟩ : ∃ k : Nat, k = (e - u).toNat := ⟨_, rfl⟩
  obtain ⟨Q, hQ⟩ : ∃ Q : Nat, Q = (u - l).toNat := ⟨_, rfl⟩
  obtain ⟨y, hy⟩ : ∃ y : Nat, y = x.natAbs * 2 ^ k := ⟨_, rfl⟩
  obtain ⟨nn, hnn⟩ : ∃ nn : Int, nn = e - u := ⟨_, rfl⟩
  have hrz : rnz l sd Be I x.natAbs e = Q * H + y := by
    unfold rnz
    rw [← hL, if_neg (show ¬ Be ≤ e + L - 1 by omega), show e + (L : Int) - 1 - sd = top - sd from by omega, ← hu, ← hQ, ← J.jm.hs, if_neg (show ¬ e < u by omega), ← hk, ← hy]
  have hy2 : y ≤ 2 * H := by
    have g4 : x.natAbs * 2 ^ k < 2 ^ L * 2 ^ k := Nat.mul_lt_mul_of_pos_right hB1 (Nat.pow_pos (by omega))
    have g5 : 2 ^ L * 2 ^ k ≤ 2 * H := by
      rw [J.jm.hs, ← Nat.pow_succ', ← Nat.pow_add]
      exact Nat.pow_le_pow_right (by omega) (by omega)
    omega
  obtain ⟨r, hr⟩ : ∃ r, r = rnp l sd Be S I x e := ⟨_, rfl⟩
  have hQB : (Q : Int) < Be - l - sd := by have := J.hB; omega
  have HR : Hid ((if s then S + (Q * H + y) else Q * H + y) = r ∧ Q * H + y < S) := by
    refine ⟨?_, by rw [← hrz]; exact Nat.lt_of_le_of_lt hRN.le hlt⟩
    rw [hr]; unfold rnp
    rw [if_neg h0, hrz, ← hneg]
    by_cases hx : x < 0
    · rw [decide_eq_true hx, if_pos rfl, if_pos hx]
    · rw [decide_eq_false hx, if_neg (by simp), if_neg hx]
  have HTP : Hid (-1000000000000 ≤ top ∧ top ≤ 5000 ∧ max (top - sd) l = u) := ⟨by omega, by omega, hu.symm⟩
  have HSZ : Hid (u = l + Q ∧ Q < 2046 ∧ (Q : Int) < Be - l - sd ∧ y ≤ 2 * H) := ⟨by omega, by have := J.hB9; omega, hQB, hy2⟩
  have HMU : Hid (nn = (k : Int) ∧ k ≤ 4611686018427387904 ∧ y = x.natAbs * 2 ^ k ∧ y < B64) := ⟨by omega, by omega, hy, by rw [B64_eq]; omega⟩
  have a5 : wrap64 (e - u) = nn := by rw [hnn]; simp only [wrap64]; omega
  have a6 : IntKind.i64.wrap (e - u) = nn := by rw [hnn]; simp [IntKind.wrap, IntKind.signed, IntKind.bits]; omega
  rw [← hr]
  clear J h h0 hsx hbn hb0 hB1 hB2 hL hs1 htop hneg hr ht he hRN hsl hlo h9 hbu hlt hu hk hQ hy hnn hrz hy2 hQB heu
  go_enter Tryz.func39, Tryz.ntmps39
  go_wp2_with fail
  obtain ⟨W0, hW0⟩ : ∃ W0, W0 = ((w.alloc (.cells #[.int .i64 p, .int .i64 m, .int .i64 l] 71)).alloc (.cells #[.bool s, .slice q n c] 32)) := ⟨_, rfl⟩
  have Xg : Hid (B3q W0 (w.heap.size) (.int .i64 p) (.int .i64 m) (.int .i64 l)) := by rw [hW0]; exact ⟨by go_simp, by go_simp, by go_simp, by go_simp, by go_simp, by go_simp⟩
  have Xm : Hid (Box W0 (w.heap.size + 1) (.bool s) (.slice q n c)) := by rw [hW0]; exact ⟨by go_simp, by go_simp, by go_simp, by go_simp⟩
  have hb0 : Below w.heap.size w W0 := by rw [hW0]; exact below2 w _ _
  rw [← hW0]
  clear hW0
  have hbw : Below w.heap.size w w := Below.refl _ _
  obtain ⟨gm, hgm⟩ : ∃ g, g = w.heap.size + 1 := ⟨_, rfl⟩
  have HGm : Hid (w.heap.size ≤ gm) := by rw [hgm]; show _ ≤ _; omega
  rw [← hgm] at Xm
  try rw [← hgm]
  obtain ⟨gg, hgg⟩ : ∃ g, g = w.heap.size := ⟨_, rfl⟩
  have HGg : Hid (w.heap.size ≤ gg) := by rw [hgg]; show _ ≤ _; omega
  rw [← hgg] at Xg
  try rw [← hgg]
  have HGD : Hid (gg ≠ gm ∧ gm ≠ gg) := by rw [hgg, hgm]; exact ⟨by omega, by omega⟩
  clear hgg hgm
  replace hbw := Below.on hbw hb0
  clear hb0
  refine (zsign (HZN.out.below hbw)).mono ?_
  rintro e v1 ⟨rfl, hb1⟩
  rw [HSX.out]
  replace Xg : Hid _ := Xg.out.below hb1
  replace Xm : Hid _ := Xm.out.below hb1
  replace hbw := Below.on hbw hb1
  clear hb1
  obtain ⟨cm0, cm1, fm0, fm1⟩ := Xm.out
  have hnem := Xm.out.lt
  go_wp2_with fail
  clear cm0 cm1 fm0 fm1 hnem
  obtain ⟨xs, hX⟩ := (HZN.out.below hbw).ex
  refine (bits_any hX.at_ (by have := hX.le; omega)).mono ?_
  rintro e2 v2 ⟨rfl, hw⟩
  obtain rfl := hw.symm
  clear hw
  rw [hX.nf.val, HLB.out]
  clear hX
  obtain ⟨cg0, cg1, cg2, fg0, fg1, fg2⟩ := Xg.out
  have hneg : gg < v1.heap.size := World.block_lt_of_cell? v1 _ cg0
  go_wp2_with fail
  clear cg0 cg1 cg2 fg0 fg1 fg2 hneg
  refine (HJN.out.jm.be _).mono ?_
  rintro e v3 ⟨rfl, hb3⟩
  replace Xg : Hid _ := Xg.out.below hb3
  replace Xm : Hid _ := Xm.out.below hb3
  replace hbw := Below.on hbw hb3
  clear hb3
  obtain ⟨cg0, cg1, cg2, fg0, fg1, fg2⟩ := Xg.out
  have hneg : gg < v3.heap.size := World.block_lt_of_cell? v3 _ cg0
  obtain ⟨cm0, cm1, fm0, fm1⟩ := Xm.out
  have hnem := Xm.out.lt
  go_wp2_with fail
  clear cg0 cg1 cg2 fg0 fg1 fg2 hneg
  clear cm0 cm1 fm0 fm1 hnem
  refine (HJN.out.jm.un top _ HTP.out.1 HTP.out.2.1).mono ?_
  rintro e v4 ⟨rfl, hb4⟩
  rw [HTP.out.2.2]
  replace Xg : Hid _ := Xg.out.below hb4
  replace Xm : Hid _ := Xm.out.below hb4
  replace hbw := Below.on hbw hb4
  clear hb4
  obtain ⟨cg0, cg1, cg2, fg0, fg1, fg2⟩ := Xg.out
  have hneg : gg < v4.heap.size := World.block_lt_of_cell? v4 _ cg0
  obtain ⟨cm0, cm1, fm0, fm1⟩ := Xm.out
  have hnem := Xm.out.lt
  go_wp2_with fail
  clear cg0 cg1 cg2 fg0 fg1 fg2 hneg
  clear cm0 cm1 fm0 fm1 hnem
  obtain ⟨W5, hW5⟩ : ∃ W1, W1 = v4.drew := ⟨_, rfl⟩
  have hbd : Below v4.heap.size v4 W5 := by rw [hW5]; exact bDrew1 (Below.refl _ _)
  replace Xg : Hid _ := Xg.out.below hbd
  replace Xm : Hid _ := Xm.out.below hbd
  replace hbw := Below.on hbw hbd
  clear hbd
  have HJ : Hid ((fun W' : World => W'.cell? ⟨gg, 0, none⟩ = some (.int .i64 p) ∧ W'.cell? ⟨gg, 1, none⟩ = some (.int .i64 m) ∧ W'.cell? ⟨gg, 2, none⟩ = some (.int .i64 l) ∧ W'.cell? ⟨gm, 0, none⟩ = some (.bool s) ∧ W'.cell? ⟨gm, 1, none⟩ = some (.slice q n c)) W5) := ⟨Xg.out.c0, Xg.out.c1, Xg.out.c2, Xm.out.c0, Xm.out.c1⟩
  refine wp_region_J (fun W' => W'.cell? ⟨gg, 0, none⟩ = some (.int .i64 p) ∧ W'.cell? ⟨gg, 1, none⟩ = some (.int .i64 m) ∧ W'.cell? ⟨gg, 2, none⟩ = some (.int .i64 l) ∧ W'.cell? ⟨gm, 0, none⟩ = some (.bool s) ∧ W'.cell? ⟨gm, 1, none⟩ = some (.slice q n c)) (by kernel_rfl) ?_
  rw [← hW5]
  clear hW5
  refine wpJ_take (i := 0) (v := ?v16x0) rfl (by kernel_rfl) (by kernel_rfl) (by kernel_rfl) (fun _ _ _ h => h) (by kernel_rfl) ?hy16x0 HJ.out ?rest16x0
  case hy16x0 => (intro W' hJ; obtain ⟨j0, j1, j2, j3, j4⟩ := hJ; go_simp; first | done | with_reducible rfl)
  refine wpJ_take (i := 1) (v := ?v17x1) rfl (by kernel_rfl) (by kernel_rfl) (by kernel_rfl) (fun _ _ _ h => h) (by kernel_rfl) ?hy17x1 HJ.out ?rest17x1
  case hy17x1 => (intro W' hJ; obtain ⟨j0, j1, j2, j3, j4⟩ := hJ; go_simp; first | done | with_reducible rfl)
  refine wpJ_take (i := 2) (v := ?v18x2) rfl (by kernel_rfl) (by kernel_rfl) (by kernel_rfl) (fun _ _ _ h => h) (by kernel_rfl) ?hy18x2 HJ.out ?rest18x2
  case hy18x2 => (intro W' hJ; obtain ⟨j0, j1, j2, j3, j4⟩ := hJ; go_simp; first | done | with_reducible rfl)
  refine wpJ_take (i := 3) (v := ?v19x3) rfl (by kernel_rfl) (by kernel_rfl) (by kernel_rfl) (fun _ _ _ h => h) (by kernel_rfl) ?hy19x3 HJ.out ?rest19x3
  case hy19x3 => (intro W' hJ; obtain ⟨j0, j1, j2, j3, j4⟩ := hJ; go_simp; first | done | with_reducible rfl)
  refine wpJ_take (i := 4) (v := ?v20x4) rfl (by kernel_rfl) (by kernel_rfl) (by kernel_rfl) (fun _ _ _ h => h) (by kernel_rfl) ?hy20x4 HJ.out ?rest20x4
  case hy20x4 => (intro W' hJ; obtain ⟨j0, j1, j2, j3, j4⟩ := hJ; go_simp; first | done | with_reducible rfl)
  refine wpJ_take (i := 5) (v := ?v21x5) rfl (by kernel_rfl) (by kernel_rfl) (by kernel_rfl) (fun _ _ _ h => h) (by kernel_rfl) ?hy21x5 HJ.out ?rest21x5
  case hy21x5 => (intro W' hJ; obtain ⟨j0, j1, j2, j3, j4⟩ := hJ; go_simp; first | done | with_reducible rfl)
  refine wpJ_take (i := 6) (v := ?v22x6) rfl (by kernel_rfl) (by kernel_rfl) (by kernel_rfl) (fun _ _ _ h => h) (by kernel_rfl) ?hy22x6 HJ.out ?rest22x6
  case hy22x6 => (intro W' hJ; obtain ⟨j0, j1, j2, j3, j4⟩ := hJ; go_simp; first | done | with_reducible rfl)
  refine wpJ_take (i := 7) (v := ?v23x7) rfl (by kernel_rfl) (by kernel_rfl) (by kernel_rfl) (fun _ _ _ h => h) (by kernel_rfl) ?hy23x7 HJ.out ?rest23x7
  case hy23x7 => (intro W' hJ; obtain ⟨j0, j1, j2, j3, j4⟩ := hJ; go_simp; first | done | with_reducible rfl)
  refine wpJ_take (i := 9) (v := ?v24x9) rfl (by kernel_rfl) (by kernel_rfl) (by kernel_rfl) (fun _ _ _ h => h) (by kernel_rfl) ?hy24x9 HJ.out ?rest24x9
  case hy24x9 => (intro W' hJ; obtain ⟨j0, j1, j2, j3, j4⟩ := hJ; go_simp; first | done | with_reducible rfl)
  refine wpJ_one (i := 8) (by kernel_rfl) rfl (by kernel_rfl) (fun KJ hK => ?_)
  go_simp
  refine (multiple_p (HZN.out.below hbw) k y nn HMU.out.1 HMU.out.2.1 HMU.out.2.2.1 HMU.out.2.2.2).mono ?_
  rintro e v5 ⟨rfl, hb5⟩
  replace Xg : Hid _ := Xg.out.below hb5
  replace Xm : Hid _ := Xm.out.below hb5
  replace hbw := Below.on hbw hb5
  clear hb5
  refine hK _ _ ⟨Xg.out.c0, Xg.out.c1, Xg.out.c2, Xm.out.c0, Xm.out.c1⟩ ?_
  clear hK
  refine wpJ_one (i := 10) (by kernel_rfl) rfl (by kernel_rfl) (fun KJ hK => ?_)
  go_simp
  refine (HJN.out.jm.sz y Q u _ HSZ.out.1 HSZ.out.2.1 HSZ.out.2.2.1 HSZ.out.2.2.2).mono ?_
  rintro e v6 ⟨rfl, hb6⟩
  replace Xg : Hid _ := Xg.out.below hb6
  replace Xm : Hid _ := Xm.out.below hb6
  replace hbw := Below.on hbw hb6
  clear hb6
  refine hK _ _ ⟨Xg.out.c0, Xg.out.c1, Xg.out.c2, Xm.out.c0, Xm.out.c1⟩ ?_
  clear hK
  refine wpJ_one (i := 11) (by kernel_rfl) rfl (by kernel_rfl) (fun KJ hK => ?_)
  go_simp
  refine (HJN.out.jm.pm.fm.sgn s (Q * H + y) _ HR.out.2).mono ?_
  rintro e v7 ⟨rfl, hb7⟩
  rw [HR.out.1]
  replace Xg : Hid _ := Xg.out.below hb7
  replace Xm : Hid _ := Xm.out.below hb7
  replace hbw := Below.on hbw hb7
  clear hb7
  clear HJ
  have HJ : Hid ((fun W' : World => W'.cell? ⟨gg, 0, none⟩ = some (.int .i64 p) ∧ W'.cell? ⟨gg, 1, none⟩ = some (.int .i64 m) ∧ W'.cell? ⟨gg, 2, none⟩ = some (.int .i64 l) ∧ W'.cell? ⟨gm, 0, none⟩ = some (.bool s) ∧ W'.cell? ⟨gm, 1, none⟩ = some (.slice q n c)) v7) := ⟨Xg.out.c0, Xg.out.c1, Xg.out.c2, Xm.out.c0, Xm.out.c1⟩
  refine hK _ _ HJ.out ?_
  clear hK
  refine wpJ_take (i := 12) (v := ?v25x12) rfl (by kernel_rfl) (by kernel_rfl) (by kernel_rfl) (fun _ _ _ h => h) (by kernel_rfl) ?hy25x12 HJ.out ?rest25x12
  case hy25x12 => (intro W' hJ; obtain ⟨j0, j1, j2, j3, j4⟩ := hJ; go_simp; first | done | with_reducible rfl)
  refine wpJ_done (by kernel_rfl) ?_ _
  clear HJ
  go_wp2_with fail
  go_ret
  exact ⟨rfl, hbw⟩
theorem nearest_ok {f p m l : Int} {S I H sd : Nat} {Be : Int} (J : Jn f p m l S I H sd Be) {q : Option Addr} {n c : Nat} {w : World} {x e : Int} {s : Bool} (h : ZN w s q n c x) (he : -4194304 ≤ e ∧ e ≤ 4194304) (hT : Tab w) :
    Calls Tryz.prog 39 #[WV p m l, ZV s q n c, .int .i64 e] w fun en w' => en = .returned (U (rnp l sd Be S I x e)) ∧ Below w.heap.size w w' := by
  by_cases h0 : x = 0
  · exact nearest_z J h h0
  · by_cases ht : Be ≤ e + bitsN x.natAbs - 1
    · exact nearest_b J h he h0 ht
    · by_cases heu : e < max (e + bitsN x.natAbs - 1 - sd) l
      · exact nearest_n J h he h0 ht heu hT
      · exact nearest_p J h he h0 ht heu
end Go.Proofs.YtfofoookdlaipaaGreatDoor

namespace Go.Proofs.YtfofoookdlaipaaGreatDoor
open Go.RowKit Go.Shelf

set_option maxRecDepth 20000 in
set_option maxHeartbeats 8000000 in
theorem rnearest {f p m l : Int} {S I H sd : Nat} {Be : Int} (J : Jn f p m l S I H sd Be) {q : Option Addr} {n c : Nat} {w : World} {x e : Int} {s : Bool} (h : DN w s q n c e x) (hT : Tab w) :
    Calls Tryz.prog 7 #[.int .i64 f, DV s q n c e] w fun en w' => en = .returned (.tuple #[U (rnp l sd Be S I x e), .int .i64 0]) ∧ Below w.heap.size w w' := by
  have HJN : Hid (Jn f p m l S I H sd Be) := J
  have HDN : Hid (DN w s q n c e x) := h
  have TB : Hid (Tab w) := hT
  have HE : Hid (-4194304 ≤ e ∧ e ≤ 4194304) := by rcases h.fm with ⟨_, h2⟩ | ⟨_, h2, h3⟩ <;> (show _ ∧ _) <;> omega
  obtain ⟨r, hr⟩ : ∃ r, r = rnp l sd Be S I x e := ⟨_, rfl⟩
  have HR : Hid (rnp l sd Be S I x e = r) := hr.symm
  rw [← hr]
  clear J h hT hr
  go_enter Tryz.func7, Tryz.ntmps7
  go_wp2_with fail
  obtain ⟨W0, hW0⟩ : ∃ W0, W0 = (w.alloc (.cells #[.bool s, .slice q n c, .int .i64 e] 34)) := ⟨_, rfl⟩
  have Xd : Hid (B3q W0 (w.heap.size) (.bool s) (.slice q n c) (.int .i64 e)) := by rw [hW0]; exact ⟨by go_simp, by go_simp, by go_simp, by go_simp, by go_simp, by go_simp⟩
  have hb0 : Below w.heap.size w W0 := by rw [hW0]; exact below1 w _
  rw [← hW0]
  clear hW0
  have hbw : Below w.heap.size w w := Below.refl _ _
  obtain ⟨gd, hgd⟩ : ∃ g, g = w.heap.size := ⟨_, rfl⟩
  have HGd : Hid (w.heap.size ≤ gd) := by rw [hgd]; show _ ≤ _; omega
  rw [← hgd] at Xd
  try rw [← hgd]
  clear hgd
  replace hbw := Below.on hbw hb0
  clear hb0
  refine (HJN.out.jm.pm.fm.of _).mono ?_
  rintro e v1 ⟨rfl, hb1⟩
  replace Xd : Hid _ := Xd.out.below hb1
  replace hbw := Below.on hbw hb1
  clear hb1
  obtain ⟨cd0, cd1, cd2, fd0, fd1, fd2⟩ := Xd.out
  have hned : gd < v1.heap.size := World.block_lt_of_cell? v1 _ cd0
  go_wp2_with fail
  clear cd0 cd1 cd2 fd0 fd1 fd2 hned
  have Xg0 : Hid (B3q (v1.alloc (.cells #[.int .i64 p, .int .i64 m, .int .i64 l] 71)) v1.heap.size (.int .i64 p) (.int .i64 m) (.int .i64 l)) := B3q.new v1 _ _ _ _
  have hbn : Below v1.heap.size v1 (v1.alloc (.cells #[.int .i64 p, .int .i64 m, .int .i64 l] 71)) := below1 v1 _
  generalize v1.alloc (.cells #[.int .i64 p, .int .i64 m, .int .i64 l] 71) = Wg at *
  have HGg : Hid (w.heap.size ≤ v1.heap.size) := hbw.size
  replace Xd : Hid _ := Xd.out.below hbn
  replace hbw := Below.on hbw hbn
  clear hbn
  generalize v1.heap.size = gg at *
  have Xg := Xg0
  clear Xg0
  refine (dform_t (HDN.out.below hbw)).mono ?_
  rintro e v2 ⟨rfl, hb2⟩
  replace Xd : Hid _ := Xd.out.below hb2
  replace Xg : Hid _ := Xg.out.below hb2
  replace hbw := Below.on hbw hb2
  clear hb2
  obtain ⟨cd0, cd1, cd2, fd0, fd1, fd2⟩ := Xd.out
  have hned : gd < v2.heap.size := World.block_lt_of_cell? v2 _ cd0
  obtain ⟨cg0, cg1, cg2, fg0, fg1, fg2⟩ := Xg.out
  have hneg : gg < v2.heap.size := World.block_lt_of_cell? v2 _ cg0
  go_wp2_with fail
  clear cd0 cd1 cd2 fd0 fd1 fd2 hned
  clear cg0 cg1 cg2 fg0 fg1 fg2 hneg
  refine (nearest_ok HJN.out (HDN.out.zn.below hbw) HE.out (TB.out.below hbw)).mono ?_
  rintro e v3 ⟨rfl, hb3⟩
  rw [HR.out]
  replace Xd : Hid _ := Xd.out.below hb3
  replace Xg : Hid _ := Xg.out.below hb3
  replace hbw := Below.on hbw hb3
  clear hb3
  go_wp2_with fail
  go_ret2
  exact ⟨rfl, hbw⟩
end Go.Proofs.YtfofoookdlaipaaGreatDoor

namespace Go.Proofs.YtfofoookdlaipaaGreatDoor
open Go.RowKit Go.Shelf

structure Mk (H : Nat) (l : Int) (I : Nat) (g : Int → Int) (A V : Int) : Prop where
  lt : ∀ z, z < I → V < dv (hv H z : Int) (l - 1) → A < g (dv (hv H z : Int) (l - 1))
  gt : ∀ z, z < I → dv (hv H z : Int) (l - 1) < V → g (dv (hv H z : Int) (l - 1)) < A
  eq : ∀ z, z < I → V = dv (hv H z : Int) (l - 1) → A = g (dv (hv H z : Int) (l - 1))
def Rise (g : Int → Int) : Prop := ∀ a b, 0 ≤ a → a < b → g a < g b
theorem Rise.le {g : Int → Int} (h : Rise g) {a b : Int} (ha : 0 ≤ a) (hab : a ≤ b) : g a ≤ g b := by
  rcases Int.lt_or_eq_of_le hab with h1 | h1
  · exact Int.le_of_lt (h a b ha h1)
  · rw [h1]; exact Int.le_refl _
theorem Rise.of {g : Int → Int} (h : Rise g) {a b : Int} (hb : 0 ≤ b) (hg : g a ≤ g b) : a ≤ b := by
  refine Int.not_lt.1 fun h1 => ?_
  have := h b a hb h1
  omega
theorem rise_mul {B : Int} (h : 0 < B) : Rise fun t => B * t := fun _ _ _ hab => Int.mul_lt_mul_of_pos_left hab h
theorem dv_nn (n : Nat) (e : Int) : 0 ≤ dv (n : Int) e := by
  have := dv_le e (show (0 : Int) ≤ (n : Int) by omega)
  rwa [dv_zero] at this
theorem Mk.low {H : Nat} {l : Int} {I : Nat} {g : Int → Int} {A V T : Int} {Z Y : Nat} (h : Mk H l I g A V) (hg : Rise g) (hZ : RNz H l I V Z) (hY : RNz H l I T Y) (_hT : 0 ≤ T) (hA : g T ≤ A) : Y ≤ Z := by
  refine Nat.le_of_not_lt fun hlt => ?_
  have hZI : Z < I := Nat.lt_of_lt_of_le hlt hY.le
  have h0 := dv_nn (hv H Z) (l - 1)
  have h1 : dv (hv H Z : Int) (l - 1) ≤ T := Int.not_lt.1 fun h2 => by have := hY.lo Z hZI h2; omega
  have h2 : V ≤ dv (hv H Z : Int) (l - 1) := Int.not_lt.1 fun h2 => by have := hZ.hi Z hZI h2; omega
  have h3 := hg.le h0 h1
  rcases Int.lt_or_eq_of_le h2 with h4 | h4
  · have := h.lt Z hZI h4; omega
  · have h5 := h.eq Z hZI h4
    have h6 : T ≤ dv (hv H Z : Int) (l - 1) := hg.of h0 (by omega)
    have h7 : V = T := by omega
    rw [h7] at hZ
    have := hZ.uniq hY
    omega
theorem Mk.high {H : Nat} {l : Int} {I : Nat} {g : Int → Int} {A V T : Int} {Z Y : Nat} (h : Mk H l I g A V) (hg : Rise g) (hZ : RNz H l I V Z) (hY : RNz H l I T Y) (hT : 0 ≤ T) (hA : A ≤ g T) : Z ≤ Y := by
  refine Nat.le_of_not_lt fun hlt => ?_
  have hYI : Y < I := Nat.lt_of_lt_of_le hlt hZ.le
  have h0 := dv_nn (hv H Y) (l - 1)
  have h1 : T ≤ dv (hv H Y : Int) (l - 1) := Int.not_lt.1 fun h2 => by have := hY.hi Y hYI h2; omega
  have h2 : dv (hv H Y : Int) (l - 1) ≤ V := Int.not_lt.1 fun h2 => by have := hZ.lo Y hYI h2; omega
  have h3 := hg.le hT h1
  rcases Int.lt_or_eq_of_le h2 with h4 | h4
  · have := h.gt Y hYI h4; omega
  · have h5 := h.eq Y hYI h4.symm
    have h6 : dv (hv H Y : Int) (l - 1) ≤ T := hg.of hT (by omega)
    have h7 : V = T := by omega
    rw [h7] at hZ
    have := hZ.uniq hY
    omega
theorem Mk.same {H : Nat} {l : Int} {I : Nat} {g : Int → Int} {A V T : Int} {Z Y : Nat} (h : Mk H l I g A V) (hg : Rise g) (hZ : RNz H l I V Z) (hY : RNz H l I T Y) (hT : 0 ≤ T) (hA : A = g T) : Z = Y :=
  Nat.le_antisymm (h.high hg hZ hY hT (by omega)) (h.low hg hZ hY hT (by omega))
theorem Mk.cell {H : Nat} {l : Int} {I : Nat} {g : Int → Int} {A V : Int} {Z : Nat} (h : Mk H l I g A V) (hZ : RNz H l I V Z) (h0 : Z ≠ 0) (h1 : Z < I) :
    g (dv (hv H (Z - 1) : Int) (l - 1)) ≤ A ∧ A ≤ g (dv (hv H Z : Int) (l - 1)) ∧ (Z % 2 = 1 → g (dv (hv H (Z - 1) : Int) (l - 1)) < A ∧ A < g (dv (hv H Z : Int) (l - 1))) := by
  obtain ⟨c1, c2, c3⟩ := hZ.cell h0 h1
  refine ⟨?_, ?_, fun ho => ⟨h.gt _ (by omega) (c3 ho).1, h.lt _ h1 (c3 ho).2⟩⟩
  · rcases Int.lt_or_eq_of_le c1 with h2 | h2
    · exact Int.le_of_lt (h.gt _ (by omega) h2)
    · have := h.eq _ (by omega) h2.symm; omega
  · rcases Int.lt_or_eq_of_le c2 with h2 | h2
    · exact Int.le_of_lt (h.lt _ h1 h2)
    · have := h.eq _ h1 h2; omega
theorem dv_exp_le {k : Nat} {a b : Int} (h : a ≤ b) (ha : -4194304 ≤ a) : dv (k : Int) a ≤ dv (k : Int) b := by
  obtain ⟨j, hj⟩ : ∃ j : Nat, b = a + j := ⟨(b - a).toNat, by omega⟩
  rw [hj, dv_up j ha]
  apply dv_le
  have h1 : 1 ≤ 2 ^ j := Nat.pow_pos (by omega)
  have h2 : k * 1 ≤ k * 2 ^ j := Nat.mul_le_mul_left k h1
  rw [← Int.natCast_mul]
  omega
theorem mk_of {H : Nat} {l : Int} {I : Nat} {g : Int → Int} (hg : Rise g) (hH : 0 < H) (hl : -4194303 ≤ l) {A e : Int} {F k : Nat} (he : -4194304 ≤ e) (hF : 2 * H ≤ F) (hk : k = 0 ∧ A = g (dv ((2 * F : Nat) : Int) e) ∨ k = 1 ∧ g (dv ((2 * F : Nat) : Int) e) < A ∧ A < g (dv ((2 * F + 2 : Nat) : Int) e)) :
    Mk H l I g A (dv ((2 * F + k : Nat) : Int) e) := by
  have hFA : g (dv ((2 * F : Nat) : Int) e) ≤ A := by rcases hk with ⟨_, h⟩ | ⟨_, h, _⟩ <;> omega
  have hFV : dv ((2 * F : Nat) : Int) e ≤ dv ((2 * F + k : Nat) : Int) e := dv_le e (by omega)
  have hk2 : k < 2 := by rcases hk with ⟨h, _⟩ | ⟨h, _, _⟩ <;> omega
  have hVU : dv ((2 * F + k : Nat) : Int) e < dv ((2 * F + 2 : Nat) : Int) e := dv_lt e (by omega)
  have hF0 := dv_nn (2 * F) e
  have hAU : A < g (dv ((2 * F + 2 : Nat) : Int) e) := by
    rcases hk with ⟨_, h⟩ | ⟨_, _, h⟩
    · rw [h]; exact hg _ _ hF0 (Int.lt_of_le_of_lt hFV hVU)
    · exact h
  -- the point half way is below the floor, or a whole number of units
  have key : ∀ z, (dv (hv H z : Int) (l - 1) < dv ((2 * F : Nat) : Int) e) ∨ ∃ c : Nat, dv (hv H z : Int) (l - 1) = dv ((2 * c : Nat) : Int) e := fun z => by
    rw [← mid_dv z hl]
    obtain ⟨q, hq⟩ : ∃ q, q = z / H - 1 := ⟨_, rfl⟩
    rw [← hq]
    have hmn : z - q * H < 2 * H := by
      have e1 := Nat.div_add_mod z H
      have e2 := Nat.mod_lt z hH
      rw [Nat.mul_comm] at e1
      by_cases e3 : z / H = 0
      · rw [e3] at e1; omega
      · rw [hq, Nat.sub_mul]; omega
    rcases Int.lt_or_le e (l + (q : Int) - 1) with h1 | h1
    · right
      obtain ⟨j, hj⟩ : ∃ j : Nat, l + (q : Int) - 1 = e + ((j + 1 : Nat) : Int) := ⟨(l + (q : Int) - 1 - e - 1).toNat, by omega⟩
      refine ⟨(2 * (z - q * H) + 1) * 2 ^ j, ?_⟩
      rw [hj, dv_up (j + 1) he, ← Int.natCast_mul]
      congr 2
      rw [Nat.pow_succ, Nat.mul_comm 2 ((2 * (z - q * H) + 1) * 2 ^ j), Nat.mul_assoc]
    · left
      refine Int.lt_of_le_of_lt (dv_exp_le h1 (by omega)) (dv_lt e ?_)
      omega
  have up : ∀ c : Nat, F < c → dv ((2 * F + 2 : Nat) : Int) e ≤ dv ((2 * c : Nat) : Int) e := fun c h => dv_le e (by omega)
  have dn : ∀ c : Nat, c < F → dv ((2 * c : Nat) : Int) e < dv ((2 * F : Nat) : Int) e := fun c h => dv_lt e (by omega)
  refine ⟨fun z hz hlt => ?_, fun z hz hgt => ?_, fun z hz heq => ?_⟩
  · rcases key z with h1 | ⟨c, h1⟩
    · omega
    · rw [h1] at hlt ⊢
      rcases Nat.lt_trichotomy c F with h2 | h2 | h2
      · have := dn c h2; omega
      · rw [h2] at hlt; omega
      · exact Int.lt_of_lt_of_le hAU (hg.le (dv_nn _ _) (up c h2))
  · rcases key z with h1 | ⟨c, h1⟩
    · exact Int.lt_of_lt_of_le (hg _ _ (dv_nn _ _) h1) hFA
    · rw [h1] at hgt ⊢
      rcases Nat.lt_trichotomy c F with h2 | h2 | h2
      · exact Int.lt_of_lt_of_le (hg _ _ (dv_nn _ _) (dn c h2)) hFA
      · rcases hk with ⟨h3, _⟩ | ⟨_, h3, _⟩
        · rw [h2, h3] at hgt; exact absurd hgt (Int.lt_irrefl _)
        · rw [h2]; exact h3
      · have := up c h2; omega
  · rcases key z with h1 | ⟨c, h1⟩
    · omega
    · rw [h1] at heq ⊢
      rcases Nat.lt_trichotomy c F with h2 | h2 | h2
      · have := dn c h2; omega
      · rcases hk with ⟨_, h3⟩ | ⟨h3, _, _⟩
        · rw [h2]; exact h3
        · rw [h2, h3] at heq
          have := dv_lt e (show ((2 * F : Nat) : Int) < ((2 * F + 1 : Nat) : Int) by omega)
          omega
      · have := up c h2; omega
theorem mk_quo {H : Nat} {l : Int} {I : Nat} (hH : 0 < H) (hl : -4194303 ≤ l) {e d : Int} {x y k F r m : Nat} (hd : d = e - (k : Int) - 1) (he : -4194304 ≤ d) (hF : 2 * H ≤ F) (hq : x * 2 ^ k = F * y + r) (hr : r < y) (hm : m = 2 * F + (if r = 0 then 0 else 1)) :
    Mk H l I (fun t => (y : Int) * t) (dv (x : Int) e) (dv (m : Int) d) := by
  have e1 : ∀ n : Nat, (y : Int) * dv (n : Int) d = dv ((n * y : Nat) : Int) d := fun n => by
    unfold dv
    rw [Int.natCast_mul, ← Int.mul_assoc, Int.mul_comm (y : Int)]
  have e2 : dv (x : Int) e = dv ((2 * (F * y + r) : Nat) : Int) d := by
    have h1 := dv_up (x := (x : Int)) (e := d) (k + 1) he
    rw [show d + ((k + 1 : Nat) : Int) = e from by omega] at h1
    rw [h1, ← Int.natCast_mul, ← hq]
    congr 2
    rw [Nat.pow_succ, ← Nat.mul_assoc, Nat.mul_comm]
  rw [hm]
  refine mk_of (rise_mul (by omega)) hH hl he hF ?_
  rw [e2, e1, e1]
  by_cases h0 : r = 0
  · left
    rw [if_pos h0]
    refine ⟨rfl, ?_⟩
    congr 2
    rw [h0, Nat.mul_assoc]; omega
  · right
    rw [if_neg h0]
    have h2 : 2 * F * y = 2 * (F * y) := Nat.mul_assoc _ _ _
    have h3 : (2 * F + 2) * y = 2 * (F * y) + 2 * y := by rw [Nat.add_mul, h2]
    exact ⟨rfl, dv_lt d (by omega), dv_lt d (by omega)⟩
end Go.Proofs.YtfofoookdlaipaaGreatDoor

namespace Go.Proofs.YtfofoookdlaipaaGreatDoor
open Go.RowKit Go.Shelf

theorem newton_ge {x s r : Nat} (_hs : 0 < s) (hr : r * r ≤ x) : r ≤ (s + x / s) / 2 := by
  rw [Nat.le_div_iff_mul_le (by decide)]
  by_cases h : 2 * r ≤ s
  · have h3 : 0 ≤ x / s := Nat.zero_le _
    generalize x / s = e at *
    omega
  · have h1 : (2 * r - s) * s ≤ x := by
      refine Nat.le_trans ?_ hr
      obtain ⟨t, ht⟩ : ∃ t, 2 * r = s + t := ⟨2 * r - s, by omega⟩
      rw [ht, Nat.add_sub_cancel_left]
      rcases Nat.le_total s r with hsr | hsr
      · obtain ⟨u, hu⟩ : ∃ u, r = s + u := ⟨r - s, by omega⟩
        subst hu
        obtain rfl : t = s + 2 * u := by omega
        rw [Nat.add_mul, Nat.mul_add, Nat.add_mul, Nat.add_mul s u u]
        have : 2 * u * s = s * u + u * s := by rw [Nat.mul_comm s u, Nat.mul_assoc]; omega
        omega
      · obtain ⟨u, hu⟩ : ∃ u, s = r + u := ⟨s - r, by omega⟩
        subst hu
        obtain ⟨t', ht'⟩ : ∃ t', r = t' + u := ⟨r - u, by omega⟩
        subst ht'
        obtain rfl : t = t' := by omega
        have e : t * (t + u + u) + u * u = (t + u) * (t + u) := by rw [Nat.mul_add, Nat.mul_add, Nat.add_mul, Nat.mul_add, Nat.mul_add, Nat.mul_comm u t]; omega
        omega
    have h2 : 2 * r - s ≤ x / s := (Nat.le_div_iff_mul_le _hs).2 h1
    generalize x / s = e at *
    omega
structure NewR (x s : Nat) : Prop where
  pos : 0 < s
  le : s ≤ 4294967296
  lt : x < (s + 1) * (s + 1)
theorem NewR.step {x s : Nat} (h : NewR x s) (h0 : x ≠ 0) (hlt : (s + x / s) / 2 < s) : NewR x ((s + x / s) / 2) := by
  have h1 := h.le
  have hx : x < ((s + x / s) / 2 + 1) * ((s + x / s) / 2 + 1) := by
    rcases Nat.lt_or_ge x (((s + x / s) / 2 + 1) * ((s + x / s) / 2 + 1)) with e | e
    · exact e
    · have := newton_ge h.pos e; omega
  refine ⟨?_, by omega, hx⟩
  rcases Nat.eq_zero_or_pos ((s + x / s) / 2) with e | e
  · rw [e] at hx; omega
  · exact e
theorem NewR.done {x s : Nat} (h : NewR x s) (hge : s ≤ (s + x / s) / 2) : s * s ≤ x ∧ x ≤ s * s + 2 * s := by
  have h1 : s ≤ x / s := by omega
  have h2 := (Nat.le_div_iff_mul_le h.pos).1 h1
  have h3 := h.lt
  rw [Nat.add_mul, Nat.mul_add] at h3
  exact ⟨h2, by omega⟩
end Go.Proofs.YtfofoookdlaipaaGreatDoor

namespace Go.Proofs.YtfofoookdlaipaaGreatDoor

structure RootC (a h P d o last : Nat) : Prop where
  id : a + d * d = (P * h + d) * (P * h + d) + (P * o + last)
  dP : d ≤ P
  big : (P * h) * (P * h) ≤ a
  lf : P * o + last < 2 * (P * h)
  dd : d * d ≤ 2 * (P * h)
  hh : 6 ≤ h
  pp : 1 ≤ P
theorem RootC.le {a h P d o last : Nat} (c : RootC a h P d o last) : 6 * (P * h) ≤ a ∧ P ≤ P * h ∧ h ≤ P * h := by
  have h1 : P * 6 ≤ P * h := Nat.mul_le_mul_left _ c.hh
  have h2 : 1 * h ≤ P * h := Nat.mul_le_mul_right _ c.pp
  have h3 : 6 * (P * h) ≤ (P * h) * (P * h) := Nat.mul_le_mul_right _ (by have := c.pp; omega)
  have := c.big
  exact ⟨by omega, by omega, by omega⟩
theorem RootC.fin {a h P d o last : Nat} (c : RootC a h P d o last) :
    (P * o + last < d * d → 1 ≤ P * h + d ∧ d * d ≤ P * o + last + 2 * (P * h + d) - 1) ∧
    (let S := if P * o + last < d * d then P * h + d - 1 else P * h + d
     let T := if P * o + last < d * d then P * o + last + 2 * (P * h + d) - 1 - d * d else P * o + last - d * d
     S * S ≤ a ∧ a ≤ S * S + 2 * S ∧ T = a - S * S) := by
  have h1 := c.id; have h2 := c.lf; have h3 := c.dd
  have hl := c.le
  refine ⟨fun hlt => ?_, ?_⟩
  · have hd1 : 1 ≤ d := by
      rcases Nat.eq_zero_or_pos d with e | e
      · subst e; simp at hlt
      · exact e
    exact ⟨by omega, by omega⟩
  · by_cases hlt : P * o + last < d * d
    · have hd1 : 1 ≤ d := by
        rcases Nat.eq_zero_or_pos d with e | e
        · subst e; simp at hlt
        · exact e
      simp only [if_pos hlt]
      generalize P * o + last = lf at *
      obtain ⟨S, hS⟩ : ∃ S, P * h + d = S + 1 := ⟨P * h + d - 1, by omega⟩
      rw [hS] at h1 ⊢
      have e1 : (S + 1) * (S + 1) = S * S + 2 * S + 1 := by rw [Nat.add_mul, Nat.mul_add]; omega
      rw [Nat.add_sub_cancel]
      rw [e1] at h1
      have h4 : d * d ≤ 2 * (S + 1) := by omega
      generalize d * d = dd at *
      generalize S * S = ss at *
      exact ⟨by omega, by omega, by omega⟩
    · simp only [if_neg hlt]
      generalize P * o + last = lf at *
      have h4 : lf ≤ 2 * (P * h + d) := by omega
      generalize P * h + d = S at *
      generalize d * d = dd at *
      generalize S * S = ss at *
      exact ⟨by omega, by omega, by omega⟩
end Go.Proofs.YtfofoookdlaipaaGreatDoor

namespace Go.Proofs.YtfofoookdlaipaaGreatDoor
open Go.RowKit

end Go.Proofs.YtfofoookdlaipaaGreatDoor

namespace Go.Proofs.YtfofoookdlaipaaGreatDoor
open Go.RowKit

theorem Nf.drop {xs : List Nat} {a k : Nat} (hx : Nf B64 xs a) (hk : k ≤ xs.length) : Nf B64 (xs.drop k) (a / B64 ^ k) := by
  refine ⟨hx.dig.drop k, ?_, drop_div hx hk⟩
  intro x h
  refine hx.top x ?_
  by_cases hkl : k < xs.length
  · rw [List.getLast?_drop, if_neg (by omega)] at h; exact h
  · rw [List.drop_of_length_le (by omega)] at h; simp at h
theorem Nf.low {xs : List Nat} {a k : Nat} (hx : Nf B64 xs a) (hk : k ≤ xs.length) : Nf B64 (trimL (xs.take k)) (a % B64 ^ k) := by
  have h := Nf.trim (hx.dig.take k)
  rw [take_mod hx hk] at h; exact h

end Go.Proofs.YtfofoookdlaipaaGreatDoor

namespace Go.Proofs.YtfofoookdlaipaaGreatDoor
open Go.RowKit

end Go.Proofs.YtfofoookdlaipaaGreatDoor

namespace Go.Proofs.YtfofoookdlaipaaGreatDoor
open Go.RowKit Go.Shelf

end Go.Proofs.YtfofoookdlaipaaGreatDoor

namespace Go.Proofs.YtfofoookdlaipaaGreatDoor
open Go.RowKit Go.Shelf

end Go.Proofs.YtfofoookdlaipaaGreatDoor

namespace Go.Proofs.YtfofoookdlaipaaGreatDoor
open Go.RowKit Go.Shelf

set_option maxRecDepth 20000 in
set_option maxHeartbeats 8000000 in
theorem toolong {p : Option Addr} {m c : Nat} {w : World} {e : Int} {s : Bool} (hm : m ≤ 4096) :
    Calls Tryz.prog 59 #[DV s p m c e] w fun en w' => en = .returned (.bool false) ∧ Below w.heap.size w w' := by
  have d1 : decide ((4096 : Int) < (m : Int)) = false := decide_eq_false (by omega)
  clear hm
  go_enter Tryz.func59, Tryz.ntmps59
  go_wp2_with fail
  go_ret
  exact ⟨rfl, below1 w _⟩
set_option maxRecDepth 20000 in
set_option maxHeartbeats 8000000 in
theorem enough_ok {p m l : Int} {w : World} (hm : 0 ≤ m ∧ m ≤ 1000) :
    Calls Tryz.prog 60 #[WV p m l] w fun en w' => en = .returned (.int .i64 (m + 1)) ∧ Below w.heap.size w w' := by
  have d1 : wrap64 (m + 1) = m + 1 := by simp only [wrap64]; omega
  have d2 : IntKind.i64.wrap (m + 1) = m + 1 := by simp [IntKind.wrap, IntKind.signed, IntKind.bits]; omega
  clear hm
  go_enter Tryz.func60, Tryz.ntmps60
  go_wp2_with fail
  go_ret
  exact ⟨rfl, below1 w _⟩
set_option maxRecDepth 20000 in
set_option maxHeartbeats 8000000 in
theorem withmark_z {p q : Option Addr} {n c k d : Nat} {xs ys : List Nat} {F r : Nat} {w : World} (s : Bool) (h : Num w p n c xs F) (g : Num w q k d ys r) (hl : 2 * F + 1 < LIM) (hr : r = 0) :
    Calls Tryz.prog 64 #[.bool s, .slice p n c, .slice q k d] w fun en w' => ∃ p1 m1 zs, en = .returned (ZV s p1 m1 m1) ∧ Own w.heap.size w' p1 m1 zs ∧ Nf B64 zs (2 * F + (if r = 0 then 0 else 1)) ∧ m1 ≤ 8192 ∧ Below w.heap.size w w' := by
  have A : Hid (Num w p n c xs F) := h
  have B : Hid (Num w q k d ys r) := g
  have HL : Hid (2 * F + 1 < LIM ∧ 2 ^ 1 * F < LIM) := ⟨hl, by omega⟩
  obtain ⟨L, hL⟩ : ∃ L, L = bitsN r := ⟨_, rfl⟩
  have HLB : Hid (bitsN (valB B64 ys) = L) := by rw [hL, g.nf.val]; rfl
  have HK : Hid (k ≤ 17592186044416) := Nat.le_trans g.le (by decide)
  have d1 : decide ((0 : Int) < (L : Int)) = false := by
    rw [hL, hr]; rfl
  have d2 : ¬ 0 < L := by have := of_decide_eq_false d1; omega
  rw [if_pos hr]
  clear h g hl hr hL
  go_enter Tryz.func64, Tryz.ntmps64
  go_wp2_with fail
  obtain ⟨W0, hW0⟩ : ∃ W0, W0 = (w.alloc (.cells #[.bool false, .slice none 0 0] 32)) := ⟨_, rfl⟩
  have Xr : Hid (Box W0 (w.heap.size) (.bool false) (.slice none 0 0)) := by rw [hW0]; exact ⟨by go_simp, by go_simp, by go_simp, by go_simp⟩
  have hb0 : Below w.heap.size w W0 := by rw [hW0]; exact below1 w _
  rw [← hW0]
  clear hW0
  have hbw : Below w.heap.size w w := Below.refl _ _
  obtain ⟨gr, hgr⟩ : ∃ g, g = w.heap.size := ⟨_, rfl⟩
  have HGr : Hid (w.heap.size ≤ gr) := by rw [hgr]; show _ ≤ _; omega
  rw [← hgr] at Xr
  try rw [← hgr]
  clear hgr
  replace hbw := Below.on hbw hb0
  clear hb0
  have HRL : Hid (gr < W0.heap.size ∧ w.heap.size ≤ W0.heap.size) := ⟨Xr.out.lt, hbw.size⟩
  refine (shl_nf (A.out.at_.below hbw) A.out.nf A.out.le 1 (by decide)).mono ?_
  rintro e2 v1 ⟨ha, hb1⟩
  obtain ⟨p1, m1, z1, rfl, ho1, hn1, hm1⟩ := ha.ok HL.out.2
  clear ha
  replace Xr : Hid _ := Xr.out.below hb1
  replace hbw := Below.on hbw hb1
  clear hb1
  have O1 : Hid (Own W0.heap.size v1 p1 m1 z1) := ho1
  have N1 : Hid (Nf B64 z1 (2 ^ 1 * F) ∧ m1 ≤ 8192) := ⟨hn1, hm1⟩
  clear ho1 hn1 hm1
  go_wp2_with fail
  refine (bits_any (B.out.at_.below hbw) HK.out).mono ?_
  rintro e v2 ⟨rfl, hw⟩
  obtain rfl := hw.symm
  clear hw
  rw [HLB.out]
  have N9 : Hid (Nf B64 z1 (2 * F + 0) ∧ m1 ≤ 8192) := by have := N1.out; rw [Nat.pow_one] at this; exact this
  clear N1
  have N1 := N9
  obtain ⟨cr0, cr1, fr0, fr1⟩ := Xr.out
  have hner := Xr.out.lt
  go_wp2_with fail
  refine bodyPost_ret (v := ZV s p1 m1 m1) (by rw [results_cell1 rfl]; go_simp) rfl ⟨p1, m1, z1, rfl, ?_, N1.out.1, N1.out.2, ?_⟩
  · exact own_set2 O1.out HRL.out.1 HRL.out.2 _ _
  · exact bSet (bSet hbw _ _ _ HGr.out) _ _ _ HGr.out
set_option maxRecDepth 20000 in
set_option maxHeartbeats 8000000 in
theorem withmark_n {p q : Option Addr} {n c k d : Nat} {xs ys : List Nat} {F r : Nat} {w : World} (s : Bool) (h : Num w p n c xs F) (g : Num w q k d ys r) (hl : 2 * F + 1 < LIM) (hr : r ≠ 0) :
    Calls Tryz.prog 64 #[.bool s, .slice p n c, .slice q k d] w fun en w' => ∃ p1 m1 zs, en = .returned (ZV s p1 m1 m1) ∧ Own w.heap.size w' p1 m1 zs ∧ Nf B64 zs (2 * F + (if r = 0 then 0 else 1)) ∧ m1 ≤ 8192 ∧ Below w.heap.size w w' := by
  have A : Hid (Num w p n c xs F) := h
  have B : Hid (Num w q k d ys r) := g
  have HL : Hid (2 * F + 1 < LIM ∧ 2 ^ 1 * F < LIM) := ⟨hl, by omega⟩
  obtain ⟨L, hL⟩ : ∃ L, L = bitsN r := ⟨_, rfl⟩
  have HLB : Hid (bitsN (valB B64 ys) = L) := by rw [hL, g.nf.val]; rfl
  have HK : Hid (k ≤ 17592186044416) := Nat.le_trans g.le (by decide)
  have d1 : decide ((0 : Int) < (L : Int)) = true := by
    have := bitsN_pos hr; rw [hL]; exact decide_eq_true (by omega)
  have d2 : 0 < L := by have := of_decide_eq_true d1; omega
  rw [if_neg hr]
  clear h g hl hr hL
  go_enter Tryz.func64, Tryz.ntmps64
  go_wp2_with fail
  obtain ⟨W0, hW0⟩ : ∃ W0, W0 = (w.alloc (.cells #[.bool false, .slice none 0 0] 32)) := ⟨_, rfl⟩
  have Xr : Hid (Box W0 (w.heap.size) (.bool false) (.slice none 0 0)) := by rw [hW0]; exact ⟨by go_simp, by go_simp, by go_simp, by go_simp⟩
  have hb0 : Below w.heap.size w W0 := by rw [hW0]; exact below1 w _
  rw [← hW0]
  clear hW0
  have hbw : Below w.heap.size w w := Below.refl _ _
  obtain ⟨gr, hgr⟩ : ∃ g, g = w.heap.size := ⟨_, rfl⟩
  have HGr : Hid (w.heap.size ≤ gr) := by rw [hgr]; show _ ≤ _; omega
  rw [← hgr] at Xr
  try rw [← hgr]
  clear hgr
  replace hbw := Below.on hbw hb0
  clear hb0
  have HRL : Hid (gr < W0.heap.size ∧ w.heap.size ≤ W0.heap.size) := ⟨Xr.out.lt, hbw.size⟩
  refine (shl_nf (A.out.at_.below hbw) A.out.nf A.out.le 1 (by decide)).mono ?_
  rintro e2 v1 ⟨ha, hb1⟩
  obtain ⟨p1, m1, z1, rfl, ho1, hn1, hm1⟩ := ha.ok HL.out.2
  clear ha
  replace Xr : Hid _ := Xr.out.below hb1
  replace hbw := Below.on hbw hb1
  clear hb1
  have O1 : Hid (Own W0.heap.size v1 p1 m1 z1) := ho1
  have N1 : Hid (Nf B64 z1 (2 ^ 1 * F) ∧ m1 ≤ 8192) := ⟨hn1, hm1⟩
  clear ho1 hn1 hm1
  go_wp2_with fail
  refine (bits_any (B.out.at_.below hbw) HK.out).mono ?_
  rintro e v2 ⟨rfl, hw⟩
  obtain rfl := hw.symm
  clear hw
  rw [HLB.out]
  go_wp2_with fail
  refine (word_any 1 _ (by decide)).mono ?_
  rintro e2 v3 ⟨p3, m3, z3, rfl, ho3, hn3, hm3, hb3⟩
  replace Xr : Hid _ := Xr.out.below hb3
  replace O1 : Hid (Own W0.heap.size v3 p1 m1 z1) := O1.out.below hb3
  replace hbw := Below.on hbw hb3
  clear hb3
  have O3 : Hid (Own v1.heap.size v3 p3 m3 z3) := ho3
  have N3 : Hid (Nf B64 z3 1 ∧ m3 ≤ 8192) := ⟨hn3, Nat.le_trans hm3 (by decide)⟩
  clear ho3 hn3 hm3
  go_wp2_with fail
  refine (add_ord (Num.of O1.out N1.out.1 N1.out.2).at_ (Num.of O3.out N3.out.1 N3.out.2).at_ N1.out.1 N3.out.1 N1.out.2 N3.out.2).mono ?_
  rintro e2 v4 ⟨ha, hb4⟩
  obtain ⟨p4, m4, z4, rfl, ho4, hn4, hm4⟩ := ha.ok (by have := HL.out.1; omega)
  clear ha
  have HQ : Hid (gr < v3.heap.size ∧ w.heap.size ≤ v3.heap.size) := ⟨Xr.out.lt, hbw.size⟩
  replace Xr : Hid _ := Xr.out.below hb4
  replace O1 : Hid (Own W0.heap.size v4 p1 m1 z1) := O1.out.below hb4
  replace O3 : Hid (Own v1.heap.size v4 p3 m3 z3) := O3.out.below hb4
  replace hbw := Below.on hbw hb4
  clear hb4
  have O4 : Hid (Own v3.heap.size v4 p4 m4 z4) := ho4
  have N4 : Hid (Nf B64 z4 (2 * F + 1) ∧ m4 ≤ 8192) := ⟨by rw [Nat.pow_one] at hn4; exact hn4, hm4⟩
  clear ho4 hn4 hm4 HRL
  have HRL := HQ
  obtain ⟨cr0, cr1, fr0, fr1⟩ := Xr.out
  have hner := Xr.out.lt
  go_wp2_with fail
  refine bodyPost_ret (v := ZV s p4 m4 m4) (by rw [results_cell1 rfl]; go_simp) rfl ⟨p4, m4, z4, rfl, ?_, N4.out.1, N4.out.2, ?_⟩
  · exact own_set2 O4.out HRL.out.1 HRL.out.2 _ _
  · exact bSet (bSet hbw _ _ _ HGr.out) _ _ _ HGr.out
theorem withmark {p q : Option Addr} {n c k d : Nat} {xs ys : List Nat} {F r : Nat} {w : World} (s : Bool) (h : Num w p n c xs F) (g : Num w q k d ys r) (hl : 2 * F + 1 < LIM) :
    Calls Tryz.prog 64 #[.bool s, .slice p n c, .slice q k d] w fun en w' => ∃ p1 m1 zs, en = .returned (ZV s p1 m1 m1) ∧ Own w.heap.size w' p1 m1 zs ∧ Nf B64 zs (2 * F + (if r = 0 then 0 else 1)) ∧ m1 ≤ 8192 ∧ Below w.heap.size w w' := by
  by_cases hr : r = 0
  · exact withmark_z s h g hl hr
  · exact withmark_n s h g hl hr
end Go.Proofs.YtfofoookdlaipaaGreatDoor

namespace Go.Proofs.YtfofoookdlaipaaGreatDoor
open Go.RowKit Go.Shelf

abbrev WVd : Value := .agg #[.func (.func 87) #[] #[], .func (.func 116) #[] #[]]
abbrev WVu : Value := .agg #[.func (.func 119) #[] #[], .func (.func 120) #[] #[]]
set_option maxRecDepth 20000 in
set_option maxHeartbeats 8000000 in
theorem way_d (w : World) :
    Calls Tryz.prog 69 #[] w fun en w' => en = .returned WVd ∧ Below w.heap.size w w' := by
  have c0 : (w.alloc (.cells #[.nilFunc, .nilFunc] 112)).cell? ⟨w.heap.size, 0, none⟩ = some .nilFunc := by go_simp
  have f0 : (w.alloc (.cells #[.nilFunc, .nilFunc] 112)).frozen? ⟨w.heap.size, 0, none⟩ = false := by go_simp
  have c1 : (w.alloc (.cells #[.nilFunc, .nilFunc] 112)).cell? ⟨w.heap.size, 1, none⟩ = some .nilFunc := by go_simp
  have f1 : (w.alloc (.cells #[.nilFunc, .nilFunc] 112)).frozen? ⟨w.heap.size, 1, none⟩ = false := by go_simp
  go_enter Tryz.func69, Tryz.ntmps69
  go_wp2_with fail
  refine bodyPost_ret (v := WVd) (by rw [results_cell1 rfl]; go_simp) rfl ⟨rfl, ?_⟩
  first | exact below1 _ _ | exact Below.on (below1 _ _) (below1 _ _) | exact Below.refl _ _
set_option maxRecDepth 20000 in
set_option maxHeartbeats 8000000 in
theorem way_u (w : World) :
    Calls Tryz.prog 71 #[] w fun en w' => en = .returned WVu ∧ Below w.heap.size w w' := by
  have c0 : (w.alloc (.cells #[.nilFunc, .nilFunc] 112)).cell? ⟨w.heap.size, 0, none⟩ = some .nilFunc := by go_simp
  have f0 : (w.alloc (.cells #[.nilFunc, .nilFunc] 112)).frozen? ⟨w.heap.size, 0, none⟩ = false := by go_simp
  have c1 : (w.alloc (.cells #[.nilFunc, .nilFunc] 112)).cell? ⟨w.heap.size, 1, none⟩ = some .nilFunc := by go_simp
  have f1 : (w.alloc (.cells #[.nilFunc, .nilFunc] 112)).frozen? ⟨w.heap.size, 1, none⟩ = false := by go_simp
  go_enter Tryz.func71, Tryz.ntmps71
  go_wp2_with fail
  refine bodyPost_ret (v := WVu) (by rw [results_cell1 rfl]; go_simp) rfl ⟨rfl, ?_⟩
  first | exact below1 _ _ | exact Below.on (below1 _ _) (below1 _ _) | exact Below.refl _ _
set_option maxRecDepth 20000 in
set_option maxHeartbeats 8000000 in
theorem cut_d {q : Option Addr} {m c : Nat} {w : World} {z e : Int} {P K : Nat} {s : Bool} (h : ZN w s q m c z) (he : -2621440 ≤ e ∧ e ≤ 2621440) (hP : 1 ≤ P ∧ P ≤ 70000) (hK : K = bitsN z.natAbs - P) (hT : Tab w) :
    Calls Tryz.prog 118 #[WVd, ZV s q m c, .int .i64 e, .int .i64 P] w fun en w' => MakeP w.heap.size w' en (rd false z (2 ^ K)) (e + K) ∧ Below w.heap.size w w' := by
  have H : Hid (ZN w s q m c z) := h
  have TB : Hid (Tab w) := hT
  have hb := (lim_bits z.natAbs).1 h.lim
  have f1 : wrap64 ((bitsN z.natAbs : Int) - P) = (bitsN z.natAbs : Int) - P := by simp only [wrap64]; omega
  have f2 : max ((bitsN z.natAbs : Int) - P) 0 = (K : Int) := by omega
  have f4 : wrap64 (e + K) = e + K := by simp only [wrap64]; omega
  have f5 : IntKind.i64.wrap (e + K) = e + K := by simp [IntKind.wrap, IntKind.signed, IntKind.bits]; omega
  have HF : Hid (wrap64 (e + K) = e + K ∧ IntKind.i64.wrap (e + K) = e + K ∧ -3145728 ≤ e + K ∧ e + K ≤ 3145728 ∧ K ≤ 9223372036854775807) := ⟨f4, f5, by omega, by omega, by omega⟩
  have HR : Hid (rd false z (2 ^ K) = fl (decide (z < 0)) z.natAbs (2 ^ K)) := by rw [fl_eq _ _ (Nat.pow_pos (by omega))]; rfl
  clear h hT hb he hP hK f4 f5
  go_enter Tryz.func118, Tryz.ntmps118
  go_wp2_with fail
  obtain ⟨W0, hW0⟩ : ∃ W0, W0 = (((w.alloc (.cells #[.func (.func 87) #[] #[], .func (.func 116) #[] #[]] 112)).alloc (.cells #[.bool s, .slice q m c] 32)).alloc (.cells #[.bool false, .slice none 0 0, .int .i64 0] 34)) := ⟨_, rfl⟩
  have Xy : Hid (Box W0 (w.heap.size) (.func (.func 87) #[] #[]) (.func (.func 116) #[] #[])) := by rw [hW0]; exact ⟨by go_simp, by go_simp, by go_simp, by go_simp⟩
  have Xm : Hid (Box W0 (w.heap.size + 1) (.bool s) (.slice q m c)) := by rw [hW0]; exact ⟨by go_simp, by go_simp, by go_simp, by go_simp⟩
  have Xr : Hid (B3q W0 (w.heap.size + 1 + 1) (.bool false) (.slice none 0 0) (.int .i64 0)) := by rw [hW0]; exact ⟨by go_simp, by go_simp, by go_simp, by go_simp, by go_simp, by go_simp⟩
  have hb0 : Below w.heap.size w W0 := by rw [hW0]; exact below3 w _ _ _
  rw [← hW0]
  clear hW0
  have hbw : Below w.heap.size w w := Below.refl _ _
  obtain ⟨gr, hgr⟩ : ∃ g, g = w.heap.size + 1 + 1 := ⟨_, rfl⟩
  have HGr : Hid (w.heap.size ≤ gr) := by rw [hgr]; show _ ≤ _; omega
  rw [← hgr] at Xr
  try rw [← hgr]
  obtain ⟨gm, hgm⟩ : ∃ g, g = w.heap.size + 1 := ⟨_, rfl⟩
  have HGm : Hid (w.heap.size ≤ gm) := by rw [hgm]; show _ ≤ _; omega
  rw [← hgm] at Xm
  try rw [← hgm]
  obtain ⟨gy, hgy⟩ : ∃ g, g = w.heap.size := ⟨_, rfl⟩
  have HGy : Hid (w.heap.size ≤ gy) := by rw [hgy]; show _ ≤ _; omega
  rw [← hgy] at Xy
  try rw [← hgy]
  have HGD : Hid (gy ≠ gm ∧ gy ≠ gr ∧ gm ≠ gy ∧ gm ≠ gr ∧ gr ≠ gy ∧ gr ≠ gm) := by rw [hgy, hgm, hgr]; exact ⟨by omega, by omega, by omega, by omega, by omega, by omega⟩
  clear hgy hgm hgr
  replace hbw := Below.on hbw hb0
  clear hb0
  obtain ⟨xs, hX⟩ := (H.out.below hbw).ex
  refine (bits_any hX.at_ (by have := hX.le; omega)).mono ?_
  rintro e2 v3 ⟨rfl, hw⟩
  obtain rfl := hw.symm
  clear hw
  rw [hX.nf.val]
  clear hX
  obtain ⟨cy0, cy1, fy0, fy1⟩ := Xy.out
  have hney := Xy.out.lt
  obtain ⟨cm0, cm1, fm0, fm1⟩ := Xm.out
  have hnem := Xm.out.lt
  go_wp2_with fail
  clear cy0 cy1 fy0 fy1 hney
  clear cm0 cm1 fm0 fm1 hnem
  clear f1 f2
  refine (zfshr (H.out.below hbw) K HF.out.2.2.2.2 (TB.out.below hbw)).mono ?_
  rintro e v5 ⟨⟨s5, p5, m5, rfl, hz⟩, hb5⟩
  replace Xy : Hid _ := Xy.out.below hb5
  replace Xm : Hid _ := Xm.out.below hb5
  replace Xr : Hid _ := Xr.out.below hb5
  replace hbw := Below.on hbw hb5
  clear hb5
  have hz := hz.cast (z' := rd false z (2 ^ K)) (HR.out.symm)
  have Z5 : Hid (ZN v5 s5 p5 m5 m5 (rd false z (2 ^ K))) := hz
  clear hz
  have f4 := HF.out.1
  have f5 := HF.out.2.1
  go_wp2_with fail
  clear f4 f5
  have Xq0 : Hid (Box (v5.alloc (.cells #[.bool s5, .slice p5 m5 m5] 32)) v5.heap.size (.bool s5) (.slice p5 m5 m5)) := Box.new v5 _ _ _
  have hbn : Below v5.heap.size v5 (v5.alloc (.cells #[.bool s5, .slice p5 m5 m5] 32)) := below1 v5 _
  generalize v5.alloc (.cells #[.bool s5, .slice p5 m5 m5] 32) = Wq at *
  have HGq : Hid (w.heap.size ≤ v5.heap.size) := hbw.size
  replace Xy : Hid _ := Xy.out.below hbn
  replace Xm : Hid _ := Xm.out.below hbn
  replace Xr : Hid _ := Xr.out.below hbn
  replace Z5 : Hid _ := Z5.out.below hbn
  replace hbw := Below.on hbw hbn
  clear hbn
  generalize v5.heap.size = gq at *
  have Xq := Xq0
  clear Xq0
  have HRL : Hid (gr < Wq.heap.size ∧ w.heap.size ≤ Wq.heap.size) := ⟨Xr.out.lt, hbw.size⟩
  refine (makep Z5.out (by have := HF.out; omega) (TB.out.below hbw)).mono ?_
  rintro e2 v6 ⟨hv, hb6⟩
  obtain ⟨s6, p6, m6, eo, er, rfl, hmp⟩ := hv.open
  clear hv
  replace Xy : Hid _ := Xy.out.below hb6
  replace Xm : Hid _ := Xm.out.below hb6
  replace Xr : Hid _ := Xr.out.below hb6
  replace Xq : Hid _ := Xq.out.below hb6
  replace Z5 : Hid _ := Z5.out.below hb6
  replace hbw := Below.on hbw hb6
  clear hb6
  have M6 : Hid (MP Wq.heap.size v6 s6 p6 m6 eo er (rd false z (2 ^ K)) (e + K)) := hmp
  clear hmp
  obtain ⟨cr0, cr1, cr2, fr0, fr1, fr2⟩ := Xr.out
  have hner : gr < v6.heap.size := World.block_lt_of_cell? v6 _ cr0
  go_wp2_with fail
  refine bodyPost_ret (v := .tuple #[DV s6 p6 m6 m6 eo, .int .i64 er]) (by rw [results_cell_tmp rfl]; go_simp) rfl ⟨(M6.out.set HRL.out.1 HRL.out.2 _ _ _).close, ?_⟩
  exact bSet (bSet (bSet hbw _ _ _ HGr.out) _ _ _ HGr.out) _ _ _ HGr.out
set_option maxRecDepth 20000 in
set_option maxHeartbeats 8000000 in
theorem cut_u {q : Option Addr} {m c : Nat} {w : World} {z e : Int} {P K : Nat} {s : Bool} (h : ZN w s q m c z) (he : -2621440 ≤ e ∧ e ≤ 2621440) (hP : 1 ≤ P ∧ P ≤ 70000) (hK : K = bitsN z.natAbs - P) (hT : Tab w) :
    Calls Tryz.prog 118 #[WVu, ZV s q m c, .int .i64 e, .int .i64 P] w fun en w' => MakeP w.heap.size w' en (rd true z (2 ^ K)) (e + K) ∧ Below w.heap.size w w' := by
  have H : Hid (ZN w s q m c z) := h
  have TB : Hid (Tab w) := hT
  have hb := (lim_bits z.natAbs).1 h.lim
  have f1 : wrap64 ((bitsN z.natAbs : Int) - P) = (bitsN z.natAbs : Int) - P := by simp only [wrap64]; omega
  have f2 : max ((bitsN z.natAbs : Int) - P) 0 = (K : Int) := by omega
  have f4 : wrap64 (e + K) = e + K := by simp only [wrap64]; omega
  have f5 : IntKind.i64.wrap (e + K) = e + K := by simp [IntKind.wrap, IntKind.signed, IntKind.bits]; omega
  have HF : Hid (wrap64 (e + K) = e + K ∧ IntKind.i64.wrap (e + K) = e + K ∧ -3145728 ≤ e + K ∧ e + K ≤ 3145728 ∧ K ≤ 9223372036854775807) := ⟨f4, f5, by omega, by omega, by omega⟩
  have HR : Hid (rd true z (2 ^ K) = ce (decide (z < 0)) z.natAbs (2 ^ K)) := by rw [ce_eq _ _ (Nat.pow_pos (by omega))]; rfl
  clear h hT hb he hP hK f4 f5
  go_enter Tryz.func118, Tryz.ntmps118
  go_wp2_with fail
  obtain ⟨W0, hW0⟩ : ∃ W0, W0 = (((w.alloc (.cells #[.func (.func 119) #[] #[], .func (.func 120) #[] #[]] 112)).alloc (.cells #[.bool s, .slice q m c] 32)).alloc (.cells #[.bool false, .slice none 0 0, .int .i64 0] 34)) := ⟨_, rfl⟩
  have Xy : Hid (Box W0 (w.heap.size) (.func (.func 119) #[] #[]) (.func (.func 120) #[] #[])) := by rw [hW0]; exact ⟨by go_simp, by go_simp, by go_simp, by go_simp⟩
  have Xm : Hid (Box W0 (w.heap.size + 1) (.bool s) (.slice q m c)) := by rw [hW0]; exact ⟨by go_simp, by go_simp, by go_simp, by go_simp⟩
  have Xr : Hid (B3q W0 (w.heap.size + 1 + 1) (.bool false) (.slice none 0 0) (.int .i64 0)) := by rw [hW0]; exact ⟨by go_simp, by go_simp, by go_simp, by go_simp, by go_simp, by go_simp⟩
  have hb0 : Below w.heap.size w W0 := by rw [hW0]; exact below3 w _ _ _
  rw [← hW0]
  clear hW0
  have hbw : Below w.heap.size w w := Below.refl _ _
  obtain ⟨gr, hgr⟩ : ∃ g, g = w.heap.size + 1 + 1 := ⟨_, rfl⟩
  have HGr : Hid (w.heap.size ≤ gr) := by rw [hgr]; show _ ≤ _; omega
  rw [← hgr] at Xr
  try rw [← hgr]
  obtain ⟨gm, hgm⟩ : ∃ g, g = w.heap.size + 1 := ⟨_, rfl⟩
  have HGm : Hid (w.heap.size ≤ gm) := by rw [hgm]; show _ ≤ _; omega
  rw [← hgm] at Xm
  try rw [← hgm]
  obtain ⟨gy, hgy⟩ : ∃ g, g = w.heap.size := ⟨_, rfl⟩
  have HGy : Hid (w.heap.size ≤ gy) := by rw [hgy]; show _ ≤ _; omega
  rw [← hgy] at Xy
  try rw [← hgy]
  have HGD : Hid (gy ≠ gm ∧ gy ≠ gr ∧ gm ≠ gy ∧ gm ≠ gr ∧ gr ≠ gy ∧ gr ≠ gm) := by rw [hgy, hgm, hgr]; exact ⟨by omega, by omega, by omega, by omega, by omega, by omega⟩
  clear hgy hgm hgr
  replace hbw := Below.on hbw hb0
  clear hb0
  obtain ⟨xs, hX⟩ := (H.out.below hbw).ex
  refine (bits_any hX.at_ (by have := hX.le; omega)).mono ?_
  rintro e2 v3 ⟨rfl, hw⟩
  obtain rfl := hw.symm
  clear hw
  rw [hX.nf.val]
  clear hX
  obtain ⟨cy0, cy1, fy0, fy1⟩ := Xy.out
  have hney := Xy.out.lt
  obtain ⟨cm0, cm1, fm0, fm1⟩ := Xm.out
  have hnem := Xm.out.lt
  go_wp2_with fail
  clear cy0 cy1 fy0 fy1 hney
  clear cm0 cm1 fm0 fm1 hnem
  clear f1 f2
  refine (zcshr (H.out.below hbw) K HF.out.2.2.2.2 (TB.out.below hbw)).mono ?_
  rintro e v5 ⟨⟨s5, p5, m5, rfl, hz⟩, hb5⟩
  replace Xy : Hid _ := Xy.out.below hb5
  replace Xm : Hid _ := Xm.out.below hb5
  replace Xr : Hid _ := Xr.out.below hb5
  replace hbw := Below.on hbw hb5
  clear hb5
  have hz := hz.cast (z' := rd true z (2 ^ K)) (HR.out.symm)
  have Z5 : Hid (ZN v5 s5 p5 m5 m5 (rd true z (2 ^ K))) := hz
  clear hz
  have f4 := HF.out.1
  have f5 := HF.out.2.1
  go_wp2_with fail
  clear f4 f5
  have Xq0 : Hid (Box (v5.alloc (.cells #[.bool s5, .slice p5 m5 m5] 32)) v5.heap.size (.bool s5) (.slice p5 m5 m5)) := Box.new v5 _ _ _
  have hbn : Below v5.heap.size v5 (v5.alloc (.cells #[.bool s5, .slice p5 m5 m5] 32)) := below1 v5 _
  generalize v5.alloc (.cells #[.bool s5, .slice p5 m5 m5] 32) = Wq at *
  have HGq : Hid (w.heap.size ≤ v5.heap.size) := hbw.size
  replace Xy : Hid _ := Xy.out.below hbn
  replace Xm : Hid _ := Xm.out.below hbn
  replace Xr : Hid _ := Xr.out.below hbn
  replace Z5 : Hid _ := Z5.out.below hbn
  replace hbw := Below.on hbw hbn
  clear hbn
  generalize v5.heap.size = gq at *
  have Xq := Xq0
  clear Xq0
  have HRL : Hid (gr < Wq.heap.size ∧ w.heap.size ≤ Wq.heap.size) := ⟨Xr.out.lt, hbw.size⟩
  refine (makep Z5.out (by have := HF.out; omega) (TB.out.below hbw)).mono ?_
  rintro e2 v6 ⟨hv, hb6⟩
  obtain ⟨s6, p6, m6, eo, er, rfl, hmp⟩ := hv.open
  clear hv
  replace Xy : Hid _ := Xy.out.below hb6
  replace Xm : Hid _ := Xm.out.below hb6
  replace Xr : Hid _ := Xr.out.below hb6
  replace Xq : Hid _ := Xq.out.below hb6
  replace Z5 : Hid _ := Z5.out.below hb6
  replace hbw := Below.on hbw hb6
  clear hb6
  have M6 : Hid (MP Wq.heap.size v6 s6 p6 m6 eo er (rd true z (2 ^ K)) (e + K)) := hmp
  clear hmp
  obtain ⟨cr0, cr1, cr2, fr0, fr1, fr2⟩ := Xr.out
  have hner : gr < v6.heap.size := World.block_lt_of_cell? v6 _ cr0
  go_wp2_with fail
  refine bodyPost_ret (v := .tuple #[DV s6 p6 m6 m6 eo, .int .i64 er]) (by rw [results_cell_tmp rfl]; go_simp) rfl ⟨(M6.out.set HRL.out.1 HRL.out.2 _ _ _).close, ?_⟩
  exact bSet (bSet (bSet hbw _ _ _ HGr.out) _ _ _ HGr.out) _ _ _ HGr.out
end Go.Proofs.YtfofoookdlaipaaGreatDoor

namespace Go.Proofs.YtfofoookdlaipaaGreatDoor
open Go.RowKit Go.Shelf

set_option maxRecDepth 20000 in
set_option maxHeartbeats 8000000 in
theorem nought_t {p : Option Addr} {c : Nat} {w : World} {e : Int} {s : Bool} :
    Calls Tryz.prog 26 #[DV s p 0 c e] w fun en w' => en = .returned (.bool true) ∧ Below w.heap.size w w' := by
  go_enter Tryz.func26, Tryz.ntmps26
  go_wp2_with fail
  go_ret
  exact ⟨rfl, below1 w _⟩
theorem nought {p : Option Addr} {m c : Nat} {w : World} {e : Int} {s : Bool} :
    Calls Tryz.prog 26 #[DV s p m c e] w fun en w' => en = .returned (.bool (decide (m = 0))) ∧ Below w.heap.size w w' := by
  rcases Nat.eq_zero_or_pos m with h | h
  · subst h; exact nought_t
  · rw [decide_eq_false (by omega)]; exact nought5 h
end Go.Proofs.YtfofoookdlaipaaGreatDoor

namespace Go.Proofs.YtfofoookdlaipaaGreatDoor
open Go.RowKit Go.Shelf

end Go.Proofs.YtfofoookdlaipaaGreatDoor

namespace Go.Proofs.YtfofoookdlaipaaGreatDoor
open Go.RowKit Go.Shelf

end Go.Proofs.YtfofoookdlaipaaGreatDoor

