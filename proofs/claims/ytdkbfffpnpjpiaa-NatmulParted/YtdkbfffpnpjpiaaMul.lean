import Derived.Test.YtdkbfffpnpjpiaaMult
import Derived.Test.YtdkbfffpnpjpiaaNatAdd
namespace Go.Proofs.Ytdkbfffpnpjpiaa
open Go.RowKit

theorem Nf.big {us : List Nat} {a n : Nat} (h : Nf B64 us a) (hl : us.length = n) (h0 : 0 < n) : B64 ^ (n - 1) ≤ a := by
  have := mt (h.len_le (k := n - 1) B64_one).2 (by omega)
  omega
theorem mul_big (K : Nat) {us vs : List Nat} {a b n m : Nat} (hx : Nf B64 us a) (hy : Nf B64 vs b) (hl : us.length = n) (hm : vs.length = m) (h0 : 0 < n) (h1 : 0 < m) (h : K < n + m - 1) : B64 ^ K ≤ a * b := by
  refine Nat.le_trans ?_ (Nat.mul_le_mul (hx.big hl h0) (hy.big hm h1))
  rw [← Nat.pow_add]
  exact Nat.pow_le_pow_right B64_pos (by omega)
theorem mul_lim {us vs : List Nat} {a b n m : Nat} (hx : Nf B64 us a) (hy : Nf B64 vs b) (hl : us.length = n) (hm : vs.length = m) (h0 : 0 < n) (h1 : 0 < m) (h : 8192 < n + m - 1) : LIM ≤ a * b := by
  obtain ⟨K, hK⟩ : ∃ K, K = 8192 := ⟨8192, rfl⟩
  rw [LIM_eq K hK]
  exact mul_big K hx hy hl hm h0 h1 (by omega)
theorem Nf.zero {us : List Nat} {a : Nat} (h : Nf B64 us a) (hl : us.length = 0) : a = 0 := by
  obtain rfl := List.eq_nil_of_length_eq_zero hl
  have := h.val; simp [valB] at this; omega
theorem ans_zero (B : Nat) (w : World) : Ans B w (.returned (.tuple #[.slice none 0 0, .int .i64 0])) 0 :=
  .inl ⟨(Nf.nil B64).lim.1 (by simp), none, 0, [], rfl, ⟨rfl, Dig.nil _, .inl rfl⟩, Nf.nil _, by omega⟩

set_option maxRecDepth 20000 in
set_option maxHeartbeats 1000000 in
theorem mul_any {p q : Option Addr} {n m c d : Nat} {xs ys : List Nat} {a b : Nat} {w : World} (h : At w p n c xs) (k : At w q m d ys) (hx : Nf B64 xs a) (hy : Nf B64 ys b) (hlx : n ≤ 8192) (hly : m ≤ 8192) :
    Calls Try.prog 21 #[.slice p n c, .slice q m d] w fun e w' => Ans w.heap.size w' e (a * b) ∧ Below w.heap.size w w' := by
  have fx := hx.form (by rw [h.len]; exact hlx)
  have fy := hy.form (by rw [k.len]; exact hly)
  have HX : Hid (Nf B64 xs a) := hx
  have HY : Hid (Nf B64 ys b) := hy
  clear hx hy
  go_enter Try.func21, Try.ntmps21
  go_wp2_with fail
  refine (form_true h fx).mono ?_
  rintro e w' ⟨rfl, hw⟩
  obtain rfl := hw.symm
  clear hw
  go_wp2_with fail
  refine (form_true k fy).mono ?_
  rintro e w' ⟨rfl, hw⟩
  obtain rfl := hw.symm
  clear hw fx fy
  by_cases hn0 : n = 0
  · have HA : Hid (a = 0) := HX.out.zero (by rw [h.len]; exact hn0)
    subst hn0
    go_wp2_with fail
    go_ret2
    rw [HA.out, Nat.zero_mul]
    exact ⟨ans_zero _ _, Below.refl _ _⟩
  · by_cases hm0 : m = 0
    · have HA : Hid (b = 0) := HY.out.zero (by rw [k.len]; exact hm0)
      subst hm0
      go_wp2_with fail
      go_ret2
      rw [HA.out, Nat.mul_zero]
      exact ⟨ans_zero _ _, Below.refl _ _⟩
    · have hn0' : ((n : Int) == 0) = false := by simp; omega
      have hm0' : ((m : Int) == 0) = false := by simp; omega
      by_cases hbig : 8192 < n + m - 1
      · go_wp2_with fail
        go_ret2
        exact ⟨.inr ⟨mul_lim HX.out HY.out h.len k.len (by omega) (by omega) hbig, rfl⟩, Below.refl _ _⟩
      · go_wp2_with fail
        refine (mult_any h k (by omega) (by omega) hlx hly).mono ?_
        rintro e w1 ⟨p', m', zs, rfl, ho, hN, hb⟩
        rw [HX.out.val, HY.out.val] at hN
        have HV : Hid (Nf B64 zs (a * b)) := hN
        have HO : Hid (Own w.heap.size w1 p' m' zs) := ho
        have hlen : zs.length = m' := ho.1
        have HL : Hid (zs.length = m') := hlen
        clear hN ho hlen
        by_cases hle : m' ≤ 8192
        · go_wp2_with fail
          go_ret2
          exact ⟨.inl ⟨HV.out.lim.1 (by rw [HL.out]; exact hle), p', m', zs, rfl, HO.out, HV.out, hle⟩, hb⟩
        · go_wp2_with fail
          go_ret2
          refine ⟨.inr ⟨?_, rfl⟩, hb⟩
          have := mt HV.out.lim.2 (by rw [HL.out]; exact hle)
          omega
end Go.Proofs.Ytdkbfffpnpjpiaa
