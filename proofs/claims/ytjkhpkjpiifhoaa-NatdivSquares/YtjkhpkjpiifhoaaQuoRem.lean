import Derived.Test.YtjkhpkjpiifhoaaDivide
import Derived.Test.YtjkhpkjpiifhoaaDivW
namespace Go.Proofs.Ytjkhpkjpiifhoaa
open Go.RowKit Go.Shelf

theorem Nf.one {ys : List Nat} {b : Nat} (hy : Nf B64 ys b) (hl : ys.length = 1) : ys = [b] := by
  match ys, hl with
  | [y], _ => have := hy.val; simp [valB] at this; rw [this]
theorem Nf.lt_of_len {xs ys : List Nat} {a b n m : Nat} (hx : Nf B64 xs a) (hy : Nf B64 ys b) (hl : xs.length = n) (hm : ys.length = m) (h : n < m) : a < b := by
  have := val_lt_len hx.dig hy.top (by omega)
  rw [hx.val, hy.val] at this; exact this

set_option maxHeartbeats 2000000 in
theorem quorem_any {p q : Option Addr} {n m c d : Nat} {xs ys : List Nat} {a b : Nat} {w : World} (h : At w p n c xs) (k : At w q m d ys) (hx : Nf B64 xs a) (hy : Nf B64 ys b) (hlx : n ≤ 8192) (hly : m ≤ 8192) (hb : b ≠ 0) :
    Calls Try.prog 33 #[.slice p n c, .slice q m d] w fun e w' => ∃ v1 v2, e = .returned (.tuple #[v1, v2, .int .i64 0]) ∧ DivTo w a b v1 v2 w' := by
  have fx := hx.form (by rw [h.len]; exact hlx)
  have fy := hy.form (by rw [k.len]; exact hly)
  have hm0 : 0 < m := by
    rcases Nat.eq_zero_or_pos m with e | e
    · exact absurd ((hy.zero_iff B64_one).1 (List.eq_nil_of_length_eq_zero (by rw [k.len]; exact e))) hb
    · exact e
  have HX : Hid (Nf B64 xs a) := hx
  have HY : Hid (Nf B64 ys b) := hy
  clear hx hy
  have hlenx := h.len; have hleny := k.len
  have HLX : Hid (xs.length = n) := hlenx
  have HLY : Hid (ys.length = m) := hleny
  clear hlenx hleny
  go_enter Try.func33, Try.ntmps33
  go_wp2_with fail
  refine (form_true h fx).mono ?_
  rintro e w' ⟨rfl, hw⟩
  obtain rfl := hw.symm
  clear hw
  go_wp2_with fail
  refine (form_true k fy).mono ?_
  rintro e w' ⟨rfl, hw⟩
  obtain rfl := hw.symm
  clear hw fx fy
  have hm0' : ((m : Int) == 0) = false := by simp; omega
  by_cases h1 : m = 1
  · subst h1
    obtain ⟨gq, oq, rfl, hcq⟩ := k.cells.resolve_left (by omega)
    have hc0 : w.cell? ⟨gq, oq, none⟩ = some (U b) := by
      have := hcq 0 (by omega)
      rw [HY.out.one HLY.out] at this; exact this
    have hbb : b < B64 := by
      have := HY.out.dig b (by rw [HY.out.one HLY.out]; simp)
      exact this
    clear hcq
    go_wp2_with fail
    refine (divw_nf h HX.out hlx b hbb hb).mono ?_
    rintro e w1 ⟨⟨p1, m1, zs1, rfl, ho1, n1, hm1⟩, hb1⟩
    have N1 : Hid (Nf B64 zs1 (a / b)) := n1
    obtain ⟨r, hr⟩ : ∃ r, r = a % b := ⟨_, rfl⟩
    rw [← hr]
    have HR : Hid (r = a % b) := hr
    have hrb : r < B64 := by rw [hr]; exact Nat.lt_trans (Nat.mod_lt _ (by omega)) hbb
    clear n1 hr
    go_wp2_with fail
    refine (word_any r w1 hrb).mono ?_
    rintro e w2 ⟨p2, m2, zs2, rfl, ho2, n2, hm2, hb2⟩
    have N2 : Hid (Nf B64 zs2 r) := n2
    clear n2
    go_wp2_with fail
    go_ret3
    refine ⟨_, _, rfl, ⟨p1, m1, zs1, rfl, ho1.below hb2, N1.out, hm1⟩, ⟨p2, m2, zs2, rfl, ho2.mono hb1.size, ?_, by omega⟩, Below.on hb1 hb2⟩
    rw [← HR.out]; exact N2.out
  · have h1' : ((m : Int) == 1) = false := by simp; omega
    by_cases hlt : n < m
    · have hab := HX.out.lt_of_len HY.out HLX.out HLY.out hlt
      have HQ : Hid (a / b = 0 ∧ a % b = a) := ⟨Nat.div_eq_of_lt hab, Nat.mod_eq_of_lt hab⟩
      clear hab
      go_wp2_with fail
      refine (norm_any h).mono ?_
      rintro e w1 ⟨ha1, hb1⟩
      rw [HX.out.val] at ha1
      have hal : a < LIM := HX.out.lim.1 (by rw [HLX.out]; exact hlx)
      rcases ha1 with ⟨_, p1, m1, zs, rfl, ho, hn1, hm1⟩ | ⟨hge, _⟩
      · have N1 : Hid (Nf B64 zs a) := hn1
        clear hn1 hal
        go_wp2_with fail
        go_ret3
        refine ⟨_, _, rfl, ⟨none, 0, [], rfl, ⟨rfl, Dig.nil _, .inl rfl⟩, ?_, by omega⟩, ⟨p1, m1, zs, rfl, ho, ?_, hm1⟩, hb1⟩
        · rw [HQ.out.1]; exact Nf.nil _
        · rw [HQ.out.2]; exact N1.out
      · omega
    · obtain ⟨gp, op, rfl, _⟩ := h.cells.resolve_left (by omega)
      obtain ⟨gq, oq, rfl, _⟩ := k.cells.resolve_left (by omega)
      go_wp2_with fail
      refine (divide_any h k HX.out HY.out hlx (by omega) (by omega)).mono ?_
      rintro e w1 ⟨v1, v2, rfl, hD⟩
      have HD : Hid (DivTo w a b v1 v2 w1) := hD
      clear hD
      go_wp2_with fail
      go_ret3
      exact ⟨_, _, rfl, HD.out⟩
end Go.Proofs.Ytjkhpkjpiifhoaa
