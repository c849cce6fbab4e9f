import Derived.Test.YtmmgnkhfaiophaaDoorNat1
namespace Go.Proofs.YtmmgnkhfaiophaaDoor
open Go.RowKit

theorem dig_pad {xs : List Nat} (h : Dig B64 xs) (n : Nat) : Dig B64 (xs ++ List.replicate n 0) := h.append (Dig.replicate _ _ B64_pos)

theorem add_abs {P Q R A B Z cy : Nat} (hs : Z + Q * cy = A + B) (h1 : A < P) (h2 : B < R) (h3 : R ≤ P) (h5 : P * 2 ≤ Q) : Z = A + B := by
  by_cases hc : cy = 0
  · subst hc; omega
  · have h6 : Q * 1 ≤ Q * cy := Nat.mul_le_mul_left _ (by omega)
    omega
/-- The rest of nat.Add, once the longer list comes first. -/
theorem add_fin {n m : Nat} {zs xs ys : List Nat} {a b cy : Nat} (hx : Nf B64 xs a) (hy : Nf B64 ys b) (hlx : xs.length = n) (hly : ys.length = m) (hmn : m ≤ n)
    (hs : valB B64 zs + B64 ^ (n + 1) * cy = valB B64 (xs ++ List.replicate (n + 1 - n) 0) + valB B64 ys) : valB B64 zs = a + b := by
  rw [valB_append_zeros, hx.val, hy.val] at hs
  have h1 := valB_lt B64_pos hx.dig
  have h2 := valB_lt B64_pos hy.dig
  rw [hx.val, hlx] at h1
  rw [hy.val, hly] at h2
  refine add_abs hs h1 h2 (Nat.pow_le_pow_right B64_pos hmn) ?_
  rw [Nat.pow_succ]; exact Nat.mul_le_mul_left _ B64_two

set_option maxRecDepth 20000 in
set_option maxHeartbeats 1000000 in
theorem add_ord {p q : Option Addr} {n m c d : Nat} {xs ys : List Nat} {a b : Nat} {w : World} (h : At w p n c xs) (k : At w q m d ys) (hx : Nf B64 xs a) (hy : Nf B64 ys b) (hlx : n ≤ 8192) (hly : m ≤ 8192) :
    Calls Tryd.prog 97 #[.slice p n c, .slice q m d] w fun e w' => Ans w.heap.size w' e (a + b) ∧ Below w.heap.size w w' := by
  have fx := hx.form (by rw [h.len]; exact hlx)
  have fy := hy.form (by rw [k.len]; exact hly)
  have HX : Hid (Nf B64 xs a) := hx
  have HY : Hid (Nf B64 ys b) := hy
  clear hx hy
  go_enter Tryd.func97, Tryd.ntmps97
  go_wp2_with fail
  refine (form_true h fx).mono ?_
  rintro e w' ⟨rfl, hw⟩
  obtain rfl := hw.symm
  clear hw
  go_wp2_with fail
  refine (form_true k fy).mono ?_
  rintro e w' ⟨rfl, hw⟩
  obtain rfl := hw.symm
  clear hw fx fy
  by_cases hlt : n < m
  · go_wp2_with fail
    rw [show ((m : Int) + 1) = ((m + 1 : Nat) : Int) by omega]
    refine (copied_any k (m + 1) (by omega) (by omega)).mono ?_
    rintro e w1 ⟨g, rfl, hg, hblk, hb⟩
    have hd1 := dig_pad HY.out.dig (m + 1 - m)
    have hr := hblk.row hd1
    have hl1 : (ys ++ List.replicate (m + 1 - m) 0).length = m + 1 := by rw [List.length_append, List.length_replicate, k.len]; omega
    rw [hl1] at hr
    have h1 := h.below hb
    go_wp2_with fail
    refine (ladd_any g 0 (m + 1) (m + 1) _ p n c xs _ hr (Nat.le_refl _) (by omega) h1 (by omega) (fun g2 off2 hn hp => .inl (h.fresh hg g2 off2 hn hp))).mono ?_
    rintro e w2 ⟨cy, zs, rfl, _, hwr, hrow, hsum⟩
    have A2 := hrow.at_ (Nat.le_refl _) (by unfold maxLen; omega)
    have hval := add_fin HY.out HX.out k.len h.len (by omega) hsum
    have hN := Nf.trim hrow.dig
    rw [hval] at hN
    have HV : Hid (Nf B64 (trimL zs) (b + a)) := hN
    have hb2 : Below w.heap.size w w2 := hb.trans (hwr.below hg)
    clear hsum hval hN hd1 hl1 hr hblk
    go_wp2_with fail
    refine (fitted_any A2).mono ?_
    rintro e w3 hres
    rcases hres with ⟨hle, ⟨p', m', rfl, hm', hp'⟩, hw⟩ | ⟨hgt, rfl, hw⟩
    · obtain rfl := hw.symm
      have HM : Hid (m' = (trimL zs).length) := hm'
      clear hw hm'
      go_wp2_with fail
      go_ret2
      have e1 := HM.out
      rw [Nat.add_comm a b]
      exact ⟨.inl ⟨HV.out.lim.1 hle, p', m', trimL zs, rfl, hrow.own hg e1 hp', HV.out, by omega⟩, hb2⟩
    · obtain rfl := hw.symm
      clear hw
      go_wp2_with fail
      go_ret2
      rw [Nat.add_comm a b]
      refine ⟨.inr ⟨?_, rfl⟩, hb2⟩
      have := mt HV.out.lim.2 (by omega)
      omega
  · go_wp2_with fail
    rw [show ((n : Int) + 1) = ((n + 1 : Nat) : Int) by omega]
    refine (copied_any h (n + 1) (by omega) (by omega)).mono ?_
    rintro e w1 ⟨g, rfl, hg, hblk, hb⟩
    have hd1 := dig_pad HX.out.dig (n + 1 - n)
    have hr := hblk.row hd1
    have hl1 : (xs ++ List.replicate (n + 1 - n) 0).length = n + 1 := by rw [List.length_append, List.length_replicate, h.len]; omega
    rw [hl1] at hr
    have h1 := k.below hb
    go_wp2_with fail
    refine (ladd_any g 0 (n + 1) (n + 1) _ q m d ys _ hr (Nat.le_refl _) (by omega) h1 (by omega) (fun g2 off2 hn hp => .inl (k.fresh hg g2 off2 hn hp))).mono ?_
    rintro e w2 ⟨cy, zs, rfl, _, hwr, hrow, hsum⟩
    have A2 := hrow.at_ (Nat.le_refl _) (by unfold maxLen; omega)
    have hval := add_fin HX.out HY.out h.len k.len (by omega) hsum
    have hN := Nf.trim hrow.dig
    rw [hval] at hN
    have HV : Hid (Nf B64 (trimL zs) (a + b)) := hN
    have hb2 : Below w.heap.size w w2 := hb.trans (hwr.below hg)
    clear hsum hval hN hd1 hl1 hr hblk
    go_wp2_with fail
    refine (fitted_any A2).mono ?_
    rintro e w3 hres
    rcases hres with ⟨hle, ⟨p', m', rfl, hm', hp'⟩, hw⟩ | ⟨hgt, rfl, hw⟩
    · obtain rfl := hw.symm
      have HM : Hid (m' = (trimL zs).length) := hm'
      clear hw hm'
      go_wp2_with fail
      go_ret2
      have e1 := HM.out
      exact ⟨.inl ⟨HV.out.lim.1 hle, p', m', trimL zs, rfl, hrow.own hg e1 hp', HV.out, by omega⟩, hb2⟩
    · obtain rfl := hw.symm
      clear hw
      go_wp2_with fail
      go_ret2
      refine ⟨.inr ⟨?_, rfl⟩, hb2⟩
      have := mt HV.out.lim.2 (by omega)
      omega

end Go.Proofs.YtmmgnkhfaiophaaDoor
