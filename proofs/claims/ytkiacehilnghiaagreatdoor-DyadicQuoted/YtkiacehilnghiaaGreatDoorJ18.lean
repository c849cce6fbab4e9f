import Derived.Test.YtkiacehilnghiaaGreatDoorJ15
import Derived.Test.YtkiacehilnghiaaGreatDoorDa15
import Derived.Test.YtkiacehilnghiaaGreatDoorJ14
namespace Go.Proofs.YtkiacehilnghiaaGreatDoor
open Go.RowKit Go.Shelf

def GP (up : Bool) (z e E zo eo : Int) : Prop := DFm zo eo ∧ ((E ≤ e ∧ zo = z ∧ eo = e) ∨ (e < E ∧ dv zo eo = dv (rd up z (2 ^ (E - e).toNat)) E ∧ (zo = 0 ∨ E ≤ eo)))
theorem dv_grid {F e E : Int} (h : e < E) (he : -4194304 ≤ e) : dv F E = dv (F * ((2 ^ (E - e).toNat : Nat) : Int)) e := dv_shift (by omega) he
theorem GP.lo {z e E zo eo : Int} (h : GP false z e E zo eo) (he : -4194304 ≤ e) : dv zo eo ≤ dv z e := by
  rcases h.2 with ⟨_, rfl, rfl⟩ | ⟨h1, h2, _⟩
  · exact Int.le_refl _
  · rw [h2, dv_grid h1 he]
    exact dv_le _ (rd_down z (Nat.pow_pos (by omega))).1
theorem GP.hi {z e E zo eo : Int} (h : GP true z e E zo eo) (he : -4194304 ≤ e) : dv z e ≤ dv zo eo := by
  rcases h.2 with ⟨_, rfl, rfl⟩ | ⟨h1, h2, _⟩
  · exact Int.le_refl _
  · rw [h2, dv_grid h1 he]
    exact dv_le _ (rd_up z (Nat.pow_pos (by omega))).1
theorem GP.gap {z e E zl el zh eh : Int} (hl : GP false z e E zl el) (hh : GP true z e E zh eh) (he : -1048576 ≤ e) (hb : bitsN z.natAbs ≤ 524288) (hne : ¬ (zl = zh ∧ el = eh)) :
    e < E ∧ (zl = 0 ∨ E ≤ el) ∧ (zh = 0 ∨ E ≤ eh) ∧ dv zl el = dv zh eh - dv 1 E ∧ (zh ≠ 0 → (zh * 2 ^ (eh - min eh E).toNat).natAbs < LIM ∧ ((1 : Int) * 2 ^ (E - min eh E).toNat).natAbs < LIM ∧ (zh * 2 ^ (eh - min eh E).toNat - 1 * 2 ^ (E - min eh E).toNat).natAbs < LIM) := by
  rcases hl.2 with ⟨h1, h2, h3⟩ | ⟨h1, h2, h3⟩
  · rcases hh.2 with ⟨_, g2, g3⟩ | ⟨g1, _⟩
    · exact absurd ⟨by rw [h2, g2], by rw [h3, g3]⟩ hne
    · omega
  · rcases hh.2 with ⟨g1, _⟩ | ⟨_, g2, g3⟩
    · omega
    · have hs := rd_step z (d := 2 ^ (E - e).toNat) (Nat.pow_pos (by omega))
      have hsz := rd_size true (n := (E - e).toNat) (bitsN_lt z.natAbs)
      have hC : rd true z (2 ^ (E - e).toNat) = rd false z (2 ^ (E - e).toNat) + 1 := by
        rcases hs with ⟨h4, _⟩ | h4
        · rw [h4, ← h2] at g2
          obtain ⟨a1, a2⟩ := dv_inj hl.1 hh.1 g2.symm
          exact absurd ⟨a1, a2⟩ hne
        · exact h4
      generalize rd true z (2 ^ (E - e).toNat) = C at *
      generalize rd false z (2 ^ (E - e).toNat) = F at *
      refine ⟨h1, h3, g3, by rw [h2, g2, hC, dv_add]; omega, ?_⟩
      intro h0
      have h5 : E ≤ eh := by rcases g3 with g3 | g3; (exact absurd g3 h0); exact g3
      have h6 := form_len (h := E) g2 (by omega) h5 (by omega)
      rw [show min eh E = E from by omega, show (E - E).toNat = 0 from by omega]
      generalize zh * 2 ^ (eh - E).toNat = X at *
      obtain ⟨L, hL⟩ : ∃ L, L = bitsN z.natAbs - (E - e).toNat := ⟨_, rfl⟩
      rw [← hL] at hsz
      have h7 : 2 ^ (L + 1) = 2 * 2 ^ L := by rw [Nat.pow_succ]; omega
      have h8 : 0 < 2 ^ L := Nat.pow_pos (by omega)
      refine ⟨lt_LIM (L := L + 1) (by omega) (by omega), lt_LIM (L := 1) (by decide) (by omega), ?_⟩
      refine Nat.lt_of_le_of_lt (m := 2 ^ L + 1) (by omega) ?_
      rcases Nat.eq_zero_or_pos L with h9 | h9
      · subst h9; exact lt_LIM (L := 2) (by decide) (by omega)
      · exact lt_LIM (L := L + 1) (by have : 2 ≤ 2 ^ L := by { have := Nat.pow_le_pow_right (show 0 < 2 by omega) h9; omega }; omega) (by omega)
end Go.Proofs.YtkiacehilnghiaaGreatDoor

namespace Go.Proofs.YtkiacehilnghiaaGreatDoor
open Go.RowKit Go.Shelf

theorem bitsN_shr5 (a n : Nat) (h0 : a / 2 ^ n ≠ 0) : bitsN (a / 2 ^ n) = bitsN a - n := by
  have hp := Nat.two_pow_pos n
  have h1 := Nat.div_add_mod a (2 ^ n)
  have h2 := Nat.mod_lt a hp
  have := bitsN_top (lo := a % 2 ^ n) (k := n) (x := a / 2 ^ n) h2 (bitsN_lt _) (bitsN_le _ h0) (by have := bitsN_pos h0; omega)
  rw [Nat.add_comm (a % 2 ^ n), h1] at this
  omega
theorem rd_neg2 (z : Int) (d : Nat) : rd true (-z) d = - rd false z d := by rw [rd_t, rd_f, Int.neg_neg]
theorem rd_dvd (up : Bool) {z m : Int} {d : Nat} (hd : 0 < d) (h : z = m * d) : rd up z d * d = z := by
  cases up
  · rw [rd_f, h, Int.mul_ediv_cancel _ (by omega)]
  · rw [rd_t, h, ← Int.neg_mul, Int.mul_ediv_cancel _ (by omega), Int.neg_neg]
theorem qsize {A B P : Nat} (hB : B ≠ 0) (hP : 1 ≤ P) (hA : A ≠ 0) (h : bitsN A = P + bitsN B) : 2 ^ (P - 1) ≤ A / B ∧ A / B < 2 ^ (P + 1) := by
  have a1 := bitsN_lt A
  have a2 := bitsN_le A hA
  have b1 := bitsN_lt B
  have b2 := bitsN_le B hB
  have b3 := bitsN_pos hB
  constructor
  · rw [Nat.le_div_iff_mul_le (by omega)]
    refine Nat.le_trans (Nat.mul_le_mul_left _ (Nat.le_of_lt b1)) ?_
    rw [← Nat.pow_add, show P - 1 + bitsN B = bitsN A - 1 from by omega]
    exact a2
  · rw [Nat.div_lt_iff_lt_mul (by omega)]
    refine Nat.lt_of_lt_of_le a1 (Nat.le_trans ?_ (Nat.mul_le_mul_left _ b2))
    rw [← Nat.pow_add]
    exact Nat.pow_le_pow_right (by omega) (by omega)
theorem core1 {n0 n1 P : Nat} (h01 : n1 = n0 ∨ n1 = n0 + 1) (h0 : 2 ^ (P - 1) ≤ n0) (hP : 1 ≤ P) :
    rd true (n1 : Int) (2 ^ (bitsN n1 - P)) * ((2 ^ (bitsN n1 - P) : Nat) : Int) = rd true (n1 : Int) (2 ^ (bitsN n0 - P)) * ((2 ^ (bitsN n0 - P) : Nat) : Int) := by
  by_cases hb : bitsN n1 = bitsN n0
  · rw [hb]
  · have hn : n1 = n0 + 1 := by rcases h01 with h | h; (exact absurd (by rw [h]) hb); exact h
    have hp0 : 0 < 2 ^ (P - 1) := Nat.pow_pos (by omega)
    have a1 := bitsN_lt n0
    have a2 := bitsN_le n0 (by omega)
    have a3 := bitsN_pos (a := n0) (by omega)
    have hP0 : P ≤ bitsN n0 := by
      have := (Nat.pow_lt_pow_iff_right (by omega : 1 < 2)).1 (Nat.lt_of_le_of_lt h0 a1)
      omega
    have h2 : n1 = 2 ^ bitsN n0 := by
      rcases Nat.lt_or_ge n1 (2 ^ bitsN n0) with h | h
      · exact absurd (bitsN_unique h (fun _ => by omega) (fun h9 => by omega)) hb
      · omega
    have key : ∀ k, k ≤ bitsN n0 → rd true (n1 : Int) (2 ^ k) * ((2 ^ k : Nat) : Int) = n1 := by
      intro k hk
      refine rd_dvd true (m := ((2 ^ (bitsN n0 - k) : Nat) : Int)) (Nat.pow_pos (by omega)) ?_
      rw [h2, ← Int.natCast_mul, ← Nat.pow_add, show bitsN n0 - k + k = bitsN n0 from by omega]
    have h3 : bitsN n1 = bitsN n0 + 1 := by
      rw [h2]
      refine bitsN_unique (Nat.pow_lt_pow_right (by omega) (by omega)) (fun _ => Nat.le_refl _) (fun h9 => ?_)
      have : 0 < 2 ^ bitsN n0 := Nat.pow_pos (by omega)
      omega
    rw [key _ (by omega), key _ (by omega)]
theorem core2 {n0 n1 d : Nat} (h01 : n1 = n0 ∨ n1 = n0 + 1) (hd : 0 < d) : rd true (n1 : Int) d = rd false (n0 : Int) d ∨ rd true (n1 : Int) d = rd false (n0 : Int) d + 1 := by
  have h1 := rd_down (n0 : Int) hd
  have h2 := rd_up (n1 : Int) hd
  generalize rd false (n0 : Int) d = F at *
  generalize rd true (n1 : Int) d = C at *
  have h5 := Int.lt_of_mul_lt_mul_right (show (C - 1) * d < (F + 1) * d by omega) (by omega)
  have h6 := Int.lt_of_mul_lt_mul_right (show F * d < (C + 1) * d by rw [Int.add_mul]; omega) (by omega)
  omega
theorem bits_cut {n0 P : Nat} (h0 : 2 ^ (P - 1) ≤ n0) (hP : 1 ≤ P) : bitsN (rd false (n0 : Int) (2 ^ (bitsN n0 - P))).natAbs = P ∧ 0 < rd false (n0 : Int) (2 ^ (bitsN n0 - P)) := by
  have hp0 : 0 < 2 ^ (P - 1) := Nat.pow_pos (by omega)
  have a1 := bitsN_lt n0
  have hP0 : P ≤ bitsN n0 := by
    have := (Nat.pow_lt_pow_iff_right (by omega : 1 < 2)).1 (Nat.lt_of_le_of_lt h0 a1)
    omega
  have e1 : rd false (n0 : Int) (2 ^ (bitsN n0 - P)) = ((n0 / 2 ^ (bitsN n0 - P) : Nat) : Int) := by rw [rd_f]; exact (Int.natCast_ediv _ _).symm
  have h3 : 2 ^ (bitsN n0 - P) ≤ n0 := Nat.le_trans (Nat.pow_le_pow_right (by omega) (by omega)) (bitsN_le n0 (by omega))
  have h4 := Nat.div_pos h3 (Nat.pow_pos (by omega))
  rw [e1, Int.natAbs_natCast, bitsN_shr5 _ _ (by omega)]
  exact ⟨by omega, by omega⟩
structure QG (F C : Int) (P k : Nat) (Gl Gh : Int) : Prop where
  lo : rd false F (2 ^ (bitsN F.natAbs - P)) * ((2 ^ (bitsN F.natAbs - P) : Nat) : Int) = Gl * ((2 ^ k : Nat) : Int)
  hi : rd true C (2 ^ (bitsN C.natAbs - P)) * ((2 ^ (bitsN C.natAbs - P) : Nat) : Int) = Gh * ((2 ^ k : Nat) : Int)
  st : Gh = Gl ∨ Gh = Gl + 1
  kk : k ≤ 2
  sm : (0 < Gl ∧ bitsN Gl.natAbs = P) ∨ (Gh < 0 ∧ bitsN Gh.natAbs = P)
theorem qg_ex {X Y : Int} {P : Nat} (hX : X ≠ 0) (hY : Y ≠ 0) (hP : 1 ≤ P) (h : bitsN X.natAbs = P + bitsN Y.natAbs) : (∃ k Gl Gh, QG (qI false X Y) (qI true X Y) P k Gl Gh) ∧ qI false X Y ≠ 0 ∧ qI true X Y ≠ 0 ∧ bitsN (qI false X Y).natAbs ≤ P + 2 ∧ bitsN (qI true X Y).natAbs ≤ P + 2 := by
  obtain ⟨q1, q2⟩ := qsize (A := X.natAbs) (B := Y.natAbs) (by omega) hP (by omega) h
  have hp0 : 0 < 2 ^ (P - 1) := Nat.pow_pos (by omega)
  unfold qI
  rw [if_neg (by decide), if_pos rfl]
  obtain ⟨n0, hn0⟩ : ∃ n0, n0 = X.natAbs / Y.natAbs := ⟨_, rfl⟩
  obtain ⟨n1, hn1⟩ : ∃ n1, n1 = X.natAbs / Y.natAbs + (decide (X.natAbs % Y.natAbs ≠ 0)).toNat := ⟨_, rfl⟩
  have h01 : n1 = n0 ∨ n1 = n0 + 1 := by
    rw [hn1, hn0]
    cases decide (X.natAbs % Y.natAbs ≠ 0)
    · exact .inl rfl
    · exact .inr rfl
  rw [← hn0] at q1 q2
  have hbz : ∀ n : Nat, n ≤ 2 ^ (P + 1) → bitsN n ≤ P + 2 := by
    intro n hn
    by_cases h9 : n = 0
    · rw [h9, bitsN_zero]; omega
    · have h8 := bitsN_le n h9
      have h7 : 2 ^ (P + 1) < 2 ^ (P + 2) := Nat.pow_lt_pow_right (by omega) (by omega)
      have := (Nat.pow_lt_pow_iff_right (by omega : 1 < 2)).1 (Nat.lt_of_le_of_lt h8 (show n < 2 ^ (P + 2) by omega))
      omega
  have k0 := hbz n0 (by omega)
  have k1 := hbz n1 (by omega)
  have c1 := core1 h01 q1 hP
  have c2 := core2 h01 (d := 2 ^ (bitsN n0 - P)) (Nat.pow_pos (by omega))
  have c3 := bits_cut q1 hP
  cases hs : (decide (X < 0) != decide (Y < 0))
  · have eF : fl false X.natAbs Y.natAbs = (n0 : Int) := by unfold fl; rw [iv_f, Bool.false_and, ← hn0]; rfl
    have eC : ce false X.natAbs Y.natAbs = (n1 : Int) := by unfold ce; rw [iv_f, Bool.not_false, Bool.true_and, ← hn1]
    rw [eF, eC]
    refine ⟨⟨bitsN n0 - P, _, _, ⟨by rw [Int.natAbs_natCast], by rw [Int.natAbs_natCast]; exact c1, c2, by omega, .inl ⟨c3.2, c3.1⟩⟩⟩, by omega, by omega, by rw [Int.natAbs_natCast]; exact k0, by rw [Int.natAbs_natCast]; exact k1⟩
  · have eF : fl true X.natAbs Y.natAbs = -(n1 : Int) := by unfold fl; rw [iv_t, Bool.true_and, ← hn1]
    have eC : ce true X.natAbs Y.natAbs = -(n0 : Int) := by unfold ce; rw [iv_t, Bool.not_true, Bool.false_and, ← hn0]; rfl
    rw [eF, eC]
    refine ⟨⟨bitsN n0 - P, - rd true (n1 : Int) (2 ^ (bitsN n0 - P)), - rd false (n0 : Int) (2 ^ (bitsN n0 - P)), ⟨?_, ?_, by omega, by omega, .inr ⟨by omega, by rw [Int.natAbs_neg]; exact c3.1⟩⟩⟩, by omega, by omega, by rw [Int.natAbs_neg, Int.natAbs_natCast]; exact k1, by rw [Int.natAbs_neg, Int.natAbs_natCast]; exact k0⟩
    · rw [Int.natAbs_neg, Int.natAbs_natCast, rd_neg, Int.neg_mul, Int.neg_mul, c1]
    · rw [Int.natAbs_neg, Int.natAbs_natCast, rd_neg2, Int.neg_mul]
theorem topI_pos {x y e f : Int} (hx : 0 < x) (hy : 0 < y) (he : -4194304 ≤ e) (hf : -4194304 ≤ f) (h : dv x e ≤ dv y f) : topI x e ≤ topI y f := by
  rcases Int.lt_or_le (topI y f) (topI x e) with h1 | h1
  · have := top_lt (by omega) hx hf he h1
    omega
  · exact h1
theorem WB.bits {x y X Y L : Int} {P : Nat} (h : WB x y P X Y L) (hx : x ≠ 0) (hy : y ≠ 0) : bitsN X.natAbs = P + bitsN Y.natAbs ∧ X ≠ 0 ∧ Y ≠ 0 := by
  obtain ⟨h1, h2, h3⟩ := h
  have key : ∀ (z : Int) (N : Nat), z ≠ 0 → bitsN (z * 2 ^ N).natAbs = bitsN z.natAbs + N ∧ z * 2 ^ N ≠ 0 := by
    intro z N hz
    refine ⟨?_, Int.mul_ne_zero hz (by rw [pow_cast]; exact pow_pos_int _)⟩
    rw [Int.natAbs_mul, pow_cast, Int.natAbs_natCast, Nat.mul_comm, bitsN_shl _ _ (by omega)]
    omega
  obtain ⟨a1, a2⟩ := key x L.toNat hx
  obtain ⟨b1, b2⟩ := key y (-L).toNat hy
  rw [h2, h3]
  exact ⟨by omega, a2, b2⟩
theorem WB.cmp {x y X Y L G : Int} {P : Nat} {e : Int} (h : WB x y P X Y L) (he : -2000000 ≤ e - L) (he2 : -2000000 ≤ e) : (G * Y ≤ X → dv (G * y) (e - L) ≤ dv x e) ∧ (X ≤ G * Y → dv x e ≤ dv (G * y) (e - L)) := by
  obtain ⟨h1, h2, h3⟩ := h
  rcases Int.lt_or_le L 0 with h0 | h0
  · have e1 : dv (G * y) (e - L) = dv (G * Y) e := by
      rw [dv_shift (e := e - L) (f := e) (by omega) (by omega), show (e - L - e).toNat = (-L).toNat from by omega, h3, pow_cast, Int.mul_assoc]
    have e2 : X = x := by rw [h2, show L.toNat = 0 from by omega]; simp
    rw [e1, ← e2]
    exact ⟨dv_le e, dv_le e⟩
  · have e1 : dv x e = dv X (e - L) := by
      rw [dv_shift (e := e) (f := e - L) (by omega) (by omega), show (e - (e - L)).toNat = L.toNat from by omega, h2, pow_cast]
    have e2 : Y = y := by rw [h3, show (-L).toNat = 0 from by omega]; simp
    rw [e1, ← e2]
    exact ⟨dv_le _, dv_le _⟩
end Go.Proofs.YtkiacehilnghiaaGreatDoor

namespace Go.Proofs.YtkiacehilnghiaaGreatDoor
open Go.RowKit Go.Shelf

structure Nests (x y F C G M : Int) : Prop where
  bf : (F * y).natAbs ≤ x.natAbs + y.natAbs
  bg : (G * y).natAbs ≤ x.natAbs + y.natAbs
  sum : F * y + M = x
  step : C - F = if M = 0 then 0 else 1
  gor : G = F ∨ G = C
  sg : M = 0 ∨ (0 < M ∧ 0 < y) ∨ (M < 0 ∧ y < 0)
  ml : M.natAbs < y.natAbs
  off : 2 * (x - G * y).natAbs ≤ y.natAbs
  tie : 2 * (x - G * y).natAbs = y.natAbs → G.natAbs % 2 = 0
theorem nests_of (x y : Int) (hy : y ≠ 0) {F C G M : Int} (hF : F = fl (decide (x < 0) != decide (y < 0)) x.natAbs y.natAbs) (hC : C = ce (decide (x < 0) != decide (y < 0)) x.natAbs y.natAbs) (hG : G = ne (decide (x < 0) != decide (y < 0)) x.natAbs y.natAbs) (hM : M = mo (decide (x < 0)) (decide (y < 0)) x.natAbs y.natAbs) : Nests x y F C G M := by
  have hb : 0 < y.natAbs := by omega
  have ex := iv_abs x
  have ey := iv_abs y
  have hr := Nat.mod_lt x.natAbs hb
  have hM0 : M = 0 ↔ x.natAbs % y.natAbs = 0 := by
    rw [hM]; unfold mo
    generalize decide (x < 0) = s
    generalize decide (y < 0) = t
    generalize x.natAbs % y.natAbs = r at *
    by_cases h0 : r = 0
    · subst h0; cases s <;> cases t <;> simp [iv]
    · cases s <;> cases t <;> simp [iv, h0] <;> omega
  refine ⟨?_, ?_, ?_, ?_, ?_, ?_, ?_, ?_, ?_⟩
  · rw [hF]; have := fl_bound (decide (x < 0) != decide (y < 0)) (decide (y < 0)) x.natAbs y.natAbs; rwa [ey] at this
  · rw [hG]; have := ne_bound (decide (x < 0) != decide (y < 0)) (decide (y < 0)) x.natAbs y.natAbs; rwa [ey] at this
  · rw [hF, hM]; have := fl_mo (decide (x < 0)) (decide (y < 0)) x.natAbs y.natAbs hb; rwa [ex, ey] at this
  · rw [hC, hF, ce_fl]
    by_cases h0 : M = 0
    · rw [if_pos h0, if_pos (hM0.1 h0)]
    · rw [if_neg h0, if_neg (fun e => h0 (hM0.2 e))]
  · rw [hG, hF, hC]; exact ne_or _ _ _
  · by_cases h0 : M = 0
    · exact .inl h0
    · right
      have h1 := mt hM0.2 h0
      rw [hM]; unfold mo
      generalize x.natAbs % y.natAbs = r at *
      by_cases h2 : y < 0
      · right
        rw [decide_eq_true h2, iv_t]
        refine ⟨?_, h2⟩
        split <;> omega
      · left
        rw [decide_eq_false h2, iv_f]
        refine ⟨?_, by omega⟩
        split <;> omega
  · rw [hM]; unfold mo; rw [iv_natAbs]
    split
    · rename_i h2
      have : x.natAbs % y.natAbs ≠ 0 := by
        rw [Bool.and_eq_true] at h2
        exact of_decide_eq_true h2.2
      omega
    · exact hr
  · rw [hG]; have := (ne_off (decide (x < 0)) (decide (y < 0)) x.natAbs y.natAbs hb).1; rwa [ex, ey] at this
  · rw [hG]; have := (ne_off (decide (x < 0)) (decide (y < 0)) x.natAbs y.natAbs hb).2; rwa [ex, ey] at this
end Go.Proofs.YtkiacehilnghiaaGreatDoor

namespace Go.Proofs.YtkiacehilnghiaaGreatDoor
open Go.RowKit Go.Shelf

structure QF (x e y f : Int) (P : Nat) (X Y L zl el zh eh : Int) : Prop where
  fl : DFm zl el
  fh : DFm zh eh
  vl : dv zl el = dv (rd false (qI false X Y) (2 ^ (bitsN (qI false X Y).natAbs - P))) (e - f - L + ((bitsN (qI false X Y).natAbs - P : Nat) : Int))
  vh : dv zh eh = dv (rd true (qI true X Y) (2 ^ (bitsN (qI true X Y).natAbs - P))) (e - f - L + ((bitsN (qI true X Y).natAbs - P : Nat) : Int))
  bl : bitsN zl.natAbs ≤ P
  bh : bitsN zh.natAbs ≤ P
  dl : DB zl el 70001 220000
  dh : DB zh eh 70001 220000
  op : 0 < y → dv (zl * y) (el + f) ≤ dv x e ∧ dv x e ≤ dv (zh * y) (eh + f)
  on : y < 0 → dv (zh * y) (eh + f) ≤ dv x e ∧ dv x e ≤ dv (zl * y) (el + f)
  gap : ¬ (zl = zh ∧ el = eh) → zl ≠ 0 ∧ zh ≠ 0 ∧ ∃ g, min (topI zl el) (topI zh eh) - P + 1 = g ∧ -1048576 ≤ g ∧ g ≤ 1048576 ∧ dv 1 g = dv zh eh - dv zl el ∧ (zh ≠ 0 → zl ≠ 0 → (zh * 2 ^ (eh - min eh el).toNat).natAbs < LIM ∧ (zl * 2 ^ (el - min eh el).toNat).natAbs < LIM ∧ (zh * 2 ^ (eh - min eh el).toNat - zl * 2 ^ (el - min eh el).toNat).natAbs < LIM)
theorem mulform {z e G E y f : Int} (h : dv z e = dv G E) (he : -2097152 ≤ e) (hE : -2097152 ≤ E) (hf : -2097152 ≤ f) : dv (z * y) (e + f) = dv (G * y) (E + f) := by
  refine dv_cancel ?_
  rw [dv_mul he hf, dv_mul hE hf, h]
theorem cut2 (up : Bool) {F : Int} {P : Nat} (hF : F ≠ 0) (hP : 1 ≤ P) (hb : bitsN F.natAbs ≤ P + 2) {E : Int} (h1 : -1048576 ≤ E) (h2 : E + 2 + P ≤ 1048576) : ∃ zo eo, DFm zo eo ∧ dv zo eo = dv (rd up F (2 ^ (bitsN F.natAbs - P))) (E + ((bitsN F.natAbs - P : Nat) : Int)) ∧ zo % 2 = 1 ∧ zo.natAbs ≤ 2 ^ P ∧ E ≤ eo ∧ eo ≤ E + 2 + P ∧ (rd up F (2 ^ (bitsN F.natAbs - P)) * ((2 ^ (bitsN F.natAbs - P) : Nat) : Int)).natAbs ≤ 2 ^ (P + 2) := by
  obtain ⟨c1, c2⟩ := cut_size up hF hP (k := bitsN F.natAbs - P) rfl
  obtain ⟨zo, eo, g1, g2, g3, g4, g5, g6⟩ := form_ex (z := rd up F (2 ^ (bitsN F.natAbs - P))) (e := E + ((bitsN F.natAbs - P : Nat) : Int)) (L := P) c2 (by omega) c1 (by omega)
  refine ⟨zo, eo, g1, g2, g3, by omega, by omega, by omega, ?_⟩
  rw [Int.natAbs_mul, Int.natAbs_natCast, Nat.pow_add]
  exact Nat.mul_le_mul c1 (Nat.pow_le_pow_right (by omega) (by omega))
theorem db_of {z e : Int} {K E P : Nat} (fm : DFm z e) (h : z.natAbs ≤ 2 ^ P) (hp : P < K) (lo : -(E : Int) ≤ e) (hi : e ≤ E) : DB z e K E :=
  ⟨fm, Nat.lt_of_le_of_lt h (Nat.pow_lt_pow_right (by omega) hp), lo, hi⟩
theorem qf_zero {e y f : Int} {P : Nat} {X Y L : Int} (hw : WB 0 y P X Y L) : QF 0 e y f P X Y L 0 0 0 0 := by
  have hX : X = 0 := by rw [hw.xv, Int.zero_mul]
  have q1 : ∀ up, qI up X Y = 0 := by
    intro up
    rw [hX]
    unfold qI
    cases up
    · rw [if_neg (by decide)]; unfold fl; simp [iv]
    · rw [if_pos rfl]; unfold ce; simp [iv]
  have d0 : DB 0 0 70001 220000 := db_of (P := 0) (.inl ⟨rfl, rfl⟩) (by decide) (by omega) (by omega) (by omega)
  exact ⟨.inl ⟨rfl, rfl⟩, .inl ⟨rfl, rfl⟩, by rw [q1, rd_zero, dv_zero, dv_zero], by rw [q1, rd_zero, dv_zero, dv_zero], by rw [Int.natAbs_zero, bitsN_zero]; omega, by rw [Int.natAbs_zero, bitsN_zero]; omega, d0, d0,
    fun _ => by rw [Int.zero_mul, dv_zero, dv_zero]; omega, fun _ => by rw [Int.zero_mul, dv_zero, dv_zero]; omega, fun h => absurd ⟨rfl, rfl⟩ h⟩
theorem qf_ex {x e y f : Int} {P : Nat} {X Y L : Int} (bx : DB x e 32000 20000) (by_ : DB y f 32000 20000) (hx : x ≠ 0) (hy : y ≠ 0) (hP : 1 ≤ P ∧ P ≤ 70000) (hw : WB x y P X Y L) : ∃ zl el zh eh, QF x e y f P X Y L zl el zh eh := by
  obtain ⟨w1, w2, w3⟩ := hw.bits hx hy
  obtain ⟨⟨k, Gl, Gh, qg⟩, F0, C0, bF, bC⟩ := qg_ex w2 w3 hP.1 w1
  have e1 := bx.lo; have e2 := bx.hi; have f1 := by_.lo; have f2 := by_.hi
  have hbits : ∀ z : Int, z ≠ 0 → z.natAbs < 2 ^ 32000 → bitsN z.natAbs ≤ 32000 := by
    intro z hz h
    have h2 := bitsN_le z.natAbs (by omega)
    obtain ⟨q, hq⟩ : ∃ q, q = 32000 := ⟨_, rfl⟩
    rw [← hq] at h ⊢
    have := (Nat.pow_lt_pow_iff_right (by omega : 1 < 2)).1 (Nat.lt_of_le_of_lt h2 h)
    omega
  have hL := hw.l
  have l1 := hbits x hx bx.sz
  have l2 := hbits y hy by_.sz
  obtain ⟨E, hE⟩ : ∃ E, E = e - f - L := ⟨_, rfl⟩
  have hE1 : -150000 ≤ E ∧ E ≤ 150000 := by omega
  obtain ⟨zl, el, a1, a2, a3, a4, a5, a6, a7⟩ := cut2 false F0 hP.1 bF (E := E) (by omega) (by omega)
  obtain ⟨zh, eh, b1, b2, b3, b4, b5, b6, b7⟩ := cut2 true C0 hP.1 bC (E := E) (by omega) (by omega)
  have hM := nests_of X Y w3 (F := qI false X Y) (C := qI true X Y) rfl rfl rfl rfl
  have s1 := (rd_down (qI false X Y) (d := 2 ^ (bitsN (qI false X Y).natAbs - P)) (Nat.pow_pos (by omega))).1
  have s2 := (rd_up (qI true X Y) (d := 2 ^ (bitsN (qI true X Y).natAbs - P)) (Nat.pow_pos (by omega))).1
  have v1 : dv zl el = dv (Gl * ((2 ^ k : Nat) : Int)) E := by rw [a2, dv_up _ (by omega), qg.lo]
  have v2 : dv zh eh = dv (Gh * ((2 ^ k : Nat) : Int)) E := by rw [b2, dv_up _ (by omega), qg.hi]
  rw [qg.lo] at s1 a7
  rw [qg.hi] at s2 b7
  have m1 := mulform (y := y) (f := f) v1 (by omega) (by omega) (by omega)
  have m2 := mulform (y := y) (f := f) v2 (by omega) (by omega) (by omega)
  have hEf : E + f = e - L := by omega
  rw [hEf] at m1 m2
  obtain ⟨p1, p2⟩ := hw.cmp (G := Gl * ((2 ^ k : Nat) : Int)) (e := e) (by omega) (by omega)
  obtain ⟨p3, p4⟩ := hw.cmp (G := Gh * ((2 ^ k : Nat) : Int)) (e := e) (by omega) (by omega)
  have hsum := hM.sum
  have hsg := hM.sg
  have hml := hM.ml
  have hst := hM.step
  generalize mo (decide (X < 0)) (decide (Y < 0)) X.natAbs Y.natAbs = M at *
  have hpow : (0 : Int) < 2 ^ (-L).toNat := by rw [pow_cast]; have := Nat.pow_pos (n := (-L).toNat) (show 0 < 2 by omega); omega
  have hCF : qI true X Y * Y = qI false X Y * Y + (if M = 0 then 0 else Y) := by
    have : qI true X Y = qI false X Y + (if M = 0 then 0 else 1) := by omega
    rw [this, Int.add_mul]
    split <;> simp
  refine ⟨zl, el, zh, eh, ⟨a1, b1, by rw [← hE]; exact a2, by rw [← hE]; exact b2, odd_bits a3 hP.1 a4, odd_bits b3 hP.1 b4, db_of a1 a4 (by omega) (by omega) (by omega), db_of b1 b4 (by omega) (by omega) (by omega), ?_, ?_, ?_⟩⟩
  · intro h0
    have hY : 0 < Y := by rw [hw.yv]; exact Int.mul_pos h0 hpow
    have t1 := Int.mul_le_mul_of_nonneg_right s1 (Int.le_of_lt hY)
    have t2 := Int.mul_le_mul_of_nonneg_right s2 (Int.le_of_lt hY)
    rw [m1, m2]
    refine ⟨p1 (by omega), p4 ?_⟩
    split at hCF <;> omega
  · intro h0
    have hY : Y < 0 := by rw [hw.yv]; exact Int.mul_neg_of_neg_of_pos h0 hpow
    have t1 := Int.mul_le_mul_of_nonpos_right s1 (Int.le_of_lt hY)
    have t2 := Int.mul_le_mul_of_nonpos_right s2 (Int.le_of_lt hY)
    rw [m1, m2]
    refine ⟨p3 ?_, p2 (by omega)⟩
    split at hCF <;> omega
  · intro hne
    have hk := qg.kk
    have hG : Gh = Gl + 1 := by
      rcases qg.st with h | h
      · exact absurd (dv_inj a1 b1 (by rw [v1, v2, h])) hne
      · exact h
    have u1 : dv zl el = dv Gl (E + k) := by rw [v1, dv_up k (by omega)]
    have u2 : dv zh eh = dv Gh (E + k) := by rw [v2, dv_up k (by omega)]
    refine ⟨by omega, by omega, E + k, ?_, by omega, by omega, by rw [u1, u2, hG, dv_add]; omega, fun _ _ => gap_len v1 v2 a7 b7 (by omega) (by omega) (by omega) (by omega)⟩
    have hlt := dv_lt (E + k) (show Gl < Gh by omega)
    rw [← u1, ← u2] at hlt
    rcases qg.sm with ⟨g1, g2⟩ | ⟨g1, g2⟩
    · have n1 := dv3 Gl (E + k)
      have n2 := dv3 zl el
      have n3 := dv3 zh eh
      have r1 := topI_pos (x := zl) (y := Gl) (e := el) (f := E + k) (by omega) g1 (by omega) (by omega) (by omega)
      have r2 := topI_pos (x := Gl) (y := zl) (e := E + k) (f := el) g1 (by omega) (by omega) (by omega) (by omega)
      have r3 := topI_pos (x := zl) (y := zh) (e := el) (f := eh) (by omega) (by omega) (by omega) (by omega) (by omega)
      have r4 : topI Gl (E + k) = E + k + P - 1 := by unfold topI; rw [g2]
      omega
    · have n1 := dv3 Gh (E + k)
      have n2 := dv3 zl el
      have n3 := dv3 zh eh
      have w4 := dv_neg Gh (E + k)
      have w5 := dv_neg zl el
      have w6 := dv_neg zh eh
      have r1 := topI_pos (x := -zh) (y := -Gh) (e := eh) (f := E + k) (by omega) (by omega) (by omega) (by omega) (by omega)
      have r2 := topI_pos (x := -Gh) (y := -zh) (e := E + k) (f := eh) (by omega) (by omega) (by omega) (by omega) (by omega)
      have r3 := topI_pos (x := -zh) (y := -zl) (e := eh) (f := el) (by omega) (by omega) (by omega) (by omega) (by omega)
      rw [topI_neg, topI_neg] at r1 r2 r3
      have r4 : topI Gh (E + k) = E + k + P - 1 := by unfold topI; rw [g2]
      omega
theorem qf_any {x e y f : Int} {P : Nat} {X Y L : Int} (bx : DB x e 32000 20000) (by_ : DB y f 32000 20000) (hy : y ≠ 0) (hP : 1 ≤ P ∧ P ≤ 70000) (hw : WB x y P X Y L) : ∃ zl el zh eh, QF x e y f P X Y L zl el zh eh := by
  by_cases hx : x = 0
  · subst hx
    exact ⟨0, 0, 0, 0, qf_zero hw⟩
  · exact qf_ex bx by_ hx hy hP hw
theorem wb_ex (x y : Int) (P : Nat) : ∃ X Y L, WB x y P X Y L := ⟨_, _, _, ⟨rfl, rfl, rfl⟩⟩
end Go.Proofs.YtkiacehilnghiaaGreatDoor

namespace Go.Proofs.YtkiacehilnghiaaGreatDoor
open Go.RowKit Go.Shelf

theorem cmpI_le {a b : Int} (h : a ≤ b) : cmpI a b ≤ 0 := by
  unfold cmpI
  split
  · omega
  · rw [if_pos (by omega)]; omega
set_option maxRecDepth 20000 in
set_option maxHeartbeats 8000000 in
theorem between5 {p1 p2 p3 : Option Addr} {m1 c1 m2 c2 m3 c3 : Nat} {w : World} {z1 e1 z2 e2 z3 e3 : Int} {s1 s2 s3 : Bool} (h1 : DN w s1 p1 m1 c1 e1 z1) (h2 : DN w s2 p2 m2 c2 e2 z2) (h3 : DN w s3 p3 m3 c3 e3 z3) (hl : dv z1 e1 ≤ dv z2 e2) (hh : dv z2 e2 ≤ dv z3 e3) :
    Calls Tryz.prog 14 #[DV s1 p1 m1 c1 e1, DV s2 p2 m2 c2 e2, DV s3 p3 m3 c3 e3] w fun en w' => en = .returned (.bool true) ∧ Below w.heap.size w w' := by
  have H1 : Hid (DN w s1 p1 m1 c1 e1 z1) := h1
  have H2 : Hid (DN w s2 p2 m2 c2 e2 z2) := h2
  have H3 : Hid (DN w s3 p3 m3 c3 e3 z3) := h3
  obtain ⟨r1, hr1⟩ : ∃ r, r = cmpI (dv z1 e1) (dv z2 e2) := ⟨_, rfl⟩
  obtain ⟨r2, hr2⟩ : ∃ r, r = cmpI (dv z2 e2) (dv z3 e3) := ⟨_, rfl⟩
  have HR : Hid (cmpI (dv z1 e1) (dv z2 e2) = r1 ∧ cmpI (dv z2 e2) (dv z3 e3) = r2) := ⟨hr1.symm, hr2.symm⟩
  have f1 : r1 ≤ 0 := by rw [hr1]; exact cmpI_le hl
  have f2 : r2 ≤ 0 := by rw [hr2]; exact cmpI_le hh
  clear h1 h2 h3 hl hh hr1 hr2
  go_enter Tryz.func14, Tryz.ntmps14
  go_wp2_with fail
  obtain ⟨W0, hW0⟩ : ∃ W0, W0 = (((w.alloc (.cells #[.bool s1, .slice p1 m1 c1, .int .i64 e1] 26)).alloc (.cells #[.bool s2, .slice p2 m2 c2, .int .i64 e2] 26)).alloc (.cells #[.bool s3, .slice p3 m3 c3, .int .i64 e3] 26)) := ⟨_, rfl⟩
  have Xa : Hid (B3q W0 (w.heap.size) (.bool s1) (.slice p1 m1 c1) (.int .i64 e1)) := by rw [hW0]; exact ⟨by go_simp, by go_simp, by go_simp, by go_simp, by go_simp, by go_simp⟩
  have Xb : Hid (B3q W0 (w.heap.size + 1) (.bool s2) (.slice p2 m2 c2) (.int .i64 e2)) := by rw [hW0]; exact ⟨by go_simp, by go_simp, by go_simp, by go_simp, by go_simp, by go_simp⟩
  have Xc : Hid (B3q W0 (w.heap.size + 1 + 1) (.bool s3) (.slice p3 m3 c3) (.int .i64 e3)) := by rw [hW0]; exact ⟨by go_simp, by go_simp, by go_simp, by go_simp, by go_simp, by go_simp⟩
  have hb0 : Below w.heap.size w W0 := by rw [hW0]; exact below3 w _ _ _
  rw [← hW0]
  clear hW0
  have hbw : Below w.heap.size w w := Below.refl _ _
  obtain ⟨gc, hgc⟩ : ∃ g, g = w.heap.size + 1 + 1 := ⟨_, rfl⟩
  have HGc : Hid (w.heap.size ≤ gc) := by rw [hgc]; show _ ≤ _; omega
  rw [← hgc] at Xc
  try rw [← hgc]
  obtain ⟨gb, hgb⟩ : ∃ g, g = w.heap.size + 1 := ⟨_, rfl⟩
  have HGb : Hid (w.heap.size ≤ gb) := by rw [hgb]; show _ ≤ _; omega
  rw [← hgb] at Xb
  try rw [← hgb]
  obtain ⟨ga, hga⟩ : ∃ g, g = w.heap.size := ⟨_, rfl⟩
  have HGa : Hid (w.heap.size ≤ ga) := by rw [hga]; show _ ≤ _; omega
  rw [← hga] at Xa
  try rw [← hga]
  have HGD : Hid (ga ≠ gb ∧ ga ≠ gc ∧ gb ≠ ga ∧ gb ≠ gc ∧ gc ≠ ga ∧ gc ≠ gb) := by rw [hga, hgb, hgc]; exact ⟨by omega, by omega, by omega, by omega, by omega, by omega⟩
  clear hga hgb hgc
  replace hbw := Below.on hbw hb0
  clear hb0
  refine (dcmp (H1.out.below hbw) (H2.out.below hbw)).mono ?_
  rintro e v1 ⟨rfl, hb1⟩
  rw [HR.out.1]
  replace Xa : Hid _ := Xa.out.below hb1
  replace Xb : Hid _ := Xb.out.below hb1
  replace Xc : Hid _ := Xc.out.below hb1
  replace hbw := Below.on hbw hb1
  clear hb1
  obtain ⟨cb0, cb1, cb2, fb0, fb1, fb2⟩ := Xb.out
  have hneb : gb < v1.heap.size := World.block_lt_of_cell? v1 _ cb0
  obtain ⟨cc0, cc1, cc2, fc0, fc1, fc2⟩ := Xc.out
  have hnec : gc < v1.heap.size := World.block_lt_of_cell? v1 _ cc0
  go_wp2_with fail
  clear cb0 cb1 cb2 fb0 fb1 fb2 hneb
  clear cc0 cc1 cc2 fc0 fc1 fc2 hnec
  refine (dcmp (H2.out.below hbw) (H3.out.below hbw)).mono ?_
  rintro e v2 ⟨rfl, hb2⟩
  rw [HR.out.2]
  replace Xa : Hid _ := Xa.out.below hb2
  replace Xb : Hid _ := Xb.out.below hb2
  replace Xc : Hid _ := Xc.out.below hb2
  replace hbw := Below.on hbw hb2
  clear hb2
  go_wp2_with fail
  go_ret
  exact ⟨rfl, hbw⟩
set_option maxRecDepth 20000 in
set_option maxHeartbeats 8000000 in
theorem short5 {p : Option Addr} {m c : Nat} {w : World} {z e : Int} {P : Nat} {s : Bool} (h : DN w s p m c e z) (hP : 1 ≤ P ∧ P ≤ 70000) (hb : bitsN z.natAbs ≤ P) (hT : Tab w) :
    Calls Tryz.prog 20 #[DV s p m c e, .int .i64 P] w fun en w' => en = .returned (.bool true) ∧ Below w.heap.size w w' := by
  have H : Hid (DN w s p m c e z) := h
  have TB : Hid (Tab w) := hT
  have HP : Hid ((1 ≤ P ∧ P ≤ 70000) ∧ 0 = bitsN z.natAbs - P) := ⟨hP, by omega⟩
  have HV : Hid (∀ up, dv z e = dv (rd up z (2 ^ 0)) (e + ((0 : Nat) : Int))) := by
    intro up
    rw [Nat.pow_zero, rd_one, show e + ((0 : Nat) : Int) = e from by omega]
  clear h hT hP hb
  go_enter Tryz.func20, Tryz.ntmps20
  go_wp2_with fail
  obtain ⟨W0, hW0⟩ : ∃ W0, W0 = (w.alloc (.cells #[.bool s, .slice p m c, .int .i64 e] 26)) := ⟨_, rfl⟩
  have Xd : Hid (B3q W0 (w.heap.size) (.bool s) (.slice p m c) (.int .i64 e)) := by rw [hW0]; exact ⟨by go_simp, by go_simp, by go_simp, by go_simp, by go_simp, by go_simp⟩
  have hb0 : Below w.heap.size w W0 := by rw [hW0]; exact below1 w _
  rw [← hW0]
  clear hW0
  have hbw : Below w.heap.size w w := Below.refl _ _
  obtain ⟨gd, hgd⟩ : ∃ g, g = w.heap.size := ⟨_, rfl⟩
  have HGd : Hid (w.heap.size ≤ gd) := by rw [hgd]; show _ ≤ _; omega
  rw [← hgd] at Xd
  try rw [← hgd]
  clear hgd
  replace hbw := Below.on hbw hb0
  clear hb0
  refine (bits_d (H.out.below hbw) HP.out.1 HP.out.2 (TB.out.below hbw)).mono ?_
  rintro e2 v1 ⟨hv, hb1⟩
  obtain ⟨v, rfl, hv2⟩ := hv.form H.out.fm (HV.out false)
  obtain ⟨s1, p1, m1, rfl, hd⟩ := hv2.dn H.out.fm
  clear hv hv2
  replace Xd : Hid _ := Xd.out.below hb1
  replace hbw := Below.on hbw hb1
  clear hb1
  have D1 : Hid (DN v1 s1 p1 m1 m1 (e) (z)) := hd
  clear hd
  obtain ⟨cd0, cd1, cd2, fd0, fd1, fd2⟩ := Xd.out
  have hned : gd < v1.heap.size := World.block_lt_of_cell? v1 _ cd0
  go_wp2_with fail
  clear cd0 cd1 cd2 fd0 fd1 fd2 hned
  have Xa0 : Hid (B3q (v1.alloc (.cells #[.bool s1, .slice p1 m1 m1, .int .i64 e] 26)) v1.heap.size (.bool s1) (.slice p1 m1 m1) (.int .i64 e)) := B3q.new v1 _ _ _ _
  have hbn : Below v1.heap.size v1 (v1.alloc (.cells #[.bool s1, .slice p1 m1 m1, .int .i64 e] 26)) := below1 v1 _
  generalize v1.alloc (.cells #[.bool s1, .slice p1 m1 m1, .int .i64 e] 26) = Wa at *
  have HGa : Hid (w.heap.size ≤ v1.heap.size) := hbw.size
  replace Xd : Hid _ := Xd.out.below hbn
  replace D1 : Hid _ := D1.out.below hbn
  replace hbw := Below.on hbw hbn
  clear hbn
  generalize v1.heap.size = ga at *
  have Xa := Xa0
  clear Xa0
  refine (bits_u (H.out.below hbw) HP.out.1 HP.out.2 (TB.out.below hbw)).mono ?_
  rintro e2 v2 ⟨hv, hb2⟩
  obtain ⟨v, rfl, hv2⟩ := hv.form H.out.fm (HV.out true)
  obtain ⟨s2, p2, m2, rfl, hd⟩ := hv2.dn H.out.fm
  clear hv hv2
  replace Xd : Hid _ := Xd.out.below hb2
  replace Xa : Hid _ := Xa.out.below hb2
  replace D1 : Hid _ := D1.out.below hb2
  replace hbw := Below.on hbw hb2
  clear hb2
  have D2 : Hid (DN v2 s2 p2 m2 m2 (e) (z)) := hd
  clear hd
  obtain ⟨ca0, ca1, ca2, fa0, fa1, fa2⟩ := Xa.out
  have hnea : ga < v2.heap.size := World.block_lt_of_cell? v2 _ ca0
  obtain ⟨cd0, cd1, cd2, fd0, fd1, fd2⟩ := Xd.out
  have hned : gd < v2.heap.size := World.block_lt_of_cell? v2 _ cd0
  go_wp2_with fail
  clear ca0 ca1 ca2 fa0 fa1 fa2 hnea
  clear cd0 cd1 cd2 fd0 fd1 fd2 hned
  have Xb0 : Hid (B3q (v2.alloc (.cells #[.bool s2, .slice p2 m2 m2, .int .i64 e] 26)) v2.heap.size (.bool s2) (.slice p2 m2 m2) (.int .i64 e)) := B3q.new v2 _ _ _ _
  have hbn : Below v2.heap.size v2 (v2.alloc (.cells #[.bool s2, .slice p2 m2 m2, .int .i64 e] 26)) := below1 v2 _
  generalize v2.alloc (.cells #[.bool s2, .slice p2 m2 m2, .int .i64 e] 26) = Wb at *
  have HGb : Hid (w.heap.size ≤ v2.heap.size) := hbw.size
  replace Xd : Hid _ := Xd.out.below hbn
  replace Xa : Hid _ := Xa.out.below hbn
  replace D1 : Hid _ := D1.out.below hbn
  replace D2 : Hid _ := D2.out.below hbn
  replace hbw := Below.on hbw hbn
  clear hbn
  generalize v2.heap.size = gb at *
  have Xb := Xb0
  clear Xb0
  refine (same5 D1.out (H.out.below hbw)).mono ?_
  rintro e v3 ⟨rfl, hb3⟩
  replace Xd : Hid _ := Xd.out.below hb3
  replace Xa : Hid _ := Xa.out.below hb3
  replace Xb : Hid _ := Xb.out.below hb3
  replace D1 : Hid _ := D1.out.below hb3
  replace D2 : Hid _ := D2.out.below hb3
  replace hbw := Below.on hbw hb3
  clear hb3
  obtain ⟨cb0, cb1, cb2, fb0, fb1, fb2⟩ := Xb.out
  have hneb : gb < v3.heap.size := World.block_lt_of_cell? v3 _ cb0
  obtain ⟨cd0, cd1, cd2, fd0, fd1, fd2⟩ := Xd.out
  have hned : gd < v3.heap.size := World.block_lt_of_cell? v3 _ cd0
  go_wp2_with fail
  clear cb0 cb1 cb2 fb0 fb1 fb2 hneb
  clear cd0 cd1 cd2 fd0 fd1 fd2 hned
  refine (same5 D2.out (H.out.below hbw)).mono ?_
  rintro e v4 ⟨rfl, hb4⟩
  replace Xd : Hid _ := Xd.out.below hb4
  replace Xa : Hid _ := Xa.out.below hb4
  replace Xb : Hid _ := Xb.out.below hb4
  replace D1 : Hid _ := D1.out.below hb4
  replace D2 : Hid _ := D2.out.below hb4
  replace hbw := Below.on hbw hb4
  clear hb4
  go_wp2_with fail
  go_ret
  exact ⟨rfl, hbw⟩
set_option maxRecDepth 20000 in
set_option maxHeartbeats 8000000 in
theorem step5 {w : World} {N : Int} (hN : -1048576 ≤ N ∧ N ≤ 1048576) (hT : Tab w) :
    Calls Tryz.prog 22 #[.int .i64 N] w fun en w' => ∃ v, en = .returned (.tuple #[v, .int .i64 0]) ∧ AnsD w.heap.size w' v 1 N ∧ Below w.heap.size w w' := by
  have TB : Hid (Tab w) := hT
  have HN : Hid (-1048576 ≤ 0 + N ∧ 0 + N ≤ 1048576) := by rw [Int.zero_add]; exact hN
  clear hN hT
  go_enter Tryz.func22, Tryz.ntmps22
  go_wp2_with fail
  obtain ⟨W0, hW0⟩ : ∃ W0, W0 = (w.alloc (.cells #[.bool false, .slice none 0 0, .int .i64 0] 26)) := ⟨_, rfl⟩
  have Xr : Hid (B3q W0 (w.heap.size) (.bool false) (.slice none 0 0) (.int .i64 0)) := by rw [hW0]; exact ⟨by go_simp, by go_simp, by go_simp, by go_simp, by go_simp, by go_simp⟩
  have hb0 : Below w.heap.size w W0 := by rw [hW0]; exact below1 w _
  rw [← hW0]
  clear hW0
  have hbw : Below w.heap.size w w := Below.refl _ _
  obtain ⟨gr, hgr⟩ : ∃ g, g = w.heap.size := ⟨_, rfl⟩
  have HGr : Hid (w.heap.size ≤ gr) := by rw [hgr]; show _ ≤ _; omega
  rw [← hgr] at Xr
  try rw [← hgr]
  clear hgr
  replace hbw := Below.on hbw hb0
  clear hb0
  refine (dof1 (TB.out.below hbw)).mono ?_
  rintro e2 v1 ⟨s1, p1, m1, rfl, hd, hb1⟩
  replace Xr : Hid _ := Xr.out.below hb1
  replace hbw := Below.on hbw hb1
  clear hb1
  have D1 : Hid (DN v1 s1 p1 m1 m1 (0) (1)) := hd
  clear hd
  go_wp2_with fail
  have HRL : Hid (gr < v1.heap.size ∧ w.heap.size ≤ v1.heap.size) := ⟨Xr.out.lt, hbw.size⟩
  refine (dscale D1.out (by decide) HN.out).mono ?_
  rintro e2 v6 ⟨v, rfl, hv, hb6⟩
  rw [Int.zero_add] at hv
  obtain ⟨p6, m6, z6, rfl, ho6, hn6, hm6⟩ := hv
  replace Xr : Hid _ := Xr.out.below hb6
  replace D1 : Hid _ := D1.out.below hb6
  replace hbw := Below.on hbw hb6
  clear hb6
  have O6 : Hid (Own v1.heap.size v6 p6 m6 z6) := ho6
  have N6 : Hid (Nf B64 z6 (1 : Int).natAbs ∧ m6 ≤ 8192) := ⟨hn6, hm6⟩
  clear ho6 hn6 hm6
  obtain ⟨cr0, cr1, cr2, fr0, fr1, fr2⟩ := Xr.out
  have hner : gr < v6.heap.size := World.block_lt_of_cell? v6 _ cr0
  go_wp2_with fail
  refine bodyPost_ret (v := .tuple #[DV false p6 m6 m6 N, .int .i64 0]) (by rw [results_cell_tmp rfl]; go_simp) rfl ⟨_, rfl, ⟨p6, m6, z6, rfl, own_set3 O6.out HRL.out.1 HRL.out.2 _ _ _, N6.out.1, N6.out.2⟩, ?_⟩
  exact bSet (bSet (bSet hbw _ _ _ HGr.out) _ _ _ HGr.out) _ _ _ HGr.out
end Go.Proofs.YtkiacehilnghiaaGreatDoor

namespace Go.Proofs.YtkiacehilnghiaaGreatDoor
open Go.RowKit Go.Shelf

set_option maxRecDepth 20000 in
set_option maxHeartbeats 8000000 in
theorem told5l {p q : Option Addr} {m c n d : Nat} {w : World} {z e : Int} {s t : Bool} (h : DN w s p m c e z) (k : DN w t q n d e z) :
    Calls Tryz.prog 33 #[DV s p m c e, .int .i64 0, DV t q n d e, .int .i64 0] w fun en w' => en = .returned (.bool true) ∧ Below w.heap.size w w' := by
  have H : Hid (DN w s p m c e z) := h
  have K : Hid (DN w t q n d e z) := k
  clear h k
  go_enter Tryz.func33, Tryz.ntmps33
  go_wp2_with fail
  obtain ⟨W0, hW0⟩ : ∃ W0, W0 = ((w.alloc (.cells #[.bool s, .slice p m c, .int .i64 e] 26)).alloc (.cells #[.bool t, .slice q n d, .int .i64 e] 26)) := ⟨_, rfl⟩
  have Xa : Hid (B3q W0 (w.heap.size) (.bool s) (.slice p m c) (.int .i64 e)) := by rw [hW0]; exact ⟨by go_simp, by go_simp, by go_simp, by go_simp, by go_simp, by go_simp⟩
  have Xb : Hid (B3q W0 (w.heap.size + 1) (.bool t) (.slice q n d) (.int .i64 e)) := by rw [hW0]; exact ⟨by go_simp, by go_simp, by go_simp, by go_simp, by go_simp, by go_simp⟩
  have hb0 : Below w.heap.size w W0 := by rw [hW0]; exact below2 w _ _
  rw [← hW0]
  clear hW0
  have hbw : Below w.heap.size w w := Below.refl _ _
  obtain ⟨gb, hgb⟩ : ∃ g, g = w.heap.size + 1 := ⟨_, rfl⟩
  have HGb : Hid (w.heap.size ≤ gb) := by rw [hgb]; show _ ≤ _; omega
  rw [← hgb] at Xb
  try rw [← hgb]
  obtain ⟨ga, hga⟩ : ∃ g, g = w.heap.size := ⟨_, rfl⟩
  have HGa : Hid (w.heap.size ≤ ga) := by rw [hga]; show _ ≤ _; omega
  rw [← hga] at Xa
  try rw [← hga]
  have HGD : Hid (ga ≠ gb ∧ gb ≠ ga) := by rw [hga, hgb]; exact ⟨by omega, by omega⟩
  clear hga hgb
  replace hbw := Below.on hbw hb0
  clear hb0
  refine (sameD_t (H.out.below hbw) (K.out.below hbw)).mono ?_
  rintro e v1 ⟨rfl, hb1⟩
  replace Xa : Hid _ := Xa.out.below hb1
  replace Xb : Hid _ := Xb.out.below hb1
  replace hbw := Below.on hbw hb1
  clear hb1
  go_wp2_with fail
  go_ret
  exact ⟨rfl, hbw⟩
set_option maxRecDepth 20000 in
set_option maxHeartbeats 8000000 in
theorem awake5 (w : World) (hT : Tab w) :
    Calls Tryz.prog 9 #[] w fun en w' => en = .returned (.bool true) ∧ Below w.heap.size w w' := by
  have TB : Hid (Tab w) := hT
  have hbw : Below w.heap.size w w := Below.refl _ _
  clear hT
  go_enter Tryz.func9, Tryz.ntmps9
  go_wp2_with fail
  refine (num5 (3) (0) (by decide) (by decide) (by decide)).mono ?_
  rintro e2 v1 ⟨s1, g1, m1, c1, rfl, _, hd1, hb1⟩
  replace hbw := Below.on hbw hb1
  clear hb1
  have D1 : Hid (DN v1 s1 (some ⟨g1, 0, none⟩) m1 c1 (0) (3)) := hd1
  clear hd1
  go_wp2_with fail
  refine (num5 (1) (-2) (by decide) (by decide) (by decide)).mono ?_
  rintro e2 v2 ⟨s2, g2, m2, c2, rfl, _, hd2, hb2⟩
  replace D1 : Hid _ := D1.out.below hb2
  replace hbw := Below.on hbw hb2
  clear hb2
  have D2 : Hid (DN v2 s2 (some ⟨g2, 0, none⟩) m2 c2 (-2) (1)) := hd2
  clear hd2
  go_wp2_with fail
  have HBX : Hid (DB 3 0 10 10 ∧ DB 1 (-2) 10 10) := ⟨⟨.inr ⟨by decide, by decide, by decide⟩, by decide, by decide, by decide⟩, ⟨.inr ⟨by decide, by decide, by decide⟩, by decide, by decide, by decide⟩⟩
  refine (dadd_b D1.out D2.out HBX.out.1 HBX.out.2 (by decide) (TB.out.below hbw)).mono ?_
  rintro e2 v3 ⟨v, z3, e3, rfl, hv, hdb, hdv, hb3⟩
  have h9 : z3 = 13 ∧ e3 = -2 := dv_inj hdb.fm (.inr ⟨by decide, by decide, by decide⟩) (by rw [hdv, dv_shift (z := 3) (e := 0) (f := -2) (by decide) (by decide), ← dv_add]; rfl)
  obtain ⟨rfl, rfl⟩ := h9
  obtain ⟨s3, p3, m3, rfl, hd3⟩ := hv.dn hdb.fm
  clear hv hdb hdv
  replace D1 : Hid _ := D1.out.below hb3
  replace D2 : Hid _ := D2.out.below hb3
  replace hbw := Below.on hbw hb3
  clear hb3
  have D3 : Hid (DN v3 s3 p3 m3 m3 (-2) 13) := hd3
  clear hd3
  clear D1
  clear D2
  go_wp2_with fail
  have Xa0 : Hid (B3q (v3.alloc (.cells #[.bool s3, .slice p3 m3 m3, .int .i64 (-2)] 26)) v3.heap.size (.bool s3) (.slice p3 m3 m3) (.int .i64 (-2))) := B3q.new v3 _ _ _ _
  have hbn : Below v3.heap.size v3 (v3.alloc (.cells #[.bool s3, .slice p3 m3 m3, .int .i64 (-2)] 26)) := below1 v3 _
  generalize v3.alloc (.cells #[.bool s3, .slice p3 m3 m3, .int .i64 (-2)] 26) = Wa at *
  have HGa : Hid (w.heap.size ≤ v3.heap.size) := hbw.size
  replace D3 : Hid _ := D3.out.below hbn
  replace hbw := Below.on hbw hbn
  clear hbn
  generalize v3.heap.size = ga at *
  have Xa := Xa0
  clear Xa0
  refine (num5 (-1) (4) (by decide) (by decide) (by decide)).mono ?_
  rintro e2 v4 ⟨s4, g4, m4, c4, rfl, _, hd4, hb4⟩
  replace Xa : Hid _ := Xa.out.below hb4
  replace D3 : Hid _ := D3.out.below hb4
  replace hbw := Below.on hbw hb4
  clear hb4
  have D4 : Hid (DN v4 s4 (some ⟨g4, 0, none⟩) m4 c4 (4) (-1)) := hd4
  clear hd4
  go_wp2_with fail
  refine (num5 (1) (-9) (by decide) (by decide) (by decide)).mono ?_
  rintro e2 v5 ⟨s5, g5, m5, c5, rfl, _, hd5, hb5⟩
  replace Xa : Hid _ := Xa.out.below hb5
  replace D3 : Hid _ := D3.out.below hb5
  replace D4 : Hid _ := D4.out.below hb5
  replace hbw := Below.on hbw hb5
  clear hb5
  have D5 : Hid (DN v5 s5 (some ⟨g5, 0, none⟩) m5 c5 (-9) (1)) := hd5
  clear hd5
  go_wp2_with fail
  refine (dcmp_s D4.out D5.out (by decide) (by decide)).mono ?_
  rintro e v6 ⟨rfl, hb6⟩
  replace Xa : Hid _ := Xa.out.below hb6
  replace D3 : Hid _ := D3.out.below hb6
  replace D4 : Hid _ := D4.out.below hb6
  replace D5 : Hid _ := D5.out.below hb6
  replace hbw := Below.on hbw hb6
  clear hb6
  clear D4
  clear D5
  obtain ⟨ca0, ca1, ca2, fa0, fa1, fa2⟩ := Xa.out
  have hnea : ga < v6.heap.size := World.block_lt_of_cell? v6 _ ca0
  go_wp2_with fail
  clear ca0 ca1 ca2 fa0 fa1 fa2 hnea
  obtain ⟨Wz, hWz⟩ : ∃ W1, W1 = v6.drew := ⟨_, rfl⟩
  have hbd : Below v6.heap.size v6 Wz := by rw [hWz]; exact bDrew1 (Below.refl _ _)
  replace Xa : Hid _ := Xa.out.below hbd
  replace D3 : Hid _ := D3.out.below hbd
  replace hbw := Below.on hbw hbd
  clear hbd
  have HJ : Hid ((fun W' : World => W'.cell? ⟨ga, 0, none⟩ = some (.bool s3) ∧ W'.cell? ⟨ga, 1, none⟩ = some (.slice p3 m3 m3) ∧ W'.cell? ⟨ga, 2, none⟩ = some (.int .i64 (-2))) Wz) := ⟨Xa.out.c0, Xa.out.c1, Xa.out.c2⟩
  refine wp_region_J (fun W' => W'.cell? ⟨ga, 0, none⟩ = some (.bool s3) ∧ W'.cell? ⟨ga, 1, none⟩ = some (.slice p3 m3 m3) ∧ W'.cell? ⟨ga, 2, none⟩ = some (.int .i64 (-2))) (by kernel_rfl) ?_
  rw [← hWz]
  clear hWz
  refine wpJ_take (i := 0) (v := ?v1x0) rfl (by kernel_rfl) (by kernel_rfl) (by kernel_rfl) (fun _ _ _ h => h) (by kernel_rfl) ?hy1x0 HJ.out ?rest1x0
  case hy1x0 => (intro W' hJ; obtain ⟨j0, j1, j2⟩ := hJ; go_simp; first | done | with_reducible rfl)
  refine wpJ_take (i := 1) (v := ?v2x1) rfl (by kernel_rfl) (by kernel_rfl) (by kernel_rfl) (fun _ _ _ h => h) (by kernel_rfl) ?hy2x1 HJ.out ?rest2x1
  case hy2x1 => (intro W' hJ; obtain ⟨j0, j1, j2⟩ := hJ; go_simp; first | done | with_reducible rfl)
  refine wpJ_one (i := 2) (by kernel_rfl) rfl (by kernel_rfl) (fun KJ hK => ?_)
  go_simp
  refine (num5 (13) (-2) (by decide) (by decide) (by decide)).mono ?_
  rintro e2 v7 ⟨s7, g7, m7, c7, rfl, _, hd7, hb7⟩
  replace Xa : Hid _ := Xa.out.below hb7
  replace D3 : Hid _ := D3.out.below hb7
  replace hbw := Below.on hbw hb7
  clear hb7
  have D7 : Hid (DN v7 s7 (some ⟨g7, 0, none⟩) m7 c7 (-2) (13)) := hd7
  clear hd7
  refine hK _ _ ⟨Xa.out.c0, Xa.out.c1, Xa.out.c2⟩ ?_
  clear hK
  refine wpJ_one (i := 3) (by kernel_rfl) rfl (by kernel_rfl) (fun KJ hK => ?_)
  go_simp
  refine (told5l D3.out D7.out).mono ?_
  rintro e v8 ⟨rfl, hb8⟩
  replace Xa : Hid _ := Xa.out.below hb8
  replace D3 : Hid _ := D3.out.below hb8
  replace D7 : Hid _ := D7.out.below hb8
  replace hbw := Below.on hbw hb8
  clear hb8
  clear HJ
  have HJ : Hid ((fun W' : World => W'.cell? ⟨ga, 0, none⟩ = some (.bool s3) ∧ W'.cell? ⟨ga, 1, none⟩ = some (.slice p3 m3 m3) ∧ W'.cell? ⟨ga, 2, none⟩ = some (.int .i64 (-2))) v8) := ⟨Xa.out.c0, Xa.out.c1, Xa.out.c2⟩
  refine hK _ _ HJ.out ?_
  clear hK
  refine wpJ_take (i := 4) (v := ?v3x4) rfl (by kernel_rfl) (by kernel_rfl) (by kernel_rfl) (fun _ _ _ h => h) (by kernel_rfl) ?hy3x4 HJ.out ?rest3x4
  case hy3x4 => (intro W' hJ; obtain ⟨j0, j1, j2⟩ := hJ; go_simp; first | done | with_reducible rfl)
  refine wpJ_take (i := 5) (v := ?v4x5) rfl (by kernel_rfl) (by kernel_rfl) (by kernel_rfl) (fun _ _ _ h => h) (by kernel_rfl) ?hy4x5 HJ.out ?rest4x5
  case hy4x5 => (intro W' hJ; obtain ⟨j0, j1, j2⟩ := hJ; go_simp; first | done | with_reducible rfl)
  refine wpJ_take (i := 6) (v := ?v5x6) rfl (by kernel_rfl) (by kernel_rfl) (by kernel_rfl) (fun _ _ _ h => h) (by kernel_rfl) ?hy5x6 HJ.out ?rest5x6
  case hy5x6 => (intro W' hJ; obtain ⟨j0, j1, j2⟩ := hJ; go_simp; first | done | with_reducible rfl)
  refine wpJ_take (i := 7) (v := ?v6x7) rfl (by kernel_rfl) (by kernel_rfl) (by kernel_rfl) (fun _ _ _ h => h) (by kernel_rfl) ?hy6x7 HJ.out ?rest6x7
  case hy6x7 => (intro W' hJ; obtain ⟨j0, j1, j2⟩ := hJ; go_simp; first | done | with_reducible rfl)
  refine wpJ_take (i := 8) (v := ?v7x8) rfl (by kernel_rfl) (by kernel_rfl) (by kernel_rfl) (fun _ _ _ h => h) (by kernel_rfl) ?hy7x8 HJ.out ?rest7x8
  case hy7x8 => (intro W' hJ; obtain ⟨j0, j1, j2⟩ := hJ; go_simp; first | done | with_reducible rfl)
  refine wpJ_take (i := 9) (v := ?v8x9) rfl (by kernel_rfl) (by kernel_rfl) (by kernel_rfl) (fun _ _ _ h => h) (by kernel_rfl) ?hy8x9 HJ.out ?rest8x9
  case hy8x9 => (intro W' hJ; obtain ⟨j0, j1, j2⟩ := hJ; go_simp; first | done | with_reducible rfl)
  refine wpJ_take (i := 10) (v := ?v9x10) rfl (by kernel_rfl) (by kernel_rfl) (by kernel_rfl) (fun _ _ _ h => h) (by kernel_rfl) ?hy9x10 HJ.out ?rest9x10
  case hy9x10 => (intro W' hJ; obtain ⟨j0, j1, j2⟩ := hJ; go_simp; first | done | with_reducible rfl)
  refine wpJ_take (i := 11) (v := ?v10x11) rfl (by kernel_rfl) (by kernel_rfl) (by kernel_rfl) (fun _ _ _ h => h) (by kernel_rfl) ?hy10x11 HJ.out ?rest10x11
  case hy10x11 => (intro W' hJ; obtain ⟨j0, j1, j2⟩ := hJ; go_simp; first | done | with_reducible rfl)
  refine wpJ_take (i := 12) (v := ?v11x12) rfl (by kernel_rfl) (by kernel_rfl) (by kernel_rfl) (fun _ _ _ h => h) (by kernel_rfl) ?hy11x12 HJ.out ?rest11x12
  case hy11x12 => (intro W' hJ; obtain ⟨j0, j1, j2⟩ := hJ; go_simp; first | done | with_reducible rfl)
  refine wpJ_one (i := 13) (by kernel_rfl) rfl (by kernel_rfl) (fun KJ hK => ?_)
  go_simp
  refine (dof12 (TB.out.below hbw)).mono ?_
  rintro e2 v9 ⟨s9, p9, m9, rfl, hd9, hb9⟩
  replace Xa : Hid _ := Xa.out.below hb9
  replace D3 : Hid _ := D3.out.below hb9
  replace D7 : Hid _ := D7.out.below hb9
  replace hbw := Below.on hbw hb9
  clear hb9
  have D9 : Hid (DN v9 s9 p9 m9 m9 2 3) := hd9
  clear hd9
  refine hK _ _ ⟨Xa.out.c0, Xa.out.c1, Xa.out.c2⟩ ?_
  clear hK
  refine wpJ_one (i := 14) (by kernel_rfl) rfl (by kernel_rfl) (fun KJ hK => ?_)
  go_simp
  refine (num5 (3) (2) (by decide) (by decide) (by decide)).mono ?_
  rintro e2 v10 ⟨s10, g10, m10, c10, rfl, _, hd10, hb10⟩
  replace Xa : Hid _ := Xa.out.below hb10
  replace D3 : Hid _ := D3.out.below hb10
  replace D7 : Hid _ := D7.out.below hb10
  replace D9 : Hid _ := D9.out.below hb10
  replace hbw := Below.on hbw hb10
  clear hb10
  have D10 : Hid (DN v10 s10 (some ⟨g10, 0, none⟩) m10 c10 (2) (3)) := hd10
  clear hd10
  refine hK _ _ ⟨Xa.out.c0, Xa.out.c1, Xa.out.c2⟩ ?_
  clear hK
  refine wpJ_one (i := 15) (by kernel_rfl) rfl (by kernel_rfl) (fun KJ hK => ?_)
  go_simp
  refine (sameD_t D9.out D10.out).mono ?_
  rintro e v11 ⟨rfl, hb11⟩
  replace Xa : Hid _ := Xa.out.below hb11
  replace D3 : Hid _ := D3.out.below hb11
  replace D7 : Hid _ := D7.out.below hb11
  replace D9 : Hid _ := D9.out.below hb11
  replace D10 : Hid _ := D10.out.below hb11
  replace hbw := Below.on hbw hb11
  clear hb11
  clear HJ
  have HJ : Hid ((fun W' : World => W'.cell? ⟨ga, 0, none⟩ = some (.bool s3) ∧ W'.cell? ⟨ga, 1, none⟩ = some (.slice p3 m3 m3) ∧ W'.cell? ⟨ga, 2, none⟩ = some (.int .i64 (-2))) v11) := ⟨Xa.out.c0, Xa.out.c1, Xa.out.c2⟩
  refine hK _ _ HJ.out ?_
  clear hK
  refine wpJ_take (i := 16) (v := ?v12x16) rfl (by kernel_rfl) (by kernel_rfl) (by kernel_rfl) (fun _ _ _ h => h) (by kernel_rfl) ?hy12x16 HJ.out ?rest12x16
  case hy12x16 => (intro W' hJ; obtain ⟨j0, j1, j2⟩ := hJ; go_simp; first | done | with_reducible rfl)
  refine wpJ_take (i := 17) (v := ?v13x17) rfl (by kernel_rfl) (by kernel_rfl) (by kernel_rfl) (fun _ _ _ h => h) (by kernel_rfl) ?hy13x17 HJ.out ?rest13x17
  case hy13x17 => (intro W' hJ; obtain ⟨j0, j1, j2⟩ := hJ; go_simp; first | done | with_reducible rfl)
  refine wpJ_done (by kernel_rfl) ?_ _
  clear HJ
  go_wp2_with fail
  go_ret
  exact ⟨rfl, hbw⟩
end Go.Proofs.YtkiacehilnghiaaGreatDoor

