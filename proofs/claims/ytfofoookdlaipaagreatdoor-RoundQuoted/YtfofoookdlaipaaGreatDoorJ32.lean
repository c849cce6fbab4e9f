import Derived.Test.YtfofoookdlaipaaGreatDoorJ23
import Derived.Test.YtfofoookdlaipaaGreatDoorJ27
import Derived.Test.YtfofoookdlaipaaGreatDoorDa15
import Derived.Test.YtfofoookdlaipaaGreatDoorJ21
import Derived.Test.YtfofoookdlaipaaGreatDoorJ8
import Derived.Test.YtfofoookdlaipaaGreatDoorJ10
import Derived.Deep.LoopGhost
import Derived.Test.YtfofoookdlaipaaGreatDoorJ16
import Derived.Laws.Bits64b
import Derived.Test.YtfofoookdlaipaaGreatDoorBb5
import Derived.Test.YtfofoookdlaipaaGreatDoorRq5
import Derived.Test.YtfofoookdlaipaaGreatDoorBs4
namespace Go.Proofs.YtfofoookdlaipaaGreatDoor
open Go.RowKit Go.Shelf

def EasyP (s : Bool) (xs : List Nat) (e : Int) (m : Nat) (en : Ending) : Prop := ∃ bo, en = .returned (.bool bo) ∧ (bo = true → formD s xs e = true ∧ m ≤ 300 ∧ -5000 ≤ e ∧ e ≤ 5000)
set_option maxRecDepth 20000 in
set_option maxHeartbeats 8000000 in
theorem easy8 {p : Option Addr} {m c : Nat} {xs : List Nat} {w : World} {e : Int} (s : Bool) (h : At w p m c xs) :
    Calls Tryz.prog 25 #[DV s p m c e] w fun en w' => EasyP s xs e m en ∧ Below w.heap.size w w' := by
  have H : Hid (At w p m c xs) := h
  clear h
  go_enter Tryz.func25, Tryz.ntmps25
  go_wp2_with fail
  obtain ⟨W0, hW0⟩ : ∃ W0, W0 = (w.alloc (.cells #[.bool s, .slice p m c, .int .i64 e] 34)) := ⟨_, rfl⟩
  have Xd : Hid (B3q W0 (w.heap.size) (.bool s) (.slice p m c) (.int .i64 e)) := by rw [hW0]; exact ⟨by go_simp, by go_simp, by go_simp, by go_simp, by go_simp, by go_simp⟩
  have hb0 : Below w.heap.size w W0 := by rw [hW0]; exact below1 w _
  rw [← hW0]
  clear hW0
  have hbw : Below w.heap.size w w := Below.refl _ _
  obtain ⟨gd, hgd⟩ : ∃ g, g = w.heap.size := ⟨_, rfl⟩
  have HGd : Hid (w.heap.size ≤ gd) := by rw [hgd]; show _ ≤ _; omega
  rw [← hgd] at Xd
  try rw [← hgd]
  clear hgd
  replace hbw := Below.on hbw hb0
  clear hb0
  refine (docformd s (H.out.below hbw)).mono ?_
  rintro e2 v1 ⟨rfl, hb1⟩
  replace Xd : Hid _ := Xd.out.below hb1
  replace hbw := Below.on hbw hb1
  clear hb1
  cases hf : formD s xs e
  · clear hf
    go_wp2_with fail
    go_ret
    exact ⟨⟨false, rfl, fun h => by cases h⟩, hbw⟩
  · have HF : Hid (formD s xs e = true) := hf
    clear hf
    by_cases h1 : m ≤ 300
    · have g1 : (m : Int) ≤ 300 := by omega
      by_cases h2 : -5000 ≤ e
      · obtain ⟨cd0, cd1, cd2, fd0, fd1, fd2⟩ := Xd.out
        have hned : gd < v1.heap.size := World.block_lt_of_cell? v1 _ cd0
        go_wp2_with fail
        clear cd0 cd1 cd2 fd0 fd1 fd2 hned
        go_ret
        exact ⟨⟨decide (e ≤ 5000), rfl, fun h => ⟨HF.out, h1, h2, of_decide_eq_true h⟩⟩, hbw⟩
      · have g2 : e < -5000 := by omega
        obtain ⟨cd0, cd1, cd2, fd0, fd1, fd2⟩ := Xd.out
        have hned : gd < v1.heap.size := World.block_lt_of_cell? v1 _ cd0
        go_wp2_with fail
        clear cd0 cd1 cd2 fd0 fd1 fd2 hned
        go_ret
        exact ⟨⟨false, rfl, fun h => by cases h⟩, hbw⟩
    · have g1 : ¬ (m : Int) ≤ 300 := by omega
      have g4 : 300 < (m : Int) := by omega
      obtain ⟨cd0, cd1, cd2, fd0, fd1, fd2⟩ := Xd.out
      have hned : gd < v1.heap.size := World.block_lt_of_cell? v1 _ cd0
      go_wp2_with fail
      clear cd0 cd1 cd2 fd0 fd1 fd2 hned
      go_ret
      exact ⟨⟨false, rfl, fun h => by cases h⟩, hbw⟩
theorem easy_db {p : Option Addr} {m c : Nat} {xs : List Nat} {w : World} {e : Int} {s : Bool} (h : At w p m c xs) (hf : formD s xs e = true ∧ m ≤ 300 ∧ -5000 ≤ e ∧ e ≤ 5000) : DN w s p m c e (iv s (valB B64 xs)) ∧ DB (iv s (valB B64 xs)) e 19200 5000 := by
  have hd := formD_dn h hf.1
  refine ⟨hd, hd.fm, ?_, by omega, by omega⟩
  obtain ⟨ys, hY⟩ := hd.zn.ex
  have h1 := (hY.nf.len_le B64_one (k := 300)).1 (by rw [hY.at_.len]; exact hf.2.1)
  obtain ⟨k, hk⟩ : ∃ k, k = 300 := ⟨_, rfl⟩
  obtain ⟨l, hl⟩ : ∃ l, l = 19200 := ⟨_, rfl⟩
  rw [← hk, B64_pow] at h1
  rw [← hl]
  exact Nat.lt_of_lt_of_le h1 (Nat.pow_le_pow_right (by omega) (by omega))
theorem Mk.uniq {H : Nat} {l : Int} {I : Nat} {g : Int → Int} {A V U : Int} {Z Y : Nat} (h : Mk H l I g A V) (k : Mk H l I g A U) (hZ : RNz H l I V Z) (hY : RNz H l I U Y) : Z ≤ Y := by
  refine Nat.le_of_not_lt fun hlt => ?_
  have hYI : Y < I := Nat.lt_of_lt_of_le hlt hZ.le
  have h1 : U ≤ dv (hv H Y : Int) (l - 1) := Int.not_lt.1 fun h2 => by have := hY.hi Y hYI h2; omega
  have h2 : dv (hv H Y : Int) (l - 1) ≤ V := Int.not_lt.1 fun h2 => by have := hZ.lo Y hYI h2; omega
  rcases Int.lt_or_eq_of_le h1 with h3 | h3 <;> rcases Int.lt_or_eq_of_le h2 with h4 | h4
  · have := k.lt Y hYI h3; have := h.gt Y hYI h4; omega
  · have := k.lt Y hYI h3; have := h.eq Y hYI h4.symm; omega
  · have := k.eq Y hYI h3; have := h.gt Y hYI h4; omega
  · rw [← h4, ← h3] at hZ
    have := hZ.uniq hY
    omega
end Go.Proofs.YtfofoookdlaipaaGreatDoor

namespace Go.Proofs.YtfofoookdlaipaaGreatDoor
open Go.RowKit Go.Shelf

def GP (up : Bool) (z e E zo eo : Int) : Prop := DFm zo eo ∧ ((E ≤ e ∧ zo = z ∧ eo = e) ∨ (e < E ∧ dv zo eo = dv (rd up z (2 ^ (E - e).toNat)) E ∧ (zo = 0 ∨ E ≤ eo)))
theorem dv_grid {F e E : Int} (h : e < E) (he : -4194304 ≤ e) : dv F E = dv (F * ((2 ^ (E - e).toNat : Nat) : Int)) e := dv_shift (by omega) he
theorem GP.lo {z e E zo eo : Int} (h : GP false z e E zo eo) (he : -4194304 ≤ e) : dv zo eo ≤ dv z e := by
  rcases h.2 with ⟨_, rfl, rfl⟩ | ⟨h1, h2, _⟩
  · exact Int.le_refl _
  · rw [h2, dv_grid h1 he]
    exact dv_le _ (rd_down z (Nat.pow_pos (by omega))).1
theorem GP.hi {z e E zo eo : Int} (h : GP true z e E zo eo) (he : -4194304 ≤ e) : dv z e ≤ dv zo eo := by
  rcases h.2 with ⟨_, rfl, rfl⟩ | ⟨h1, h2, _⟩
  · exact Int.le_refl _
  · rw [h2, dv_grid h1 he]
    exact dv_le _ (rd_up z (Nat.pow_pos (by omega))).1
theorem GP.neg {z e E zo eo : Int} (h : GP true z e E zo eo) : GP false (-z) e E (-zo) eo := by
  refine ⟨h.1.neg, ?_⟩
  rcases h.2 with ⟨h1, rfl, rfl⟩ | ⟨h1, h2, h3⟩
  · exact .inl ⟨h1, rfl, rfl⟩
  · refine .inr ⟨h1, by rw [rd_neg, dv_neg, dv_neg, h2], ?_⟩
    rcases h3 with h3 | h3
    · exact .inl (by omega)
    · exact .inr h3
theorem GP.gap {z e E zl el zh eh : Int} (hl : GP false z e E zl el) (hh : GP true z e E zh eh) (he : -1048576 ≤ e) (hb : bitsN z.natAbs ≤ 524288) (hne : ¬ (zl = zh ∧ el = eh)) :
    e < E ∧ (zl = 0 ∨ E ≤ el) ∧ (zh = 0 ∨ E ≤ eh) ∧ dv zl el = dv zh eh - dv 1 E ∧ (zh ≠ 0 → (zh * 2 ^ (eh - min eh E).toNat).natAbs < LIM ∧ ((1 : Int) * 2 ^ (E - min eh E).toNat).natAbs < LIM ∧ (zh * 2 ^ (eh - min eh E).toNat - 1 * 2 ^ (E - min eh E).toNat).natAbs < LIM) := by
  rcases hl.2 with ⟨h1, h2, h3⟩ | ⟨h1, h2, h3⟩
  · rcases hh.2 with ⟨_, g2, g3⟩ | ⟨g1, _⟩
    · exact absurd ⟨by rw [h2, g2], by rw [h3, g3]⟩ hne
    · omega
  · rcases hh.2 with ⟨g1, _⟩ | ⟨_, g2, g3⟩
    · omega
    · have hs := rd_step z (d := 2 ^ (E - e).toNat) (Nat.pow_pos (by omega))
      have hsz := rd_size true (n := (E - e).toNat) (bitsN_lt z.natAbs)
      have hC : rd true z (2 ^ (E - e).toNat) = rd false z (2 ^ (E - e).toNat) + 1 := by
        rcases hs with ⟨h4, _⟩ | h4
        · rw [h4, ← h2] at g2
          obtain ⟨a1, a2⟩ := dv_inj hl.1 hh.1 g2.symm
          exact absurd ⟨a1, a2⟩ hne
        · exact h4
      generalize rd true z (2 ^ (E - e).toNat) = C at *
      generalize rd false z (2 ^ (E - e).toNat) = F at *
      refine ⟨h1, h3, g3, by rw [h2, g2, hC, dv_add]; omega, ?_⟩
      intro h0
      have h5 : E ≤ eh := by rcases g3 with g3 | g3; (exact absurd g3 h0); exact g3
      have h6 := form_len (h := E) g2 (by omega) h5 (by omega)
      rw [show min eh E = E from by omega, show (E - E).toNat = 0 from by omega]
      generalize zh * 2 ^ (eh - E).toNat = X at *
      obtain ⟨L, hL⟩ : ∃ L, L = bitsN z.natAbs - (E - e).toNat := ⟨_, rfl⟩
      rw [← hL] at hsz
      have h7 : 2 ^ (L + 1) = 2 * 2 ^ L := by rw [Nat.pow_succ]; omega
      have h8 : 0 < 2 ^ L := Nat.pow_pos (by omega)
      refine ⟨lt_LIM (L := L + 1) (by omega) (by omega), lt_LIM (L := 1) (by decide) (by omega), ?_⟩
      refine Nat.lt_of_le_of_lt (m := 2 ^ L + 1) (by omega) ?_
      rcases Nat.eq_zero_or_pos L with h9 | h9
      · subst h9; exact lt_LIM (L := 2) (by decide) (by omega)
      · exact lt_LIM (L := L + 1) (by have : 2 ≤ 2 ^ L := by { have := Nat.pow_le_pow_right (show 0 < 2 by omega) h9; omega }; omega) (by omega)
end Go.Proofs.YtfofoookdlaipaaGreatDoor

namespace Go.Proofs.YtfofoookdlaipaaGreatDoor
open Go.RowKit Go.Shelf

theorem bitsN_shr5 (a n : Nat) (h0 : a / 2 ^ n ≠ 0) : bitsN (a / 2 ^ n) = bitsN a - n := by
  have hp := Nat.two_pow_pos n
  have h1 := Nat.div_add_mod a (2 ^ n)
  have h2 := Nat.mod_lt a hp
  have := bitsN_top (lo := a % 2 ^ n) (k := n) (x := a / 2 ^ n) h2 (bitsN_lt _) (bitsN_le _ h0) (by have := bitsN_pos h0; omega)
  rw [Nat.add_comm (a % 2 ^ n), h1] at this
  omega
theorem rd_neg2 (z : Int) (d : Nat) : rd true (-z) d = - rd false z d := by rw [rd_t, rd_f, Int.neg_neg]
theorem rd_dvd (up : Bool) {z m : Int} {d : Nat} (hd : 0 < d) (h : z = m * d) : rd up z d * d = z := by
  cases up
  · rw [rd_f, h, Int.mul_ediv_cancel _ (by omega)]
  · rw [rd_t, h, ← Int.neg_mul, Int.mul_ediv_cancel _ (by omega), Int.neg_neg]
theorem qsize {A B P : Nat} (hB : B ≠ 0) (hP : 1 ≤ P) (hA : A ≠ 0) (h : bitsN A = P + bitsN B) : 2 ^ (P - 1) ≤ A / B ∧ A / B < 2 ^ (P + 1) := by
  have a1 := bitsN_lt A
  have a2 := bitsN_le A hA
  have b1 := bitsN_lt B
  have b2 := bitsN_le B hB
  have b3 := bitsN_pos hB
  constructor
  · rw [Nat.le_div_iff_mul_le (by omega)]
    refine Nat.le_trans (Nat.mul_le_mul_left _ (Nat.le_of_lt b1)) ?_
    rw [← Nat.pow_add, show P - 1 + bitsN B = bitsN A - 1 from by omega]
    exact a2
  · rw [Nat.div_lt_iff_lt_mul (by omega)]
    refine Nat.lt_of_lt_of_le a1 (Nat.le_trans ?_ (Nat.mul_le_mul_left _ b2))
    rw [← Nat.pow_add]
    exact Nat.pow_le_pow_right (by omega) (by omega)
theorem core1 {n0 n1 P : Nat} (h01 : n1 = n0 ∨ n1 = n0 + 1) (h0 : 2 ^ (P - 1) ≤ n0) (hP : 1 ≤ P) :
    rd true (n1 : Int) (2 ^ (bitsN n1 - P)) * ((2 ^ (bitsN n1 - P) : Nat) : Int) = rd true (n1 : Int) (2 ^ (bitsN n0 - P)) * ((2 ^ (bitsN n0 - P) : Nat) : Int) := by
  by_cases hb : bitsN n1 = bitsN n0
  · rw [hb]
  · have hn : n1 = n0 + 1 := by rcases h01 with h | h; (exact absurd (by rw [h]) hb); exact h
    have hp0 : 0 < 2 ^ (P - 1) := Nat.pow_pos (by omega)
    have a1 := bitsN_lt n0
    have a2 := bitsN_le n0 (by omega)
    have a3 := bitsN_pos (a := n0) (by omega)
    have hP0 : P ≤ bitsN n0 := by
      have := (Nat.pow_lt_pow_iff_right (by omega : 1 < 2)).1 (Nat.lt_of_le_of_lt h0 a1)
      omega
    have h2 : n1 = 2 ^ bitsN n0 := by
      rcases Nat.lt_or_ge n1 (2 ^ bitsN n0) with h | h
      · exact absurd (bitsN_unique h (fun _ => by omega) (fun h9 => by omega)) hb
      · omega
    have key : ∀ k, k ≤ bitsN n0 → rd true (n1 : Int) (2 ^ k) * ((2 ^ k : Nat) : Int) = n1 := by
      intro k hk
      refine rd_dvd true (m := ((2 ^ (bitsN n0 - k) : Nat) : Int)) (Nat.pow_pos (by omega)) ?_
      rw [h2, ← Int.natCast_mul, ← Nat.pow_add, show bitsN n0 - k + k = bitsN n0 from by omega]
    have h3 : bitsN n1 = bitsN n0 + 1 := by
      rw [h2]
      refine bitsN_unique (Nat.pow_lt_pow_right (by omega) (by omega)) (fun _ => Nat.le_refl _) (fun h9 => ?_)
      have : 0 < 2 ^ bitsN n0 := Nat.pow_pos (by omega)
      omega
    rw [key _ (by omega), key _ (by omega)]
theorem core2 {n0 n1 d : Nat} (h01 : n1 = n0 ∨ n1 = n0 + 1) (hd : 0 < d) : rd true (n1 : Int) d = rd false (n0 : Int) d ∨ rd true (n1 : Int) d = rd false (n0 : Int) d + 1 := by
  have h1 := rd_down (n0 : Int) hd
  have h2 := rd_up (n1 : Int) hd
  generalize rd false (n0 : Int) d = F at *
  generalize rd true (n1 : Int) d = C at *
  have h5 := Int.lt_of_mul_lt_mul_right (show (C - 1) * d < (F + 1) * d by omega) (by omega)
  have h6 := Int.lt_of_mul_lt_mul_right (show F * d < (C + 1) * d by rw [Int.add_mul]; omega) (by omega)
  omega
theorem bits_cut {n0 P : Nat} (h0 : 2 ^ (P - 1) ≤ n0) (hP : 1 ≤ P) : bitsN (rd false (n0 : Int) (2 ^ (bitsN n0 - P))).natAbs = P ∧ 0 < rd false (n0 : Int) (2 ^ (bitsN n0 - P)) := by
  have hp0 : 0 < 2 ^ (P - 1) := Nat.pow_pos (by omega)
  have a1 := bitsN_lt n0
  have hP0 : P ≤ bitsN n0 := by
    have := (Nat.pow_lt_pow_iff_right (by omega : 1 < 2)).1 (Nat.lt_of_le_of_lt h0 a1)
    omega
  have e1 : rd false (n0 : Int) (2 ^ (bitsN n0 - P)) = ((n0 / 2 ^ (bitsN n0 - P) : Nat) : Int) := by rw [rd_f]; exact (Int.natCast_ediv _ _).symm
  have h3 : 2 ^ (bitsN n0 - P) ≤ n0 := Nat.le_trans (Nat.pow_le_pow_right (by omega) (by omega)) (bitsN_le n0 (by omega))
  have h4 := Nat.div_pos h3 (Nat.pow_pos (by omega))
  rw [e1, Int.natAbs_natCast, bitsN_shr5 _ _ (by omega)]
  exact ⟨by omega, by omega⟩
structure QG (F C : Int) (P k : Nat) (Gl Gh : Int) : Prop where
  lo : rd false F (2 ^ (bitsN F.natAbs - P)) * ((2 ^ (bitsN F.natAbs - P) : Nat) : Int) = Gl * ((2 ^ k : Nat) : Int)
  hi : rd true C (2 ^ (bitsN C.natAbs - P)) * ((2 ^ (bitsN C.natAbs - P) : Nat) : Int) = Gh * ((2 ^ k : Nat) : Int)
  st : Gh = Gl ∨ Gh = Gl + 1
  kk : k ≤ 2
  sm : (0 < Gl ∧ bitsN Gl.natAbs = P) ∨ (Gh < 0 ∧ bitsN Gh.natAbs = P)
theorem qg_ex {X Y : Int} {P : Nat} (hX : X ≠ 0) (hY : Y ≠ 0) (hP : 1 ≤ P) (h : bitsN X.natAbs = P + bitsN Y.natAbs) : (∃ k Gl Gh, QG (qI false X Y) (qI true X Y) P k Gl Gh) ∧ qI false X Y ≠ 0 ∧ qI true X Y ≠ 0 ∧ bitsN (qI false X Y).natAbs ≤ P + 2 ∧ bitsN (qI true X Y).natAbs ≤ P + 2 := by
  obtain ⟨q1, q2⟩ := qsize (A := X.natAbs) (B := Y.natAbs) (by omega) hP (by omega) h
  have hp0 : 0 < 2 ^ (P - 1) := Nat.pow_pos (by omega)
  unfold qI
  rw [if_neg (by decide), if_pos rfl]
  obtain ⟨n0, hn0⟩ : ∃ n0, n0 = X.natAbs / Y.natAbs := ⟨_, rfl⟩
  obtain ⟨n1, hn1⟩ : ∃ n1, n1 = X.natAbs / Y.natAbs + (decide (X.natAbs % Y.natAbs ≠ 0)).toNat := ⟨_, rfl⟩
  have h01 : n1 = n0 ∨ n1 = n0 + 1 := by
    rw [hn1, hn0]
    cases decide (X.natAbs % Y.natAbs ≠ 0)
    · exact .inl rfl
    · exact .inr rfl
  rw [← hn0] at q1 q2
  have hbz : ∀ n : Nat, n ≤ 2 ^ (P + 1) → bitsN n ≤ P + 2 := by
    intro n hn
    by_cases h9 : n = 0
    · rw [h9, bitsN_zero]; omega
    · have h8 := bitsN_le n h9
      have h7 : 2 ^ (P + 1) < 2 ^ (P + 2) := Nat.pow_lt_pow_right (by omega) (by omega)
      have := (Nat.pow_lt_pow_iff_right (by omega : 1 < 2)).1 (Nat.lt_of_le_of_lt h8 (show n < 2 ^ (P + 2) by omega))
      omega
  have k0 := hbz n0 (by omega)
  have k1 := hbz n1 (by omega)
  have c1 := core1 h01 q1 hP
  have c2 := core2 h01 (d := 2 ^ (bitsN n0 - P)) (Nat.pow_pos (by omega))
  have c3 := bits_cut q1 hP
  cases hs : (decide (X < 0) != decide (Y < 0))
  · have eF : fl false X.natAbs Y.natAbs = (n0 : Int) := by unfold fl; rw [iv_f, Bool.false_and, ← hn0]; rfl
    have eC : ce false X.natAbs Y.natAbs = (n1 : Int) := by unfold ce; rw [iv_f, Bool.not_false, Bool.true_and, ← hn1]
    rw [eF, eC]
    refine ⟨⟨bitsN n0 - P, _, _, ⟨by rw [Int.natAbs_natCast], by rw [Int.natAbs_natCast]; exact c1, c2, by omega, .inl ⟨c3.2, c3.1⟩⟩⟩, by omega, by omega, by rw [Int.natAbs_natCast]; exact k0, by rw [Int.natAbs_natCast]; exact k1⟩
  · have eF : fl true X.natAbs Y.natAbs = -(n1 : Int) := by unfold fl; rw [iv_t, Bool.true_and, ← hn1]
    have eC : ce true X.natAbs Y.natAbs = -(n0 : Int) := by unfold ce; rw [iv_t, Bool.not_true, Bool.false_and, ← hn0]; rfl
    rw [eF, eC]
    refine ⟨⟨bitsN n0 - P, - rd true (n1 : Int) (2 ^ (bitsN n0 - P)), - rd false (n0 : Int) (2 ^ (bitsN n0 - P)), ⟨?_, ?_, by omega, by omega, .inr ⟨by omega, by rw [Int.natAbs_neg]; exact c3.1⟩⟩⟩, by omega, by omega, by rw [Int.natAbs_neg, Int.natAbs_natCast]; exact k1, by rw [Int.natAbs_neg, Int.natAbs_natCast]; exact k0⟩
    · rw [Int.natAbs_neg, Int.natAbs_natCast, rd_neg, Int.neg_mul, Int.neg_mul, c1]
    · rw [Int.natAbs_neg, Int.natAbs_natCast, rd_neg2, Int.neg_mul]
theorem topI_pos {x y e f : Int} (hx : 0 < x) (hy : 0 < y) (he : -4194304 ≤ e) (hf : -4194304 ≤ f) (h : dv x e ≤ dv y f) : topI x e ≤ topI y f := by
  rcases Int.lt_or_le (topI y f) (topI x e) with h1 | h1
  · have := top_lt (by omega) hx hf he h1
    omega
  · exact h1
theorem WB.bits {x y X Y L : Int} {P : Nat} (h : WB x y P X Y L) (hx : x ≠ 0) (hy : y ≠ 0) : bitsN X.natAbs = P + bitsN Y.natAbs ∧ X ≠ 0 ∧ Y ≠ 0 := by
  obtain ⟨h1, h2, h3⟩ := h
  have key : ∀ (z : Int) (N : Nat), z ≠ 0 → bitsN (z * 2 ^ N).natAbs = bitsN z.natAbs + N ∧ z * 2 ^ N ≠ 0 := by
    intro z N hz
    refine ⟨?_, Int.mul_ne_zero hz (by rw [pow_cast]; exact pow_pos_int _)⟩
    rw [Int.natAbs_mul, pow_cast, Int.natAbs_natCast, Nat.mul_comm, bitsN_shl _ _ (by omega)]
    omega
  obtain ⟨a1, a2⟩ := key x L.toNat hx
  obtain ⟨b1, b2⟩ := key y (-L).toNat hy
  rw [h2, h3]
  exact ⟨by omega, a2, b2⟩
theorem WB.cmp {x y X Y L G : Int} {P : Nat} {e : Int} (h : WB x y P X Y L) (he : -2000000 ≤ e - L) (he2 : -2000000 ≤ e) : (G * Y ≤ X → dv (G * y) (e - L) ≤ dv x e) ∧ (X ≤ G * Y → dv x e ≤ dv (G * y) (e - L)) := by
  obtain ⟨h1, h2, h3⟩ := h
  rcases Int.lt_or_le L 0 with h0 | h0
  · have e1 : dv (G * y) (e - L) = dv (G * Y) e := by
      rw [dv_shift (e := e - L) (f := e) (by omega) (by omega), show (e - L - e).toNat = (-L).toNat from by omega, h3, pow_cast, Int.mul_assoc]
    have e2 : X = x := by rw [h2, show L.toNat = 0 from by omega]; simp
    rw [e1, ← e2]
    exact ⟨dv_le e, dv_le e⟩
  · have e1 : dv x e = dv X (e - L) := by
      rw [dv_shift (e := e) (f := e - L) (by omega) (by omega), show (e - (e - L)).toNat = L.toNat from by omega, h2, pow_cast]
    have e2 : Y = y := by rw [h3, show (-L).toNat = 0 from by omega]; simp
    rw [e1, ← e2]
    exact ⟨dv_le _, dv_le _⟩
end Go.Proofs.YtfofoookdlaipaaGreatDoor

namespace Go.Proofs.YtfofoookdlaipaaGreatDoor
open Go.RowKit Go.Shelf

structure Nests (x y F C G M : Int) : Prop where
  bf : (F * y).natAbs ≤ x.natAbs + y.natAbs
  bg : (G * y).natAbs ≤ x.natAbs + y.natAbs
  sum : F * y + M = x
  step : C - F = if M = 0 then 0 else 1
  gor : G = F ∨ G = C
  sg : M = 0 ∨ (0 < M ∧ 0 < y) ∨ (M < 0 ∧ y < 0)
  ml : M.natAbs < y.natAbs
  off : 2 * (x - G * y).natAbs ≤ y.natAbs
  tie : 2 * (x - G * y).natAbs = y.natAbs → G.natAbs % 2 = 0
theorem nests_of (x y : Int) (hy : y ≠ 0) {F C G M : Int} (hF : F = fl (decide (x < 0) != decide (y < 0)) x.natAbs y.natAbs) (hC : C = ce (decide (x < 0) != decide (y < 0)) x.natAbs y.natAbs) (hG : G = ne (decide (x < 0) != decide (y < 0)) x.natAbs y.natAbs) (hM : M = mo (decide (x < 0)) (decide (y < 0)) x.natAbs y.natAbs) : Nests x y F C G M := by
  have hb : 0 < y.natAbs := by omega
  have ex := iv_abs x
  have ey := iv_abs y
  have hr := Nat.mod_lt x.natAbs hb
  have hM0 : M = 0 ↔ x.natAbs % y.natAbs = 0 := by
    rw [hM]; unfold mo
    generalize decide (x < 0) = s
    generalize decide (y < 0) = t
    generalize x.natAbs % y.natAbs = r at *
    by_cases h0 : r = 0
    · subst h0; cases s <;> cases t <;> simp [iv]
    · cases s <;> cases t <;> simp [iv, h0] <;> omega
  refine ⟨?_, ?_, ?_, ?_, ?_, ?_, ?_, ?_, ?_⟩
  · rw [hF]; have := fl_bound (decide (x < 0) != decide (y < 0)) (decide (y < 0)) x.natAbs y.natAbs; rwa [ey] at this
  · rw [hG]; have := ne_bound (decide (x < 0) != decide (y < 0)) (decide (y < 0)) x.natAbs y.natAbs; rwa [ey] at this
  · rw [hF, hM]; have := fl_mo (decide (x < 0)) (decide (y < 0)) x.natAbs y.natAbs hb; rwa [ex, ey] at this
  · rw [hC, hF, ce_fl]
    by_cases h0 : M = 0
    · rw [if_pos h0, if_pos (hM0.1 h0)]
    · rw [if_neg h0, if_neg (fun e => h0 (hM0.2 e))]
  · rw [hG, hF, hC]; exact ne_or _ _ _
  · by_cases h0 : M = 0
    · exact .inl h0
    · right
      have h1 := mt hM0.2 h0
      rw [hM]; unfold mo
      generalize x.natAbs % y.natAbs = r at *
      by_cases h2 : y < 0
      · right
        rw [decide_eq_true h2, iv_t]
        refine ⟨?_, h2⟩
        split <;> omega
      · left
        rw [decide_eq_false h2, iv_f]
        refine ⟨?_, by omega⟩
        split <;> omega
  · rw [hM]; unfold mo; rw [iv_natAbs]
    split
    · rename_i h2
      have : x.natAbs % y.natAbs ≠ 0 := by
        rw [Bool.and_eq_true] at h2
        exact of_decide_eq_true h2.2
      omega
    · exact hr
  · rw [hG]; have := (ne_off (decide (x < 0)) (decide (y < 0)) x.natAbs y.natAbs hb).1; rwa [ex, ey] at this
  · rw [hG]; have := (ne_off (decide (x < 0)) (decide (y < 0)) x.natAbs y.natAbs hb).2; rwa [ex, ey] at this
end Go.Proofs.YtfofoookdlaipaaGreatDoor

namespace Go.Proofs.YtfofoookdlaipaaGreatDoor
open Go.RowKit Go.Shelf

structure QF (x e y f : Int) (P : Nat) (X Y L zl el zh eh : Int) : Prop where
  fl : DFm zl el
  fh : DFm zh eh
  vl : dv zl el = dv (rd false (qI false X Y) (2 ^ (bitsN (qI false X Y).natAbs - P))) (e - f - L + ((bitsN (qI false X Y).natAbs - P : Nat) : Int))
  vh : dv zh eh = dv (rd true (qI true X Y) (2 ^ (bitsN (qI true X Y).natAbs - P))) (e - f - L + ((bitsN (qI true X Y).natAbs - P : Nat) : Int))
  bl : bitsN zl.natAbs ≤ P
  bh : bitsN zh.natAbs ≤ P
  dl : DB zl el 70001 220000
  dh : DB zh eh 70001 220000
  op : 0 < y → dv (zl * y) (el + f) ≤ dv x e ∧ dv x e ≤ dv (zh * y) (eh + f)
  on : y < 0 → dv (zh * y) (eh + f) ≤ dv x e ∧ dv x e ≤ dv (zl * y) (el + f)
  gap : ¬ (zl = zh ∧ el = eh) → zl ≠ 0 ∧ zh ≠ 0 ∧ ∃ g, min (topI zl el) (topI zh eh) - P + 1 = g ∧ -1048576 ≤ g ∧ g ≤ 1048576 ∧ dv 1 g = dv zh eh - dv zl el ∧ (zh ≠ 0 → zl ≠ 0 → (zh * 2 ^ (eh - min eh el).toNat).natAbs < LIM ∧ (zl * 2 ^ (el - min eh el).toNat).natAbs < LIM ∧ (zh * 2 ^ (eh - min eh el).toNat - zl * 2 ^ (el - min eh el).toNat).natAbs < LIM)
theorem mulform {z e G E y f : Int} (h : dv z e = dv G E) (he : -2097152 ≤ e) (hE : -2097152 ≤ E) (hf : -2097152 ≤ f) : dv (z * y) (e + f) = dv (G * y) (E + f) := by
  refine dv_cancel ?_
  rw [dv_mul he hf, dv_mul hE hf, h]
theorem cut2 (up : Bool) {F : Int} {P : Nat} (hF : F ≠ 0) (hP : 1 ≤ P) (hb : bitsN F.natAbs ≤ P + 2) {E : Int} (h1 : -1048576 ≤ E) (h2 : E + 2 + P ≤ 1048576) : ∃ zo eo, DFm zo eo ∧ dv zo eo = dv (rd up F (2 ^ (bitsN F.natAbs - P))) (E + ((bitsN F.natAbs - P : Nat) : Int)) ∧ zo % 2 = 1 ∧ zo.natAbs ≤ 2 ^ P ∧ E ≤ eo ∧ eo ≤ E + 2 + P ∧ (rd up F (2 ^ (bitsN F.natAbs - P)) * ((2 ^ (bitsN F.natAbs - P) : Nat) : Int)).natAbs ≤ 2 ^ (P + 2) := by
  obtain ⟨c1, c2⟩ := cut_size up hF hP (k := bitsN F.natAbs - P) rfl
  obtain ⟨zo, eo, g1, g2, g3, g4, g5, g6⟩ := form_ex (z := rd up F (2 ^ (bitsN F.natAbs - P))) (e := E + ((bitsN F.natAbs - P : Nat) : Int)) (L := P) c2 (by omega) c1 (by omega)
  refine ⟨zo, eo, g1, g2, g3, by omega, by omega, by omega, ?_⟩
  rw [Int.natAbs_mul, Int.natAbs_natCast, Nat.pow_add]
  exact Nat.mul_le_mul c1 (Nat.pow_le_pow_right (by omega) (by omega))
theorem db_of {z e : Int} {K E P : Nat} (fm : DFm z e) (h : z.natAbs ≤ 2 ^ P) (hp : P < K) (lo : -(E : Int) ≤ e) (hi : e ≤ E) : DB z e K E :=
  ⟨fm, Nat.lt_of_le_of_lt h (Nat.pow_lt_pow_right (by omega) hp), lo, hi⟩
theorem qf_zero {e y f : Int} {P : Nat} {X Y L : Int} (hw : WB 0 y P X Y L) : QF 0 e y f P X Y L 0 0 0 0 := by
  have hX : X = 0 := by rw [hw.xv, Int.zero_mul]
  have q1 : ∀ up, qI up X Y = 0 := by
    intro up
    rw [hX]
    unfold qI
    cases up
    · rw [if_neg (by decide)]; unfold fl; simp [iv]
    · rw [if_pos rfl]; unfold ce; simp [iv]
  have d0 : DB 0 0 70001 220000 := db_of (P := 0) (.inl ⟨rfl, rfl⟩) (by decide) (by omega) (by omega) (by omega)
  exact ⟨.inl ⟨rfl, rfl⟩, .inl ⟨rfl, rfl⟩, by rw [q1, rd_zero, dv_zero, dv_zero], by rw [q1, rd_zero, dv_zero, dv_zero], by rw [Int.natAbs_zero, bitsN_zero]; omega, by rw [Int.natAbs_zero, bitsN_zero]; omega, d0, d0,
    fun _ => by rw [Int.zero_mul, dv_zero, dv_zero]; omega, fun _ => by rw [Int.zero_mul, dv_zero, dv_zero]; omega, fun h => absurd ⟨rfl, rfl⟩ h⟩
theorem qf_ex {x e y f : Int} {P : Nat} {X Y L : Int} (bx : DB x e 32000 20000) (by_ : DB y f 32000 20000) (hx : x ≠ 0) (hy : y ≠ 0) (hP : 1 ≤ P ∧ P ≤ 70000) (hw : WB x y P X Y L) : ∃ zl el zh eh, QF x e y f P X Y L zl el zh eh := by
  obtain ⟨w1, w2, w3⟩ := hw.bits hx hy
  obtain ⟨⟨k, Gl, Gh, qg⟩, F0, C0, bF, bC⟩ := qg_ex w2 w3 hP.1 w1
  have e1 := bx.lo; have e2 := bx.hi; have f1 := by_.lo; have f2 := by_.hi
  have hbits : ∀ z : Int, z ≠ 0 → z.natAbs < 2 ^ 32000 → bitsN z.natAbs ≤ 32000 := by
    intro z hz h
    have h2 := bitsN_le z.natAbs (by omega)
    obtain ⟨q, hq⟩ : ∃ q, q = 32000 := ⟨_, rfl⟩
    rw [← hq] at h ⊢
    have := (Nat.pow_lt_pow_iff_right (by omega : 1 < 2)).1 (Nat.lt_of_le_of_lt h2 h)
    omega
  have hL := hw.l
  have l1 := hbits x hx bx.sz
  have l2 := hbits y hy by_.sz
  obtain ⟨E, hE⟩ : ∃ E, E = e - f - L := ⟨_, rfl⟩
  have hE1 : -150000 ≤ E ∧ E ≤ 150000 := by omega
  obtain ⟨zl, el, a1, a2, a3, a4, a5, a6, a7⟩ := cut2 false F0 hP.1 bF (E := E) (by omega) (by omega)
  obtain ⟨zh, eh, b1, b2, b3, b4, b5, b6, b7⟩ := cut2 true C0 hP.1 bC (E := E) (by omega) (by omega)
  have hM := nests_of X Y w3 (F := qI false X Y) (C := qI true X Y) rfl rfl rfl rfl
  have s1 := (rd_down (qI false X Y) (d := 2 ^ (bitsN (qI false X Y).natAbs - P)) (Nat.pow_pos (by omega))).1
  have s2 := (rd_up (qI true X Y) (d := 2 ^ (bitsN (qI true X Y).natAbs - P)) (Nat.pow_pos (by omega))).1
  have v1 : dv zl el = dv (Gl * ((2 ^ k : Nat) : Int)) E := by rw [a2, dv_up _ (by omega), qg.lo]
  have v2 : dv zh eh = dv (Gh * ((2 ^ k : Nat) : Int)) E := by rw [b2, dv_up _ (by omega), qg.hi]
  rw [qg.lo] at s1 a7
  rw [qg.hi] at s2 b7
  have m1 := mulform (y := y) (f := f) v1 (by omega) (by omega) (by omega)
  have m2 := mulform (y := y) (f := f) v2 (by omega) (by omega) (by omega)
  have hEf : E + f = e - L := by omega
  rw [hEf] at m1 m2
  obtain ⟨p1, p2⟩ := hw.cmp (G := Gl * ((2 ^ k : Nat) : Int)) (e := e) (by omega) (by omega)
  obtain ⟨p3, p4⟩ := hw.cmp (G := Gh * ((2 ^ k : Nat) : Int)) (e := e) (by omega) (by omega)
  have hsum := hM.sum
  have hsg := hM.sg
  have hml := hM.ml
  have hst := hM.step
  generalize mo (decide (X < 0)) (decide (Y < 0)) X.natAbs Y.natAbs = M at *
  have hpow : (0 : Int) < 2 ^ (-L).toNat := by rw [pow_cast]; have := Nat.pow_pos (n := (-L).toNat) (show 0 < 2 by omega); omega
  have hCF : qI true X Y * Y = qI false X Y * Y + (if M = 0 then 0 else Y) := by
    have : qI true X Y = qI false X Y + (if M = 0 then 0 else 1) := by omega
    rw [this, Int.add_mul]
    split <;> simp
  refine ⟨zl, el, zh, eh, ⟨a1, b1, by rw [← hE]; exact a2, by rw [← hE]; exact b2, odd_bits a3 hP.1 a4, odd_bits b3 hP.1 b4, db_of a1 a4 (by omega) (by omega) (by omega), db_of b1 b4 (by omega) (by omega) (by omega), ?_, ?_, ?_⟩⟩
  · intro h0
    have hY : 0 < Y := by rw [hw.yv]; exact Int.mul_pos h0 hpow
    have t1 := Int.mul_le_mul_of_nonneg_right s1 (Int.le_of_lt hY)
    have t2 := Int.mul_le_mul_of_nonneg_right s2 (Int.le_of_lt hY)
    rw [m1, m2]
    refine ⟨p1 (by omega), p4 ?_⟩
    split at hCF <;> omega
  · intro h0
    have hY : Y < 0 := by rw [hw.yv]; exact Int.mul_neg_of_neg_of_pos h0 hpow
    have t1 := Int.mul_le_mul_of_nonpos_right s1 (Int.le_of_lt hY)
    have t2 := Int.mul_le_mul_of_nonpos_right s2 (Int.le_of_lt hY)
    rw [m1, m2]
    refine ⟨p3 ?_, p2 (by omega)⟩
    split at hCF <;> omega
  · intro hne
    have hk := qg.kk
    have hG : Gh = Gl + 1 := by
      rcases qg.st with h | h
      · exact absurd (dv_inj a1 b1 (by rw [v1, v2, h])) hne
      · exact h
    have u1 : dv zl el = dv Gl (E + k) := by rw [v1, dv_up k (by omega)]
    have u2 : dv zh eh = dv Gh (E + k) := by rw [v2, dv_up k (by omega)]
    refine ⟨by omega, by omega, E + k, ?_, by omega, by omega, by rw [u1, u2, hG, dv_add]; omega, fun _ _ => gap_len v1 v2 a7 b7 (by omega) (by omega) (by omega) (by omega)⟩
    have hlt := dv_lt (E + k) (show Gl < Gh by omega)
    rw [← u1, ← u2] at hlt
    rcases qg.sm with ⟨g1, g2⟩ | ⟨g1, g2⟩
    · have n1 := dv3 Gl (E + k)
      have n2 := dv3 zl el
      have n3 := dv3 zh eh
      have r1 := topI_pos (x := zl) (y := Gl) (e := el) (f := E + k) (by omega) g1 (by omega) (by omega) (by omega)
      have r2 := topI_pos (x := Gl) (y := zl) (e := E + k) (f := el) g1 (by omega) (by omega) (by omega) (by omega)
      have r3 := topI_pos (x := zl) (y := zh) (e := el) (f := eh) (by omega) (by omega) (by omega) (by omega) (by omega)
      have r4 : topI Gl (E + k) = E + k + P - 1 := by unfold topI; rw [g2]
      omega
    · have n1 := dv3 Gh (E + k)
      have n2 := dv3 zl el
      have n3 := dv3 zh eh
      have w4 := dv_neg Gh (E + k)
      have w5 := dv_neg zl el
      have w6 := dv_neg zh eh
      have r1 := topI_pos (x := -zh) (y := -Gh) (e := eh) (f := E + k) (by omega) (by omega) (by omega) (by omega) (by omega)
      have r2 := topI_pos (x := -Gh) (y := -zh) (e := E + k) (f := eh) (by omega) (by omega) (by omega) (by omega) (by omega)
      have r3 := topI_pos (x := -zh) (y := -zl) (e := eh) (f := el) (by omega) (by omega) (by omega) (by omega) (by omega)
      rw [topI_neg, topI_neg] at r1 r2 r3
      have r4 : topI Gh (E + k) = E + k + P - 1 := by unfold topI; rw [g2]
      omega
theorem qf_any {x e y f : Int} {P : Nat} {X Y L : Int} (bx : DB x e 32000 20000) (by_ : DB y f 32000 20000) (hy : y ≠ 0) (hP : 1 ≤ P ∧ P ≤ 70000) (hw : WB x y P X Y L) : ∃ zl el zh eh, QF x e y f P X Y L zl el zh eh := by
  by_cases hx : x = 0
  · subst hx
    exact ⟨0, 0, 0, 0, qf_zero hw⟩
  · exact qf_ex bx by_ hx hy hP hw
theorem wb_ex (x y : Int) (P : Nat) : ∃ X Y L, WB x y P X Y L := ⟨_, _, _, ⟨rfl, rfl, rfl⟩⟩
end Go.Proofs.YtfofoookdlaipaaGreatDoor

namespace Go.Proofs.YtfofoookdlaipaaGreatDoor
open Go.RowKit Go.Shelf

structure DO (B : Nat) (w : World) (s : Bool) (p : Option Addr) (m : Nat) (e z : Int) : Prop where
  own : ∃ zs, Own B w p m zs ∧ Nf B64 zs z.natAbs ∧ m ≤ 8192
  sg : s = decide (z < 0)
  fm : DFm z e
theorem DO.dn {B : Nat} {w : World} {s : Bool} {p : Option Addr} {m : Nat} {e z : Int} (h : DO B w s p m e z) : DN w s p m m e z := by
  obtain ⟨zs, h1, h2, h3⟩ := h.own
  exact ⟨⟨⟨zs, Num.of h1 h2 h3⟩, h.sg⟩, h.fm⟩
theorem DO.below {B : Nat} {w w' : World} {s : Bool} {p : Option Addr} {m : Nat} {e z : Int} (h : DO B w s p m e z) (hb : Below w.heap.size w w') : DO B w' s p m e z := by
  obtain ⟨zs, h1, h2, h3⟩ := h.own
  exact ⟨⟨zs, h1.below hb, h2, h3⟩, h.sg, h.fm⟩
theorem DO.set {B : Nat} {w : World} {s : Bool} {p : Option Addr} {m : Nat} {e z : Int} (h : DO B w s p m e z) (g o : Nat) (v : Value) (hg : g < B) : DO B (w.setCell ⟨g, o, none⟩ v) s p m e z := by
  obtain ⟨zs, h1, h2, h3⟩ := h.own
  exact ⟨⟨zs, h1.setOld _ _ _ hg, h2, h3⟩, h.sg, h.fm⟩
theorem DO.of {B : Nat} {w : World} {v : Value} {e z : Int} (h : AnsD B w v z e) (hf : DFm z e) : ∃ s p m, v = DV s p m m e ∧ DO B w s p m e z := by
  obtain ⟨p, m, zs, rfl, h1, h2, h3⟩ := h
  exact ⟨_, p, m, rfl, ⟨zs, h1, h2, h3⟩, rfl, hf⟩
end Go.Proofs.YtfofoookdlaipaaGreatDoor

namespace Go.Proofs.YtfofoookdlaipaaGreatDoor
open Go.RowKit Go.Shelf

end Go.Proofs.YtfofoookdlaipaaGreatDoor

namespace Go.Proofs.YtfofoookdlaipaaGreatDoor
open Go.RowKit Go.Shelf

end Go.Proofs.YtfofoookdlaipaaGreatDoor

namespace Go.Proofs.YtfofoookdlaipaaGreatDoor
open Go.RowKit Go.Shelf

structure It where
  p : Option Addr
  n : Nat
  c : Nat
  xs : List Nat
  a : Nat
structure Lists (w : World) (P : Option Addr) (N C : Nat) (its : List It) : Prop where
  len : its.length = N
  cap : N ≤ C
  big : C ≤ maxLen
  cells : N = 0 ∨ ∃ g off, P = some ⟨g, off, none⟩ ∧ ∀ j (h : j < its.length), w.cell? ⟨g, off + j, none⟩ = some (.slice its[j].p its[j].n its[j].c)
  nums : ∀ t ∈ its, Num w t.p t.n t.c t.xs t.a
theorem Lists.below {w w' : World} {P : Option Addr} {N C : Nat} {its : List It} (h : Lists w P N C its) (hb : Below w.heap.size w w') : Lists w' P N C its := by
  refine ⟨h.len, h.cap, h.big, ?_, fun t ht => (h.nums t ht).below hb⟩
  rcases h.cells with h0 | ⟨g, off, rfl, hc⟩
  · exact .inl h0
  · exact .inr ⟨g, off, rfl, fun j hj => (hb.cell (p := ⟨g, off + j, none⟩) (World.block_lt_of_cell? w _ (hc j hj))).trans (hc j hj)⟩
def prodI : List It → Nat
  | [] => 1
  | t :: ts => t.a * prodI ts
theorem Lists.take {w : World} {g off N C : Nat} {its : List It} (h : Lists w (some ⟨g, off, none⟩) N C its) (k : Nat) (hk : k ≤ N) : Lists w (some ⟨g, off, none⟩) k k (its.take k) := by
  have hl := h.len; have hc := h.cap; have hb := h.big
  refine ⟨by rw [List.length_take]; omega, Nat.le_refl _, by omega, ?_, fun t ht => h.nums t (List.mem_of_mem_take ht)⟩
  rcases h.cells with h0 | ⟨g', off', he, hcl⟩
  · exact .inl (by omega)
  · refine .inr ⟨g', off', he, fun j hj => ?_⟩
    have hj2 : j < its.length := by rw [List.length_take] at hj; omega
    rw [hcl j hj2]; simp
theorem Lists.drop {w : World} {g off N C : Nat} {its : List It} (h : Lists w (some ⟨g, off, none⟩) N C its) (k : Nat) (hk : k < N) : Lists w (some ⟨g, off + k, none⟩) (N - k) (C - k) (its.drop k) := by
  have hl := h.len; have hc := h.cap; have hb := h.big
  refine ⟨by rw [List.length_drop]; omega, by omega, by omega, ?_, fun t ht => h.nums t (List.mem_of_mem_drop ht)⟩
  rcases h.cells with h0 | ⟨g', off', he, hcl⟩
  · omega
  · simp only [Option.some.injEq, Addr.mk.injEq, and_true] at he
    obtain ⟨rfl, rfl⟩ := he
    refine .inr ⟨g, off + k, rfl, fun j hj => ?_⟩
    have hj2 : k + j < its.length := by rw [List.length_drop] at hj; omega
    have := hcl (k + j) hj2
    rw [← Nat.add_assoc] at this
    rw [this]; simp
theorem Lists.pos {w : World} {P : Option Addr} {N C : Nat} {its : List It} (_h : Lists w P N C its) (hp : ∀ t ∈ its, 0 < t.a) : 0 < prodI its := by
  clear _h
  induction its with
  | nil => simp [prodI]
  | cons t ts ih => exact Nat.mul_pos (hp t (by simp)) (ih (fun u hu => hp u (by simp [hu])))

end Go.Proofs.YtfofoookdlaipaaGreatDoor

namespace Go.Proofs.YtfofoookdlaipaaGreatDoor
open Go.RowKit

end Go.Proofs.YtfofoookdlaipaaGreatDoor

namespace Go.Proofs.YtfofoookdlaipaaGreatDoor
open Go.RowKit

end Go.Proofs.YtfofoookdlaipaaGreatDoor

namespace Go.Proofs.YtfofoookdlaipaaGreatDoor
open Go.RowKit

end Go.Proofs.YtfofoookdlaipaaGreatDoor

namespace Go.Proofs.YtfofoookdlaipaaGreatDoor
open Go.RowKit

end Go.Proofs.YtfofoookdlaipaaGreatDoor

namespace Go.Proofs.YtfofoookdlaipaaGreatDoor
open Go.RowKit Go.Shelf

end Go.Proofs.YtfofoookdlaipaaGreatDoor

namespace Go.Proofs.YtfofoookdlaipaaGreatDoor
open Go.RowKit Go.Shelf

theorem DO.mono {B B' : Nat} {w : World} {s : Bool} {p : Option Addr} {m : Nat} {e z : Int} (h : DO B w s p m e z) (hB : B' ≤ B) : DO B' w s p m e z := by
  obtain ⟨zs, h1, h2, h3⟩ := h.own
  exact ⟨⟨zs, h1.mono hB, h2, h3⟩, h.sg, h.fm⟩
theorem DO.zero (B : Nat) (w : World) : DO B w false none 0 0 0 := ⟨⟨[], Own.empty _ _ _, Nf.nil _, by decide⟩, rfl, .inl ⟨rfl, rfl⟩⟩
end Go.Proofs.YtfofoookdlaipaaGreatDoor

namespace Go.Proofs.YtfofoookdlaipaaGreatDoor
open Go.RowKit Go.Shelf

end Go.Proofs.YtfofoookdlaipaaGreatDoor

namespace Go.Proofs.YtfofoookdlaipaaGreatDoor
open Go.RowKit Go.Shelf

end Go.Proofs.YtfofoookdlaipaaGreatDoor

namespace Go.Proofs.YtfofoookdlaipaaGreatDoor
open Go.RowKit Go.Shelf

end Go.Proofs.YtfofoookdlaipaaGreatDoor

namespace Go.Proofs.YtfofoookdlaipaaGreatDoor
open Go.RowKit Go.Shelf

end Go.Proofs.YtfofoookdlaipaaGreatDoor

namespace Go.Proofs.YtfofoookdlaipaaGreatDoor
open Go.RowKit Go.Shelf

end Go.Proofs.YtfofoookdlaipaaGreatDoor

namespace Go.Proofs.YtfofoookdlaipaaGreatDoor
open Go.RowKit Go.Shelf

structure B1q (W : World) (g : Nat) (v0 : Value) : Prop where
  c0 : W.cell? ⟨g, 0, none⟩ = some v0
  f0 : W.frozen? ⟨g, 0, none⟩ = false
theorem B1q.lt {w : World} {g : Nat} {a : Value} (h : B1q w g a) : g < w.heap.size := World.block_lt_of_cell? w _ h.c0
theorem B1q.below {W W' : World} {g : Nat} {v0 : Value} (h : B1q W g v0) (hb : Below W.heap.size W W') : B1q W' g v0 := by
  have hl : g < W.heap.size := World.block_lt_of_cell? W _ h.c0
  exact ⟨(hb.cell (p := ⟨g, 0, none⟩) hl).trans h.c0, (hb.frozen (p := ⟨g, 0, none⟩) hl).trans h.f0⟩
theorem B1q.new (w : World) (ty : TypeId) (v0 : Value) : B1q (w.alloc (.cells #[v0] ty)) w.heap.size v0 := ⟨by go_simp, by go_simp⟩
end Go.Proofs.YtfofoookdlaipaaGreatDoor

namespace Go.Proofs.YtfofoookdlaipaaGreatDoor
open Go.RowKit Go.Shelf

theorem mul_dv (y n : Nat) (d : Int) : (y : Int) * dv (n : Int) d = dv ((n * y : Nat) : Int) d := by
  unfold dv
  rw [Int.natCast_mul, ← Int.mul_assoc, Int.mul_comm (y : Int)]
theorem dv_le_iff {x y : Int} (e : Int) : dv x e ≤ dv y e ↔ x ≤ y := by
  have := dv_lt_iff (x := y) (y := x) e
  omega
theorem dv_scale {X Y a b g : Int} (ha : -4194304 ≤ a) (hb : -4194304 ≤ b) (ha2 : -4194304 ≤ a + g) (hb2 : -4194304 ≤ b + g) (h : dv X a ≤ dv Y b) : dv X (a + g) ≤ dv Y (b + g) := by
  rcases Int.le_total a b with h1 | h1
  · obtain ⟨j, hj⟩ : ∃ j : Nat, b = a + j := ⟨(b - a).toNat, by omega⟩
    rw [hj, dv_up j ha, dv_le_iff] at h
    rw [show b + g = a + g + (j : Int) from by omega, dv_up j ha2]
    exact dv_le _ h
  · obtain ⟨j, hj⟩ : ∃ j : Nat, a = b + j := ⟨(a - b).toNat, by omega⟩
    rw [hj, dv_up j hb, dv_le_iff] at h
    rw [show a + g = b + g + (j : Int) from by omega, dv_up j hb2]
    exact dv_le _ h
theorem len_one {w : World} {s : Bool} {p : Option Addr} {m c : Nat} {e z : Int} (h : DN w s p m c e z) (hz : z.natAbs < B64) : m ≤ 4096 := by
  obtain ⟨xs, hx⟩ := h.zn.ex
  have h1 := (hx.nf.len_le B64_one (k := 1)).2 (by rw [Nat.pow_one]; exact hz)
  rw [hx.at_.len] at h1
  omega
theorem len_db {w : World} {s : Bool} {p : Option Addr} {m c : Nat} {e z : Int} {K E : Nat} (h : DN w s p m c e z) (hb : DB z e K E) (hK : K ≤ 262144) : m ≤ 4096 := by
  obtain ⟨xs, hx⟩ := h.zn.ex
  have h1 := (hx.nf.len_le B64_one (k := 4096)).2 (by
    obtain ⟨k, hk⟩ : ∃ k, k = 4096 := ⟨_, rfl⟩
    rw [← hk, B64_pow]
    exact Nat.lt_of_lt_of_le hb.sz (Nat.pow_le_pow_right (by omega) (by omega)))
  rw [hx.at_.len] at h1
  exact h1
theorem third {s t : Bool} {b Z : Nat} {V : Int} (hs : s = decide ((1 : Int) < 0)) (ht : t = decide ((3 : Int) < 0)) (h1 : SgB 2147483648 s t b Z) (h2 : RNz 8388608 (-149) 2139095040 V Z) (h3 : Mk 8388608 (-149) 2139095040 (fun τ => ((3 : Int).natAbs : Int) * τ) (dv ((1 : Int).natAbs : Int) (0 - 0)) V) : b = 1051372203 := by
  have hb : b = Z := by
    have h4 : b = if s = t then Z else 2147483648 + Z := h1
    rw [h4, hs, ht, if_pos (by decide)]
  have e0 : (3 : Int).natAbs = 3 := rfl
  have e1 : (1 : Int).natAbs = 1 := rfl
  rw [e0, e1] at h3
  have e2 : dv ((1 : Nat) : Int) (0 - 0) = dv ((268435456 : Nat) : Int) (-28) := by
    have := dv_up (x := ((1 : Nat) : Int)) (e := -28) 28 (by decide)
    rw [show (-28 : Int) + ((28 : Nat) : Int) = 0 - 0 from rfl] at this
    rw [this]
    congr 1
  rw [e2] at h3
  have r1 := rn_of jn_32 (n := 89478485) (e := -28) (by decide) (by decide)
  have r2 := rn_of jn_32 (n := 89478486) (e := -28) (by decide) (by decide)
  have v1 : rnz (-149) 23 128 2139095040 89478485 (-28) = 1051372203 := by decide +kernel
  have v2 : rnz (-149) 23 128 2139095040 89478486 (-28) = 1051372203 := by decide +kernel
  rw [v1] at r1
  rw [v2] at r2
  have q1 := h3.low (rise_mul (by decide)) h2 r1 (dv_nn _ _) (by
    show ((3 : Nat) : Int) * dv _ (-28) ≤ _
    rw [mul_dv]
    exact dv_le _ (by decide))
  have q2 := h3.high (rise_mul (by decide)) h2 r2 (dv_nn _ _) (by
    show _ ≤ ((3 : Nat) : Int) * dv _ (-28)
    rw [mul_dv]
    exact dv_le _ (by decide))
  omega
theorem dv_abs6 (x e : Int) : dv (x.natAbs : Int) e = ((dv x e).natAbs : Int) := by
  rcases dv3 x e with ⟨h1, h2⟩ | ⟨h1, h2⟩ | ⟨h1, h2⟩
  · rw [show (x.natAbs : Int) = -x from by omega, dv_neg]; omega
  · rw [h1]; rw [h1] at h2; rw [h2]; exact dv_zero e
  · rw [show (x.natAbs : Int) = x from by omega]; omega
theorem rank_lo {l : Int} {I H : Nat} {x y z E k V : Int} {Zq Zl : Nat} (hx : x ≠ 0) (hy : y ≠ 0)
    (h1 : 0 < y → dv (z * y) k ≤ dv x E) (h2 : y < 0 → dv x E ≤ dv (z * y) k) (hM : Mk H l I (fun τ => (y.natAbs : Int) * τ) (dv (x.natAbs : Int) E) V) (hZ : RNz H l I V Zq) (hL : RNz H l I (dv (z.natAbs : Int) k) Zl) :
    (if z < 0 then -(Zl : Int) else (Zl : Int)) ≤ (if decide (x < 0) = decide (y < 0) then (Zq : Int) else -(Zq : Int)) := by
  have hg : Rise (fun τ => (y.natAbs : Int) * τ) := rise_mul (by omega)
  have hzy : dv ((z * y).natAbs : Int) k = (y.natAbs : Int) * dv (z.natAbs : Int) k := by rw [mul_dv, Int.natAbs_mul]
  have dx := dv3 x E
  have dz := dv3 (z * y) k
  have ax := dv_abs6 x E
  have az := dv_abs6 (z * y) k
  have low : dv ((z * y).natAbs : Int) k ≤ dv (x.natAbs : Int) E → Zl ≤ Zq := fun h => hM.low hg hZ hL (dv_nn _ _) (by rw [hzy] at h; exact h)
  have high : dv (x.natAbs : Int) E ≤ dv ((z * y).natAbs : Int) k → Zq ≤ Zl := fun h => hM.high hg hZ hL (dv_nn _ _) (by rw [hzy] at h; exact h)
  have sg : ∀ a b : Int, (0 < a → 0 < b → 0 < a * b) ∧ (0 < a → b < 0 → a * b < 0) ∧ (a < 0 → 0 < b → a * b < 0) ∧ (a < 0 → b < 0 → 0 < a * b) := fun a b => ⟨Int.mul_pos, Int.mul_neg_of_pos_of_neg, Int.mul_neg_of_neg_of_pos, Int.mul_pos_of_neg_of_neg⟩
  have s1 := sg z y
  have z0 : z = 0 → z * y = 0 := fun h => by rw [h, Int.zero_mul]
  generalize z * y = t at *
  generalize dv x E = X at *
  generalize dv t k = T at *
  generalize dv (x.natAbs : Int) E = XA at *
  generalize dv (t.natAbs : Int) k = TA at *
  rcases Int.lt_trichotomy y 0 with hy1 | hy1 | hy1
  · have h2 := h2 hy1
    clear h1
    by_cases hx1 : x < 0
    · rw [show (if decide (x < 0) = decide (y < 0) then (Zq : Int) else -(Zq : Int)) = (Zq : Int) from if_pos (by rw [decide_eq_true hx1, decide_eq_true hy1])]
      by_cases hz1 : z < 0
      · rw [if_pos hz1]; omega
      · rw [if_neg hz1]
        have : t ≤ 0 := by rcases Int.lt_trichotomy z 0 with g | g | g; (· omega); (· have := z0 g; omega); (· have := s1.2.1 g hy1; omega)
        have := low (by omega)
        omega
    · rw [show (if decide (x < 0) = decide (y < 0) then (Zq : Int) else -(Zq : Int)) = -(Zq : Int) from if_neg (by rw [decide_eq_false hx1, decide_eq_true hy1]; decide)]
      by_cases hz1 : z < 0
      · rw [if_pos hz1]
        have := s1.2.2.2 hz1 hy1
        have := high (by omega)
        omega
      · have : t ≤ 0 := by rcases Int.lt_trichotomy z 0 with g | g | g; (· omega); (· have := z0 g; omega); (· have := s1.2.1 g hy1; omega)
        omega
  · omega
  · have h1 := h1 hy1
    clear h2
    by_cases hx1 : x < 0
    · rw [show (if decide (x < 0) = decide (y < 0) then (Zq : Int) else -(Zq : Int)) = -(Zq : Int) from if_neg (by rw [decide_eq_true hx1, decide_eq_false (show ¬ y < 0 by omega)]; decide)]
      by_cases hz1 : z < 0
      · rw [if_pos hz1]
        have := s1.2.2.1 hz1 hy1
        have := high (by omega)
        omega
      · have : 0 ≤ t := by rcases Int.lt_trichotomy z 0 with g | g | g; (· omega); (· have := z0 g; omega); (· have := s1.1 g hy1; omega)
        omega
    · rw [show (if decide (x < 0) = decide (y < 0) then (Zq : Int) else -(Zq : Int)) = (Zq : Int) from if_pos (by rw [decide_eq_false hx1, decide_eq_false (show ¬ y < 0 by omega)])]
      by_cases hz1 : z < 0
      · rw [if_pos hz1]; omega
      · rw [if_neg hz1]
        have : 0 ≤ t := by rcases Int.lt_trichotomy z 0 with g | g | g; (· omega); (· have := z0 g; omega); (· have := s1.1 g hy1; omega)
        have := low (by omega)
        omega
theorem rank_hi {f p m l : Int} {S I H sd : Nat} {Be : Int} (J : Jn f p m l S I H sd Be) {x y z E k V : Int} {Zq Zl : Nat} (hx : x ≠ 0) (hy : y ≠ 0)
    (h1 : 0 < y → dv x E ≤ dv (z * y) k) (h2 : y < 0 → dv (z * y) k ≤ dv x E) (hM : Mk H l I (fun τ => (y.natAbs : Int) * τ) (dv (x.natAbs : Int) E) V) (hZ : RNz H l I V Zq) (hL : RNz H l I (dv (z.natAbs : Int) k) Zl) :
    (if decide (x < 0) = decide (y < 0) then (Zq : Int) else -(Zq : Int)) ≤ (if z < 0 then -(Zl : Int) else (Zl : Int)) := by
  have h3 := rank_lo (x := -x) (y := y) (z := -z) (E := E) (k := k) (by omega) hy (fun h => by rw [Int.neg_mul, dv_neg, dv_neg]; have := h1 h; omega) (fun h => by rw [Int.neg_mul, dv_neg, dv_neg]; have := h2 h; omega) (by rw [Int.natAbs_neg]; exact hM) hZ (by rw [Int.natAbs_neg]; exact hL)
  have hz0 : z = 0 → Zl = 0 := fun h => by
    rw [h, show (((0 : Int).natAbs : Nat) : Int) = 0 from rfl, dv_zero] at hL
    exact hL.uniq (RNz.nought J.jm.pm.hp (by have := J.jm.pm.lo; omega))
  have n1 : decide (-x < 0) = !decide (x < 0) := by
    by_cases a : x < 0
    · rw [decide_eq_true a, decide_eq_false (by omega)]; rfl
    · rw [decide_eq_false a, decide_eq_true (by omega)]; rfl
  have key : ∀ X Y : Bool, (if X = Y then (Zq : Int) else -(Zq : Int)) = -(if (!X) = Y then (Zq : Int) else -(Zq : Int)) := by
    intro X Y
    cases X <;> cases Y <;> simp
  rw [n1] at h3
  rw [key]
  generalize (if (!decide (x < 0)) = decide (y < 0) then (Zq : Int) else -(Zq : Int)) = R at *
  rcases Int.lt_trichotomy z 0 with a | a | a
  · rw [if_neg (by omega)] at h3
    rw [if_pos a]; omega
  · have := hz0 a
    rw [if_neg (by omega)] at h3
    rw [if_neg (by omega)]; omega
  · rw [if_pos (by omega)] at h3
    rw [if_neg (by omega)]; omega
end Go.Proofs.YtfofoookdlaipaaGreatDoor

namespace Go.Proofs.YtfofoookdlaipaaGreatDoor
open Go.RowKit Go.Shelf

set_option maxRecDepth 20000 in
set_option maxHeartbeats 8000000 in
theorem rcls_32_0 (s : Nat) (h0 : s = 0) (w : World) :
    Calls Tryz.prog 126 #[FV 2147483648 24 (-149) 104 2139095040 2143289345, U s] w fun en w' => en = .returned (.int .i64 0) ∧ Below w.heap.size w w' := by
  subst h0
  go_enter Tryz.func126, Tryz.ntmps126
  go_wp2_with fail
  go_ret
  exact ⟨rfl, bwAlloc w _⟩
set_option maxRecDepth 20000 in
set_option maxHeartbeats 8000000 in
theorem rcls_32_1 (s : Nat) (h0 : s ≠ 0) (h1 : s < 8388608) (w : World) :
    Calls Tryz.prog 126 #[FV 2147483648 24 (-149) 104 2139095040 2143289345, U s] w fun en w' => en = .returned (.int .i64 1) ∧ Below w.heap.size w w' := by
  have k0 : ((s : Int) == 0) = false := by simp; omega
  have k1 : decide ((s : Int) < 8388608) = true := by exact decide_eq_true (by omega)
  have m1 : ((1 : Int) <<< (23 : Nat)) = 8388608 := by decide
  clear h0 h1
  go_enter Tryz.func126, Tryz.ntmps126
  go_wp2_with fail
  go_ret
  exact ⟨rfl, bwAlloc w _⟩
set_option maxRecDepth 20000 in
set_option maxHeartbeats 8000000 in
theorem rcls_32_2 (s : Nat) (h1 : ¬ s < 8388608) (h2 : s < 2139095040) (w : World) :
    Calls Tryz.prog 126 #[FV 2147483648 24 (-149) 104 2139095040 2143289345, U s] w fun en w' => en = .returned (.int .i64 2) ∧ Below w.heap.size w w' := by
  have k0 : ((s : Int) == 0) = false := by simp; omega
  have k1 : decide ((s : Int) < 8388608) = false := by exact decide_eq_false (by omega)
  have k2 : decide ((s : Int) < 2139095040) = true := by exact decide_eq_true (by omega)
  have m1 : ((1 : Int) <<< (23 : Nat)) = 8388608 := by decide
  clear h1 h2
  go_enter Tryz.func126, Tryz.ntmps126
  go_wp2_with fail
  go_ret
  exact ⟨rfl, bwAlloc w _⟩
set_option maxRecDepth 20000 in
set_option maxHeartbeats 8000000 in
theorem rcls_32_3 (s : Nat) (h2 : s = 2139095040) (w : World) :
    Calls Tryz.prog 126 #[FV 2147483648 24 (-149) 104 2139095040 2143289345, U s] w fun en w' => en = .returned (.int .i64 3) ∧ Below w.heap.size w w' := by
  have k0 : ((s : Int) == 0) = false := by simp; omega
  have k1 : decide ((s : Int) < 8388608) = false := by exact decide_eq_false (by omega)
  have k2 : decide ((s : Int) < 2139095040) = false := by exact decide_eq_false (by omega)
  have k3 : ((s : Int) == 2139095040) = true := by simp; omega
  have m1 : ((1 : Int) <<< (23 : Nat)) = 8388608 := by decide
  clear h2
  go_enter Tryz.func126, Tryz.ntmps126
  go_wp2_with fail
  go_ret
  exact ⟨rfl, bwAlloc w _⟩
set_option maxRecDepth 20000 in
set_option maxHeartbeats 8000000 in
theorem rcls_32_4 (s : Nat) (h2 : 2139095040 < s) (w : World) :
    Calls Tryz.prog 126 #[FV 2147483648 24 (-149) 104 2139095040 2143289345, U s] w fun en w' => en = .returned (.int .i64 4) ∧ Below w.heap.size w w' := by
  have k0 : ((s : Int) == 0) = false := by simp; omega
  have k1 : decide ((s : Int) < 8388608) = false := by exact decide_eq_false (by omega)
  have k2 : decide ((s : Int) < 2139095040) = false := by exact decide_eq_false (by omega)
  have k3 : ((s : Int) == 2139095040) = false := by simp; omega
  have m1 : ((1 : Int) <<< (23 : Nat)) = 8388608 := by decide
  clear h2
  go_enter Tryz.func126, Tryz.ntmps126
  go_wp2_with fail
  go_ret
  exact ⟨rfl, bwAlloc w _⟩
theorem rcls_32 (s : Nat) (w : World) : Calls Tryz.prog 126 #[FV 2147483648 24 (-149) 104 2139095040 2143289345, U s] w fun en w' => en = .returned (.int .i64 (clsN 8388608 2139095040 s)) ∧ Below w.heap.size w w' := by
  unfold clsN
  by_cases h0 : s = 0
  · rw [if_pos h0]; exact rcls_32_0 s h0 w
  · rw [if_neg h0]
    by_cases h1 : s < 8388608
    · rw [if_pos h1]; exact rcls_32_1 s h0 h1 w
    · rw [if_neg h1]
      by_cases h2 : s < 2139095040
      · rw [if_pos h2]; exact rcls_32_2 s h1 h2 w
      · rw [if_neg h2]
        by_cases h3 : s = 2139095040
        · rw [if_pos h3]; exact rcls_32_3 s h3 w
        · rw [if_neg h3]; exact rcls_32_4 s (by omega) w
set_option maxRecDepth 20000 in
set_option maxHeartbeats 8000000 in
theorem docclass_32 (b : Nat) (hb : b < 2 * 2147483648) (w : World) :
    Calls Tryz.prog 75 #[.int .i64 32, U b] w fun en w' => en = .returned (.tuple #[.int .i64 (clsN 8388608 2139095040 (b % 2147483648)), .int .i64 0]) ∧ Below w.heap.size w w' := by
  have hbw : Below w.heap.size w w := Below.refl _ _
  have HB : Hid (b < 2 * 2147483648) := hb
  obtain ⟨z, hz⟩ : ∃ z, z = b % 2147483648 := ⟨_, rfl⟩
  obtain ⟨c, hc⟩ : ∃ c, c = clsN 8388608 2139095040 z := ⟨_, rfl⟩
  rw [← hz, ← hc]
  have HZ : Hid (b % 2147483648 = z ∧ clsN 8388608 2139095040 z = c) := ⟨hz.symm, hc.symm⟩
  clear hb hz hc
  go_enter Tryz.func75, Tryz.ntmps75
  go_wp2_with fail
  refine (check_ok rf_32 b HB.out _).mono ?_
  rintro e v1 ⟨rfl, hb1⟩
  replace hbw := Below.on hbw hb1
  clear hb1
  go_wp2_with fail
  refine (rof_32 _).mono ?_
  rintro e v2 ⟨rfl, hb2⟩
  replace hbw := Below.on hbw hb2
  clear hb2
  go_wp2_with fail
  have Xk0 : Hid (B6q (v2.alloc (.cells #[U 2147483648, .int .i64 24, .int .i64 (-149), .int .i64 104, U 2139095040, U 2143289345] 161)) v2.heap.size (U 2147483648) (.int .i64 24) (.int .i64 (-149)) (.int .i64 104) (U 2139095040) (U 2143289345)) := B6q.new v2 _ _ _ _ _ _ _
  have hbn : Below v2.heap.size v2 (v2.alloc (.cells #[U 2147483648, .int .i64 24, .int .i64 (-149), .int .i64 104, U 2139095040, U 2143289345] 161)) := below1 v2 _
  generalize v2.alloc (.cells #[U 2147483648, .int .i64 24, .int .i64 (-149), .int .i64 104, U 2139095040, U 2143289345] 161) = Wk at *
  have HGk : Hid (w.heap.size ≤ v2.heap.size) := hbw.size
  replace hbw := Below.on hbw hbn
  clear hbn
  generalize v2.heap.size = gk at *
  have Xk := Xk0
  clear Xk0
  refine (cut_any (by decide) (by decide) b _).mono ?_
  rintro e v3 ⟨rfl, hb3⟩
  rw [HZ.out.1]
  replace Xk : Hid _ := Xk.out.below hb3
  replace hbw := Below.on hbw hb3
  clear hb3
  obtain ⟨ck0, ck1, ck2, ck3, ck4, ck5, fk0, fk1, fk2, fk3, fk4, fk5⟩ := Xk.out
  have hnek : gk < v3.heap.size := World.block_lt_of_cell? v3 _ ck0
  go_wp2_with fail
  clear ck0 ck1 ck2 ck3 ck4 ck5 fk0 fk1 fk2 fk3 fk4 fk5 hnek
  refine (rcls_32 z _).mono ?_
  rintro e v4 ⟨rfl, hb4⟩
  rw [HZ.out.2]
  replace Xk : Hid _ := Xk.out.below hb4
  replace hbw := Below.on hbw hb4
  clear hb4
  obtain ⟨ck0, ck1, ck2, ck3, ck4, ck5, fk0, fk1, fk2, fk3, fk4, fk5⟩ := Xk.out
  have hnek : gk < v4.heap.size := World.block_lt_of_cell? v4 _ ck0
  go_wp2_with fail
  clear ck0 ck1 ck2 ck3 ck4 ck5 fk0 fk1 fk2 fk3 fk4 fk5 hnek
  go_ret2
  exact ⟨rfl, hbw⟩
set_option maxRecDepth 20000 in
set_option maxHeartbeats 8000000 in
theorem rcls_64_0 (s : Nat) (h0 : s = 0) (w : World) :
    Calls Tryz.prog 126 #[FV 9223372036854775808 53 (-1074) 971 9218868437227405312 9221120237041090561, U s] w fun en w' => en = .returned (.int .i64 0) ∧ Below w.heap.size w w' := by
  subst h0
  go_enter Tryz.func126, Tryz.ntmps126
  go_wp2_with fail
  go_ret
  exact ⟨rfl, bwAlloc w _⟩
set_option maxRecDepth 20000 in
set_option maxHeartbeats 8000000 in
theorem rcls_64_1 (s : Nat) (h0 : s ≠ 0) (h1 : s < 4503599627370496) (w : World) :
    Calls Tryz.prog 126 #[FV 9223372036854775808 53 (-1074) 971 9218868437227405312 9221120237041090561, U s] w fun en w' => en = .returned (.int .i64 1) ∧ Below w.heap.size w w' := by
  have k0 : ((s : Int) == 0) = false := by simp; omega
  have k1 : decide ((s : Int) < 4503599627370496) = true := by exact decide_eq_true (by omega)
  have m1 : ((1 : Int) <<< (52 : Nat)) = 4503599627370496 := by decide
  clear h0 h1
  go_enter Tryz.func126, Tryz.ntmps126
  go_wp2_with fail
  go_ret
  exact ⟨rfl, bwAlloc w _⟩
set_option maxRecDepth 20000 in
set_option maxHeartbeats 8000000 in
theorem rcls_64_2 (s : Nat) (h1 : ¬ s < 4503599627370496) (h2 : s < 9218868437227405312) (w : World) :
    Calls Tryz.prog 126 #[FV 9223372036854775808 53 (-1074) 971 9218868437227405312 9221120237041090561, U s] w fun en w' => en = .returned (.int .i64 2) ∧ Below w.heap.size w w' := by
  have k0 : ((s : Int) == 0) = false := by simp; omega
  have k1 : decide ((s : Int) < 4503599627370496) = false := by exact decide_eq_false (by omega)
  have k2 : decide ((s : Int) < 9218868437227405312) = true := by exact decide_eq_true (by omega)
  have m1 : ((1 : Int) <<< (52 : Nat)) = 4503599627370496 := by decide
  clear h1 h2
  go_enter Tryz.func126, Tryz.ntmps126
  go_wp2_with fail
  go_ret
  exact ⟨rfl, bwAlloc w _⟩
set_option maxRecDepth 20000 in
set_option maxHeartbeats 8000000 in
theorem rcls_64_3 (s : Nat) (h2 : s = 9218868437227405312) (w : World) :
    Calls Tryz.prog 126 #[FV 9223372036854775808 53 (-1074) 971 9218868437227405312 9221120237041090561, U s] w fun en w' => en = .returned (.int .i64 3) ∧ Below w.heap.size w w' := by
  have k0 : ((s : Int) == 0) = false := by simp; omega
  have k1 : decide ((s : Int) < 4503599627370496) = false := by exact decide_eq_false (by omega)
  have k2 : decide ((s : Int) < 9218868437227405312) = false := by exact decide_eq_false (by omega)
  have k3 : ((s : Int) == 9218868437227405312) = true := by simp; omega
  have m1 : ((1 : Int) <<< (52 : Nat)) = 4503599627370496 := by decide
  clear h2
  go_enter Tryz.func126, Tryz.ntmps126
  go_wp2_with fail
  go_ret
  exact ⟨rfl, bwAlloc w _⟩
set_option maxRecDepth 20000 in
set_option maxHeartbeats 8000000 in
theorem rcls_64_4 (s : Nat) (h2 : 9218868437227405312 < s) (w : World) :
    Calls Tryz.prog 126 #[FV 9223372036854775808 53 (-1074) 971 9218868437227405312 9221120237041090561, U s] w fun en w' => en = .returned (.int .i64 4) ∧ Below w.heap.size w w' := by
  have k0 : ((s : Int) == 0) = false := by simp; omega
  have k1 : decide ((s : Int) < 4503599627370496) = false := by exact decide_eq_false (by omega)
  have k2 : decide ((s : Int) < 9218868437227405312) = false := by exact decide_eq_false (by omega)
  have k3 : ((s : Int) == 9218868437227405312) = false := by simp; omega
  have m1 : ((1 : Int) <<< (52 : Nat)) = 4503599627370496 := by decide
  clear h2
  go_enter Tryz.func126, Tryz.ntmps126
  go_wp2_with fail
  go_ret
  exact ⟨rfl, bwAlloc w _⟩
theorem rcls_64 (s : Nat) (w : World) : Calls Tryz.prog 126 #[FV 9223372036854775808 53 (-1074) 971 9218868437227405312 9221120237041090561, U s] w fun en w' => en = .returned (.int .i64 (clsN 4503599627370496 9218868437227405312 s)) ∧ Below w.heap.size w w' := by
  unfold clsN
  by_cases h0 : s = 0
  · rw [if_pos h0]; exact rcls_64_0 s h0 w
  · rw [if_neg h0]
    by_cases h1 : s < 4503599627370496
    · rw [if_pos h1]; exact rcls_64_1 s h0 h1 w
    · rw [if_neg h1]
      by_cases h2 : s < 9218868437227405312
      · rw [if_pos h2]; exact rcls_64_2 s h1 h2 w
      · rw [if_neg h2]
        by_cases h3 : s = 9218868437227405312
        · rw [if_pos h3]; exact rcls_64_3 s h3 w
        · rw [if_neg h3]; exact rcls_64_4 s (by omega) w
set_option maxRecDepth 20000 in
set_option maxHeartbeats 8000000 in
theorem docclass_64 (b : Nat) (hb : b < 2 * 9223372036854775808) (w : World) :
    Calls Tryz.prog 75 #[.int .i64 64, U b] w fun en w' => en = .returned (.tuple #[.int .i64 (clsN 4503599627370496 9218868437227405312 (b % 9223372036854775808)), .int .i64 0]) ∧ Below w.heap.size w w' := by
  have hbw : Below w.heap.size w w := Below.refl _ _
  have HB : Hid (b < 2 * 9223372036854775808) := hb
  obtain ⟨z, hz⟩ : ∃ z, z = b % 9223372036854775808 := ⟨_, rfl⟩
  obtain ⟨c, hc⟩ : ∃ c, c = clsN 4503599627370496 9218868437227405312 z := ⟨_, rfl⟩
  rw [← hz, ← hc]
  have HZ : Hid (b % 9223372036854775808 = z ∧ clsN 4503599627370496 9218868437227405312 z = c) := ⟨hz.symm, hc.symm⟩
  clear hb hz hc
  go_enter Tryz.func75, Tryz.ntmps75
  go_wp2_with fail
  refine (check_ok rf_64 b HB.out _).mono ?_
  rintro e v1 ⟨rfl, hb1⟩
  replace hbw := Below.on hbw hb1
  clear hb1
  go_wp2_with fail
  refine (rof_64 _).mono ?_
  rintro e v2 ⟨rfl, hb2⟩
  replace hbw := Below.on hbw hb2
  clear hb2
  go_wp2_with fail
  have Xk0 : Hid (B6q (v2.alloc (.cells #[U 9223372036854775808, .int .i64 53, .int .i64 (-1074), .int .i64 971, U 9218868437227405312, U 9221120237041090561] 161)) v2.heap.size (U 9223372036854775808) (.int .i64 53) (.int .i64 (-1074)) (.int .i64 971) (U 9218868437227405312) (U 9221120237041090561)) := B6q.new v2 _ _ _ _ _ _ _
  have hbn : Below v2.heap.size v2 (v2.alloc (.cells #[U 9223372036854775808, .int .i64 53, .int .i64 (-1074), .int .i64 971, U 9218868437227405312, U 9221120237041090561] 161)) := below1 v2 _
  generalize v2.alloc (.cells #[U 9223372036854775808, .int .i64 53, .int .i64 (-1074), .int .i64 971, U 9218868437227405312, U 9221120237041090561] 161) = Wk at *
  have HGk : Hid (w.heap.size ≤ v2.heap.size) := hbw.size
  replace hbw := Below.on hbw hbn
  clear hbn
  generalize v2.heap.size = gk at *
  have Xk := Xk0
  clear Xk0
  refine (cut_any (by decide) (by decide) b _).mono ?_
  rintro e v3 ⟨rfl, hb3⟩
  rw [HZ.out.1]
  replace Xk : Hid _ := Xk.out.below hb3
  replace hbw := Below.on hbw hb3
  clear hb3
  obtain ⟨ck0, ck1, ck2, ck3, ck4, ck5, fk0, fk1, fk2, fk3, fk4, fk5⟩ := Xk.out
  have hnek : gk < v3.heap.size := World.block_lt_of_cell? v3 _ ck0
  go_wp2_with fail
  clear ck0 ck1 ck2 ck3 ck4 ck5 fk0 fk1 fk2 fk3 fk4 fk5 hnek
  refine (rcls_64 z _).mono ?_
  rintro e v4 ⟨rfl, hb4⟩
  rw [HZ.out.2]
  replace Xk : Hid _ := Xk.out.below hb4
  replace hbw := Below.on hbw hb4
  clear hb4
  obtain ⟨ck0, ck1, ck2, ck3, ck4, ck5, fk0, fk1, fk2, fk3, fk4, fk5⟩ := Xk.out
  have hnek : gk < v4.heap.size := World.block_lt_of_cell? v4 _ ck0
  go_wp2_with fail
  clear ck0 ck1 ck2 ck3 ck4 ck5 fk0 fk1 fk2 fk3 fk4 fk5 hnek
  go_ret2
  exact ⟨rfl, hbw⟩
end Go.Proofs.YtfofoookdlaipaaGreatDoor

namespace Go.Proofs.YtfofoookdlaipaaGreatDoor
open Go.RowKit Go.Shelf

set_option maxRecDepth 20000 in
set_option maxHeartbeats 8000000 in
theorem sign8_32 (w : World) :
    Calls Tryz.prog 32 #[.int .i64 32] w fun en w' => en = .returned (.int .u64 2147483648) ∧ Below w.heap.size w w' := by
  go_enter Tryz.func32, Tryz.ntmps32
  go_wp2_with fail
  go_ret
  exact ⟨rfl, Below.refl _ _⟩
set_option maxRecDepth 20000 in
set_option maxHeartbeats 8000000 in
theorem fmt8_32 (w : World) :
    Calls Tryz.prog 21 #[.bool true] w fun en w' => en = .returned (.int .i64 32) ∧ Below w.heap.size w w' := by
  go_enter Tryz.func21, Tryz.ntmps21
  go_wp2_with fail
  go_ret
  exact ⟨rfl, Below.refl _ _⟩
set_option maxRecDepth 20000 in
set_option maxHeartbeats 8000000 in
theorem fin8_32 (b : Nat) (hb : b < 2 * 2147483648) (w : World) :
    Calls Tryz.prog 34 #[.int .i64 32, U b] w fun en w' => en = .returned (.tuple #[.bool (decide (b % 2147483648 < 2139095040)), .bool (decide (b % 2147483648 = 0))]) ∧ Below w.heap.size w w' := by
  have hbw : Below w.heap.size w w := Below.refl _ _
  have HB : Hid (b < 2 * 2147483648) := hb
  obtain ⟨z, hz⟩ : ∃ z, z = b % 2147483648 := ⟨_, rfl⟩
  obtain ⟨c, hc⟩ : ∃ c, c = clsN 8388608 2139095040 z := ⟨_, rfl⟩
  have h2 : decide (c ≤ 2) = decide (z < 2139095040) := by
    refine decide_eq_decide.2 ?_
    rw [hc]
    unfold clsN
    by_cases a1 : z = 0
    · rw [if_pos a1]; omega
    · rw [if_neg a1]
      by_cases a2 : z < 8388608
      · rw [if_pos a2]; omega
      · rw [if_neg a2]
        by_cases a3 : z < 2139095040
        · rw [if_pos a3]; omega
        · rw [if_neg a3]; split <;> omega
  have h3 : (c == 0) = decide (z = 0) := by
    have : c = 0 ↔ z = 0 := by
      rw [hc]
      unfold clsN
      by_cases a1 : z = 0
      · rw [if_pos a1]; omega
      · rw [if_neg a1]; split; (· omega); split; (· omega); split <;> omega
    by_cases a1 : z = 0
    · rw [decide_eq_true a1, this.2 a1]; rfl
    · rw [decide_eq_false a1]
      have : c ≠ 0 := fun h => a1 (this.1 h)
      simp [this]
  rw [← hz, ← h2, ← h3]
  have HZ : Hid (b % 2147483648 = z ∧ clsN 8388608 2139095040 z = c) := ⟨hz.symm, hc.symm⟩
  clear hb hz hc h2 h3
  go_enter Tryz.func34, Tryz.ntmps34
  go_wp2_with fail
  refine (docclass_32 b HB.out _).mono ?_
  rintro e v1 ⟨rfl, hb1⟩
  rw [HZ.out.1, HZ.out.2]
  replace hbw := Below.on hbw hb1
  clear hb1
  go_wp2_with fail
  go_ret2
  exact ⟨rfl, hbw⟩
set_option maxRecDepth 20000 in
set_option maxHeartbeats 8000000 in
theorem sign8_64 (w : World) :
    Calls Tryz.prog 32 #[.int .i64 64] w fun en w' => en = .returned (.int .u64 9223372036854775808) ∧ Below w.heap.size w w' := by
  go_enter Tryz.func32, Tryz.ntmps32
  go_wp2_with fail
  go_ret
  exact ⟨rfl, Below.refl _ _⟩
set_option maxRecDepth 20000 in
set_option maxHeartbeats 8000000 in
theorem fmt8_64 (w : World) :
    Calls Tryz.prog 21 #[.bool false] w fun en w' => en = .returned (.int .i64 64) ∧ Below w.heap.size w w' := by
  go_enter Tryz.func21, Tryz.ntmps21
  go_wp2_with fail
  go_ret
  exact ⟨rfl, Below.refl _ _⟩
set_option maxRecDepth 20000 in
set_option maxHeartbeats 8000000 in
theorem fin8_64 (b : Nat) (hb : b < 2 * 9223372036854775808) (w : World) :
    Calls Tryz.prog 34 #[.int .i64 64, U b] w fun en w' => en = .returned (.tuple #[.bool (decide (b % 9223372036854775808 < 9218868437227405312)), .bool (decide (b % 9223372036854775808 = 0))]) ∧ Below w.heap.size w w' := by
  have hbw : Below w.heap.size w w := Below.refl _ _
  have HB : Hid (b < 2 * 9223372036854775808) := hb
  obtain ⟨z, hz⟩ : ∃ z, z = b % 9223372036854775808 := ⟨_, rfl⟩
  obtain ⟨c, hc⟩ : ∃ c, c = clsN 4503599627370496 9218868437227405312 z := ⟨_, rfl⟩
  have h2 : decide (c ≤ 2) = decide (z < 9218868437227405312) := by
    refine decide_eq_decide.2 ?_
    rw [hc]
    unfold clsN
    by_cases a1 : z = 0
    · rw [if_pos a1]; omega
    · rw [if_neg a1]
      by_cases a2 : z < 4503599627370496
      · rw [if_pos a2]; omega
      · rw [if_neg a2]
        by_cases a3 : z < 9218868437227405312
        · rw [if_pos a3]; omega
        · rw [if_neg a3]; split <;> omega
  have h3 : (c == 0) = decide (z = 0) := by
    have : c = 0 ↔ z = 0 := by
      rw [hc]
      unfold clsN
      by_cases a1 : z = 0
      · rw [if_pos a1]; omega
      · rw [if_neg a1]; split; (· omega); split; (· omega); split <;> omega
    by_cases a1 : z = 0
    · rw [decide_eq_true a1, this.2 a1]; rfl
    · rw [decide_eq_false a1]
      have : c ≠ 0 := fun h => a1 (this.1 h)
      simp [this]
  rw [← hz, ← h2, ← h3]
  have HZ : Hid (b % 9223372036854775808 = z ∧ clsN 4503599627370496 9218868437227405312 z = c) := ⟨hz.symm, hc.symm⟩
  clear hb hz hc h2 h3
  go_enter Tryz.func34, Tryz.ntmps34
  go_wp2_with fail
  refine (docclass_64 b HB.out _).mono ?_
  rintro e v1 ⟨rfl, hb1⟩
  rw [HZ.out.1, HZ.out.2]
  replace hbw := Below.on hbw hb1
  clear hb1
  go_wp2_with fail
  go_ret2
  exact ⟨rfl, hbw⟩
set_option maxRecDepth 20000 in
set_option maxHeartbeats 8000000 in
theorem rank8 {f p m l : Int} {S I : Nat} (F : Fm f p m l S I) (b : Nat) (hb : b < 2 * S) (hr : b % S ≤ I) (w : World) :
    Calls Tryz.prog 30 #[.int .i64 f, U b] w fun en w' => en = .returned (.int .i64 (rkS S b)) ∧ Below w.heap.size w w' := by
  have hbw : Below w.heap.size w w := Below.refl _ _
  have HF : Hid (Fm f p m l S I ∧ b < 2 * S ∧ b % S ≤ I) := ⟨F, hb, hr⟩
  obtain ⟨r, hr2⟩ : ∃ r, r = rkS S b := ⟨_, rfl⟩
  have HR : Hid ((if S ≤ b then -((b % S : Nat) : Int) else ((b % S : Nat) : Int)) = r) := hr2.symm
  rw [← hr2]
  clear F hb hr hr2
  go_enter Tryz.func30, Tryz.ntmps30
  go_wp2_with fail
  refine (rank_ok HF.out.1 b HF.out.2.1 HF.out.2.2 _).mono ?_
  rintro e v1 ⟨rfl, hb1⟩
  rw [HR.out]
  replace hbw := Below.on hbw hb1
  clear hb1
  go_wp2_with fail
  go_ret
  exact ⟨rfl, hbw⟩
end Go.Proofs.YtfofoookdlaipaaGreatDoor

namespace Go.Proofs.YtfofoookdlaipaaGreatDoor
open Go.RowKit Go.Shelf

set_option maxRecDepth 20000 in
set_option maxHeartbeats 8000000 in
theorem num8 {w : World} (z e : Int) (h0 : -9223372036854775807 ≤ z ∧ z ≤ 9223372036854775807) (hz : z % 2 = 1) (he : -2000 ≤ e ∧ e ≤ 2000) :
    Calls Tryz.prog 23 #[.int .i64 z, .int .i64 e] w fun en w' => ∃ s' g m' c', en = .returned (DV s' (some ⟨g, 0, none⟩) m' c' e) ∧ w.heap.size ≤ g ∧ DN w' s' (some ⟨g, 0, none⟩) m' c' e z ∧ Below w.heap.size w w' := by
  have HZ : Hid (-9223372036854775807 ≤ z ∧ z ≤ 9223372036854775807 ∧ z % 2 = 1 ∧ -2000 ≤ e ∧ e ≤ 2000) := ⟨h0.1, h0.2, hz, he.1, he.2⟩
  clear h0 hz he
  go_enter Tryz.func23, Tryz.ntmps23
  go_wp2_with fail
  obtain ⟨W0, hW0⟩ : ∃ W0, W0 = (w.alloc (.cells #[.bool false, .slice none 0 0, .int .i64 0] 34)) := ⟨_, rfl⟩
  have Xr : Hid (B3q W0 (w.heap.size) (.bool false) (.slice none 0 0) (.int .i64 0)) := by rw [hW0]; exact ⟨by go_simp, by go_simp, by go_simp, by go_simp, by go_simp, by go_simp⟩
  have hb0 : Below w.heap.size w W0 := by rw [hW0]; exact below1 w _
  rw [← hW0]
  clear hW0
  have hbw : Below w.heap.size w w := Below.refl _ _
  obtain ⟨gr, hgr⟩ : ∃ g, g = w.heap.size := ⟨_, rfl⟩
  have HGr : Hid (w.heap.size ≤ gr) := by rw [hgr]; show _ ≤ _; omega
  rw [← hgr] at Xr
  try rw [← hgr]
  clear hgr
  replace hbw := Below.on hbw hb0
  clear hb0
  refine (docof5 z (by have := HZ.out; omega) (by have := HZ.out; omega) HZ.out.2.2.1).mono ?_
  rintro e2 v1 ⟨s1, g1, m1, c1, rfl, hg1, hd1, hb1⟩
  replace Xr : Hid _ := Xr.out.below hb1
  replace hbw := Below.on hbw hb1
  clear hb1
  have D1 : Hid (DN v1 s1 (some ⟨g1, 0, none⟩) m1 c1 0 z) := hd1
  have hm1 : m1 ≤ 4000 := by
    obtain ⟨xs, hX⟩ := hd1.zn.ex
    have := (hX.nf.len_le B64_one (k := 1)).2 (by rw [Nat.pow_one, B64_eq]; have := HZ.out; omega)
    rw [hX.at_.len] at this
    omega
  have HM1 : Hid (m1 ≤ 4000) := hm1
  clear hd1 hg1 hm1
  go_wp2_with fail
  refine (docscale5 D1.out HZ.out.2.2.1 HM1.out (by have := HZ.out; omega) (by omega)).mono ?_
  rw [Int.zero_add]
  rintro e2 v2 ⟨s2, g2, m2, c2, rfl, hg2, hd2, hb2⟩
  have HR2 : Hid (gr < g2 ∧ w.heap.size ≤ g2) := ⟨Nat.lt_of_lt_of_le Xr.out.lt hg2, Nat.le_trans hbw.size hg2⟩
  replace Xr : Hid _ := Xr.out.below hb2
  replace D1 : Hid _ := D1.out.below hb2
  replace hbw := Below.on hbw hb2
  clear hb2
  have D2 : Hid (DN v2 s2 (some ⟨g2, 0, none⟩) m2 c2 e z) := hd2
  clear hd2 hg2
  obtain ⟨cr0, cr1, cr2, fr0, fr1, fr2⟩ := Xr.out
  have hner : gr < v2.heap.size := World.block_lt_of_cell? v2 _ cr0
  go_wp2_with fail
  refine bodyPost_ret (v := DV s2 (some ⟨g2, 0, none⟩) m2 c2 e) (by rw [results_cell1 rfl]; go_simp) rfl ⟨s2, g2, m2, c2, rfl, HR2.out.2, ?_, ?_⟩
  · have := HR2.out.1
    exact (((D2.out.set _ _ _ (by omega)).set _ _ _ (by omega)).set _ _ _ (by omega)).below (below1 _ _)
  · exact Below.on (bSet (bSet (bSet hbw _ _ _ HGr.out) _ _ _ HGr.out) _ _ _ HGr.out) (below1 _ _)
end Go.Proofs.YtfofoookdlaipaaGreatDoor

namespace Go.Proofs.YtfofoookdlaipaaGreatDoor
open Go.RowKit Go.Shelf

theorem aw8_a : rnp (-1074) 52 1024 9223372036854775808 9218868437227405312 9007199254740995 0 = 4845873199050653698 := by decide +kernel
theorem aw8_b : rnp (-149) 23 128 2147483648 2139095040 (-1) 0 = 3212836864 := by decide +kernel
set_option maxRecDepth 20000 in
set_option maxHeartbeats 8000000 in
theorem awake8 (w : World) (hT : Tab w) :
    Calls Tryz.prog 24 #[] w fun en w' => en = .returned (.bool true) ∧ Below w.heap.size w w' := by
  have hbw : Below w.heap.size w w := Below.refl _ _
  have TB : Hid (Tab w) := hT
  clear hT
  go_enter Tryz.func24, Tryz.ntmps24
  go_wp2_with fail
  refine (num8 (9007199254740995) (0) (by decide) (by decide) (by decide)).mono ?_
  rintro e2 v1 ⟨s1, g1, m1, c1, rfl, _, hd1, hb1⟩
  replace hbw := Below.on hbw hb1
  clear hb1
  have D1 : Hid (DN v1 s1 (some ⟨g1, 0, none⟩) m1 c1 (0) (9007199254740995)) := hd1
  clear hd1
  go_wp2_with fail
  refine (rnearest jn_64 D1.out (TB.out.below hbw)).mono ?_
  rintro e v2 ⟨rfl, hb2⟩
  rw [aw8_a]
  replace D1 : Hid _ := D1.out.below hb2
  replace hbw := Below.on hbw hb2
  clear hb2
  clear D1
  go_wp2_with fail
  refine (num8 (-1) (0) (by decide) (by decide) (by decide)).mono ?_
  rintro e2 v3 ⟨s3, g3, m3, c3, rfl, _, hd3, hb3⟩
  replace hbw := Below.on hbw hb3
  clear hb3
  have D3 : Hid (DN v3 s3 (some ⟨g3, 0, none⟩) m3 c3 (0) (-1)) := hd3
  clear hd3
  go_wp2_with fail
  refine (rnearest jn_32 D3.out (TB.out.below hbw)).mono ?_
  rintro e v4 ⟨rfl, hb4⟩
  rw [aw8_b]
  replace D3 : Hid _ := D3.out.below hb4
  replace hbw := Below.on hbw hb4
  clear hb4
  clear D3
  go_wp2_with fail
  go_ret
  exact ⟨rfl, hbw⟩
end Go.Proofs.YtfofoookdlaipaaGreatDoor

namespace Go.Proofs.YtfofoookdlaipaaGreatDoor
open Go.RowKit Go.Shelf

structure Lq (single : Bool) (f : Int) (S I : Nat) : Prop where
  fmt : ∀ w, Calls Tryz.prog 21 #[.bool single] w fun en w' => en = .returned (.int .i64 f) ∧ Below w.heap.size w w'
  fin : ∀ (b : Nat) w, b < 2 * S → Calls Tryz.prog 34 #[.int .i64 f, U b] w fun en w' => en = .returned (.tuple #[.bool (decide (b % S < I)), .bool (decide (b % S = 0))]) ∧ Below w.heap.size w w'
  sg : ∀ w, Calls Tryz.prog 32 #[.int .i64 f] w fun en w' => en = .returned (U S) ∧ Below w.heap.size w w'
  xr : ∀ b, b < 2 * S → bits BinOp.xor IntKind.u64 (b : Int) (S : Int) = ((xsS S b : Nat) : Int)
theorem lq_32 : Lq true 32 2147483648 2139095040 :=
  ⟨fmt8_32, fun b w hb => fin8_32 b hb w, sign8_32, fun b hb => sign_xor b _ 31 (by decide) (by decide) hb⟩
theorem lq_64 : Lq false 64 9223372036854775808 9218868437227405312 :=
  ⟨fmt8_64, fun b w hb => fin8_64 b hb w, sign8_64, fun b hb => sign_xor b _ 63 (by decide) (by decide) hb⟩
theorem sgb_facts {f p m l : Int} {S I H sd : Nat} {Be : Int} (J : Jn f p m l S I H sd Be) {s t : Bool} {b Z : Nat} (h : SgB S s t b Z) (hZ : Z ≤ I) : b < 2 * S ∧ b % S = Z ∧ rkS S b = (if s = t then (Z : Int) else -(Z : Int)) := by
  have hlt := J.jm.pm.fm.lt
  have h1 : b = if s = t then Z else S + Z := h
  unfold rkS
  by_cases h2 : s = t
  · rw [if_pos h2] at h1
    rw [if_pos h2, h1, Nat.mod_eq_of_lt (by omega), if_neg (by omega)]
    exact ⟨by omega, rfl, rfl⟩
  · rw [if_neg h2] at h1
    rw [if_neg h2, h1, Nat.add_mod_left, Nat.mod_eq_of_lt (by omega), if_pos (by omega)]
    exact ⟨by omega, rfl, rfl⟩
theorem rk_rnp {f p m l : Int} {S I H sd : Nat} {Be : Int} (J : Jn f p m l S I H sd Be) {x e : Int} (he : -4194304 ≤ e) : ∃ Z, RNz H l I (dv (x.natAbs : Int) e) Z ∧ rnp l sd Be S I x e < 2 * S ∧ rnp l sd Be S I x e % S ≤ I ∧ rkS S (rnp l sd Be S I x e) = (if x < 0 then -(Z : Int) else (Z : Int)) := by
  obtain ⟨Z, h1, h2, h3, h4, h5, h6, _⟩ := rnp_is J x e he
  refine ⟨Z, h2, h4, by rw [h5]; exact h1, ?_⟩
  unfold rkS
  rw [h5]
  by_cases hx : x < 0
  · rw [decide_eq_true hx] at h6
    rw [if_pos hx, if_pos (of_decide_eq_true h6)]
  · rw [decide_eq_false hx] at h6
    rw [if_neg hx, if_neg (of_decide_eq_false h6)]
theorem back_ok {f p m l : Int} {S I H sd : Nat} {Be : Int} (J : Jn f p m l S I H sd Be) {x y e g V : Int} {sp t : Bool} {b Z : Nat} (he : -4194304 ≤ e) (hx : x ≠ 0) (hy : y ≠ 0) (hsp : sp = decide (x * y < 0)) (ht : t = decide (y < 0)) (h1 : SgB S sp t b Z) (h2 : RNz H l I V Z) (h3 : Mk H l I (fun τ => (y.natAbs : Int) * τ) (dv ((x * y).natAbs : Int) (e + g - g)) V) : b = rnp l sd Be S I x e := by
  obtain ⟨Zw, _, w2, w3, _⟩ := rnp_is J x e he
  have hZ : Z = Zw := h3.same (rise_mul (by omega)) h2 w2 (dv_nn _ _) (by
    show _ = (y.natAbs : Int) * dv _ e
    rw [mul_dv, Int.natAbs_mul, show e + g - g = e from by omega])
  have h4 : b = if sp = t then Z else S + Z := h1
  rw [h4, w3, hsp, ht, hZ]
  rcases Int.lt_trichotomy x 0 with a | a | a <;> rcases Int.lt_trichotomy y 0 with c | c | c
  · have := Int.mul_pos_of_neg_of_neg a c
    rw [decide_eq_false (by omega), decide_eq_true c, if_neg (by decide), if_pos a]
  · omega
  · have := Int.mul_neg_of_neg_of_pos a c
    rw [decide_eq_true (by omega), decide_eq_false (by omega), if_neg (by decide), if_pos a]
  · omega
  · omega
  · omega
  · have := Int.mul_neg_of_pos_of_neg a c
    rw [decide_eq_true (by omega), decide_eq_true c, if_pos rfl, if_neg (by omega)]
  · omega
  · have := Int.mul_pos a c
    rw [decide_eq_false (by omega), decide_eq_false (by omega), if_pos rfl, if_neg (by omega)]
theorem neg_ok {f p m l : Int} {S I H sd : Nat} {Be : Int} (J : Jn f p m l S I H sd Be) {x V U : Int} {g : Int → Int} {A : Int} {s s' t : Bool} {q o Z Y : Nat} (hx : x ≠ 0) (hs : s = decide (x < 0)) (hs' : s' = decide (-x < 0)) (h1 : SgB S s t q Z) (h2 : RNz H l I V Z) (h3 : Mk H l I g A V) (k1 : SgB S s' t o Y) (k2 : RNz H l I U Y) (k3 : Mk H l I g A U) : o = xsS S q := by
  have hZ : Z = Y := Nat.le_antisymm (h3.uniq k3 h2 k2) (k3.uniq h3 k2 h2)
  have hlt := J.jm.pm.fm.lt
  have hle := h2.le
  have h4 : q = if s = t then Z else S + Z := h1
  have k4 : o = if s' = t then Y else S + Y := k1
  have hss : s' = !s := by
    rw [hs, hs']
    by_cases a : x < 0
    · rw [decide_eq_true a, decide_eq_false (by omega)]; rfl
    · rw [decide_eq_false a, decide_eq_true (by omega)]; rfl
  unfold xsS
  by_cases a : s = t
  · rw [if_pos a] at h4
    rw [if_neg (by rw [hss, a]; cases t <;> decide)] at k4
    rw [if_neg (by omega)]; omega
  · rw [if_neg a] at h4
    rw [if_pos (by rw [hss]; cases s <;> cases t <;> first | rfl | exact absurd rfl a)] at k4
    rw [if_pos (by omega)]; omega
theorem prod_form {x y e g zo eo : Int} {K E K' E' : Nat} (bx : DB x e K E) (by_ : DB y g K' E') (hx : x ≠ 0) (hy : y ≠ 0) (hE : E + E' ≤ 1048576) (hf : DFm zo eo) (hv : dv zo eo = dv (x * y) (e + g)) : zo = x * y ∧ eo = e + g := by
  have h1 := bx.lo
  have h2 := bx.hi
  have h3 := by_.lo
  have h4 := by_.hi
  have ox : x % 2 = 1 := by rcases bx.fm with ⟨a, _⟩ | ⟨a, _⟩ <;> omega
  have oy : y % 2 = 1 := by rcases by_.fm with ⟨a, _⟩ | ⟨a, _⟩ <;> omega
  exact dv_inj hf (.inr ⟨by rw [Int.mul_emod, ox, oy]; rfl, by omega, by omega⟩) hv
set_option maxRecDepth 20000 in
set_option maxHeartbeats 8000000 in
theorem nought8_z {p : Option Addr} {c : Nat} {w : World} {e : Int} {s : Bool} :
    Calls Tryz.prog 26 #[DV s p 0 c e] w fun en w' => en = .returned (.bool true) ∧ Below w.heap.size w w' := by
  go_enter Tryz.func26, Tryz.ntmps26
  go_wp2_with fail
  go_ret
  exact ⟨rfl, below1 w _⟩
theorem qf_le {x e y g : Int} {P : Nat} {X Y L zl el zh eh : Int} (h : QF x e y g P X Y L zl el zh eh) (he : -1000000 ≤ e ∧ e ≤ 1000000) (hg : -1000000 ≤ g ∧ g ≤ 1000000) :
    (0 < y → dv (zl * y) el ≤ dv x (e - g) ∧ dv x (e - g) ≤ dv (zh * y) eh) ∧ (y < 0 → dv (zh * y) eh ≤ dv x (e - g) ∧ dv x (e - g) ≤ dv (zl * y) el) := by
  have l1 := h.dl.lo
  have l2 := h.dh.lo
  have sc : ∀ {a b X Y : Int}, -2100000 ≤ a → -2100000 ≤ b → dv X (a + g) ≤ dv Y (b + g) → dv X a ≤ dv Y b := fun {a b X Y} ha hb h9 => by
    have := dv_scale (g := -g) (by omega) (by omega) (by omega) (by omega) h9
    rwa [show a + g + -g = a from by omega, show b + g + -g = b from by omega] at this
  have ee : e = e - g + g := by omega
  refine ⟨fun hy => ?_, fun hy => ?_⟩
  · obtain ⟨h1, h2⟩ := h.op hy
    rw [ee] at h1 h2
    exact ⟨sc (by omega) (by omega) h1, sc (by omega) (by omega) h2⟩
  · obtain ⟨h1, h2⟩ := h.on hy
    rw [ee] at h1 h2
    exact ⟨sc (by omega) (by omega) h1, sc (by omega) (by omega) h2⟩
end Go.Proofs.YtfofoookdlaipaaGreatDoor

