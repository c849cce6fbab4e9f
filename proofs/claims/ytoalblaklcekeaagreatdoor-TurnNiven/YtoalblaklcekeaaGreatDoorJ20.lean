import Derived.Test.YtoalblaklcekeaaGreatDoorJ19
import Derived.Test.YtoalblaklcekeaaGreatDoorJ16
import Derived.Test.YtoalblaklcekeaaGreatDoorJ15
import Derived.Test.YtoalblaklcekeaaGreatDoorJ8
import Derived.Test.YtoalblaklcekeaaGreatDoorJ10
import Derived.Deep.LoopGhost
import Derived.Test.YtoalblaklcekeaaGreatDoorJ12
import Derived.Laws.Bits64b
namespace Go.Proofs.YtoalblaklcekeaaGreatDoor
open Go.RowKit Go.Shelf

set_option maxRecDepth 20000 in
set_option maxHeartbeats 8000000 in
theorem finite_e {f : Int} {b : Nat} {er : Int} (hB : ∀ w, Calls Tryz.prog 129 #[.int .i64 f, U b] w fun e w' => e = .returned (.tuple #[PV 0 0 0 false 0, .int .i64 er]) ∧ Below w.heap.size w w') (he : er ≠ 0) (w : World) :
    Calls Tryz.prog 76 #[.int .i64 f, U b] w fun en w' => en = .returned (.tuple #[PV 0 0 0 false 0, .int .i64 er]) ∧ Below w.heap.size w w' := by
  have HB : Hid (∀ w, Calls Tryz.prog 129 #[.int .i64 f, U b] w fun e w' => e = .returned (.tuple #[PV 0 0 0 false 0, .int .i64 er]) ∧ Below w.heap.size w w') := hB
  have e1 : (er == 0) = false := by simp [he]
  clear hB he
  go_enter Tryz.func76, Tryz.ntmps76
  go_wp2_with fail
  obtain ⟨W0, hW0⟩ : ∃ W0, W0 = (w.alloc (.cells #[.int .i64 0, .int .i64 0, .int .i64 0, .bool false, .int .u64 0] 133)) := ⟨_, rfl⟩
  have Xr : Hid (B5q W0 (w.heap.size) (.int .i64 0) (.int .i64 0) (.int .i64 0) (.bool false) (.int .u64 0)) := by rw [hW0]; exact ⟨by go_simp, by go_simp, by go_simp, by go_simp, by go_simp, by go_simp, by go_simp, by go_simp, by go_simp, by go_simp⟩
  have hb0 : Below w.heap.size w W0 := by rw [hW0]; exact below1 w _
  rw [← hW0]
  clear hW0
  have hbw : Below w.heap.size w w := Below.refl _ _
  obtain ⟨gr, hgr⟩ : ∃ g, g = w.heap.size := ⟨_, rfl⟩
  have HGr : Hid (w.heap.size ≤ gr) := by rw [hgr]; show _ ≤ _; omega
  rw [← hgr] at Xr
  try rw [← hgr]
  clear hgr
  replace hbw := Below.on hbw hb0
  clear hb0
  refine (HB.out _).mono ?_
  rintro e v1 ⟨rfl, hb1⟩
  replace Xr : Hid _ := Xr.out.below hb1
  replace hbw := Below.on hbw hb1
  clear hb1
  obtain ⟨cr0, cr1, cr2, cr3, cr4, fr0, fr1, fr2, fr3, fr4⟩ := Xr.out
  have hner : gr < v1.heap.size := World.block_lt_of_cell? v1 _ cr0
  go_wp2_with fail
  refine bodyPost_ret (v := .tuple #[PV 0 0 0 false 0, .int .i64 er]) (by rw [results_cell_tmp rfl]; go_simp) rfl ⟨rfl, ?_⟩
  first | exact Below.on hbw (below1 _ _) | exact Below.on (bSet (bSet (bSet (bSet (bSet hbw _ _ _ HGr.out) _ _ _ HGr.out) _ _ _ HGr.out) _ _ _ HGr.out) _ _ _ HGr.out) (below1 _ _)
set_option maxRecDepth 20000 in
set_option maxHeartbeats 8000000 in
theorem finite_i {f p m l : Int} {S I H : Nat} (F : Pm f p m l S I H) (b : Nat) (hb : b < 2 * S) (hr : b % S = I) (w : World) :
    Calls Tryz.prog 76 #[.int .i64 f, U b] w fun en w' => en = .returned (.tuple #[PV 0 0 0 false 0, .int .i64 6]) ∧ Below w.heap.size w w' := by
  have HF : Hid (Pm f p m l S I H) := F
  have HR : Hid (b < 2 * S ∧ b % S ≤ I ∧ decide (b % S = I) = true) := ⟨hb, by omega, decide_eq_true hr⟩
  obtain ⟨z, hz⟩ : ∃ z, z = b % S := ⟨_, rfl⟩
  obtain ⟨s, hs⟩ : ∃ s, s = decide (S ≤ b) := ⟨_, rfl⟩
  have HZ : Hid (b % S = z ∧ decide (S ≤ b) = s) := ⟨hz.symm, hs.symm⟩
  clear F hb hr hz hs
  go_enter Tryz.func76, Tryz.ntmps76
  go_wp2_with fail
  obtain ⟨W0, hW0⟩ : ∃ W0, W0 = (w.alloc (.cells #[.int .i64 0, .int .i64 0, .int .i64 0, .bool false, .int .u64 0] 133)) := ⟨_, rfl⟩
  have Xr : Hid (B5q W0 (w.heap.size) (.int .i64 0) (.int .i64 0) (.int .i64 0) (.bool false) (.int .u64 0)) := by rw [hW0]; exact ⟨by go_simp, by go_simp, by go_simp, by go_simp, by go_simp, by go_simp, by go_simp, by go_simp, by go_simp, by go_simp⟩
  have hb0 : Below w.heap.size w W0 := by rw [hW0]; exact below1 w _
  rw [← hW0]
  clear hW0
  have hbw : Below w.heap.size w w := Below.refl _ _
  obtain ⟨gr, hgr⟩ : ∃ g, g = w.heap.size := ⟨_, rfl⟩
  have HGr : Hid (w.heap.size ≤ gr) := by rw [hgr]; show _ ≤ _; omega
  rw [← hgr] at Xr
  try rw [← hgr]
  clear hgr
  replace hbw := Below.on hbw hb0
  clear hb0
  refine (ranked_ok HF.out.fm b HR.out.1 HR.out.2.1 _).mono ?_
  rintro e v1 ⟨rfl, hb1⟩
  rw [HZ.out.1, HZ.out.2]
  replace Xr : Hid _ := Xr.out.below hb1
  replace hbw := Below.on hbw hb1
  clear hb1
  go_wp2_with fail
  have Xp0 : Hid (B5q (v1.alloc (.cells #[.int .i64 p, .int .i64 m, .int .i64 l, .bool s, U z] 133)) v1.heap.size (.int .i64 p) (.int .i64 m) (.int .i64 l) (.bool s) (U z)) := B5q.new v1 _ _ _ _ _ _
  have hbn : Below v1.heap.size v1 (v1.alloc (.cells #[.int .i64 p, .int .i64 m, .int .i64 l, .bool s, U z] 133)) := below1 v1 _
  generalize v1.alloc (.cells #[.int .i64 p, .int .i64 m, .int .i64 l, .bool s, U z] 133) = Wp at *
  have HGp : Hid (w.heap.size ≤ v1.heap.size) := hbw.size
  replace Xr : Hid _ := Xr.out.below hbn
  replace hbw := Below.on hbw hbn
  clear hbn
  generalize v1.heap.size = gp at *
  have Xp := Xp0
  clear Xp0
  refine (HF.out.fm.cls s z _).mono ?_
  rintro e2 v2 ⟨c, rfl, hc4, hc3, hb2⟩
  have hc0 : (c == 3) = true := by rw [hc3, ← HZ.out.1]; exact HR.out.2.2
  clear hc4 hc3
  replace Xr : Hid _ := Xr.out.below hb2
  replace Xp : Hid _ := Xp.out.below hb2
  replace hbw := Below.on hbw hb2
  clear hb2
  obtain ⟨cr0, cr1, cr2, cr3, cr4, fr0, fr1, fr2, fr3, fr4⟩ := Xr.out
  have hner : gr < v2.heap.size := World.block_lt_of_cell? v2 _ cr0
  go_wp2_with fail
  refine bodyPost_ret (v := .tuple #[PV 0 0 0 false 0, .int .i64 6]) (by rw [results_cell_tmp rfl]; go_simp) rfl ⟨rfl, ?_⟩
  first | exact hbw | exact bSet (bSet (bSet (bSet (bSet hbw _ _ _ HGr.out) _ _ _ HGr.out) _ _ _ HGr.out) _ _ _ HGr.out) _ _ _ HGr.out
set_option maxRecDepth 20000 in
set_option maxHeartbeats 8000000 in
theorem split_e {f : Int} {b : Nat} {er : Int} (hB : ∀ w, Calls Tryz.prog 76 #[.int .i64 f, U b] w fun e w' => e = .returned (.tuple #[PV 0 0 0 false 0, .int .i64 er]) ∧ Below w.heap.size w w') (he : er ≠ 0) (w : World) :
    Calls Tryz.prog 33 #[.int .i64 f, U b] w fun en w' => en = .returned (.tuple #[.bool false, .int .u64 0, .int .i64 0, .int .i64 er]) ∧ Below w.heap.size w w' := by
  have hbw : Below w.heap.size w w := Below.refl _ _
  have HB : Hid (∀ w, Calls Tryz.prog 76 #[.int .i64 f, U b] w fun e w' => e = .returned (.tuple #[PV 0 0 0 false 0, .int .i64 er]) ∧ Below w.heap.size w w') := hB
  have e1 : (er == 0) = false := by simp [he]
  have e2 : (er != 0) = true := by simp [he]
  clear hB he
  go_enter Tryz.func33, Tryz.ntmps33
  go_wp2_with fail
  refine (HB.out _).mono ?_
  rintro e v1 ⟨rfl, hb1⟩
  replace hbw := Below.on hbw hb1
  clear hb1
  go_wp2_with fail
  refine bodyPost_ret (v := .tuple #[.bool false, .int .u64 0, .int .i64 0, .int .i64 er]) (by rw [results_t4 rfl]; go_simp) rfl ⟨rfl, ?_⟩
  first | exact hbw | exact Below.on hbw (below1 _ _)
set_option maxRecDepth 20000 in
set_option maxHeartbeats 8000000 in
theorem value_e {f : Int} {b : Nat} {er : Int} (hB : ∀ w, Calls Tryz.prog 76 #[.int .i64 f, U b] w fun e w' => e = .returned (.tuple #[PV 0 0 0 false 0, .int .i64 er]) ∧ Below w.heap.size w w') (he : er ≠ 0) (w : World) :
    Calls Tryz.prog 12 #[.int .i64 f, U b] w fun en w' => en = .returned (.tuple #[DV false none 0 0 0, .int .i64 er]) ∧ Below w.heap.size w w' := by
  have HB : Hid (∀ w, Calls Tryz.prog 76 #[.int .i64 f, U b] w fun e w' => e = .returned (.tuple #[PV 0 0 0 false 0, .int .i64 er]) ∧ Below w.heap.size w w') := hB
  have HE : Hid (er ≠ 0) := he
  have e1 : (er == 0) = false := by simp [he]
  have e2 : (er != 0) = true := by simp [he]
  clear hB he
  go_enter Tryz.func12, Tryz.ntmps12
  go_wp2_with fail
  obtain ⟨W0, hW0⟩ : ∃ W0, W0 = (w.alloc (.cells #[.bool false, .slice none 0 0, .int .i64 0] 28)) := ⟨_, rfl⟩
  have Xr : Hid (B3q W0 (w.heap.size) (.bool false) (.slice none 0 0) (.int .i64 0)) := by rw [hW0]; exact ⟨by go_simp, by go_simp, by go_simp, by go_simp, by go_simp, by go_simp⟩
  have hb0 : Below w.heap.size w W0 := by rw [hW0]; exact below1 w _
  rw [← hW0]
  clear hW0
  have hbw : Below w.heap.size w w := Below.refl _ _
  obtain ⟨gr, hgr⟩ : ∃ g, g = w.heap.size := ⟨_, rfl⟩
  have HGr : Hid (w.heap.size ≤ gr) := by rw [hgr]; show _ ≤ _; omega
  rw [← hgr] at Xr
  try rw [← hgr]
  clear hgr
  replace hbw := Below.on hbw hb0
  clear hb0
  refine (split_e HB.out HE.out _).mono ?_
  rintro e v1 ⟨rfl, hb1⟩
  replace Xr : Hid _ := Xr.out.below hb1
  replace hbw := Below.on hbw hb1
  clear hb1
  obtain ⟨cr0, cr1, cr2, fr0, fr1, fr2⟩ := Xr.out
  have hner : gr < v1.heap.size := World.block_lt_of_cell? v1 _ cr0
  go_wp2_with fail
  refine bodyPost_ret (v := .tuple #[DV false none 0 0 0, .int .i64 er]) (by rw [results_cell_tmp rfl]; go_simp) rfl ⟨rfl, ?_⟩
  first | exact hbw | exact bSet (bSet (bSet hbw _ _ _ HGr.out) _ _ _ HGr.out) _ _ _ HGr.out
end Go.Proofs.YtoalblaklcekeaaGreatDoor

namespace Go.Proofs.YtoalblaklcekeaaGreatDoor
open Go.RowKit Go.Shelf

theorem xs_neg {S H : Nat} {l : Int} {b : Nat} {zo eo : Int} (hb : b < 2 * S) (hv : VF S H l b zo eo) : VF S H l (xsS S b) (-zo) eo ∧ xsS S b < 2 * S ∧ xsS S b % S = b % S := by
  have hm : xsS S b % S = b % S := by
    unfold xsS
    split
    · rename_i h
      rw [Nat.mod_eq_sub_mod h]
    · rw [Nat.add_mod_right]
  refine ⟨⟨hv.fm.neg, ?_⟩, by unfold xsS; split <;> omega, hm⟩
  rw [dv_neg, hv.v, ← dv_neg, svS_eq, svS_eq, hm]
  unfold xsS
  by_cases h : S ≤ b
  · rw [if_pos h, if_pos h, if_neg (by omega), Int.neg_neg]
  · rw [if_neg h, if_neg h, if_pos (by omega)]
end Go.Proofs.YtoalblaklcekeaaGreatDoor

namespace Go.Proofs.YtoalblaklcekeaaGreatDoor
open Go.RowKit Go.Shelf

theorem vs_next {H : Nat} (hH : 0 < H) (s : Nat) : vs H (s + 1) = vs H s + 2 ^ (s / H - 1) := by
  have h1 := Nat.div_add_mod s H
  have h2 := Nat.mod_lt s hH
  have h3 := Nat.div_add_mod (s + 1) H
  have h4 := Nat.mod_lt (s + 1) hH
  have h5 : s / H ≤ (s + 1) / H := Nat.div_le_div_right (by omega)
  have h6 : (s + 1) / H ≤ s / H + 1 := by
    have : (s + 1) / H ≤ (s + H) / H := Nat.div_le_div_right (by omega)
    rw [Nat.add_div_right _ hH] at this
    exact this
  unfold vs
  by_cases h7 : (s + 1) / H = s / H
  · rw [h7]
    have hq : (s / H - 1) * H ≤ s := by
      rw [Nat.sub_mul, Nat.mul_comm]; omega
    rw [show s + 1 - (s / H - 1) * H = s - (s / H - 1) * H + 1 from by omega, Nat.add_mul, Nat.one_mul]
  · have h8 : (s + 1) / H = s / H + 1 := by omega
    rw [h8, Nat.add_sub_cancel]
    rw [h8, Nat.mul_add, Nat.mul_one] at h3
    obtain ⟨k, hk⟩ : ∃ k, k = s / H := ⟨_, rfl⟩
    rw [← hk] at h1 h3 ⊢
    obtain ⟨y, hy⟩ : ∃ y, y = H * k := ⟨_, rfl⟩
    rw [← hy] at h1 h3
    rw [Nat.mul_comm k H, ← hy]
    by_cases h9 : k = 0
    · subst h9
      have : y = 0 := by rw [hy]; simp
      simp
      omega
    · obtain ⟨j, rfl⟩ : ∃ j, k = j + 1 := ⟨k - 1, by omega⟩
      rw [Nat.add_sub_cancel, Nat.pow_succ]
      have hj : j * H + H = y := by rw [hy, Nat.mul_comm H, Nat.add_mul, Nat.one_mul]
      have e1 : s + 1 - y = H := by omega
      have e2 : s - j * H = 2 * H - 1 := by omega
      rw [e1, e2, Nat.mul_comm (2 ^ j) 2, ← Nat.mul_assoc, Nat.sub_mul, Nat.one_mul, Nat.mul_comm H 2]
      have : 1 * 2 ^ j ≤ 2 * H * 2 ^ j := Nat.mul_le_mul_right _ (by omega)
      omega
end Go.Proofs.YtoalblaklcekeaaGreatDoor

namespace Go.Proofs.YtoalblaklcekeaaGreatDoor
open Go.RowKit Go.Shelf

end Go.Proofs.YtoalblaklcekeaaGreatDoor

namespace Go.Proofs.YtoalblaklcekeaaGreatDoor
open Go.RowKit Go.Shelf

def neN (a d : Nat) : Nat := a / d + (neUp a d).toNat
theorem neN_mul (a d c : Nat) (hc : 0 < c) : neN (a * c) (d * c) = neN a d := by
  have h1 : a * c / (d * c) = a / d := Nat.mul_div_mul_right _ _ hc
  have h2 : a * c % (d * c) = a % d * c := Nat.mul_mod_mul_right _ _ _
  have h3 : decide (d * c < 2 * (a % d * c)) = decide (d < 2 * (a % d)) := by
    rw [← Nat.mul_assoc]
    exact decide_eq_decide.2 (Nat.mul_lt_mul_right hc)
  have h4 : decide (2 * (a % d * c) = d * c) = decide (2 * (a % d) = d) := by
    rw [← Nat.mul_assoc]
    exact decide_eq_decide.2 (Nat.mul_right_cancel_iff hc)
  unfold neN neUp
  rw [h1, h2, h3, h4]
theorem neN_ex (a d : Nat) (hd : 0 < d) : neN (a * d) d = a := by
  unfold neN neUp
  rw [Nat.mul_div_cancel _ hd, Nat.mul_mod_left]
  have h1 : decide (d < 2 * 0) = false := decide_eq_false (by omega)
  have h2 : decide (2 * 0 = d) = false := decide_eq_false (by omega)
  rw [h1, h2]
  rfl
def hv (H z : Nat) : Nat := 2 * vs H z + 2 ^ (z / H - 1)
theorem hv_gt (H z : Nat) : 2 * vs H z < hv H z := by
  unfold hv
  have : 0 < 2 ^ (z / H - 1) := Nat.pow_pos (by omega)
  omega
theorem hv_lt {H : Nat} (hH : 0 < H) (z : Nat) : hv H z < 2 * vs H (z + 1) := by
  have : 0 < 2 ^ (z / H - 1) := Nat.pow_pos (by omega)
  rw [vs_next hH]
  unfold hv
  omega
theorem vs_le {H : Nat} (hH : 0 < H) {s t : Nat} (h : s ≤ t) : vs H s ≤ vs H t := by
  rcases Nat.lt_or_eq_of_le h with h1 | h1
  · exact Nat.le_of_lt (vs_mono hH h1)
  · rw [h1]; exact Nat.le_refl _
structure RNz (H : Nat) (l : Int) (I : Nat) (A : Int) (Z : Nat) : Prop where
  le : Z ≤ I
  lo : ∀ z, z < I → A < dv (hv H z : Int) (l - 1) → Z ≤ z
  hi : ∀ z, z < I → dv (hv H z : Int) (l - 1) < A → z < Z
  eq : ∀ z, z < I → A = dv (hv H z : Int) (l - 1) → (Z = z ∨ Z = z + 1) ∧ Z % 2 = 0
theorem RNz.mono {H : Nat} {l : Int} {I : Nat} {A B : Int} {Z Y : Nat} (h : RNz H l I A Z) (k : RNz H l I B Y) (hAB : A ≤ B) : Z ≤ Y := by
  refine Nat.le_of_not_lt fun hlt => ?_
  have hY : Y < I := Nat.lt_of_lt_of_le hlt h.le
  have hz : ∀ x : Int, x = dv (hv H Y : Int) (l - 1) → False := fun x hx => by
    rcases Int.lt_trichotomy B x with h1 | h1 | h1
    · have := h.lo Y hY (by omega); omega
    · have h2 := k.eq Y hY (by omega)
      rcases Int.lt_or_eq_of_le hAB with h3 | h3
      · have := h.lo Y hY (by omega); omega
      · have h4 := h.eq Y hY (by omega)
        omega
    · have := k.hi Y hY (by omega); omega
  exact hz _ rfl
def rnz (l : Int) (sd : Nat) (Be : Int) (I m : Nat) (e : Int) : Nat :=
  if Be ≤ e + bitsN m - 1 then I
  else ((max (e + bitsN m - 1 - sd) l - l).toNat) * 2 ^ sd +
    (if e < max (e + bitsN m - 1 - sd) l then neN m (2 ^ (max (e + bitsN m - 1 - sd) l - e).toNat) else m * 2 ^ (e - max (e + bitsN m - 1 - sd) l).toNat)
theorem dv_lt_iff {x y : Int} (e : Int) : dv x e < dv y e ↔ x < y := by
  refine ⟨fun h => ?_, dv_lt e⟩
  rcases Int.lt_or_le x y with h1 | h1
  · exact h1
  · have := dv_le e h1; omega
theorem nat_pow_split {a b c : Nat} (h : a + b = c) : 2 ^ a * 2 ^ b = 2 ^ c := by rw [← Nat.pow_add, h]
theorem rnz_ok {l : Int} {sd : Nat} {Be : Int} {I m : Nat} {e : Int} (hI : (I : Int) = (Be - l - sd + 1) * ((2 ^ sd : Nat) : Int)) (hsd : 1 ≤ sd) (hBe : 0 < Be - l - sd) (hl : -4194303 ≤ l) (hm : m ≠ 0) (he : -4194304 ≤ e) :
    RNz (2 ^ sd) l I (dv m e) (rnz l sd Be I m e) := by
  obtain ⟨H, hH⟩ : ∃ H, H = 2 ^ sd := ⟨_, rfl⟩
  have hHp : 0 < H := by rw [hH]; exact Nat.pow_pos (by omega)
  have hH2 : H % 2 = 0 := by
    obtain ⟨k, rfl⟩ : ∃ k, sd = k + 1 := ⟨sd - 1, by omega⟩
    rw [hH, Nat.pow_succ]; omega
  obtain ⟨t, ht⟩ : ∃ t : Int, t = min e (l - 1) := ⟨_, rfl⟩
  have hB1 := bitsN_lt m
  have hB2 := bitsN_le m hm
  have hB0 : 1 ≤ bitsN m := by unfold bitsN; rw [if_neg hm]; omega
  obtain ⟨L, hL⟩ : ∃ L, L = bitsN m := ⟨_, rfl⟩
  obtain ⟨A, hA⟩ : ∃ A, A = m * 2 ^ (e - t).toNat := ⟨_, rfl⟩
  obtain ⟨K, hK⟩ : ∃ K, K = 2 ^ (l - 1 - t).toNat := ⟨_, rfl⟩
  have hKp : 0 < K := by rw [hK]; exact Nat.pow_pos (by omega)
  have eA : dv m e = dv (A : Int) t := by
    have := dv_shift (z := (m : Int)) (e := e) (f := t) (by omega) (by omega)
    rw [this, hA, Int.natCast_mul]
  have eM : ∀ z : Nat, dv (hv H z : Int) (l - 1) = dv ((hv H z * K : Nat) : Int) t := fun z => by
    have := dv_shift (z := (hv H z : Int)) (e := l - 1) (f := t) (by omega) (by omega)
    rw [this, hK, Int.natCast_mul]
  have key : ∀ Z : Nat, Z ≤ I → (∀ z, z < I → (A < hv H z * K → Z ≤ z) ∧ (hv H z * K < A → z < Z) ∧ (A = hv H z * K → (Z = z ∨ Z = z + 1) ∧ Z % 2 = 0)) → RNz H l I (dv m e) Z := fun Z h1 h2 =>
    ⟨h1, fun z hz h => (h2 z hz).1 (by rw [eA, eM, dv_lt_iff] at h; omega), fun z hz h => (h2 z hz).2.1 (by rw [eA, eM, dv_lt_iff] at h; omega), fun z hz h => (h2 z hz).2.2 (by
      rw [eA, eM] at h
      rcases Nat.lt_trichotomy A (hv H z * K) with h3 | h3 | h3
      · have := dv_lt t (Int.ofNat_lt.2 h3); omega
      · exact h3
      · have := dv_lt t (Int.ofNat_lt.2 h3); omega)⟩
  obtain ⟨N, hN⟩ : ∃ N : Nat, (N : Int) = Be - l - sd := ⟨(Be - l - sd).toNat, by omega⟩
  have hIN : I = (N + 1) * H := by
    rw [← hN, ← hH] at hI
    exact Int.ofNat.inj (by rw [Int.ofNat_eq_natCast, hI, Int.ofNat_eq_natCast, Int.natCast_mul]; rfl)
  rw [← hH]
  unfold rnz
  rw [← hL, ← hH]
  rw [← hL] at hB1 hB2 hB0
  by_cases htop : Be ≤ e + L - 1
  · rw [if_pos htop]
    refine key I (Nat.le_refl _) fun z hz => ?_
    have h1 : hv H z * K < A := by
      have h2 := hv_lt hHp z
      have h3 := vs_le hHp (show z + 1 ≤ I from hz)
      have h4 : vs H I = H * 2 ^ N := by
        unfold vs
        rw [hIN, Nat.mul_div_cancel _ hHp, Nat.add_sub_cancel, Nat.add_mul, Nat.one_mul, Nat.add_sub_cancel_left]
      have h5 : hv H z < 2 * (H * 2 ^ N) := by omega
      have h6 : hv H z * K < 2 * (H * 2 ^ N) * K := Nat.mul_lt_mul_of_pos_right h5 hKp
      have h7 : 2 * (H * 2 ^ N) * K = 2 ^ (Be - t).toNat := by
        rw [hH, hK, nat_pow_split (rfl : sd + N = sd + N), ← Nat.pow_succ', nat_pow_split rfl]
        congr 1
        omega
      have h8 : 2 ^ (Be - t).toNat ≤ A := by
        rw [hA]
        have h9 : 2 ^ (L - 1) * 2 ^ (e - t).toNat ≤ m * 2 ^ (e - t).toNat := Nat.mul_le_mul_right _ hB2
        rw [nat_pow_split rfl] at h9
        exact Nat.le_trans (Nat.pow_le_pow_right (by omega) (by omega)) h9
      omega
    exact ⟨fun h => by omega, fun _ => hz, fun h => by omega⟩
  · rw [if_neg htop]
    obtain ⟨u, hu⟩ : ∃ u : Int, u = max (e + L - 1 - sd) l := ⟨_, rfl⟩
    rw [← hu]
    obtain ⟨q, hq⟩ : ∃ q, q = (u - l).toNat := ⟨_, rfl⟩
    rw [← hq]
    obtain ⟨D, hD⟩ : ∃ D, D = 2 ^ (u - t).toNat := ⟨_, rfl⟩
    have hDp : 0 < D := by rw [hD]; exact Nat.pow_pos (by omega)
    have hDK : D = 2 * (2 ^ q * K) := by
      rw [hD, hK, nat_pow_split rfl, ← Nat.pow_succ']
      congr 1
      omega
    have hz0 : (if e < u then neN m (2 ^ (u - e).toNat) else m * 2 ^ (e - u).toNat) = neN A D := by
      by_cases heu : e < u
      · rw [if_pos heu, hA, hD, ← neN_mul m (2 ^ (u - e).toNat) (2 ^ (e - t).toNat) (Nat.pow_pos (by omega)), nat_pow_split (a := (u - e).toNat) rfl]
        congr 2
        omega
      · rw [if_neg heu, ← neN_ex (m * 2 ^ (e - u).toNat) D hDp, hA, hD, Nat.mul_assoc, nat_pow_split (a := (e - u).toNat) rfl]
        congr 3
        omega
    rw [hz0]
    obtain ⟨y, hy⟩ : ∃ y, y = A / D := ⟨_, rfl⟩
    obtain ⟨r, hr⟩ : ∃ r, r = A % D := ⟨_, rfl⟩
    have hAyr : D * y + r = A := by rw [hy, hr]; exact Nat.div_add_mod A D
    have hrD : r < D := by rw [hr]; exact Nat.mod_lt _ hDp
    have hAlt : A < 2 * H * D := by
      have h1 : A < 2 ^ L * 2 ^ (e - t).toNat := by rw [hA]; exact Nat.mul_lt_mul_of_pos_right hB1 (Nat.pow_pos (by omega))
      rw [nat_pow_split rfl] at h1
      refine Nat.lt_of_lt_of_le h1 ?_
      rw [hH, hD, ← Nat.pow_succ', nat_pow_split rfl]
      exact Nat.pow_le_pow_right (by omega) (by omega)
    have hy2 : y < 2 * H := by rw [hy]; exact Nat.div_lt_of_lt_mul (by rw [Nat.mul_comm]; exact hAlt)
    have hyH : q ≠ 0 → H ≤ y := by
      intro hq0
      rw [hy]
      refine (Nat.le_div_iff_mul_le hDp).2 ?_
      have h9 : 2 ^ (L - 1) * 2 ^ (e - t).toNat ≤ A := by rw [hA]; exact Nat.mul_le_mul_right _ hB2
      rw [nat_pow_split rfl] at h9
      refine Nat.le_trans ?_ h9
      rw [hH, hD, nat_pow_split rfl]
      exact Nat.pow_le_pow_right (by omega) (by omega)
    obtain ⟨zf, hzf⟩ : ∃ zf, zf = q * H + y := ⟨_, rfl⟩
    have hzq : zf / H - 1 = q := by
      have h1 : zf / H = q + y / H := by rw [hzf, Nat.mul_comm, Nat.mul_add_div hHp]
      rw [h1]
      have h3 : y / H < 2 := Nat.div_lt_of_lt_mul (by omega)
      by_cases hq0 : q = 0
      · omega
      · have h2 : 1 ≤ y / H := (Nat.le_div_iff_mul_le hHp).2 (by have := hyH hq0; omega)
        omega
    have hvz : vs H zf = y * 2 ^ q := by unfold vs; rw [hzq, hzf, Nat.add_sub_cancel_left]
    have hvn : vs H (zf + 1) = (y + 1) * 2 ^ q := by rw [vs_next hHp, hvz, hzq, Nat.add_mul, Nat.one_mul]
    have hqN : q < N := by omega
    have hzI : zf < I := by
      have h1 : (q + 2) * H ≤ (N + 1) * H := Nat.mul_le_mul_right _ (by omega)
      rw [Nat.add_mul] at h1
      omega
    have hDy : 2 * (y * 2 ^ q) * K = D * y := by
      rw [hDK, Nat.mul_comm y, Nat.mul_assoc, Nat.mul_assoc, Nat.mul_assoc, Nat.mul_assoc, Nat.mul_comm y K]
    have hDy1 : 2 * ((y + 1) * 2 ^ q) * K = D * y + D := by
      rw [hDK, Nat.mul_comm (y + 1), Nat.mul_assoc, Nat.mul_assoc, Nat.mul_comm (y + 1) K, ← Nat.mul_succ, Nat.mul_assoc, Nat.mul_assoc]
    have hmid : 2 * (hv H zf * K) = 2 * (D * y) + D := by
      have h1 : hv H zf = 2 * (y * 2 ^ q) + 2 ^ q := by unfold hv; rw [hvz, hzq]
      rw [h1, Nat.add_mul, hDy, Nat.mul_add, ← hDK]
    have hne : neN A D = y + (decide (D < 2 * r) || (decide (2 * r = D) && decide (y % 2 = 1))).toNat := by
      unfold neN neUp
      rw [← hy, ← hr]
    rw [hne]
    obtain ⟨b, hb⟩ : ∃ b, b = (decide (D < 2 * r) || (decide (2 * r = D) && decide (y % 2 = 1))).toNat := ⟨_, rfl⟩
    rw [← hb]
    have hb1 : b ≤ 1 := by rw [hb]; exact Bool.toNat_le _
    have hbl : 2 * r < D → b = 0 := fun h => by
      rw [hb, decide_eq_false (show ¬ D < 2 * r by omega), decide_eq_false (show ¬ 2 * r = D by omega)]; rfl
    have hbg : D < 2 * r → b = 1 := fun h => by rw [hb, decide_eq_true h]; rfl
    have hbe : 2 * r = D → b = y % 2 := fun h => by
      rw [hb, decide_eq_false (show ¬ D < 2 * r by omega), decide_eq_true h]
      rcases Nat.mod_two_eq_zero_or_one y with h1 | h1 <;> rw [h1] <;> rfl
    have hpar : (q * H + (y + b)) % 2 = (y + b) % 2 := by
      have : q * H % 2 = 0 := by rw [Nat.mul_mod, hH2]; simp
      omega
    refine key _ (by omega) fun z hz => ?_
    rcases Nat.lt_trichotomy z zf with h1 | h1 | h1
    · have h2 := hv_lt hHp z
      have h3 := vs_le hHp (show z + 1 ≤ zf from h1)
      have h4 : hv H z < 2 * (y * 2 ^ q) := by rw [← hvz]; omega
      have h5 : hv H z * K < 2 * (y * 2 ^ q) * K := Nat.mul_lt_mul_of_pos_right h4 hKp
      exact ⟨fun h => by omega, fun _ => by omega, fun h => by omega⟩
    · subst h1
      exact ⟨fun h => by have := hbl (by omega); omega, fun h => by have := hbg (by omega); omega, fun h => by have := hbe (by omega); omega⟩
    · have h2 := hv_gt H z
      have h3 := vs_le hHp (show zf + 1 ≤ z from h1)
      have h4 : 2 * ((y + 1) * 2 ^ q) < hv H z := by rw [← hvn]; omega
      have h5 : 2 * ((y + 1) * 2 ^ q) * K < hv H z * K := Nat.mul_lt_mul_of_pos_right h4 hKp
      exact ⟨fun _ => by omega, fun h => by omega, fun h => by omega⟩
theorem RNz.exact {H : Nat} {l : Int} {I Z : Nat} (hH : 0 < H) (hl : -4194303 ≤ l) (hZ : Z ≤ I) : RNz H l I (dv (vs H Z) l) Z := by
  have e1 : dv (vs H Z : Int) l = dv ((2 * vs H Z : Nat) : Int) (l - 1) := by
    have := dv_up (x := (vs H Z : Int)) (e := l - 1) 1 (by omega)
    rw [show l - 1 + ((1 : Nat) : Int) = l from by omega] at this
    rw [this, Nat.mul_comm, Int.natCast_mul]
  have low : ∀ z, z < Z → dv (hv H z : Int) (l - 1) < dv (vs H Z) l := fun z hz => by
    rw [e1]
    have h1 := hv_lt hH z
    have h2 := vs_le hH (show z + 1 ≤ Z from hz)
    exact dv_lt _ (by omega)
  have high : ∀ z, Z ≤ z → dv (vs H Z) l < dv (hv H z : Int) (l - 1) := fun z hz => by
    rw [e1]
    have h1 := hv_gt H z
    have h2 := vs_le hH hz
    exact dv_lt _ (by omega)
  refine ⟨hZ, fun z _ h => ?_, fun z _ h => ?_, fun z _ h => ?_⟩
  · refine Nat.le_of_not_lt fun h2 => ?_
    have := low z h2; omega
  · refine Nat.lt_of_not_le fun h2 => ?_
    have := high z h2; omega
  · rcases Nat.lt_or_ge z Z with h2 | h2
    · have := low z h2; omega
    · have := high z h2; omega
end Go.Proofs.YtoalblaklcekeaaGreatDoor

namespace Go.Proofs.YtoalblaklcekeaaGreatDoor
open Go.RowKit Go.Shelf

structure Jn (f p m l : Int) (S I H sd : Nat) (Be : Int) : Prop where
  jm : Jm f p m l S I H sd Be
  hI : (I : Int) = (Be - l - sd + 1) * ((2 ^ sd : Nat) : Int)
  hB : 0 < Be - l - sd
  hS : S % 2 = 0
  hB9 : Be - l - sd ≤ 2046
  cl : ∀ (b : Nat) w, b < 2 * S → Calls Tryz.prog 105 #[.int .i64 f, U b] w fun en w' => en = .returned (.tuple #[.int .i64 (clsN H I (b % S)), .int .i64 0]) ∧ Below w.heap.size w w'
theorem jn_32 : Jn 32 32 24 (-149) 2147483648 2139095040 8388608 23 128 := ⟨jm_32, by decide, by decide, by decide, by decide, fun b w hb => clsof_32 b hb w⟩
theorem jn_64 : Jn 64 64 53 (-1074) 9223372036854775808 9218868437227405312 4503599627370496 52 1024 := ⟨jm_64, by decide, by decide, by decide, by decide, fun b w hb => clsof_64 b hb w⟩
def rnp (l : Int) (sd : Nat) (Be : Int) (S I : Nat) (x e : Int) : Nat :=
  if x = 0 then 0 else if x < 0 then S + rnz l sd Be I x.natAbs e else rnz l sd Be I x.natAbs e
theorem RNz.nought {H : Nat} {l : Int} {I : Nat} (hH : 0 < H) (hl : -4194303 ≤ l) : RNz H l I 0 0 := by
  have := RNz.exact (H := H) (l := l) (I := I) (Z := 0) hH hl (Nat.zero_le _)
  rwa [vs_zero, show ((0 : Nat) : Int) = 0 from rfl, dv_zero] at this
theorem RNz.cell {H : Nat} {l : Int} {I : Nat} {A : Int} {Z : Nat} (h : RNz H l I A Z) (h0 : Z ≠ 0) (h1 : Z < I) :
    dv (hv H (Z - 1) : Int) (l - 1) ≤ A ∧ A ≤ dv (hv H Z : Int) (l - 1) ∧ (Z % 2 = 1 → dv (hv H (Z - 1) : Int) (l - 1) < A ∧ A < dv (hv H Z : Int) (l - 1)) := by
  have a1 : ¬ A < dv (hv H (Z - 1) : Int) (l - 1) := fun h2 => by have := h.lo _ (by omega) h2; omega
  have a2 : ¬ dv (hv H Z : Int) (l - 1) < A := fun h2 => by have := h.hi _ h1 h2; omega
  refine ⟨by omega, by omega, fun ho => ⟨?_, ?_⟩⟩
  · rcases Int.lt_or_eq_of_le (Int.not_lt.1 a1) with h2 | h2
    · exact h2
    · have := h.eq (Z - 1) (by omega) h2.symm; omega
  · rcases Int.lt_or_eq_of_le (Int.not_lt.1 a2) with h2 | h2
    · exact h2
    · have := h.eq Z h1 h2; omega
theorem RNz.none {H : Nat} {l : Int} {I : Nat} {A : Int} (h : RNz H l I A 0) (hI : 0 < I) : A ≤ dv (hv H 0 : Int) (l - 1) :=
  Int.not_lt.1 fun h2 => by have := h.hi 0 hI h2; omega
theorem RNz.all {H : Nat} {l : Int} {I : Nat} {A : Int} (h : RNz H l I A I) (hI : 0 < I) : dv (hv H (I - 1) : Int) (l - 1) ≤ A :=
  Int.not_lt.1 fun h2 => by have := h.lo (I - 1) (by omega) h2; omega
theorem rn_of {f p m l : Int} {S I H sd : Nat} {Be : Int} (J : Jn f p m l S I H sd Be) {n : Nat} {e : Int} (hn : n ≠ 0) (he : -4194304 ≤ e) : RNz H l I (dv n e) (rnz l sd Be I n e) := by
  have := rnz_ok J.hI J.jm.sl.1 J.hB (by have := J.jm.pm.lo; omega) hn he
  rwa [← J.jm.hs] at this
end Go.Proofs.YtoalblaklcekeaaGreatDoor

namespace Go.Proofs.YtoalblaklcekeaaGreatDoor
open Go.RowKit Go.Shelf

theorem Own.word {B : Nat} {w : World} {p : Option Addr} {m y : Nat} {zs : List Nat} (ho : Own B w p m zs) (hn : Nf B64 zs y) (hy : y < B64) :
    (y = 0 ∧ m = 0) ∨ (y ≠ 0 ∧ m = 1 ∧ ∃ g, p = some ⟨g, 0, none⟩ ∧ B ≤ g ∧ w.cell? ⟨g, 0, none⟩ = some (U y)) := by
  have hl := ho.len
  have h1 : zs.length ≤ 1 := (hn.len_le B64_one (k := 1)).2 (by rw [Nat.pow_one]; exact hy)
  rcases Nat.eq_zero_or_pos m with h0 | h0
  · left
    rw [h0] at hl
    have := hn.val
    rw [List.eq_nil_of_length_eq_zero hl] at this
    exact ⟨this.symm, h0⟩
  · right
    have hm1 : m = 1 := by omega
    subst hm1
    obtain ⟨a, rfl⟩ : ∃ a, zs = [a] := List.length_eq_one_iff.1 hl
    have hv : a = y := by have := hn.val; simpa [valB] using this
    obtain ⟨g, hp, hB, hc⟩ := ho.mem.resolve_left (by omega)
    refine ⟨?_, rfl, g, hp, hB, ?_⟩
    · intro h9
      have h8 : ([a] : List Nat) = [] := hn.inj B64_one (by rw [h9]; exact Nf.nil _)
      cases h8
    · have := hc.cell 0 (by omega)
      rw [Nat.add_zero] at this
      rw [this]
      simp [hv]
set_option maxRecDepth 20000 in
set_option maxHeartbeats 8000000 in
theorem multiple_n {p : Option Addr} {m c : Nat} {w : World} {x : Int} {s : Bool} (h : ZN w s p m c x) (k r : Nat) (n : Int) (hn : n = -(k : Int)) (hk : 0 < k ∧ k ≤ 4611686018427387904) (hr : r = neN x.natAbs (2 ^ k)) (hl : r < B64) (hT : Tab w) :
    Calls Tryz.prog 147 #[ZV s p m c, .int .i64 n] w fun en w' => en = .returned (U r) ∧ Below w.heap.size w w' := by
  have H : Hid (ZN w s p m c x) := h
  have HV : Hid (r < B64 ∧ r = neN x.natAbs (2 ^ k) ∧ k ≤ 9223372036854775807) := ⟨hl, hr, by omega⟩
  have TB : Hid (Tab w) := hT
  have d1 : decide (n < 0) = true := decide_eq_true (by omega)
  have d2 : wrap64 (-n) = (k : Int) := by rw [hn]; simp only [wrap64]; omega
  have d3 : IntKind.i64.wrap (-n) = (k : Int) := by rw [hn]; simp [IntKind.wrap, IntKind.signed, IntKind.bits]; omega
  clear h hr hl hT hn hk
  go_enter Tryz.func147, Tryz.ntmps147
  go_wp2_with fail
  obtain ⟨W0, hW0⟩ : ∃ W0, W0 = (w.alloc (.cells #[.bool s, .slice p m c] 26)) := ⟨_, rfl⟩
  have Xm : Hid (Box W0 (w.heap.size) (.bool s) (.slice p m c)) := by rw [hW0]; exact ⟨by go_simp, by go_simp, by go_simp, by go_simp⟩
  have hb0 : Below w.heap.size w W0 := by rw [hW0]; exact below1 w _
  rw [← hW0]
  clear hW0
  have hbw : Below w.heap.size w w := Below.refl _ _
  obtain ⟨gm, hgm⟩ : ∃ g, g = w.heap.size := ⟨_, rfl⟩
  have HGm : Hid (w.heap.size ≤ gm) := by rw [hgm]; show _ ≤ _; omega
  rw [← hgm] at Xm
  try rw [← hgm]
  clear hgm
  replace hbw := Below.on hbw hb0
  clear hb0
  have HL : Hid (gm < W0.heap.size) := Xm.out.lt
  obtain ⟨xs, hX⟩ := (H.out.below hbw).ex
  refine (rshr_any s hX H.out.pos k HV.out.2.2 (TB.out.below hbw)).mono ?_
  rintro e2 v1 ⟨v, rfl, hv, hb1⟩
  obtain ⟨p1, m1, z1, rfl, ho1, hn1, hm1⟩ := hv
  rw [show (ne s x.natAbs (2 ^ k)).natAbs = r from by rw [HV.out.2.1]; exact iv_natAbs _ _] at hn1
  generalize decide (ne s x.natAbs (2 ^ k) < 0) = s1
  clear hX
  replace Xm : Hid _ := Xm.out.below hb1
  replace hbw := Below.on hbw hb1
  clear hb1
  have HO : Hid (Own W0.heap.size v1 p1 m1 z1) := ho1
  have HN : Hid (Nf B64 z1 r ∧ m1 ≤ 8192) := ⟨hn1, hm1⟩
  clear ho1 hn1 hm1
  rcases HO.out.word HN.out.1 HV.out.1 with ⟨h0, h1⟩ | ⟨h0, h1, g1, h2, hg1, h3⟩
  · subst h1
    have hr0 : r = 0 := h0
    clear HV
    subst hr0
    obtain ⟨cm0, cm1, fm0, fm1⟩ := Xm.out
    have hnem := Xm.out.lt
    go_wp2_with fail
    go_ret
    exact ⟨rfl, bSet (bSet hbw _ _ _ HGm.out) _ _ _ HGm.out⟩
  · subst h1
    subst h2
    have hgm : gm ≠ g1 := by have := HL.out; omega
    have hgm2 : g1 ≠ gm := fun h => hgm h.symm
    have hg2 : g1 < v1.heap.size := World.block_lt_of_cell? v1 _ h3
    obtain ⟨cm0, cm1, fm0, fm1⟩ := Xm.out
    have hnem := Xm.out.lt
    go_wp2_with fail
    go_ret
    exact ⟨rfl, bSet (bSet hbw _ _ _ HGm.out) _ _ _ HGm.out⟩
set_option maxRecDepth 20000 in
set_option maxHeartbeats 8000000 in
theorem multiple_p {p : Option Addr} {m c : Nat} {w : World} {x : Int} {s : Bool} (h : ZN w s p m c x) (k r : Nat) (n : Int) (hn : n = (k : Int)) (hk : k ≤ 4611686018427387904) (hr : r = x.natAbs * 2 ^ k) (hl : r < B64) :
    Calls Tryz.prog 147 #[ZV s p m c, .int .i64 n] w fun en w' => en = .returned (U r) ∧ Below w.heap.size w w' := by
  have H : Hid (ZN w s p m c x) := h
  have HV : Hid (r < B64 ∧ r = x.natAbs * 2 ^ k ∧ k ≤ 9223372036854775807) := ⟨hl, hr, by omega⟩
  have d1 : decide (n < 0) = false := decide_eq_false (by omega)
  subst hn
  clear h hr hl hk
  go_enter Tryz.func147, Tryz.ntmps147
  go_wp2_with fail
  obtain ⟨W0, hW0⟩ : ∃ W0, W0 = (w.alloc (.cells #[.bool s, .slice p m c] 26)) := ⟨_, rfl⟩
  have Xm : Hid (Box W0 (w.heap.size) (.bool s) (.slice p m c)) := by rw [hW0]; exact ⟨by go_simp, by go_simp, by go_simp, by go_simp⟩
  have hb0 : Below w.heap.size w W0 := by rw [hW0]; exact below1 w _
  rw [← hW0]
  clear hW0
  have hbw : Below w.heap.size w w := Below.refl _ _
  obtain ⟨gm, hgm⟩ : ∃ g, g = w.heap.size := ⟨_, rfl⟩
  have HGm : Hid (w.heap.size ≤ gm) := by rw [hgm]; show _ ≤ _; omega
  rw [← hgm] at Xm
  try rw [← hgm]
  clear hgm
  replace hbw := Below.on hbw hb0
  clear hb0
  have HL : Hid (gm < W0.heap.size) := Xm.out.lt
  obtain ⟨xs, hX⟩ := (H.out.below hbw).ex
  refine (nshl_any s hX H.out.pos k HV.out.2.2).mono ?_
  rintro e2 v1 ⟨ha, hb1⟩
  obtain ⟨p1, m1, z1, rfl, ho1, hn1, hm1⟩ := ha.ok (lt_LIM (L := 64) (by rw [iv_natAbs, Nat.mul_comm, ← HV.out.2.1]; exact HV.out.1) (by decide))
  clear ha
  rw [show (iv s (2 ^ k * x.natAbs)).natAbs = r from by rw [iv_natAbs, HV.out.2.1, Nat.mul_comm]] at hn1
  generalize decide (iv s (2 ^ k * x.natAbs) < 0) = s1
  clear hX
  replace Xm : Hid _ := Xm.out.below hb1
  replace hbw := Below.on hbw hb1
  clear hb1
  have HO : Hid (Own W0.heap.size v1 p1 m1 z1) := ho1
  have HN : Hid (Nf B64 z1 r ∧ m1 ≤ 8192) := ⟨hn1, hm1⟩
  clear ho1 hn1 hm1
  rcases HO.out.word HN.out.1 HV.out.1 with ⟨h0, h1⟩ | ⟨h0, h1, g1, h2, hg1, h3⟩
  · subst h1
    have hr0 : r = 0 := h0
    clear HV
    subst hr0
    obtain ⟨cm0, cm1, fm0, fm1⟩ := Xm.out
    have hnem := Xm.out.lt
    go_wp2_with fail
    go_ret
    exact ⟨rfl, bSet (bSet hbw _ _ _ HGm.out) _ _ _ HGm.out⟩
  · subst h1
    subst h2
    have hgm : gm ≠ g1 := by have := HL.out; omega
    have hgm2 : g1 ≠ gm := fun h => hgm h.symm
    have hg2 : g1 < v1.heap.size := World.block_lt_of_cell? v1 _ h3
    obtain ⟨cm0, cm1, fm0, fm1⟩ := Xm.out
    have hnem := Xm.out.lt
    go_wp2_with fail
    go_ret
    exact ⟨rfl, bSet (bSet hbw _ _ _ HGm.out) _ _ _ HGm.out⟩
end Go.Proofs.YtoalblaklcekeaaGreatDoor

namespace Go.Proofs.YtoalblaklcekeaaGreatDoor
open Go.RowKit Go.Shelf

set_option maxRecDepth 20000 in
set_option maxHeartbeats 8000000 in
theorem nearest_z {f p m l : Int} {S I H sd : Nat} {Be : Int} (_J : Jn f p m l S I H sd Be) {q : Option Addr} {n c : Nat} {w : World} {x e : Int} {s : Bool} (h : ZN w s q n c x) (h0 : x = 0) :
    Calls Tryz.prog 106 #[WV p m l, ZV s q n c, .int .i64 e] w fun en w' => en = .returned (U (rnp l sd Be S I x e)) ∧ Below w.heap.size w w' := by
  have HZN : Hid (ZN w s q n c x) := h
  have h1 : rnp l sd Be S I x e = 0 := by unfold rnp; rw [if_pos h0]
  have HS : Hid (sgnI x = 0) := by rw [h0]; rfl
  rw [h1]
  clear _J h h0 h1
  go_enter Tryz.func106, Tryz.ntmps106
  go_wp2_with fail
  obtain ⟨W0, hW0⟩ : ∃ W0, W0 = ((w.alloc (.cells #[.int .i64 p, .int .i64 m, .int .i64 l] 103)).alloc (.cells #[.bool s, .slice q n c] 26)) := ⟨_, rfl⟩
  have Xg : Hid (B3q W0 (w.heap.size) (.int .i64 p) (.int .i64 m) (.int .i64 l)) := by rw [hW0]; exact ⟨by go_simp, by go_simp, by go_simp, by go_simp, by go_simp, by go_simp⟩
  have Xm : Hid (Box W0 (w.heap.size + 1) (.bool s) (.slice q n c)) := by rw [hW0]; exact ⟨by go_simp, by go_simp, by go_simp, by go_simp⟩
  have hb0 : Below w.heap.size w W0 := by rw [hW0]; exact below2 w _ _
  rw [← hW0]
  clear hW0
  have hbw : Below w.heap.size w w := Below.refl _ _
  obtain ⟨gm, hgm⟩ : ∃ g, g = w.heap.size + 1 := ⟨_, rfl⟩
  have HGm : Hid (w.heap.size ≤ gm) := by rw [hgm]; show _ ≤ _; omega
  rw [← hgm] at Xm
  try rw [← hgm]
  obtain ⟨gg, hgg⟩ : ∃ g, g = w.heap.size := ⟨_, rfl⟩
  have HGg : Hid (w.heap.size ≤ gg) := by rw [hgg]; show _ ≤ _; omega
  rw [← hgg] at Xg
  try rw [← hgg]
  have HGD : Hid (gg ≠ gm ∧ gm ≠ gg) := by rw [hgg, hgm]; exact ⟨by omega, by omega⟩
  clear hgg hgm
  replace hbw := Below.on hbw hb0
  clear hb0
  refine (zsign (HZN.out.below hbw)).mono ?_
  rintro e v1 ⟨rfl, hb1⟩
  rw [HS.out]
  replace Xg : Hid _ := Xg.out.below hb1
  replace Xm : Hid _ := Xm.out.below hb1
  replace hbw := Below.on hbw hb1
  clear hb1
  obtain ⟨cm0, cm1, fm0, fm1⟩ := Xm.out
  have hnem := Xm.out.lt
  go_wp2_with fail
  clear cm0 cm1 fm0 fm1 hnem
  go_ret
  exact ⟨rfl, hbw⟩
set_option maxRecDepth 20000 in
set_option maxHeartbeats 8000000 in
theorem nearest_b {f p m l : Int} {S I H sd : Nat} {Be : Int} (J : Jn f p m l S I H sd Be) {q : Option Addr} {n c : Nat} {w : World} {x e : Int} {s : Bool} (h : ZN w s q n c x) (he : -4194304 ≤ e ∧ e ≤ 4194304) (h0 : x ≠ 0) (ht : Be ≤ e + bitsN x.natAbs - 1) :
    Calls Tryz.prog 106 #[WV p m l, ZV s q n c, .int .i64 e] w fun en w' => en = .returned (U (rnp l sd Be S I x e)) ∧ Below w.heap.size w w' := by
  have HZN : Hid (ZN w s q n c x) := h
  have HJN : Hid (Jn f p m l S I H sd Be) := J
  have hsg : (sgnI x == 0) = false := by
    have : sgnI x ≠ 0 := by rcases sgn3 x with ⟨_, h2⟩ | ⟨h1, _⟩ | ⟨_, h2⟩ <;> omega
    simp [this]
  obtain ⟨sx, hsx⟩ : ∃ sx, sx = sgnI x := ⟨_, rfl⟩
  rw [← hsx] at hsg
  have HSX : Hid (sgnI x = sx) := hsx.symm
  have hbn := (lim_bits x.natAbs).1 h.lim
  have hb0 := bitsN_pos (a := x.natAbs) (by omega)
  have hB1 := bitsN_lt x.natAbs
  have hB2 := bitsN_le x.natAbs (by omega)
  obtain ⟨L, hL⟩ : ∃ L, L = bitsN x.natAbs := ⟨_, rfl⟩
  rw [← hL] at ht
  have HLB : Hid (bitsN x.natAbs = L) := hL.symm
  obtain ⟨s1, hs1⟩ : ∃ s1 : Int, s1 = e + L := ⟨_, rfl⟩
  obtain ⟨top, htop⟩ : ∃ t : Int, t = s1 - 1 := ⟨_, rfl⟩
  rw [← hL] at hbn hb0 hB1 hB2
  have a1 : wrap64 (e + (L : Int)) = s1 := by rw [hs1]; simp only [wrap64]; omega
  have a2 : IntKind.i64.wrap (e + (L : Int)) = s1 := by rw [hs1]; simp [IntKind.wrap, IntKind.signed, IntKind.bits]; omega
  have a3 : wrap64 (s1 - 1) = top := by rw [htop]; simp only [wrap64]; omega
  have a4 : IntKind.i64.wrap (s1 - 1) = top := by rw [htop]; simp [IntKind.wrap, IntKind.signed, IntKind.bits]; omega
  have hneg : decide (x < 0) = s := h.sg.symm
  have d1 : decide (Be ≤ top) = true := decide_eq_true (by omega)
  obtain ⟨r, hr⟩ : ∃ r, r = rnp l sd Be S I x e := ⟨_, rfl⟩
  have HR : Hid ((if s then S + I else I) = r) := by
    show (if s then S + I else I) = r
    rw [hr]; unfold rnp rnz
    rw [if_neg h0, ← hL, if_pos (show Be ≤ e + L - 1 by omega), ← hneg]
    by_cases hx : x < 0
    · rw [decide_eq_true hx, if_pos rfl, if_pos hx]
    · rw [decide_eq_false hx, if_neg (by simp), if_neg hx]
  have HIS : Hid (I < S) := J.jm.pm.fm.lt
  rw [← hr]
  clear J h h0 hsx hbn hb0 hB1 hB2 hL hs1 htop hneg hr ht he
  go_enter Tryz.func106, Tryz.ntmps106
  go_wp2_with fail
  obtain ⟨W0, hW0⟩ : ∃ W0, W0 = ((w.alloc (.cells #[.int .i64 p, .int .i64 m, .int .i64 l] 103)).alloc (.cells #[.bool s, .slice q n c] 26)) := ⟨_, rfl⟩
  have Xg : Hid (B3q W0 (w.heap.size) (.int .i64 p) (.int .i64 m) (.int .i64 l)) := by rw [hW0]; exact ⟨by go_simp, by go_simp, by go_simp, by go_simp, by go_simp, by go_simp⟩
  have Xm : Hid (Box W0 (w.heap.size + 1) (.bool s) (.slice q n c)) := by rw [hW0]; exact ⟨by go_simp, by go_simp, by go_simp, by go_simp⟩
  have hb0 : Below w.heap.size w W0 := by rw [hW0]; exact below2 w _ _
  rw [← hW0]
  clear hW0
  have hbw : Below w.heap.size w w := Below.refl _ _
  obtain ⟨gm, hgm⟩ : ∃ g, g = w.heap.size + 1 := ⟨_, rfl⟩
  have HGm : Hid (w.heap.size ≤ gm) := by rw [hgm]; show _ ≤ _; omega
  rw [← hgm] at Xm
  try rw [← hgm]
  obtain ⟨gg, hgg⟩ : ∃ g, g = w.heap.size := ⟨_, rfl⟩
  have HGg : Hid (w.heap.size ≤ gg) := by rw [hgg]; show _ ≤ _; omega
  rw [← hgg] at Xg
  try rw [← hgg]
  have HGD : Hid (gg ≠ gm ∧ gm ≠ gg) := by rw [hgg, hgm]; exact ⟨by omega, by omega⟩
  clear hgg hgm
  replace hbw := Below.on hbw hb0
  clear hb0
  refine (zsign (HZN.out.below hbw)).mono ?_
  rintro e v1 ⟨rfl, hb1⟩
  rw [HSX.out]
  replace Xg : Hid _ := Xg.out.below hb1
  replace Xm : Hid _ := Xm.out.below hb1
  replace hbw := Below.on hbw hb1
  clear hb1
  obtain ⟨cm0, cm1, fm0, fm1⟩ := Xm.out
  have hnem := Xm.out.lt
  go_wp2_with fail
  clear cm0 cm1 fm0 fm1 hnem
  obtain ⟨xs, hX⟩ := (HZN.out.below hbw).ex
  refine (bits_any hX.at_ (by have := hX.le; omega)).mono ?_
  rintro e2 v2 ⟨rfl, hw⟩
  obtain rfl := hw.symm
  clear hw
  rw [hX.nf.val, HLB.out]
  clear hX
  obtain ⟨cg0, cg1, cg2, fg0, fg1, fg2⟩ := Xg.out
  have hneg : gg < v1.heap.size := World.block_lt_of_cell? v1 _ cg0
  go_wp2_with fail
  clear cg0 cg1 cg2 fg0 fg1 fg2 hneg
  refine (HJN.out.jm.be _).mono ?_
  rintro e v3 ⟨rfl, hb3⟩
  replace Xg : Hid _ := Xg.out.below hb3
  replace Xm : Hid _ := Xm.out.below hb3
  replace hbw := Below.on hbw hb3
  clear hb3
  obtain ⟨cg0, cg1, cg2, fg0, fg1, fg2⟩ := Xg.out
  have hneg : gg < v3.heap.size := World.block_lt_of_cell? v3 _ cg0
  obtain ⟨cm0, cm1, fm0, fm1⟩ := Xm.out
  have hnem := Xm.out.lt
  go_wp2_with fail
  clear cg0 cg1 cg2 fg0 fg1 fg2 hneg
  clear cm0 cm1 fm0 fm1 hnem
  obtain ⟨W5, hW5⟩ : ∃ W1, W1 = v3.drew := ⟨_, rfl⟩
  have hbd : Below v3.heap.size v3 W5 := by rw [hW5]; exact bDrew1 (Below.refl _ _)
  replace Xg : Hid _ := Xg.out.below hbd
  replace Xm : Hid _ := Xm.out.below hbd
  replace hbw := Below.on hbw hbd
  clear hbd
  have HJ : Hid ((fun W' : World => W'.cell? ⟨gg, 0, none⟩ = some (.int .i64 p) ∧ W'.cell? ⟨gg, 1, none⟩ = some (.int .i64 m) ∧ W'.cell? ⟨gg, 2, none⟩ = some (.int .i64 l) ∧ W'.cell? ⟨gm, 0, none⟩ = some (.bool s)) W5) := ⟨Xg.out.c0, Xg.out.c1, Xg.out.c2, Xm.out.c0⟩
  refine wp_region_J (fun W' => W'.cell? ⟨gg, 0, none⟩ = some (.int .i64 p) ∧ W'.cell? ⟨gg, 1, none⟩ = some (.int .i64 m) ∧ W'.cell? ⟨gg, 2, none⟩ = some (.int .i64 l) ∧ W'.cell? ⟨gm, 0, none⟩ = some (.bool s)) (by kernel_rfl) ?_
  rw [← hW5]
  clear hW5
  refine wpJ_take (i := 0) (v := ?v1x0) rfl (by kernel_rfl) (by kernel_rfl) (by kernel_rfl) (fun _ _ _ h => h) (by kernel_rfl) ?hy1x0 HJ.out ?rest1x0
  case hy1x0 => (intro W' hJ; obtain ⟨j0, j1, j2, j3⟩ := hJ; go_simp; first | done | with_reducible rfl)
  refine wpJ_take (i := 1) (v := ?v2x1) rfl (by kernel_rfl) (by kernel_rfl) (by kernel_rfl) (fun _ _ _ h => h) (by kernel_rfl) ?hy2x1 HJ.out ?rest2x1
  case hy2x1 => (intro W' hJ; obtain ⟨j0, j1, j2, j3⟩ := hJ; go_simp; first | done | with_reducible rfl)
  refine wpJ_take (i := 2) (v := ?v3x2) rfl (by kernel_rfl) (by kernel_rfl) (by kernel_rfl) (fun _ _ _ h => h) (by kernel_rfl) ?hy3x2 HJ.out ?rest3x2
  case hy3x2 => (intro W' hJ; obtain ⟨j0, j1, j2, j3⟩ := hJ; go_simp; first | done | with_reducible rfl)
  refine wpJ_take (i := 3) (v := ?v4x3) rfl (by kernel_rfl) (by kernel_rfl) (by kernel_rfl) (fun _ _ _ h => h) (by kernel_rfl) ?hy4x3 HJ.out ?rest4x3
  case hy4x3 => (intro W' hJ; obtain ⟨j0, j1, j2, j3⟩ := hJ; go_simp; first | done | with_reducible rfl)
  refine wpJ_one (i := 4) (by kernel_rfl) rfl (by kernel_rfl) (fun KJ hK => ?_)
  go_simp
  refine (HJN.out.jm.pm.fm.inf _).mono ?_
  rintro e v5 ⟨rfl, hb5⟩
  replace Xg : Hid _ := Xg.out.below hb5
  replace Xm : Hid _ := Xm.out.below hb5
  replace hbw := Below.on hbw hb5
  clear hb5
  refine hK _ _ ⟨Xg.out.c0, Xg.out.c1, Xg.out.c2, Xm.out.c0⟩ ?_
  clear hK
  refine wpJ_one (i := 5) (by kernel_rfl) rfl (by kernel_rfl) (fun KJ hK => ?_)
  go_simp
  refine (HJN.out.jm.pm.fm.sgn s I _ HIS.out).mono ?_
  rintro e v6 ⟨rfl, hb6⟩
  rw [HR.out]
  replace Xg : Hid _ := Xg.out.below hb6
  replace Xm : Hid _ := Xm.out.below hb6
  replace hbw := Below.on hbw hb6
  clear hb6
  clear HJ
  have HJ : Hid ((fun W' : World => W'.cell? ⟨gg, 0, none⟩ = some (.int .i64 p) ∧ W'.cell? ⟨gg, 1, none⟩ = some (.int .i64 m) ∧ W'.cell? ⟨gg, 2, none⟩ = some (.int .i64 l) ∧ W'.cell? ⟨gm, 0, none⟩ = some (.bool s)) v6) := ⟨Xg.out.c0, Xg.out.c1, Xg.out.c2, Xm.out.c0⟩
  refine hK _ _ HJ.out ?_
  clear hK
  refine wpJ_take (i := 6) (v := ?v5x6) rfl (by kernel_rfl) (by kernel_rfl) (by kernel_rfl) (fun _ _ _ h => h) (by kernel_rfl) ?hy5x6 HJ.out ?rest5x6
  case hy5x6 => (intro W' hJ; obtain ⟨j0, j1, j2, j3⟩ := hJ; go_simp; first | done | with_reducible rfl)
  refine wpJ_done (by kernel_rfl) ?_ _
  clear HJ
  go_wp2_with fail
  go_ret
  exact ⟨rfl, hbw⟩
set_option maxRecDepth 20000 in
set_option maxHeartbeats 8000000 in
theorem nearest_n {f p m l : Int} {S I H sd : Nat} {Be : Int} (J : Jn f p m l S I H sd Be) {q : Option Addr} {n c : Nat} {w : World} {x e : Int} {s : Bool} (h : ZN w s q n c x) (he : -4194304 ≤ e ∧ e ≤ 4194304) (h0 : x ≠ 0) (ht : ¬ Be ≤ e + bitsN x.natAbs - 1) (heu : e < max (e + bitsN x.natAbs - 1 - sd) l) (hT : Tab w) :
    Calls Tryz.prog 106 #[WV p m l, ZV s q n c, .int .i64 e] w fun en w' => en = .returned (U (rnp l sd Be S I x e)) ∧ Below w.heap.size w w' := by
  have HZN : Hid (ZN w s q n c x) := h
  have HJN : Hid (Jn f p m l S I H sd Be) := J
  have hsg : (sgnI x == 0) = false := by
    have : sgnI x ≠ 0 := by rcases sgn3 x with ⟨_, h2⟩ | ⟨h1, _⟩ | ⟨_, h2⟩ <;> omega
    simp [this]
  obtain ⟨sx, hsx⟩ : ∃ sx, sx = sgnI x := ⟨_, rfl⟩
  rw [← hsx] at hsg
  have HSX : Hid (sgnI x = sx) := hsx.symm
  have hbn := (lim_bits x.natAbs).1 h.lim
  have hb0 := bitsN_pos (a := x.natAbs) (by omega)
  have hB1 := bitsN_lt x.natAbs
  have hB2 := bitsN_le x.natAbs (by omega)
  obtain ⟨L, hL⟩ : ∃ L, L = bitsN x.natAbs := ⟨_, rfl⟩
  rw [← hL] at ht heu
  have HLB : Hid (bitsN x.natAbs = L) := hL.symm
  obtain ⟨s1, hs1⟩ : ∃ s1 : Int, s1 = e + L := ⟨_, rfl⟩
  obtain ⟨top, htop⟩ : ∃ t : Int, t = s1 - 1 := ⟨_, rfl⟩
  rw [← hL] at hbn hb0 hB1 hB2
  have a1 : wrap64 (e + (L : Int)) = s1 := by rw [hs1]; simp only [wrap64]; omega
  have a2 : IntKind.i64.wrap (e + (L : Int)) = s1 := by rw [hs1]; simp [IntKind.wrap, IntKind.signed, IntKind.bits]; omega
  have a3 : wrap64 (s1 - 1) = top := by rw [htop]; simp only [wrap64]; omega
  have a4 : IntKind.i64.wrap (s1 - 1) = top := by rw [htop]; simp [IntKind.wrap, IntKind.signed, IntKind.bits]; omega
  have hneg : decide (x < 0) = s := h.sg.symm
  have d1 : decide (Be ≤ top) = false := decide_eq_false (by omega)
  have hRN := rn_of J (n := x.natAbs) (e := e) (by omega) he.1
  have hsl := J.jm.sl
  have hlo := J.jm.pm.lo
  have h9 := J.jm.pm.h9
  have hbu := J.jm.bu
  have hlt := J.jm.pm.fm.lt
  obtain ⟨u, hu⟩ : ∃ u : Int, u = max (top - sd) l := ⟨_, rfl⟩
  obtain ⟨k, hk⟩ : ∃ k : Nat, k = (u - e).toNat := ⟨_, rfl⟩
  obtain ⟨Q, hQ⟩ : ∃ Q : Nat, Q = (u - l).toNat := ⟨_, rfl⟩
  obtain ⟨y, hy⟩ : ∃ y : Nat, y = neN x.natAbs (2 ^ k) := ⟨_, rfl⟩
  obtain ⟨nn, hnn⟩ : ∃ nn : Int, nn = e - u := ⟨_, rfl⟩
  have hrz : rnz l sd Be I x.natAbs e = Q * H + y := by
    unfold rnz
    rw [← hL, if_neg (show ¬ Be ≤ e + L - 1 by omega), show e + (L : Int) - 1 - sd = top - sd from by omega, ← hu, ← hQ, ← J.jm.hs, if_pos (show e < u by omega), ← hk, ← hy]
  have hy2 : y ≤ 2 * H := by
    have g1 := hRN.le
    rw [hrz] at g1
    have g2 : y = x.natAbs / 2 ^ k + (neUp x.natAbs (2 ^ k)).toNat := by rw [hy]; rfl
    have g3 := Bool.toNat_le (neUp x.natAbs (2 ^ k))
    have g4 : x.natAbs / 2 ^ k < 2 * H := by
      refine Nat.div_lt_of_lt_mul (Nat.lt_of_lt_of_le hB1 ?_)
      rw [J.jm.hs, ← Nat.pow_succ', ← Nat.pow_add]
      exact Nat.pow_le_pow_right (by omega) (by omega)
    omega
  obtain ⟨r, hr⟩ : ∃ r, r = rnp l sd Be S I x e := ⟨_, rfl⟩
  have hQB : (Q : Int) < Be - l - sd := by have := J.hB; omega
  have HR : Hid ((if s then S + (Q * H + y) else Q * H + y) = r ∧ Q * H + y < S) := by
    refine ⟨?_, by rw [← hrz]; exact Nat.lt_of_le_of_lt hRN.le hlt⟩
    rw [hr]; unfold rnp
    rw [if_neg h0, hrz, ← hneg]
    by_cases hx : x < 0
    · rw [decide_eq_true hx, if_pos rfl, if_pos hx]
    · rw [decide_eq_false hx, if_neg (by simp), if_neg hx]
  have HTP : Hid (-1000000000000 ≤ top ∧ top ≤ 5000 ∧ max (top - sd) l = u) := ⟨by omega, by omega, hu.symm⟩
  have HSZ : Hid (u = l + Q ∧ Q < 2046 ∧ (Q : Int) < Be - l - sd ∧ y ≤ 2 * H) := ⟨by omega, by have := J.hB9; omega, hQB, hy2⟩
  have HMU : Hid (nn = -(k : Int) ∧ (0 < k ∧ k ≤ 4611686018427387904) ∧ y = neN x.natAbs (2 ^ k) ∧ y < B64) := ⟨by omega, by omega, hy, by rw [B64_eq]; omega⟩
  have a5 : wrap64 (e - u) = nn := by rw [hnn]; simp only [wrap64]; omega
  have a6 : IntKind.i64.wrap (e - u) = nn := by rw [hnn]; simp [IntKind.wrap, IntKind.signed, IntKind.bits]; omega
  rw [← hr]
  have TB : Hid (Tab w) := hT
  clear J h h0 hT hsx hbn hb0 hB1 hB2 hL hs1 htop hneg hr ht he hRN hsl hlo h9 hbu hlt hu hk hQ hy hnn hrz hy2 hQB heu
  go_enter Tryz.func106, Tryz.ntmps106
  go_wp2_with fail
  obtain ⟨W0, hW0⟩ : ∃ W0, W0 = ((w.alloc (.cells #[.int .i64 p, .int .i64 m, .int .i64 l] 103)).alloc (.cells #[.bool s, .slice q n c] 26)) := ⟨_, rfl⟩
  have Xg : Hid (B3q W0 (w.heap.size) (.int .i64 p) (.int .i64 m) (.int .i64 l)) := by rw [hW0]; exact ⟨by go_simp, by go_simp, by go_simp, by go_simp, by go_simp, by go_simp⟩
  have Xm : Hid (Box W0 (w.heap.size + 1) (.bool s) (.slice q n c)) := by rw [hW0]; exact ⟨by go_simp, by go_simp, by go_simp, by go_simp⟩
  have hb0 : Below w.heap.size w W0 := by rw [hW0]; exact below2 w _ _
  rw [← hW0]
  clear hW0
  have hbw : Below w.heap.size w w := Below.refl _ _
  obtain ⟨gm, hgm⟩ : ∃ g, g = w.heap.size + 1 := ⟨_, rfl⟩
  have HGm : Hid (w.heap.size ≤ gm) := by rw [hgm]; show _ ≤ _; omega
  rw [← hgm] at Xm
  try rw [← hgm]
  obtain ⟨gg, hgg⟩ : ∃ g, g = w.heap.size := ⟨_, rfl⟩
  have HGg : Hid (w.heap.size ≤ gg) := by rw [hgg]; show _ ≤ _; omega
  rw [← hgg] at Xg
  try rw [← hgg]
  have HGD : Hid (gg ≠ gm ∧ gm ≠ gg) := by rw [hgg, hgm]; exact ⟨by omega, by omega⟩
  clear hgg hgm
  replace hbw := Below.on hbw hb0
  clear hb0
  refine (zsign (HZN.out.below hbw)).mono ?_
  rintro e v1 ⟨rfl, hb1⟩
  rw [HSX.out]
  replace Xg : Hid _ := Xg.out.below hb1
  replace Xm : Hid _ := Xm.out.below hb1
  replace hbw := Below.on hbw hb1
  clear hb1
  obtain ⟨cm0, cm1, fm0, fm1⟩ := Xm.out
  have hnem := Xm.out.lt
  go_wp2_with fail
  clear cm0 cm1 fm0 fm1 hnem
  obtain ⟨xs, hX⟩ := (HZN.out.below hbw).ex
  refine (bits_any hX.at_ (by have := hX.le; omega)).mono ?_
  rintro e2 v2 ⟨rfl, hw⟩
  obtain rfl := hw.symm
  clear hw
  rw [hX.nf.val, HLB.out]
  clear hX
  obtain ⟨cg0, cg1, cg2, fg0, fg1, fg2⟩ := Xg.out
  have hneg : gg < v1.heap.size := World.block_lt_of_cell? v1 _ cg0
  go_wp2_with fail
  clear cg0 cg1 cg2 fg0 fg1 fg2 hneg
  refine (HJN.out.jm.be _).mono ?_
  rintro e v3 ⟨rfl, hb3⟩
  replace Xg : Hid _ := Xg.out.below hb3
  replace Xm : Hid _ := Xm.out.below hb3
  replace hbw := Below.on hbw hb3
  clear hb3
  obtain ⟨cg0, cg1, cg2, fg0, fg1, fg2⟩ := Xg.out
  have hneg : gg < v3.heap.size := World.block_lt_of_cell? v3 _ cg0
  obtain ⟨cm0, cm1, fm0, fm1⟩ := Xm.out
  have hnem := Xm.out.lt
  go_wp2_with fail
  clear cg0 cg1 cg2 fg0 fg1 fg2 hneg
  clear cm0 cm1 fm0 fm1 hnem
  refine (HJN.out.jm.un top _ HTP.out.1 HTP.out.2.1).mono ?_
  rintro e v4 ⟨rfl, hb4⟩
  rw [HTP.out.2.2]
  replace Xg : Hid _ := Xg.out.below hb4
  replace Xm : Hid _ := Xm.out.below hb4
  replace hbw := Below.on hbw hb4
  clear hb4
  obtain ⟨cg0, cg1, cg2, fg0, fg1, fg2⟩ := Xg.out
  have hneg : gg < v4.heap.size := World.block_lt_of_cell? v4 _ cg0
  obtain ⟨cm0, cm1, fm0, fm1⟩ := Xm.out
  have hnem := Xm.out.lt
  go_wp2_with fail
  clear cg0 cg1 cg2 fg0 fg1 fg2 hneg
  clear cm0 cm1 fm0 fm1 hnem
  obtain ⟨W5, hW5⟩ : ∃ W1, W1 = v4.drew := ⟨_, rfl⟩
  have hbd : Below v4.heap.size v4 W5 := by rw [hW5]; exact bDrew1 (Below.refl _ _)
  replace Xg : Hid _ := Xg.out.below hbd
  replace Xm : Hid _ := Xm.out.below hbd
  replace hbw := Below.on hbw hbd
  clear hbd
  have HJ : Hid ((fun W' : World => W'.cell? ⟨gg, 0, none⟩ = some (.int .i64 p) ∧ W'.cell? ⟨gg, 1, none⟩ = some (.int .i64 m) ∧ W'.cell? ⟨gg, 2, none⟩ = some (.int .i64 l) ∧ W'.cell? ⟨gm, 0, none⟩ = some (.bool s) ∧ W'.cell? ⟨gm, 1, none⟩ = some (.slice q n c)) W5) := ⟨Xg.out.c0, Xg.out.c1, Xg.out.c2, Xm.out.c0, Xm.out.c1⟩
  refine wp_region_J (fun W' => W'.cell? ⟨gg, 0, none⟩ = some (.int .i64 p) ∧ W'.cell? ⟨gg, 1, none⟩ = some (.int .i64 m) ∧ W'.cell? ⟨gg, 2, none⟩ = some (.int .i64 l) ∧ W'.cell? ⟨gm, 0, none⟩ = some (.bool s) ∧ W'.cell? ⟨gm, 1, none⟩ = some (.slice q n c)) (by kernel_rfl) ?_
  rw [← hW5]
  clear hW5
  refine wpJ_take (i := 0) (v := ?v6x0) rfl (by kernel_rfl) (by kernel_rfl) (by kernel_rfl) (fun _ _ _ h => h) (by kernel_rfl) ?hy6x0 HJ.out ?rest6x0
  case hy6x0 => (intro W' hJ; obtain ⟨j0, j1, j2, j3, j4⟩ := hJ; go_simp; first | done | with_reducible rfl)
  refine wpJ_take (i := 1) (v := ?v7x1) rfl (by kernel_rfl) (by kernel_rfl) (by kernel_rfl) (fun _ _ _ h => h) (by kernel_rfl) ?hy7x1 HJ.out ?rest7x1
  case hy7x1 => (intro W' hJ; obtain ⟨j0, j1, j2, j3, j4⟩ := hJ; go_simp; first | done | with_reducible rfl)
  refine wpJ_take (i := 2) (v := ?v8x2) rfl (by kernel_rfl) (by kernel_rfl) (by kernel_rfl) (fun _ _ _ h => h) (by kernel_rfl) ?hy8x2 HJ.out ?rest8x2
  case hy8x2 => (intro W' hJ; obtain ⟨j0, j1, j2, j3, j4⟩ := hJ; go_simp; first | done | with_reducible rfl)
  refine wpJ_take (i := 3) (v := ?v9x3) rfl (by kernel_rfl) (by kernel_rfl) (by kernel_rfl) (fun _ _ _ h => h) (by kernel_rfl) ?hy9x3 HJ.out ?rest9x3
  case hy9x3 => (intro W' hJ; obtain ⟨j0, j1, j2, j3, j4⟩ := hJ; go_simp; first | done | with_reducible rfl)
  refine wpJ_take (i := 4) (v := ?v10x4) rfl (by kernel_rfl) (by kernel_rfl) (by kernel_rfl) (fun _ _ _ h => h) (by kernel_rfl) ?hy10x4 HJ.out ?rest10x4
  case hy10x4 => (intro W' hJ; obtain ⟨j0, j1, j2, j3, j4⟩ := hJ; go_simp; first | done | with_reducible rfl)
  refine wpJ_take (i := 5) (v := ?v11x5) rfl (by kernel_rfl) (by kernel_rfl) (by kernel_rfl) (fun _ _ _ h => h) (by kernel_rfl) ?hy11x5 HJ.out ?rest11x5
  case hy11x5 => (intro W' hJ; obtain ⟨j0, j1, j2, j3, j4⟩ := hJ; go_simp; first | done | with_reducible rfl)
  refine wpJ_take (i := 6) (v := ?v12x6) rfl (by kernel_rfl) (by kernel_rfl) (by kernel_rfl) (fun _ _ _ h => h) (by kernel_rfl) ?hy12x6 HJ.out ?rest12x6
  case hy12x6 => (intro W' hJ; obtain ⟨j0, j1, j2, j3, j4⟩ := hJ; go_simp; first | done | with_reducible rfl)
  refine wpJ_take (i := 7) (v := ?v13x7) rfl (by kernel_rfl) (by kernel_rfl) (by kernel_rfl) (fun _ _ _ h => h) (by kernel_rfl) ?hy13x7 HJ.out ?rest13x7
  case hy13x7 => (intro W' hJ; obtain ⟨j0, j1, j2, j3, j4⟩ := hJ; go_simp; first | done | with_reducible rfl)
  refine wpJ_take (i := 9) (v := ?v14x9) rfl (by kernel_rfl) (by kernel_rfl) (by kernel_rfl) (fun _ _ _ h => h) (by kernel_rfl) ?hy14x9 HJ.out ?rest14x9
  case hy14x9 => (intro W' hJ; obtain ⟨j0, j1, j2, j3, j4⟩ := hJ; go_simp; first | done | with_reducible rfl)
  refine wpJ_one (i := 8) (by kernel_rfl) rfl (by kernel_rfl) (fun KJ hK => ?_)
  go_simp
  refine (multiple_n (HZN.out.below hbw) k y nn HMU.out.1 HMU.out.2.1 HMU.out.2.2.1 HMU.out.2.2.2 (TB.out.below hbw)).mono ?_
  rintro e v5 ⟨rfl, hb5⟩
  replace Xg : Hid _ := Xg.out.below hb5
  replace Xm : Hid _ := Xm.out.below hb5
  replace hbw := Below.on hbw hb5
  clear hb5
  refine hK _ _ ⟨Xg.out.c0, Xg.out.c1, Xg.out.c2, Xm.out.c0, Xm.out.c1⟩ ?_
  clear hK
  refine wpJ_one (i := 10) (by kernel_rfl) rfl (by kernel_rfl) (fun KJ hK => ?_)
  go_simp
  refine (HJN.out.jm.sz y Q u _ HSZ.out.1 HSZ.out.2.1 HSZ.out.2.2.1 HSZ.out.2.2.2).mono ?_
  rintro e v6 ⟨rfl, hb6⟩
  replace Xg : Hid _ := Xg.out.below hb6
  replace Xm : Hid _ := Xm.out.below hb6
  replace hbw := Below.on hbw hb6
  clear hb6
  refine hK _ _ ⟨Xg.out.c0, Xg.out.c1, Xg.out.c2, Xm.out.c0, Xm.out.c1⟩ ?_
  clear hK
  refine wpJ_one (i := 11) (by kernel_rfl) rfl (by kernel_rfl) (fun KJ hK => ?_)
  go_simp
  refine (HJN.out.jm.pm.fm.sgn s (Q * H + y) _ HR.out.2).mono ?_
  rintro e v7 ⟨rfl, hb7⟩
  rw [HR.out.1]
  replace Xg : Hid _ := Xg.out.below hb7
  replace Xm : Hid _ := Xm.out.below hb7
  replace hbw := Below.on hbw hb7
  clear hb7
  clear HJ
  have HJ : Hid ((fun W' : World => W'.cell? ⟨gg, 0, none⟩ = some (.int .i64 p) ∧ W'.cell? ⟨gg, 1, none⟩ = some (.int .i64 m) ∧ W'.cell? ⟨gg, 2, none⟩ = some (.int .i64 l) ∧ W'.cell? ⟨gm, 0, none⟩ = some (.bool s) ∧ W'.cell? ⟨gm, 1, none⟩ = some (.slice q n c)) v7) := ⟨Xg.out.c0, Xg.out.c1, Xg.out.c2, Xm.out.c0, Xm.out.c1⟩
  refine hK _ _ HJ.out ?_
  clear hK
  refine wpJ_take (i := 12) (v := ?v15x12) rfl (by kernel_rfl) (by kernel_rfl) (by kernel_rfl) (fun _ _ _ h => h) (by kernel_rfl) ?hy15x12 HJ.out ?rest15x12
  case hy15x12 => (intro W' hJ; obtain ⟨j0, j1, j2, j3, j4⟩ := hJ; go_simp; first | done | with_reducible rfl)
  refine wpJ_done (by kernel_rfl) ?_ _
  clear HJ
  go_wp2_with fail
  go_ret
  exact ⟨rfl, hbw⟩
set_option maxRecDepth 20000 in
set_option maxHeartbeats 8000000 in
theorem nearest_p {f p m l : Int} {S I H sd : Nat} {Be : Int} (J : Jn f p m l S I H sd Be) {q : Option Addr} {n c : Nat} {w : World} {x e : Int} {s : Bool} (h : ZN w s q n c x) (he : -4194304 ≤ e ∧ e ≤ 4194304) (h0 : x ≠ 0) (ht : ¬ Be ≤ e + bitsN x.natAbs - 1) (heu : ¬ e < max (e + bitsN x.natAbs - 1 - sd) l) :
    Calls Tryz.prog 106 #[WV p m l, ZV s q n c, .int .i64 e] w fun en w' => en = .returned (U (rnp l sd Be S I x e)) ∧ Below w.heap.size w w' := by
  have HZN : Hid (ZN w s q n c x) := h
  have HJN : Hid (Jn f p m l S I H sd Be) := J
  have hsg : (sgnI x == 0) = false := by
    have : sgnI x ≠ 0 := by rcases sgn3 x with ⟨_, h2⟩ | ⟨h1, _⟩ | ⟨_, h2⟩ <;> omega
    simp [this]
  obtain ⟨sx, hsx⟩ : ∃ sx, sx = sgnI x := ⟨_, rfl⟩
  rw [← hsx] at hsg
  have HSX : Hid (sgnI x = sx) := hsx.symm
  have hbn := (lim_bits x.natAbs).1 h.lim
  have hb0 := bitsN_pos (a := x.natAbs) (by omega)
  have hB1 := bitsN_lt x.natAbs
  have hB2 := bitsN_le x.natAbs (by omega)
  obtain ⟨L, hL⟩ : ∃ L, L = bitsN x.natAbs := ⟨_, rfl⟩
  rw [← hL] at ht heu
  have HLB : Hid (bitsN x.natAbs = L) := hL.symm
  obtain ⟨s1, hs1⟩ : ∃ s1 : Int, s1 = e + L := ⟨_, rfl⟩
  obtain ⟨top, htop⟩ : ∃ t : Int, t = s1 - 1 := ⟨_, rfl⟩
  rw [← hL] at hbn hb0 hB1 hB2
  have a1 : wrap64 (e + (L : Int)) = s1 := by rw [hs1]; simp only [wrap64]; omega
  have a2 : IntKind.i64.wrap (e + (L : Int)) = s1 := by rw [hs1]; simp [IntKind.wrap, IntKind.signed, IntKind.bits]; omega
  have a3 : wrap64 (s1 - 1) = top := by rw [htop]; simp only [wrap64]; omega
  have a4 : IntKind.i64.wrap (s1 - 1) = top := by rw [htop]; simp [IntKind.wrap, IntKind.signed, IntKind.bits]; omega
  have hneg : decide (x < 0) = s := h.sg.symm
  have d1 : decide (Be ≤ top) = false := decide_eq_false (by omega)
  have hRN := rn_of J (n := x.natAbs) (e := e) (by omega) he.1
  have hsl := J.jm.sl
  have hlo := J.jm.pm.lo
  have h9 := J.jm.pm.h9
  have hbu := J.jm.bu
  have hlt := J.jm.pm.fm.lt
  obtain ⟨u, hu⟩ : ∃ u : Int, u = max (top - sd) l := ⟨_, rfl⟩
  obtain ⟨k, hk⟩ : ∃ k : Nat, k = (e - u).toNat := ⟨_, rfl⟩
  obtain ⟨Q, hQ⟩ : ∃ Q : Nat, Q = (u - l).toNat := ⟨_, rfl⟩
  obtain ⟨y, hy⟩ : ∃ y : Nat, y = x.natAbs * 2 ^ k := ⟨_, rfl⟩
  obtain ⟨nn, hnn⟩ : ∃ nn : Int, nn = e - u := ⟨_, rfl⟩
  have hrz : rnz l sd Be I x.natAbs e = Q * H + y := by
    unfold rnz
    rw [← hL, if_neg (show ¬ Be ≤ e + L - 1 by omega), show e + (L : Int) - 1 - sd = top - sd from by omega, ← hu, ← hQ, ← J.jm.hs, if_neg (show ¬ e < u by omega), ← hk, ← hy]
  have hy2 : y ≤ 2 * H := by
    have g4 : x.natAbs * 2 ^ k < 2 ^ L * 2 ^ k := Nat.mul_lt_mul_of_pos_right hB1 (Nat.pow_pos (by omega))
    have g5 : 2 ^ L * 2 ^ k ≤ 2 * H := by
      rw [J.jm.hs, ← Nat.pow_succ', ← Nat.pow_add]
      exact Nat.pow_le_pow_right (by omega) (by omega)
    omega
  obtain ⟨r, hr⟩ : ∃ r, r = rnp l sd Be S I x e := ⟨_, rfl⟩
  have hQB : (Q : Int) < Be - l - sd := by have := J.hB; omega
  have HR : Hid ((if s then S + (Q * H + y) else Q * H + y) = r ∧ Q * H + y < S) := by
    refine ⟨?_, by rw [← hrz]; exact Nat.lt_of_le_of_lt hRN.le hlt⟩
    rw [hr]; unfold rnp
    rw [if_neg h0, hrz, ← hneg]
    by_cases hx : x < 0
    · rw [decide_eq_true hx, if_pos rfl, if_pos hx]
    · rw [decide_eq_false hx, if_neg (by simp), if_neg hx]
  have HTP : Hid (-1000000000000 ≤ top ∧ top ≤ 5000 ∧ max (top - sd) l = u) := ⟨by omega, by omega, hu.symm⟩
  have HSZ : Hid (u = l + Q ∧ Q < 2046 ∧ (Q : Int) < Be - l - sd ∧ y ≤ 2 * H) := ⟨by omega, by have := J.hB9; omega, hQB, hy2⟩
  have HMU : Hid (nn = (k : Int) ∧ k ≤ 4611686018427387904 ∧ y = x.natAbs * 2 ^ k ∧ y < B64) := ⟨by omega, by omega, hy, by rw [B64_eq]; omega⟩
  have a5 : wrap64 (e - u) = nn := by rw [hnn]; simp only [wrap64]; omega
  have a6 : IntKind.i64.wrap (e - u) = nn := by rw [hnn]; simp [IntKind.wrap, IntKind.signed, IntKind.bits]; omega
  rw [← hr]
  clear J h h0 hsx hbn hb0 hB1 hB2 hL hs1 htop hneg hr ht he hRN hsl hlo h9 hbu hlt hu hk hQ hy hnn hrz hy2 hQB heu
  go_enter Tryz.func106, Tryz.ntmps106
  go_wp2_with fail
  obtain ⟨W0, hW0⟩ : ∃ W0, W0 = ((w.alloc (.cells #[.int .i64 p, .int .i64 m, .int .i64 l] 103)).alloc (.cells #[.bool s, .slice q n c] 26)) := ⟨_, rfl⟩
  have Xg : Hid (B3q W0 (w.heap.size) (.int .i64 p) (.int .i64 m) (.int .i64 l)) := by rw [hW0]; exact ⟨by go_simp, by go_simp, by go_simp, by go_simp, by go_simp, by go_simp⟩
  have Xm : Hid (Box W0 (w.heap.size + 1) (.bool s) (.slice q n c)) := by rw [hW0]; exact ⟨by go_simp, by go_simp, by go_simp, by go_simp⟩
  have hb0 : Below w.heap.size w W0 := by rw [hW0]; exact below2 w _ _
  rw [← hW0]
  clear hW0
  have hbw : Below w.heap.size w w := Below.refl _ _
  obtain ⟨gm, hgm⟩ : ∃ g, g = w.heap.size + 1 := ⟨_, rfl⟩
  have HGm : Hid (w.heap.size ≤ gm) := by rw [hgm]; show _ ≤ _; omega
  rw [← hgm] at Xm
  try rw [← hgm]
  obtain ⟨gg, hgg⟩ : ∃ g, g = w.heap.size := ⟨_, rfl⟩
  have HGg : Hid (w.heap.size ≤ gg) := by rw [hgg]; show _ ≤ _; omega
  rw [← hgg] at Xg
  try rw [← hgg]
  have HGD : Hid (gg ≠ gm ∧ gm ≠ gg) := by rw [hgg, hgm]; exact ⟨by omega, by omega⟩
  clear hgg hgm
  replace hbw := Below.on hbw hb0
  clear hb0
  refine (zsign (HZN.out.below hbw)).mono ?_
  rintro e v1 ⟨rfl, hb1⟩
  rw [HSX.out]
  replace Xg : Hid _ := Xg.out.below hb1
  replace Xm : Hid _ := Xm.out.below hb1
  replace hbw := Below.on hbw hb1
  clear hb1
  obtain ⟨cm0, cm1, fm0, fm1⟩ := Xm.out
  have hnem := Xm.out.lt
  go_wp2_with fail
  clear cm0 cm1 fm0 fm1 hnem
  obtain ⟨xs, hX⟩ := (HZN.out.below hbw).ex
  refine (bits_any hX.at_ (by have := hX.le; omega)).mono ?_
  rintro e2 v2 ⟨rfl, hw⟩
  obtain rfl := hw.symm
  clear hw
  rw [hX.nf.val, HLB.out]
  clear hX
  obtain ⟨cg0, cg1, cg2, fg0, fg1, fg2⟩ := Xg.out
  have hneg : gg < v1.heap.size := World.block_lt_of_cell? v1 _ cg0
  go_wp2_with fail
  clear cg0 cg1 cg2 fg0 fg1 fg2 hneg
  refine (HJN.out.jm.be _).mono ?_
  rintro e v3 ⟨rfl, hb3⟩
  replace Xg : Hid _ := Xg.out.below hb3
  replace Xm : Hid _ := Xm.out.below hb3
  replace hbw := Below.on hbw hb3
  clear hb3
  obtain ⟨cg0, cg1, cg2, fg0, fg1, fg2⟩ := Xg.out
  have hneg : gg < v3.heap.size := World.block_lt_of_cell? v3 _ cg0
  obtain ⟨cm0, cm1, fm0, fm1⟩ := Xm.out
  have hnem := Xm.out.lt
  go_wp2_with fail
  clear cg0 cg1 cg2 fg0 fg1 fg2 hneg
  clear cm0 cm1 fm0 fm1 hnem
  refine (HJN.out.jm.un top _ HTP.out.1 HTP.out.2.1).mono ?_
  rintro e v4 ⟨rfl, hb4⟩
  rw [HTP.out.2.2]
  replace Xg : Hid _ := Xg.out.below hb4
  replace Xm : Hid _ := Xm.out.below hb4
  replace hbw := Below.on hbw hb4
  clear hb4
  obtain ⟨cg0, cg1, cg2, fg0, fg1, fg2⟩ := Xg.out
  have hneg : gg < v4.heap.size := World.block_lt_of_cell? v4 _ cg0
  obtain ⟨cm0, cm1, fm0, fm1⟩ := Xm.out
  have hnem := Xm.out.lt
  go_wp2_with fail
  clear cg0 cg1 cg2 fg0 fg1 fg2 hneg
  clear cm0 cm1 fm0 fm1 hnem
  obtain ⟨W5, hW5⟩ : ∃ W1, W1 = v4.drew := ⟨_, rfl⟩
  have hbd : Below v4.heap.size v4 W5 := by rw [hW5]; exact bDrew1 (Below.refl _ _)
  replace Xg : Hid _ := Xg.out.below hbd
  replace Xm : Hid _ := Xm.out.below hbd
  replace hbw := Below.on hbw hbd
  clear hbd
  have HJ : Hid ((fun W' : World => W'.cell? ⟨gg, 0, none⟩ = some (.int .i64 p) ∧ W'.cell? ⟨gg, 1, none⟩ = some (.int .i64 m) ∧ W'.cell? ⟨gg, 2, none⟩ = some (.int .i64 l) ∧ W'.cell? ⟨gm, 0, none⟩ = some (.bool s) ∧ W'.cell? ⟨gm, 1, none⟩ = some (.slice q n c)) W5) := ⟨Xg.out.c0, Xg.out.c1, Xg.out.c2, Xm.out.c0, Xm.out.c1⟩
  refine wp_region_J (fun W' => W'.cell? ⟨gg, 0, none⟩ = some (.int .i64 p) ∧ W'.cell? ⟨gg, 1, none⟩ = some (.int .i64 m) ∧ W'.cell? ⟨gg, 2, none⟩ = some (.int .i64 l) ∧ W'.cell? ⟨gm, 0, none⟩ = some (.bool s) ∧ W'.cell? ⟨gm, 1, none⟩ = some (.slice q n c)) (by kernel_rfl) ?_
  rw [← hW5]
  clear hW5
  refine wpJ_take (i := 0) (v := ?v16x0) rfl (by kernel_rfl) (by kernel_rfl) (by kernel_rfl) (fun _ _ _ h => h) (by kernel_rfl) ?hy16x0 HJ.out ?rest16x0
  case hy16x0 => (intro W' hJ; obtain ⟨j0, j1, j2, j3, j4⟩ := hJ; go_simp; first | done | with_reducible rfl)
  refine wpJ_take (i := 1) (v := ?v17x1) rfl (by kernel_rfl) (by kernel_rfl) (by kernel_rfl) (fun _ _ _ h => h) (by kernel_rfl) ?hy17x1 HJ.out ?rest17x1
  case hy17x1 => (intro W' hJ; obtain ⟨j0, j1, j2, j3, j4⟩ := hJ; go_simp; first | done | with_reducible rfl)
  refine wpJ_take (i := 2) (v := ?v18x2) rfl (by kernel_rfl) (by kernel_rfl) (by kernel_rfl) (fun _ _ _ h => h) (by kernel_rfl) ?hy18x2 HJ.out ?rest18x2
  case hy18x2 => (intro W' hJ; obtain ⟨j0, j1, j2, j3, j4⟩ := hJ; go_simp; first | done | with_reducible rfl)
  refine wpJ_take (i := 3) (v := ?v19x3) rfl (by kernel_rfl) (by kernel_rfl) (by kernel_rfl) (fun _ _ _ h => h) (by kernel_rfl) ?hy19x3 HJ.out ?rest19x3
  case hy19x3 => (intro W' hJ; obtain ⟨j0, j1, j2, j3, j4⟩ := hJ; go_simp; first | done | with_reducible rfl)
  refine wpJ_take (i := 4) (v := ?v20x4) rfl (by kernel_rfl) (by kernel_rfl) (by kernel_rfl) (fun _ _ _ h => h) (by kernel_rfl) ?hy20x4 HJ.out ?rest20x4
  case hy20x4 => (intro W' hJ; obtain ⟨j0, j1, j2, j3, j4⟩ := hJ; go_simp; first | done | with_reducible rfl)
  refine wpJ_take (i := 5) (v := ?v21x5) rfl (by kernel_rfl) (by kernel_rfl) (by kernel_rfl) (fun _ _ _ h => h) (by kernel_rfl) ?hy21x5 HJ.out ?rest21x5
  case hy21x5 => (intro W' hJ; obtain ⟨j0, j1, j2, j3, j4⟩ := hJ; go_simp; first | done | with_reducible rfl)
  refine wpJ_take (i := 6) (v := ?v22x6) rfl (by kernel_rfl) (by kernel_rfl) (by kernel_rfl) (fun _ _ _ h => h) (by kernel_rfl) ?hy22x6 HJ.out ?rest22x6
  case hy22x6 => (intro W' hJ; obtain ⟨j0, j1, j2, j3, j4⟩ := hJ; go_simp; first | done | with_reducible rfl)
  refine wpJ_take (i := 7) (v := ?v23x7) rfl (by kernel_rfl) (by kernel_rfl) (by kernel_rfl) (fun _ _ _ h => h) (by kernel_rfl) ?hy23x7 HJ.out ?rest23x7
  case hy23x7 => (intro W' hJ; obtain ⟨j0, j1, j2, j3, j4⟩ := hJ; go_simp; first | done | with_reducible rfl)
  refine wpJ_take (i := 9) (v := ?v24x9) rfl (by kernel_rfl) (by kernel_rfl) (by kernel_rfl) (fun _ _ _ h => h) (by kernel_rfl) ?hy24x9 HJ.out ?rest24x9
  case hy24x9 => (intro W' hJ; obtain ⟨j0, j1, j2, j3, j4⟩ := hJ; go_simp; first | done | with_reducible rfl)
  refine wpJ_one (i := 8) (by kernel_rfl) rfl (by kernel_rfl) (fun KJ hK => ?_)
  go_simp
  refine (multiple_p (HZN.out.below hbw) k y nn HMU.out.1 HMU.out.2.1 HMU.out.2.2.1 HMU.out.2.2.2).mono ?_
  rintro e v5 ⟨rfl, hb5⟩
  replace Xg : Hid _ := Xg.out.below hb5
  replace Xm : Hid _ := Xm.out.below hb5
  replace hbw := Below.on hbw hb5
  clear hb5
  refine hK _ _ ⟨Xg.out.c0, Xg.out.c1, Xg.out.c2, Xm.out.c0, Xm.out.c1⟩ ?_
  clear hK
  refine wpJ_one (i := 10) (by kernel_rfl) rfl (by kernel_rfl) (fun KJ hK => ?_)
  go_simp
  refine (HJN.out.jm.sz y Q u _ HSZ.out.1 HSZ.out.2.1 HSZ.out.2.2.1 HSZ.out.2.2.2).mono ?_
  rintro e v6 ⟨rfl, hb6⟩
  replace Xg : Hid _ := Xg.out.below hb6
  replace Xm : Hid _ := Xm.out.below hb6
  replace hbw := Below.on hbw hb6
  clear hb6
  refine hK _ _ ⟨Xg.out.c0, Xg.out.c1, Xg.out.c2, Xm.out.c0, Xm.out.c1⟩ ?_
  clear hK
  refine wpJ_one (i := 11) (by kernel_rfl) rfl (by kernel_rfl) (fun KJ hK => ?_)
  go_simp
  refine (HJN.out.jm.pm.fm.sgn s (Q * H + y) _ HR.out.2).mono ?_
  rintro e v7 ⟨rfl, hb7⟩
  rw [HR.out.1]
  replace Xg : Hid _ := Xg.out.below hb7
  replace Xm : Hid _ := Xm.out.below hb7
  replace hbw := Below.on hbw hb7
  clear hb7
  clear HJ
  have HJ : Hid ((fun W' : World => W'.cell? ⟨gg, 0, none⟩ = some (.int .i64 p) ∧ W'.cell? ⟨gg, 1, none⟩ = some (.int .i64 m) ∧ W'.cell? ⟨gg, 2, none⟩ = some (.int .i64 l) ∧ W'.cell? ⟨gm, 0, none⟩ = some (.bool s) ∧ W'.cell? ⟨gm, 1, none⟩ = some (.slice q n c)) v7) := ⟨Xg.out.c0, Xg.out.c1, Xg.out.c2, Xm.out.c0, Xm.out.c1⟩
  refine hK _ _ HJ.out ?_
  clear hK
  refine wpJ_take (i := 12) (v := ?v25x12) rfl (by kernel_rfl) (by kernel_rfl) (by kernel_rfl) (fun _ _ _ h => h) (by kernel_rfl) ?hy25x12 HJ.out ?rest25x12
  case hy25x12 => (intro W' hJ; obtain ⟨j0, j1, j2, j3, j4⟩ := hJ; go_simp; first | done | with_reducible rfl)
  refine wpJ_done (by kernel_rfl) ?_ _
  clear HJ
  go_wp2_with fail
  go_ret
  exact ⟨rfl, hbw⟩
theorem nearest_ok {f p m l : Int} {S I H sd : Nat} {Be : Int} (J : Jn f p m l S I H sd Be) {q : Option Addr} {n c : Nat} {w : World} {x e : Int} {s : Bool} (h : ZN w s q n c x) (he : -4194304 ≤ e ∧ e ≤ 4194304) (hT : Tab w) :
    Calls Tryz.prog 106 #[WV p m l, ZV s q n c, .int .i64 e] w fun en w' => en = .returned (U (rnp l sd Be S I x e)) ∧ Below w.heap.size w w' := by
  by_cases h0 : x = 0
  · exact nearest_z J h h0
  · by_cases ht : Be ≤ e + bitsN x.natAbs - 1
    · exact nearest_b J h he h0 ht
    · by_cases heu : e < max (e + bitsN x.natAbs - 1 - sd) l
      · exact nearest_n J h he h0 ht heu hT
      · exact nearest_p J h he h0 ht heu
end Go.Proofs.YtoalblaklcekeaaGreatDoor

namespace Go.Proofs.YtoalblaklcekeaaGreatDoor
open Go.RowKit Go.Shelf

end Go.Proofs.YtoalblaklcekeaaGreatDoor

namespace Go.Proofs.YtoalblaklcekeaaGreatDoor
open Go.RowKit Go.Shelf

end Go.Proofs.YtoalblaklcekeaaGreatDoor

namespace Go.Proofs.YtoalblaklcekeaaGreatDoor
open Go.RowKit Go.Shelf

set_option maxRecDepth 20000 in
set_option maxHeartbeats 8000000 in
theorem sform_t {s1 s2 : Bool} {p1 p2 : Option Addr} {m1 m2 c1 c2 : Nat} {e1 e2 : Int} {w : World} {x y : Int} (h : DN w s1 p1 m1 c1 e1 x) (k : DN w s2 p2 m2 c2 e2 y) (hc : dv x e1 ≤ dv y e2) :
    Calls Tryz.prog 189 #[SV s1 p1 m1 c1 e1 s2 p2 m2 c2 e2] w fun en w' => en = .returned (.bool true) ∧ Below w.heap.size w w' := by
  have A : Hid (DN w s1 p1 m1 c1 e1 x) := h
  have B : Hid (DN w s2 p2 m2 c2 e2 y) := k
  obtain ⟨cc, hcc⟩ : ∃ cc, cc = cmpI (dv x e1) (dv y e2) := ⟨_, rfl⟩
  have HCC : Hid (cmpI (dv x e1) (dv y e2) = cc) := hcc.symm
  have k1 : decide (cc ≤ 0) = true := by rw [hcc]; unfold cmpI; by_cases a : dv x e1 < dv y e2; (· rw [if_pos a]; rfl); rw [if_neg a, if_pos (by omega)]; rfl
  clear h k hc hcc
  go_enter Tryz.func189, Tryz.ntmps189
  go_wp2_with fail
  obtain ⟨W0, hW0⟩ : ∃ W0, W0 = (w.alloc (.cells #[.bool s1, .slice p1 m1 c1, .int .i64 e1, .bool s2, .slice p2 m2 c2, .int .i64 e2] 67)) := ⟨_, rfl⟩
  have Xs : Hid (B6q W0 (w.heap.size) (.bool s1) (.slice p1 m1 c1) (.int .i64 e1) (.bool s2) (.slice p2 m2 c2) (.int .i64 e2)) := by rw [hW0]; exact ⟨by go_simp, by go_simp, by go_simp, by go_simp, by go_simp, by go_simp, by go_simp, by go_simp, by go_simp, by go_simp, by go_simp, by go_simp⟩
  have hb0 : Below w.heap.size w W0 := by rw [hW0]; exact below1 w _
  rw [← hW0]
  clear hW0
  have hbw : Below w.heap.size w w := Below.refl _ _
  obtain ⟨gs, hgs⟩ : ∃ g, g = w.heap.size := ⟨_, rfl⟩
  have HGs : Hid (w.heap.size ≤ gs) := by rw [hgs]; show _ ≤ _; omega
  rw [← hgs] at Xs
  try rw [← hgs]
  clear hgs
  replace hbw := Below.on hbw hb0
  clear hb0
  refine (dcmp (A.out.below hbw) (B.out.below hbw)).mono ?_
  rintro e v1 ⟨rfl, hb1⟩
  rw [HCC.out]
  replace Xs : Hid _ := Xs.out.below hb1
  replace hbw := Below.on hbw hb1
  clear hb1
  go_wp2_with fail
  go_ret
  exact ⟨rfl, hbw⟩
end Go.Proofs.YtoalblaklcekeaaGreatDoor

namespace Go.Proofs.YtoalblaklcekeaaGreatDoor
open Go.RowKit Go.Shelf

structure It where
  p : Option Addr
  n : Nat
  c : Nat
  xs : List Nat
  a : Nat
structure Lists (w : World) (P : Option Addr) (N C : Nat) (its : List It) : Prop where
  len : its.length = N
  cap : N ≤ C
  big : C ≤ maxLen
  cells : N = 0 ∨ ∃ g off, P = some ⟨g, off, none⟩ ∧ ∀ j (h : j < its.length), w.cell? ⟨g, off + j, none⟩ = some (.slice its[j].p its[j].n its[j].c)
  nums : ∀ t ∈ its, Num w t.p t.n t.c t.xs t.a
theorem Lists.below {w w' : World} {P : Option Addr} {N C : Nat} {its : List It} (h : Lists w P N C its) (hb : Below w.heap.size w w') : Lists w' P N C its := by
  refine ⟨h.len, h.cap, h.big, ?_, fun t ht => (h.nums t ht).below hb⟩
  rcases h.cells with h0 | ⟨g, off, rfl, hc⟩
  · exact .inl h0
  · exact .inr ⟨g, off, rfl, fun j hj => (hb.cell (p := ⟨g, off + j, none⟩) (World.block_lt_of_cell? w _ (hc j hj))).trans (hc j hj)⟩
def prodI : List It → Nat
  | [] => 1
  | t :: ts => t.a * prodI ts
theorem Lists.take {w : World} {g off N C : Nat} {its : List It} (h : Lists w (some ⟨g, off, none⟩) N C its) (k : Nat) (hk : k ≤ N) : Lists w (some ⟨g, off, none⟩) k k (its.take k) := by
  have hl := h.len; have hc := h.cap; have hb := h.big
  refine ⟨by rw [List.length_take]; omega, Nat.le_refl _, by omega, ?_, fun t ht => h.nums t (List.mem_of_mem_take ht)⟩
  rcases h.cells with h0 | ⟨g', off', he, hcl⟩
  · exact .inl (by omega)
  · refine .inr ⟨g', off', he, fun j hj => ?_⟩
    have hj2 : j < its.length := by rw [List.length_take] at hj; omega
    rw [hcl j hj2]; simp
theorem Lists.drop {w : World} {g off N C : Nat} {its : List It} (h : Lists w (some ⟨g, off, none⟩) N C its) (k : Nat) (hk : k < N) : Lists w (some ⟨g, off + k, none⟩) (N - k) (C - k) (its.drop k) := by
  have hl := h.len; have hc := h.cap; have hb := h.big
  refine ⟨by rw [List.length_drop]; omega, by omega, by omega, ?_, fun t ht => h.nums t (List.mem_of_mem_drop ht)⟩
  rcases h.cells with h0 | ⟨g', off', he, hcl⟩
  · omega
  · simp only [Option.some.injEq, Addr.mk.injEq, and_true] at he
    obtain ⟨rfl, rfl⟩ := he
    refine .inr ⟨g, off + k, rfl, fun j hj => ?_⟩
    have hj2 : k + j < its.length := by rw [List.length_drop] at hj; omega
    have := hcl (k + j) hj2
    rw [← Nat.add_assoc] at this
    rw [this]; simp
theorem Lists.pos {w : World} {P : Option Addr} {N C : Nat} {its : List It} (_h : Lists w P N C its) (hp : ∀ t ∈ its, 0 < t.a) : 0 < prodI its := by
  clear _h
  induction its with
  | nil => simp [prodI]
  | cons t ts ih => exact Nat.mul_pos (hp t (by simp)) (ih (fun u hu => hp u (by simp [hu])))

end Go.Proofs.YtoalblaklcekeaaGreatDoor

namespace Go.Proofs.YtoalblaklcekeaaGreatDoor
open Go.RowKit

end Go.Proofs.YtoalblaklcekeaaGreatDoor

namespace Go.Proofs.YtoalblaklcekeaaGreatDoor
open Go.RowKit

end Go.Proofs.YtoalblaklcekeaaGreatDoor

namespace Go.Proofs.YtoalblaklcekeaaGreatDoor
open Go.RowKit

theorem Nf.drop {xs : List Nat} {a k : Nat} (hx : Nf B64 xs a) (hk : k ≤ xs.length) : Nf B64 (xs.drop k) (a / B64 ^ k) := by
  refine ⟨hx.dig.drop k, ?_, drop_div hx hk⟩
  intro x h
  refine hx.top x ?_
  by_cases hkl : k < xs.length
  · rw [List.getLast?_drop, if_neg (by omega)] at h; exact h
  · rw [List.drop_of_length_le (by omega)] at h; simp at h
theorem Nf.low {xs : List Nat} {a k : Nat} (hx : Nf B64 xs a) (hk : k ≤ xs.length) : Nf B64 (trimL (xs.take k)) (a % B64 ^ k) := by
  have h := Nf.trim (hx.dig.take k)
  rw [take_mod hx hk] at h; exact h

end Go.Proofs.YtoalblaklcekeaaGreatDoor

namespace Go.Proofs.YtoalblaklcekeaaGreatDoor
open Go.RowKit

end Go.Proofs.YtoalblaklcekeaaGreatDoor

namespace Go.Proofs.YtoalblaklcekeaaGreatDoor
open Go.RowKit

end Go.Proofs.YtoalblaklcekeaaGreatDoor

namespace Go.Proofs.YtoalblaklcekeaaGreatDoor
open Go.RowKit

end Go.Proofs.YtoalblaklcekeaaGreatDoor

namespace Go.Proofs.YtoalblaklcekeaaGreatDoor
open Go.RowKit

end Go.Proofs.YtoalblaklcekeaaGreatDoor

namespace Go.Proofs.YtoalblaklcekeaaGreatDoor
open Go.RowKit Go.Shelf

end Go.Proofs.YtoalblaklcekeaaGreatDoor

namespace Go.Proofs.YtoalblaklcekeaaGreatDoor
open Go.RowKit Go.Shelf

theorem DO.mono {B B' : Nat} {w : World} {s : Bool} {p : Option Addr} {m : Nat} {e z : Int} (h : DO B w s p m e z) (hB : B' ≤ B) : DO B' w s p m e z := by
  obtain ⟨zs, h1, h2, h3⟩ := h.own
  exact ⟨⟨zs, h1.mono hB, h2, h3⟩, h.sg, h.fm⟩
abbrev EV (s : Bool) (p : Option Addr) (m c : Nat) (e : Int) : Value := .agg #[.bool s, .slice p m c, .int .i64 e, .int .i64 0]
set_option maxRecDepth 20000 in
set_option maxHeartbeats 8000000 in
theorem stold {p : Option Addr} {m c : Nat} {w : World} {e : Int} {s : Bool} :
    Calls Tryz.prog 170 #[DV s p m c e, .int .i64 0] w fun en w' => en = .returned (EV s p m c e) ∧ Below w.heap.size w w' := by
  go_enter Tryz.func170, Tryz.ntmps170
  go_wp2_with fail
  refine bodyPost_ret (v := EV s p m c e) (by rw [results_cell1 rfl]; go_simp) rfl ⟨rfl, ?_⟩
  first | exact Below.on (below1 w _) (below1 _ _) | exact below2 w _ _ | exact below1 w _ | exact Below.on (below2 w _ _) (below1 _ _)
set_option maxRecDepth 20000 in
set_option maxHeartbeats 8000000 in
theorem sbetw {p q : Option Addr} {m c n d : Nat} {w : World} {e f : Int} {s t : Bool} :
    Calls Tryz.prog 169 #[EV s p m c e, EV t q n d f] w fun en w' => en = .returned (.tuple #[SV s p m c e t q n d f, .int .i64 0]) ∧ Below w.heap.size w w' := by
  go_enter Tryz.func169, Tryz.ntmps169
  go_wp2_with fail
  refine bodyPost_ret (v := .tuple #[SV s p m c e t q n d f, .int .i64 0]) (by rw [results_cell_tmp rfl]; go_simp) rfl ⟨rfl, ?_⟩
  first | exact below3 w _ _ _ | exact Below.on (below2 w _ _) (below1 _ _)
set_option maxRecDepth 20000 in
set_option maxHeartbeats 8000000 in
theorem dscale_z {p : Option Addr} {m c : Nat} {w : World} {z e N : Int} {s : Bool} (h : DN w s p m c e z) (hz : z = 0) :
    Calls Tryz.prog 14 #[DV s p m c e, .int .i64 N] w fun en w' => en = .returned (.tuple #[DV false none 0 0 0, .int .i64 0]) ∧ Below w.heap.size w w' := by
  have A : Hid (DN w s p m c e z) := h
  have HS : Hid (sgnI z = 0) := by rw [hz]; rfl
  clear h hz
  go_enter Tryz.func14, Tryz.ntmps14
  go_wp2_with fail
  obtain ⟨W0, hW0⟩ : ∃ W0, W0 = ((w.alloc (.cells #[.bool s, .slice p m c, .int .i64 e] 28)).alloc (.cells #[.bool false, .slice none 0 0, .int .i64 0] 28)) := ⟨_, rfl⟩
  have Xd : Hid (B3q W0 (w.heap.size) (.bool s) (.slice p m c) (.int .i64 e)) := by rw [hW0]; exact ⟨by go_simp, by go_simp, by go_simp, by go_simp, by go_simp, by go_simp⟩
  have Xr : Hid (B3q W0 (w.heap.size + 1) (.bool false) (.slice none 0 0) (.int .i64 0)) := by rw [hW0]; exact ⟨by go_simp, by go_simp, by go_simp, by go_simp, by go_simp, by go_simp⟩
  have hb0 : Below w.heap.size w W0 := by rw [hW0]; exact below2 w _ _
  rw [← hW0]
  clear hW0
  have hbw : Below w.heap.size w w := Below.refl _ _
  obtain ⟨gr, hgr⟩ : ∃ g, g = w.heap.size + 1 := ⟨_, rfl⟩
  have HGr : Hid (w.heap.size ≤ gr) := by rw [hgr]; show _ ≤ _; omega
  rw [← hgr] at Xr
  try rw [← hgr]
  obtain ⟨gd, hgd⟩ : ∃ g, g = w.heap.size := ⟨_, rfl⟩
  have HGd : Hid (w.heap.size ≤ gd) := by rw [hgd]; show _ ≤ _; omega
  rw [← hgd] at Xd
  try rw [← hgd]
  have HGD : Hid (gd ≠ gr ∧ gr ≠ gd) := by rw [hgd, hgr]; exact ⟨by omega, by omega⟩
  clear hgd hgr
  replace hbw := Below.on hbw hb0
  clear hb0
  refine (dform_t (A.out.below hbw)).mono ?_
  rintro e v1 ⟨rfl, hb1⟩
  replace Xd : Hid _ := Xd.out.below hb1
  replace Xr : Hid _ := Xr.out.below hb1
  replace hbw := Below.on hbw hb1
  clear hb1
  obtain ⟨cd0, cd1, cd2, fd0, fd1, fd2⟩ := Xd.out
  have hned : gd < v1.heap.size := World.block_lt_of_cell? v1 _ cd0
  go_wp2_with fail
  clear cd0 cd1 cd2 fd0 fd1 fd2 hned
  refine (zsign (A.out.zn.below hbw)).mono ?_
  rintro e v2 ⟨rfl, hb2⟩
  rw [HS.out]
  replace Xd : Hid _ := Xd.out.below hb2
  replace Xr : Hid _ := Xr.out.below hb2
  replace hbw := Below.on hbw hb2
  clear hb2
  obtain ⟨cr0, cr1, cr2, fr0, fr1, fr2⟩ := Xr.out
  have hner : gr < v2.heap.size := World.block_lt_of_cell? v2 _ cr0
  go_wp2_with fail
  refine bodyPost_ret (v := .tuple #[DV false none 0 0 0, .int .i64 0]) (by rw [results_cell_tmp rfl]; go_simp) rfl ⟨rfl, ?_⟩
  first | exact hbw | exact (bSet (bSet (bSet hbw _ _ _ HGr.out) _ _ _ HGr.out) _ _ _ HGr.out)
theorem DO.zero (B : Nat) (w : World) : DO B w false none 0 0 0 := ⟨⟨[], Own.empty _ _ _, Nf.nil _, by decide⟩, rfl, .inl ⟨rfl, rfl⟩⟩
theorem dscale0 {p : Option Addr} {m c : Nat} {w : World} {z e : Int} {s : Bool} (h : DN w s p m c e z) :
    Calls Tryz.prog 14 #[DV s p m c e, .int .i64 0] w fun en w' => ∃ s1 p1 m1, en = .returned (.tuple #[DV s1 p1 m1 m1 e, .int .i64 0]) ∧ DO w.heap.size w' s1 p1 m1 e z ∧ Below w.heap.size w w' := by
  by_cases hz : z = 0
  · have he : e = 0 := by rcases h.fm with ⟨_, h2⟩ | ⟨h2, _⟩; (· exact h2); omega
    refine (dscale_z h hz).mono fun en w' ⟨h1, h2⟩ => ⟨false, none, 0, ?_, ?_, h2⟩
    · rw [h1, he]
    · rw [hz, he]; exact DO.zero _ _
  · refine (dscale (N := 0) h hz (by rcases h.fm with ⟨_, h2⟩ | ⟨_, h2, h3⟩ <;> omega)).mono fun en w' ⟨v, h1, h2, h3⟩ => ?_
    rw [Int.add_zero] at h2
    obtain ⟨s1, p1, m1, rfl, h4⟩ := DO.of h2 h.fm
    exact ⟨s1, p1, m1, h1, h4, h3⟩
set_option maxRecDepth 20000 in
set_option maxHeartbeats 8000000 in
theorem sscale {p q : Option Addr} {m c n d : Nat} {w : World} {e f : Int} {s t : Bool} {x y : Int} (h : DN w s p m c e x) (k : DN w t q n d f y) (hc : dv x e ≤ dv y f) :
    Calls Tryz.prog 163 #[SV s p m c e t q n d f, .int .i64 0] w fun en w' => ∃ s1 p1 m1 s2 p2 m2, en = .returned (.tuple #[SV s1 p1 m1 m1 e s2 p2 m2 m2 f, .int .i64 0]) ∧ DO w.heap.size w' s1 p1 m1 e x ∧ DO w.heap.size w' s2 p2 m2 f y ∧ Below w.heap.size w w' := by
  have A : Hid (DN w s p m c e x) := h
  have B : Hid (DN w t q n d f y) := k
  have HC : Hid (dv x e ≤ dv y f) := hc
  clear h k hc
  go_enter Tryz.func163, Tryz.ntmps163
  go_wp2_with fail
  obtain ⟨W0, hW0⟩ : ∃ W0, W0 = ((w.alloc (.cells #[.bool s, .slice p m c, .int .i64 e, .bool t, .slice q n d, .int .i64 f] 67)).alloc (.cells #[.bool false, .slice none 0 0, .int .i64 0, .bool false, .slice none 0 0, .int .i64 0] 67)) := ⟨_, rfl⟩
  have Xs : Hid (B6q W0 (w.heap.size) (.bool s) (.slice p m c) (.int .i64 e) (.bool t) (.slice q n d) (.int .i64 f)) := by rw [hW0]; exact ⟨by go_simp, by go_simp, by go_simp, by go_simp, by go_simp, by go_simp, by go_simp, by go_simp, by go_simp, by go_simp, by go_simp, by go_simp⟩
  have Xr : Hid (B6q W0 (w.heap.size + 1) (.bool false) (.slice none 0 0) (.int .i64 0) (.bool false) (.slice none 0 0) (.int .i64 0)) := by rw [hW0]; exact ⟨by go_simp, by go_simp, by go_simp, by go_simp, by go_simp, by go_simp, by go_simp, by go_simp, by go_simp, by go_simp, by go_simp, by go_simp⟩
  have hb0 : Below w.heap.size w W0 := by rw [hW0]; exact below2 w _ _
  rw [← hW0]
  clear hW0
  have hbw : Below w.heap.size w w := Below.refl _ _
  obtain ⟨gr, hgr⟩ : ∃ g, g = w.heap.size + 1 := ⟨_, rfl⟩
  have HGr : Hid (w.heap.size ≤ gr) := by rw [hgr]; show _ ≤ _; omega
  rw [← hgr] at Xr
  try rw [← hgr]
  obtain ⟨gs, hgs⟩ : ∃ g, g = w.heap.size := ⟨_, rfl⟩
  have HGs : Hid (w.heap.size ≤ gs) := by rw [hgs]; show _ ≤ _; omega
  rw [← hgs] at Xs
  try rw [← hgs]
  have HGD : Hid (gs ≠ gr ∧ gr ≠ gs) := by rw [hgs, hgr]; exact ⟨by omega, by omega⟩
  clear hgs hgr
  replace hbw := Below.on hbw hb0
  clear hb0
  refine (sform_t (A.out.below hbw) (B.out.below hbw) HC.out).mono ?_
  rintro e v1 ⟨rfl, hb1⟩
  replace Xs : Hid _ := Xs.out.below hb1
  replace Xr : Hid _ := Xr.out.below hb1
  replace hbw := Below.on hbw hb1
  clear hb1
  obtain ⟨cs0, cs1, cs2, cs3, cs4, cs5, fs0, fs1, fs2, fs3, fs4, fs5⟩ := Xs.out
  have hnes : gs < v1.heap.size := World.block_lt_of_cell? v1 _ cs0
  go_wp2_with fail
  clear cs0 cs1 cs2 cs3 cs4 cs5 fs0 fs1 fs2 fs3 fs4 fs5 hnes
  obtain ⟨W5, hW5⟩ : ∃ W1, W1 = v1.drew := ⟨_, rfl⟩
  have hbd : Below v1.heap.size v1 W5 := by rw [hW5]; exact bDrew1 (Below.refl _ _)
  replace Xs : Hid _ := Xs.out.below hbd
  replace Xr : Hid _ := Xr.out.below hbd
  replace hbw := Below.on hbw hbd
  clear hbd
  have HJ : Hid ((fun W' : World => W'.cell? ⟨gs, 0, none⟩ = some (.bool s) ∧ W'.cell? ⟨gs, 1, none⟩ = some (.slice p m c) ∧ W'.cell? ⟨gs, 2, none⟩ = some (.int .i64 e) ∧ W'.cell? ⟨gs, 3, none⟩ = some (.bool t) ∧ W'.cell? ⟨gs, 4, none⟩ = some (.slice q n d) ∧ W'.cell? ⟨gs, 5, none⟩ = some (.int .i64 f)) W5) := ⟨Xs.out.c0, Xs.out.c1, Xs.out.c2, Xs.out.c3, Xs.out.c4, Xs.out.c5⟩
  refine wp_region_J (fun W' => W'.cell? ⟨gs, 0, none⟩ = some (.bool s) ∧ W'.cell? ⟨gs, 1, none⟩ = some (.slice p m c) ∧ W'.cell? ⟨gs, 2, none⟩ = some (.int .i64 e) ∧ W'.cell? ⟨gs, 3, none⟩ = some (.bool t) ∧ W'.cell? ⟨gs, 4, none⟩ = some (.slice q n d) ∧ W'.cell? ⟨gs, 5, none⟩ = some (.int .i64 f)) (by kernel_rfl) ?_
  rw [← hW5]
  clear hW5
  refine wpJ_take (i := 0) (v := ?v1x0) rfl (by kernel_rfl) (by kernel_rfl) (by kernel_rfl) (fun _ _ _ h => h) (by kernel_rfl) ?hy1x0 HJ.out ?rest1x0
  case hy1x0 => (intro W' hJ; obtain ⟨j0, j1, j2, j3, j4, j5⟩ := hJ; go_simp; first | done | with_reducible rfl)
  refine wpJ_take (i := 1) (v := ?v2x1) rfl (by kernel_rfl) (by kernel_rfl) (by kernel_rfl) (fun _ _ _ h => h) (by kernel_rfl) ?hy2x1 HJ.out ?rest2x1
  case hy2x1 => (intro W' hJ; obtain ⟨j0, j1, j2, j3, j4, j5⟩ := hJ; go_simp; first | done | with_reducible rfl)
  refine wpJ_take (i := 2) (v := ?v3x2) rfl (by kernel_rfl) (by kernel_rfl) (by kernel_rfl) (fun _ _ _ h => h) (by kernel_rfl) ?hy3x2 HJ.out ?rest3x2
  case hy3x2 => (intro W' hJ; obtain ⟨j0, j1, j2, j3, j4, j5⟩ := hJ; go_simp; first | done | with_reducible rfl)
  refine wpJ_take (i := 7) (v := ?v4x7) rfl (by kernel_rfl) (by kernel_rfl) (by kernel_rfl) (fun _ _ _ h => h) (by kernel_rfl) ?hy4x7 HJ.out ?rest4x7
  case hy4x7 => (intro W' hJ; obtain ⟨j0, j1, j2, j3, j4, j5⟩ := hJ; go_simp; first | done | with_reducible rfl)
  refine wpJ_take (i := 8) (v := ?v5x8) rfl (by kernel_rfl) (by kernel_rfl) (by kernel_rfl) (fun _ _ _ h => h) (by kernel_rfl) ?hy5x8 HJ.out ?rest5x8
  case hy5x8 => (intro W' hJ; obtain ⟨j0, j1, j2, j3, j4, j5⟩ := hJ; go_simp; first | done | with_reducible rfl)
  go_simp
  refine wpJ_take (i := 9) (v := ?v6x9) rfl (by kernel_rfl) (by kernel_rfl) (by kernel_rfl) (fun _ _ _ h => h) (by kernel_rfl) ?hy6x9 HJ.out ?rest6x9
  case hy6x9 => (intro W' hJ; obtain ⟨j0, j1, j2, j3, j4, j5⟩ := hJ; go_simp; first | done | with_reducible rfl)
  refine wpJ_one (i := 3) (by kernel_rfl) rfl (by kernel_rfl) (fun KJ hK => ?_)
  go_simp
  have HWL2 : Hid (gr < W5.heap.size ∧ w.heap.size ≤ W5.heap.size) := ⟨Xr.out.lt, hbw.size⟩
  refine (dscale0 (A.out.below hbw)).mono ?_
  rintro e9 v2 ⟨s2, p2, m2, rfl, hd, hb2⟩
  replace Xs : Hid _ := Xs.out.below hb2
  replace Xr : Hid _ := Xr.out.below hb2
  replace hbw := Below.on hbw hb2
  clear hb2
  have D2 : Hid (DO W5.heap.size v2 s2 p2 m2 e x) := hd
  clear hd
  clear HJ
  have HJ : Hid ((fun W' : World => W'.cell? ⟨gs, 0, none⟩ = some (.bool s) ∧ W'.cell? ⟨gs, 1, none⟩ = some (.slice p m c) ∧ W'.cell? ⟨gs, 2, none⟩ = some (.int .i64 e) ∧ W'.cell? ⟨gs, 3, none⟩ = some (.bool t) ∧ W'.cell? ⟨gs, 4, none⟩ = some (.slice q n d) ∧ W'.cell? ⟨gs, 5, none⟩ = some (.int .i64 f)) v2) := ⟨Xs.out.c0, Xs.out.c1, Xs.out.c2, Xs.out.c3, Xs.out.c4, Xs.out.c5⟩
  refine hK _ _ HJ.out ?_
  clear hK
  refine wpJ_take (i := 4) (v := ?v7x4) rfl (by kernel_rfl) (by kernel_rfl) (by kernel_rfl) (fun _ _ _ h => h) (by kernel_rfl) ?hy7x4 HJ.out ?rest7x4
  case hy7x4 => (intro W' hJ; obtain ⟨j0, j1, j2, j3, j4, j5⟩ := hJ; go_simp; first | done | with_reducible rfl)
  refine wpJ_take (i := 5) (v := ?v8x5) rfl (by kernel_rfl) (by kernel_rfl) (by kernel_rfl) (fun _ _ _ h => h) (by kernel_rfl) ?hy8x5 HJ.out ?rest8x5
  case hy8x5 => (intro W' hJ; obtain ⟨j0, j1, j2, j3, j4, j5⟩ := hJ; go_simp; first | done | with_reducible rfl)
  refine wpJ_one (i := 6) (by kernel_rfl) rfl (by kernel_rfl) (fun KJ hK => ?_)
  go_simp
  refine (stold).mono ?_
  rintro e v3 ⟨rfl, hb3⟩
  replace Xs : Hid _ := Xs.out.below hb3
  replace Xr : Hid _ := Xr.out.below hb3
  replace D2 : Hid (DO W5.heap.size v3 s2 p2 m2 e x) := D2.out.below hb3
  replace hbw := Below.on hbw hb3
  clear hb3
  refine hK _ _ ⟨Xs.out.c0, Xs.out.c1, Xs.out.c2, Xs.out.c3, Xs.out.c4, Xs.out.c5⟩ ?_
  clear hK
  refine wpJ_one (i := 10) (by kernel_rfl) rfl (by kernel_rfl) (fun KJ hK => ?_)
  go_simp
  have HWL4 : Hid (gr < v3.heap.size ∧ w.heap.size ≤ v3.heap.size) := ⟨Xr.out.lt, hbw.size⟩
  refine (dscale0 (B.out.below hbw)).mono ?_
  rintro e9 v4 ⟨s4, p4, m4, rfl, hd, hb4⟩
  replace Xs : Hid _ := Xs.out.below hb4
  replace Xr : Hid _ := Xr.out.below hb4
  replace D2 : Hid (DO W5.heap.size v4 s2 p2 m2 e x) := D2.out.below hb4
  replace hbw := Below.on hbw hb4
  clear hb4
  have D4 : Hid (DO v3.heap.size v4 s4 p4 m4 f y) := hd
  clear hd
  clear HJ
  have HJ : Hid ((fun W' : World => W'.cell? ⟨gs, 0, none⟩ = some (.bool s) ∧ W'.cell? ⟨gs, 1, none⟩ = some (.slice p m c) ∧ W'.cell? ⟨gs, 2, none⟩ = some (.int .i64 e) ∧ W'.cell? ⟨gs, 3, none⟩ = some (.bool t) ∧ W'.cell? ⟨gs, 4, none⟩ = some (.slice q n d) ∧ W'.cell? ⟨gs, 5, none⟩ = some (.int .i64 f)) v4) := ⟨Xs.out.c0, Xs.out.c1, Xs.out.c2, Xs.out.c3, Xs.out.c4, Xs.out.c5⟩
  refine hK _ _ HJ.out ?_
  clear hK
  refine wpJ_take (i := 11) (v := ?v9x11) rfl (by kernel_rfl) (by kernel_rfl) (by kernel_rfl) (fun _ _ _ h => h) (by kernel_rfl) ?hy9x11 HJ.out ?rest9x11
  case hy9x11 => (intro W' hJ; obtain ⟨j0, j1, j2, j3, j4, j5⟩ := hJ; go_simp; first | done | with_reducible rfl)
  refine wpJ_take (i := 12) (v := ?v10x12) rfl (by kernel_rfl) (by kernel_rfl) (by kernel_rfl) (fun _ _ _ h => h) (by kernel_rfl) ?hy10x12 HJ.out ?rest10x12
  case hy10x12 => (intro W' hJ; obtain ⟨j0, j1, j2, j3, j4, j5⟩ := hJ; go_simp; first | done | with_reducible rfl)
  refine wpJ_one (i := 13) (by kernel_rfl) rfl (by kernel_rfl) (fun KJ hK => ?_)
  go_simp
  refine (stold).mono ?_
  rintro e v5 ⟨rfl, hb5⟩
  replace Xs : Hid _ := Xs.out.below hb5
  replace Xr : Hid _ := Xr.out.below hb5
  replace D2 : Hid (DO W5.heap.size v5 s2 p2 m2 e x) := D2.out.below hb5
  replace D4 : Hid (DO v3.heap.size v5 s4 p4 m4 f y) := D4.out.below hb5
  replace hbw := Below.on hbw hb5
  clear hb5
  refine hK _ _ ⟨Xs.out.c0, Xs.out.c1, Xs.out.c2, Xs.out.c3, Xs.out.c4, Xs.out.c5⟩ ?_
  clear hK
  refine wpJ_one (i := 14) (by kernel_rfl) rfl (by kernel_rfl) (fun KJ hK => ?_)
  go_simp
  refine (sbetw).mono ?_
  rintro e v6 ⟨rfl, hb6⟩
  replace Xs : Hid _ := Xs.out.below hb6
  replace Xr : Hid _ := Xr.out.below hb6
  replace D2 : Hid (DO W5.heap.size v6 s2 p2 m2 e x) := D2.out.below hb6
  replace D4 : Hid (DO v3.heap.size v6 s4 p4 m4 f y) := D4.out.below hb6
  replace hbw := Below.on hbw hb6
  clear hb6
  clear HJ
  have HJ : Hid ((fun W' : World => W'.cell? ⟨gs, 0, none⟩ = some (.bool s) ∧ W'.cell? ⟨gs, 1, none⟩ = some (.slice p m c) ∧ W'.cell? ⟨gs, 2, none⟩ = some (.int .i64 e) ∧ W'.cell? ⟨gs, 3, none⟩ = some (.bool t) ∧ W'.cell? ⟨gs, 4, none⟩ = some (.slice q n d) ∧ W'.cell? ⟨gs, 5, none⟩ = some (.int .i64 f)) v6) := ⟨Xs.out.c0, Xs.out.c1, Xs.out.c2, Xs.out.c3, Xs.out.c4, Xs.out.c5⟩
  refine hK _ _ HJ.out ?_
  clear hK
  refine wpJ_take (i := 15) (v := ?v11x15) rfl (by kernel_rfl) (by kernel_rfl) (by kernel_rfl) (fun _ _ _ h => h) (by kernel_rfl) ?hy11x15 HJ.out ?rest11x15
  case hy11x15 => (intro W' hJ; obtain ⟨j0, j1, j2, j3, j4, j5⟩ := hJ; go_simp; first | done | with_reducible rfl)
  refine wpJ_take (i := 16) (v := ?v12x16) rfl (by kernel_rfl) (by kernel_rfl) (by kernel_rfl) (fun _ _ _ h => h) (by kernel_rfl) ?hy12x16 HJ.out ?rest12x16
  case hy12x16 => (intro W' hJ; obtain ⟨j0, j1, j2, j3, j4, j5⟩ := hJ; go_simp; first | done | with_reducible rfl)
  obtain ⟨cr0, cr1, cr2, cr3, cr4, cr5, fr0, fr1, fr2, fr3, fr4, fr5⟩ := Xr.out
  have hner : gr < v6.heap.size := World.block_lt_of_cell? v6 _ cr0
  obtain ⟨cs0, cs1, cs2, cs3, cs4, cs5, fs0, fs1, fs2, fs3, fs4, fs5⟩ := Xs.out
  have hnes : gs < v6.heap.size := World.block_lt_of_cell? v6 _ cs0
  obtain ⟨hgd0, hgd1⟩ := HGD.out
  refine wpJ_one (i := 17) (by kernel_rfl) rfl (by kernel_rfl) (fun KJ hK => ?_)
  go_simp
  have HJ2 : Hid ((fun W' : World => W'.cell? ⟨gs, 0, none⟩ = some (.bool s) ∧ W'.cell? ⟨gs, 1, none⟩ = some (.slice p m c) ∧ W'.cell? ⟨gs, 2, none⟩ = some (.int .i64 e) ∧ W'.cell? ⟨gs, 3, none⟩ = some (.bool t) ∧ W'.cell? ⟨gs, 4, none⟩ = some (.slice q n d) ∧ W'.cell? ⟨gs, 5, none⟩ = some (.int .i64 f)) ((((((v6.setCell ⟨gr, 0, none⟩ (.bool s2)).setCell ⟨gr, 1, none⟩ (.slice p2 m2 m2)).setCell ⟨gr, 2, none⟩ (.int .i64 e)).setCell ⟨gr, 3, none⟩ (.bool s4)).setCell ⟨gr, 4, none⟩ (.slice p4 m4 m4)).setCell ⟨gr, 5, none⟩ (.int .i64 f))) := ⟨by go_simp, by go_simp, by go_simp, by go_simp, by go_simp, by go_simp⟩
  refine hK _ _ HJ2.out ?_
  clear hK HJ
  have HJ := HJ2
  clear HJ2
  refine wpJ_take (i := 18) (v := ?v13x18) rfl (by kernel_rfl) (by kernel_rfl) (by kernel_rfl) (fun _ _ _ h => h) (by kernel_rfl) ?hy13x18 HJ.out ?rest13x18
  case hy13x18 => (intro W' hJ; obtain ⟨j0, j1, j2, j3, j4, j5⟩ := hJ; go_simp; first | done | with_reducible rfl)
  refine wpJ_done (by kernel_rfl) ?_ _
  clear HJ
  go_wp2_with fail
  refine bodyPost_ret (v := .tuple #[SV s2 p2 m2 m2 e s4 p4 m4 m4 f, .int .i64 0]) (by rw [results_cell_tmp rfl]; go_simp) rfl ⟨s2, p2, m2, s4, p4, m4, rfl, ?_, ?_, ?_⟩
  · exact ((((((D2.out.set _ _ _ HWL2.out.1).set _ _ _ HWL2.out.1).set _ _ _ HWL2.out.1).set _ _ _ HWL2.out.1).set _ _ _ HWL2.out.1).set _ _ _ HWL2.out.1).mono HWL2.out.2
  · exact ((((((D4.out.set _ _ _ HWL4.out.1).set _ _ _ HWL4.out.1).set _ _ _ HWL4.out.1).set _ _ _ HWL4.out.1).set _ _ _ HWL4.out.1).set _ _ _ HWL4.out.1).mono HWL4.out.2
  · exact (bSet (bSet (bSet (bSet (bSet (bSet hbw _ _ _ HGr.out) _ _ _ HGr.out) _ _ _ HGr.out) _ _ _ HGr.out) _ _ _ HGr.out) _ _ _ HGr.out)
set_option maxRecDepth 20000 in
set_option maxHeartbeats 8000000 in
theorem smake {p q : Option Addr} {m c n d : Nat} {w : World} {e f : Int} {s t : Bool} {x y : Int} (h : DN w s p m c e x) (k : DN w t q n d f y) (hc : dv x e ≤ dv y f) :
    Calls Tryz.prog 121 #[DV s p m c e, DV t q n d f] w fun en w' => ∃ s1 p1 m1 s2 p2 m2, en = .returned (.tuple #[SV s1 p1 m1 m1 e s2 p2 m2 m2 f, .int .i64 0]) ∧ DO w.heap.size w' s1 p1 m1 e x ∧ DO w.heap.size w' s2 p2 m2 f y ∧ Below w.heap.size w w' := by
  have A : Hid (DN w s p m c e x) := h
  have B : Hid (DN w t q n d f y) := k
  have HC : Hid (dv x e ≤ dv y f) := hc
  clear h k hc
  go_enter Tryz.func121, Tryz.ntmps121
  go_wp2_with fail
  obtain ⟨W0, hW0⟩ : ∃ W0, W0 = (((w.alloc (.cells #[.bool s, .slice p m c, .int .i64 e] 28)).alloc (.cells #[.bool t, .slice q n d, .int .i64 f] 28)).alloc (.cells #[.bool false, .slice none 0 0, .int .i64 0, .bool false, .slice none 0 0, .int .i64 0] 67)) := ⟨_, rfl⟩
  have Xa : Hid (B3q W0 (w.heap.size) (.bool s) (.slice p m c) (.int .i64 e)) := by rw [hW0]; exact ⟨by go_simp, by go_simp, by go_simp, by go_simp, by go_simp, by go_simp⟩
  have Xb : Hid (B3q W0 (w.heap.size + 1) (.bool t) (.slice q n d) (.int .i64 f)) := by rw [hW0]; exact ⟨by go_simp, by go_simp, by go_simp, by go_simp, by go_simp, by go_simp⟩
  have Xr : Hid (B6q W0 (w.heap.size + 1 + 1) (.bool false) (.slice none 0 0) (.int .i64 0) (.bool false) (.slice none 0 0) (.int .i64 0)) := by rw [hW0]; exact ⟨by go_simp, by go_simp, by go_simp, by go_simp, by go_simp, by go_simp, by go_simp, by go_simp, by go_simp, by go_simp, by go_simp, by go_simp⟩
  have hb0 : Below w.heap.size w W0 := by rw [hW0]; exact below3 w _ _ _
  rw [← hW0]
  clear hW0
  have hbw : Below w.heap.size w w := Below.refl _ _
  obtain ⟨gr, hgr⟩ : ∃ g, g = w.heap.size + 1 + 1 := ⟨_, rfl⟩
  have HGr : Hid (w.heap.size ≤ gr) := by rw [hgr]; show _ ≤ _; omega
  rw [← hgr] at Xr
  try rw [← hgr]
  obtain ⟨gb, hgb⟩ : ∃ g, g = w.heap.size + 1 := ⟨_, rfl⟩
  have HGb : Hid (w.heap.size ≤ gb) := by rw [hgb]; show _ ≤ _; omega
  rw [← hgb] at Xb
  try rw [← hgb]
  obtain ⟨ga, hga⟩ : ∃ g, g = w.heap.size := ⟨_, rfl⟩
  have HGa : Hid (w.heap.size ≤ ga) := by rw [hga]; show _ ≤ _; omega
  rw [← hga] at Xa
  try rw [← hga]
  have HGD : Hid (ga ≠ gb ∧ ga ≠ gr ∧ gb ≠ ga ∧ gb ≠ gr ∧ gr ≠ ga ∧ gr ≠ gb) := by rw [hga, hgb, hgr]; exact ⟨by omega, by omega, by omega, by omega, by omega, by omega⟩
  clear hga hgb hgr
  replace hbw := Below.on hbw hb0
  clear hb0
  have HWL : Hid (gr < W0.heap.size ∧ w.heap.size ≤ W0.heap.size) := ⟨Xr.out.lt, hbw.size⟩
  refine (sscale (A.out.below hbw) (B.out.below hbw) HC.out).mono ?_
  rintro e9 v1 ⟨s1, p1, m1, s2, p2, m2, rfl, hd1, hd2, hb1⟩
  replace Xa : Hid _ := Xa.out.below hb1
  replace Xb : Hid _ := Xb.out.below hb1
  replace Xr : Hid _ := Xr.out.below hb1
  replace hbw := Below.on hbw hb1
  clear hb1
  have D1 : Hid (DO W0.heap.size v1 s1 p1 m1 e x) := hd1
  have D2 : Hid (DO W0.heap.size v1 s2 p2 m2 f y) := hd2
  clear hd1 hd2
  obtain ⟨cr0, cr1, cr2, cr3, cr4, cr5, fr0, fr1, fr2, fr3, fr4, fr5⟩ := Xr.out
  have hner : gr < v1.heap.size := World.block_lt_of_cell? v1 _ cr0
  go_wp2_with fail
  refine bodyPost_ret (v := .tuple #[SV s1 p1 m1 m1 e s2 p2 m2 m2 f, .int .i64 0]) (by rw [results_cell_tmp rfl]; go_simp) rfl ⟨s1, p1, m1, s2, p2, m2, rfl, ?_, ?_, ?_⟩
  · exact ((((((D1.out.set _ _ _ HWL.out.1).set _ _ _ HWL.out.1).set _ _ _ HWL.out.1).set _ _ _ HWL.out.1).set _ _ _ HWL.out.1).set _ _ _ HWL.out.1).mono HWL.out.2
  · exact ((((((D2.out.set _ _ _ HWL.out.1).set _ _ _ HWL.out.1).set _ _ _ HWL.out.1).set _ _ _ HWL.out.1).set _ _ _ HWL.out.1).set _ _ _ HWL.out.1).mono HWL.out.2
  · exact (bSet (bSet (bSet (bSet (bSet (bSet hbw _ _ _ HGr.out) _ _ _ HGr.out) _ _ _ HGr.out) _ _ _ HGr.out) _ _ _ HGr.out) _ _ _ HGr.out)
end Go.Proofs.YtoalblaklcekeaaGreatDoor

