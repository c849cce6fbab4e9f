import Derived.Test.YtoalblaklcekeaaGreatDoorJ17
import Derived.Test.YtoalblaklcekeaaGreatDoorJ14
import Derived.Test.YtoalblaklcekeaaGreatDoorJ13
import Derived.Test.YtoalblaklcekeaaGreatDoorJ8
import Derived.Deep.LoopGhost
import Derived.Test.YtoalblaklcekeaaGreatDoorJ11
import Derived.Test.YtoalblaklcekeaaGreatDoorJ10
import Derived.Laws.Bits64b
import Derived.Test.YtoalblaklcekeaaGreatDoorJ9
import Derived.Test.YtoalblaklcekeaaGreatDoorJ12
namespace Go.Proofs.YtoalblaklcekeaaGreatDoor
open Go.RowKit Go.Shelf
set_option maxRecDepth 20000 in
set_option maxHeartbeats 8000000 in
theorem clsof_32 (b : Nat) (hb : b < 2 * 2147483648) (w : World) :
    Calls Tryz.prog 105 #[.int .i64 32, U b] w fun en w' => en = .returned (.tuple #[.int .i64 (clsN 8388608 2139095040 (b % 2147483648)), .int .i64 0]) ∧ Below w.heap.size w w' := by
  have hbw : Below w.heap.size w w := Below.refl _ _
  obtain ⟨z, hz⟩ : ∃ z : Nat, z = b % 2147483648 := ⟨_, rfl⟩
  obtain ⟨s, hs⟩ : ∃ s, s = decide (2147483648 ≤ b) := ⟨_, rfl⟩
  obtain ⟨c, hc⟩ : ∃ c, c = clsN 8388608 2139095040 z := ⟨_, rfl⟩
  have HPT : Hid (∀ w, Calls Tryz.prog 102 #[.int .i64 32, U b] w fun e w' => e = .returned (.tuple #[PV 32 24 (-149) s z, .int .i64 0]) ∧ Below w.heap.size w w') := by rw [hz, hs]; exact fun w => fm_32.pat b w hb
  rw [← hz, ← hc]
  have HC : Hid (clsN 8388608 2139095040 z = c) := hc.symm
  clear hz hs hc hb
  go_enter Tryz.func105, Tryz.ntmps105
  go_wp2_with fail
  refine (HPT.out _).mono ?_
  rintro e v1 ⟨rfl, hb1⟩
  replace hbw := Below.on hbw hb1
  clear hb1
  go_wp2_with fail
  have Xp0 : Hid (B5q (v1.alloc (.cells #[.int .i64 32, .int .i64 24, .int .i64 (-149), .bool s, U z] 133)) v1.heap.size (.int .i64 32) (.int .i64 24) (.int .i64 (-149)) (.bool s) (U z)) := B5q.new v1 _ _ _ _ _ _
  have hbn : Below v1.heap.size v1 (v1.alloc (.cells #[.int .i64 32, .int .i64 24, .int .i64 (-149), .bool s, U z] 133)) := below1 v1 _
  generalize v1.alloc (.cells #[.int .i64 32, .int .i64 24, .int .i64 (-149), .bool s, U z] 133) = Wp at *
  have HGp : Hid (w.heap.size ≤ v1.heap.size) := hbw.size
  replace hbw := Below.on hbw hbn
  clear hbn
  generalize v1.heap.size = gp at *
  have Xp := Xp0
  clear Xp0
  refine (class_32 rfl s z _).mono ?_
  rintro e2 v2 ⟨rfl, hb2⟩
  rw [HC.out]
  replace Xp : Hid _ := Xp.out.below hb2
  replace hbw := Below.on hbw hb2
  clear hb2
  go_wp2_with fail
  go_ret2
  exact ⟨rfl, hbw⟩
set_option maxRecDepth 20000 in
set_option maxHeartbeats 8000000 in
theorem clsof_64 (b : Nat) (hb : b < 2 * 9223372036854775808) (w : World) :
    Calls Tryz.prog 105 #[.int .i64 64, U b] w fun en w' => en = .returned (.tuple #[.int .i64 (clsN 4503599627370496 9218868437227405312 (b % 9223372036854775808)), .int .i64 0]) ∧ Below w.heap.size w w' := by
  have hbw : Below w.heap.size w w := Below.refl _ _
  obtain ⟨z, hz⟩ : ∃ z : Nat, z = b % 9223372036854775808 := ⟨_, rfl⟩
  obtain ⟨s, hs⟩ : ∃ s, s = decide (9223372036854775808 ≤ b) := ⟨_, rfl⟩
  obtain ⟨c, hc⟩ : ∃ c, c = clsN 4503599627370496 9218868437227405312 z := ⟨_, rfl⟩
  have HPT : Hid (∀ w, Calls Tryz.prog 102 #[.int .i64 64, U b] w fun e w' => e = .returned (.tuple #[PV 64 53 (-1074) s z, .int .i64 0]) ∧ Below w.heap.size w w') := by rw [hz, hs]; exact fun w => fm_64.pat b w hb
  rw [← hz, ← hc]
  have HC : Hid (clsN 4503599627370496 9218868437227405312 z = c) := hc.symm
  clear hz hs hc hb
  go_enter Tryz.func105, Tryz.ntmps105
  go_wp2_with fail
  refine (HPT.out _).mono ?_
  rintro e v1 ⟨rfl, hb1⟩
  replace hbw := Below.on hbw hb1
  clear hb1
  go_wp2_with fail
  have Xp0 : Hid (B5q (v1.alloc (.cells #[.int .i64 64, .int .i64 53, .int .i64 (-1074), .bool s, U z] 133)) v1.heap.size (.int .i64 64) (.int .i64 53) (.int .i64 (-1074)) (.bool s) (U z)) := B5q.new v1 _ _ _ _ _ _
  have hbn : Below v1.heap.size v1 (v1.alloc (.cells #[.int .i64 64, .int .i64 53, .int .i64 (-1074), .bool s, U z] 133)) := below1 v1 _
  generalize v1.alloc (.cells #[.int .i64 64, .int .i64 53, .int .i64 (-1074), .bool s, U z] 133) = Wp at *
  have HGp : Hid (w.heap.size ≤ v1.heap.size) := hbw.size
  replace hbw := Below.on hbw hbn
  clear hbn
  generalize v1.heap.size = gp at *
  have Xp := Xp0
  clear Xp0
  refine (class_64 rfl s z _).mono ?_
  rintro e2 v2 ⟨rfl, hb2⟩
  rw [HC.out]
  replace Xp : Hid _ := Xp.out.below hb2
  replace hbw := Below.on hbw hb2
  clear hb2
  go_wp2_with fail
  go_ret2
  exact ⟨rfl, hbw⟩
set_option maxRecDepth 20000 in
set_option maxHeartbeats 8000000 in
theorem finite_e {f : Int} {b : Nat} {er : Int} (hB : ∀ w, Calls Tryz.prog 129 #[.int .i64 f, U b] w fun e w' => e = .returned (.tuple #[PV 0 0 0 false 0, .int .i64 er]) ∧ Below w.heap.size w w') (he : er ≠ 0) (w : World) :
    Calls Tryz.prog 76 #[.int .i64 f, U b] w fun en w' => en = .returned (.tuple #[PV 0 0 0 false 0, .int .i64 er]) ∧ Below w.heap.size w w' := by
  have HB : Hid (∀ w, Calls Tryz.prog 129 #[.int .i64 f, U b] w fun e w' => e = .returned (.tuple #[PV 0 0 0 false 0, .int .i64 er]) ∧ Below w.heap.size w w') := hB
  have e1 : (er == 0) = false := by simp [he]
  clear hB he
  go_enter Tryz.func76, Tryz.ntmps76
  go_wp2_with fail
  obtain ⟨W0, hW0⟩ : ∃ W0, W0 = (w.alloc (.cells #[.int .i64 0, .int .i64 0, .int .i64 0, .bool false, .int .u64 0] 133)) := ⟨_, rfl⟩
  have Xr : Hid (B5q W0 (w.heap.size) (.int .i64 0) (.int .i64 0) (.int .i64 0) (.bool false) (.int .u64 0)) := by rw [hW0]; exact ⟨by go_simp, by go_simp, by go_simp, by go_simp, by go_simp, by go_simp, by go_simp, by go_simp, by go_simp, by go_simp⟩
  have hb0 : Below w.heap.size w W0 := by rw [hW0]; exact below1 w _
  rw [← hW0]
  clear hW0
  have hbw : Below w.heap.size w w := Below.refl _ _
  obtain ⟨gr, hgr⟩ : ∃ g, g = w.heap.size := ⟨_, rfl⟩
  have HGr : Hid (w.heap.size ≤ gr) := by rw [hgr]; show _ ≤ _; omega
  rw [← hgr] at Xr
  try rw [← hgr]
  clear hgr
  replace hbw := Below.on hbw hb0
  clear hb0
  refine (HB.out _).mono ?_
  rintro e v1 ⟨rfl, hb1⟩
  replace Xr : Hid _ := Xr.out.below hb1
  replace hbw := Below.on hbw hb1
  clear hb1
  obtain ⟨cr0, cr1, cr2, cr3, cr4, fr0, fr1, fr2, fr3, fr4⟩ := Xr.out
  have hner : gr < v1.heap.size := World.block_lt_of_cell? v1 _ cr0
  go_wp2_with fail
  refine bodyPost_ret (v := .tuple #[PV 0 0 0 false 0, .int .i64 er]) (by rw [results_cell_tmp rfl]; go_simp) rfl ⟨rfl, ?_⟩
  first | exact Below.on hbw (below1 _ _) | exact Below.on (bSet (bSet (bSet (bSet (bSet hbw _ _ _ HGr.out) _ _ _ HGr.out) _ _ _ HGr.out) _ _ _ HGr.out) _ _ _ HGr.out) (below1 _ _)
set_option maxRecDepth 20000 in
set_option maxHeartbeats 8000000 in
theorem finite_i {f p m l : Int} {S I H : Nat} (F : Pm f p m l S I H) (b : Nat) (hb : b < 2 * S) (hr : b % S = I) (w : World) :
    Calls Tryz.prog 76 #[.int .i64 f, U b] w fun en w' => en = .returned (.tuple #[PV 0 0 0 false 0, .int .i64 6]) ∧ Below w.heap.size w w' := by
  have HF : Hid (Pm f p m l S I H) := F
  have HR : Hid (b < 2 * S ∧ b % S ≤ I ∧ decide (b % S = I) = true) := ⟨hb, by omega, decide_eq_true hr⟩
  obtain ⟨z, hz⟩ : ∃ z, z = b % S := ⟨_, rfl⟩
  obtain ⟨s, hs⟩ : ∃ s, s = decide (S ≤ b) := ⟨_, rfl⟩
  have HZ : Hid (b % S = z ∧ decide (S ≤ b) = s) := ⟨hz.symm, hs.symm⟩
  clear F hb hr hz hs
  go_enter Tryz.func76, Tryz.ntmps76
  go_wp2_with fail
  obtain ⟨W0, hW0⟩ : ∃ W0, W0 = (w.alloc (.cells #[.int .i64 0, .int .i64 0, .int .i64 0, .bool false, .int .u64 0] 133)) := ⟨_, rfl⟩
  have Xr : Hid (B5q W0 (w.heap.size) (.int .i64 0) (.int .i64 0) (.int .i64 0) (.bool false) (.int .u64 0)) := by rw [hW0]; exact ⟨by go_simp, by go_simp, by go_simp, by go_simp, by go_simp, by go_simp, by go_simp, by go_simp, by go_simp, by go_simp⟩
  have hb0 : Below w.heap.size w W0 := by rw [hW0]; exact below1 w _
  rw [← hW0]
  clear hW0
  have hbw : Below w.heap.size w w := Below.refl _ _
  obtain ⟨gr, hgr⟩ : ∃ g, g = w.heap.size := ⟨_, rfl⟩
  have HGr : Hid (w.heap.size ≤ gr) := by rw [hgr]; show _ ≤ _; omega
  rw [← hgr] at Xr
  try rw [← hgr]
  clear hgr
  replace hbw := Below.on hbw hb0
  clear hb0
  refine (ranked_ok HF.out.fm b HR.out.1 HR.out.2.1 _).mono ?_
  rintro e v1 ⟨rfl, hb1⟩
  rw [HZ.out.1, HZ.out.2]
  replace Xr : Hid _ := Xr.out.below hb1
  replace hbw := Below.on hbw hb1
  clear hb1
  go_wp2_with fail
  have Xp0 : Hid (B5q (v1.alloc (.cells #[.int .i64 p, .int .i64 m, .int .i64 l, .bool s, U z] 133)) v1.heap.size (.int .i64 p) (.int .i64 m) (.int .i64 l) (.bool s) (U z)) := B5q.new v1 _ _ _ _ _ _
  have hbn : Below v1.heap.size v1 (v1.alloc (.cells #[.int .i64 p, .int .i64 m, .int .i64 l, .bool s, U z] 133)) := below1 v1 _
  generalize v1.alloc (.cells #[.int .i64 p, .int .i64 m, .int .i64 l, .bool s, U z] 133) = Wp at *
  have HGp : Hid (w.heap.size ≤ v1.heap.size) := hbw.size
  replace Xr : Hid _ := Xr.out.below hbn
  replace hbw := Below.on hbw hbn
  clear hbn
  generalize v1.heap.size = gp at *
  have Xp := Xp0
  clear Xp0
  refine (HF.out.fm.cls s z _).mono ?_
  rintro e2 v2 ⟨c, rfl, hc4, hc3, hb2⟩
  have hc0 : (c == 3) = true := by rw [hc3, ← HZ.out.1]; exact HR.out.2.2
  clear hc4 hc3
  replace Xr : Hid _ := Xr.out.below hb2
  replace Xp : Hid _ := Xp.out.below hb2
  replace hbw := Below.on hbw hb2
  clear hb2
  obtain ⟨cr0, cr1, cr2, cr3, cr4, fr0, fr1, fr2, fr3, fr4⟩ := Xr.out
  have hner : gr < v2.heap.size := World.block_lt_of_cell? v2 _ cr0
  go_wp2_with fail
  refine bodyPost_ret (v := .tuple #[PV 0 0 0 false 0, .int .i64 6]) (by rw [results_cell_tmp rfl]; go_simp) rfl ⟨rfl, ?_⟩
  first | exact hbw | exact bSet (bSet (bSet (bSet (bSet hbw _ _ _ HGr.out) _ _ _ HGr.out) _ _ _ HGr.out) _ _ _ HGr.out) _ _ _ HGr.out
set_option maxRecDepth 20000 in
set_option maxHeartbeats 8000000 in
theorem split_e {f : Int} {b : Nat} {er : Int} (hB : ∀ w, Calls Tryz.prog 76 #[.int .i64 f, U b] w fun e w' => e = .returned (.tuple #[PV 0 0 0 false 0, .int .i64 er]) ∧ Below w.heap.size w w') (he : er ≠ 0) (w : World) :
    Calls Tryz.prog 33 #[.int .i64 f, U b] w fun en w' => en = .returned (.tuple #[.bool false, .int .u64 0, .int .i64 0, .int .i64 er]) ∧ Below w.heap.size w w' := by
  have hbw : Below w.heap.size w w := Below.refl _ _
  have HB : Hid (∀ w, Calls Tryz.prog 76 #[.int .i64 f, U b] w fun e w' => e = .returned (.tuple #[PV 0 0 0 false 0, .int .i64 er]) ∧ Below w.heap.size w w') := hB
  have e1 : (er == 0) = false := by simp [he]
  have e2 : (er != 0) = true := by simp [he]
  clear hB he
  go_enter Tryz.func33, Tryz.ntmps33
  go_wp2_with fail
  refine (HB.out _).mono ?_
  rintro e v1 ⟨rfl, hb1⟩
  replace hbw := Below.on hbw hb1
  clear hb1
  go_wp2_with fail
  refine bodyPost_ret (v := .tuple #[.bool false, .int .u64 0, .int .i64 0, .int .i64 er]) (by rw [results_t4 rfl]; go_simp) rfl ⟨rfl, ?_⟩
  first | exact hbw | exact Below.on hbw (below1 _ _)
theorem vs_next {H : Nat} (hH : 0 < H) (s : Nat) : vs H (s + 1) = vs H s + 2 ^ (s / H - 1) := by
  have h1 := Nat.div_add_mod s H
  have h2 := Nat.mod_lt s hH
  have h3 := Nat.div_add_mod (s + 1) H
  have h4 := Nat.mod_lt (s + 1) hH
  have h5 : s / H ≤ (s + 1) / H := Nat.div_le_div_right (by omega)
  have h6 : (s + 1) / H ≤ s / H + 1 := by
    have : (s + 1) / H ≤ (s + H) / H := Nat.div_le_div_right (by omega)
    rw [Nat.add_div_right _ hH] at this
    exact this
  unfold vs
  by_cases h7 : (s + 1) / H = s / H
  · rw [h7]
    have hq : (s / H - 1) * H ≤ s := by
      rw [Nat.sub_mul, Nat.mul_comm]; omega
    rw [show s + 1 - (s / H - 1) * H = s - (s / H - 1) * H + 1 from by omega, Nat.add_mul, Nat.one_mul]
  · have h8 : (s + 1) / H = s / H + 1 := by omega
    rw [h8, Nat.add_sub_cancel]
    rw [h8, Nat.mul_add, Nat.mul_one] at h3
    obtain ⟨k, hk⟩ : ∃ k, k = s / H := ⟨_, rfl⟩
    rw [← hk] at h1 h3 ⊢
    obtain ⟨y, hy⟩ : ∃ y, y = H * k := ⟨_, rfl⟩
    rw [← hy] at h1 h3
    rw [Nat.mul_comm k H, ← hy]
    by_cases h9 : k = 0
    · subst h9
      have : y = 0 := by rw [hy]; simp
      simp
      omega
    · obtain ⟨j, rfl⟩ : ∃ j, k = j + 1 := ⟨k - 1, by omega⟩
      rw [Nat.add_sub_cancel, Nat.pow_succ]
      have hj : j * H + H = y := by rw [hy, Nat.mul_comm H, Nat.add_mul, Nat.one_mul]
      have e1 : s + 1 - y = H := by omega
      have e2 : s - j * H = 2 * H - 1 := by omega
      rw [e1, e2, Nat.mul_comm (2 ^ j) 2, ← Nat.mul_assoc, Nat.sub_mul, Nat.one_mul, Nat.mul_comm H 2]
      have : 1 * 2 ^ j ≤ 2 * H * 2 ^ j := Nat.mul_le_mul_right _ (by omega)
      omega
def hv (H z : Nat) : Nat := 2 * vs H z + 2 ^ (z / H - 1)
theorem hv_gt (H z : Nat) : 2 * vs H z < hv H z := by
  unfold hv
  have : 0 < 2 ^ (z / H - 1) := Nat.pow_pos (by omega)
  omega
theorem hv_lt {H : Nat} (hH : 0 < H) (z : Nat) : hv H z < 2 * vs H (z + 1) := by
  have : 0 < 2 ^ (z / H - 1) := Nat.pow_pos (by omega)
  rw [vs_next hH]
  unfold hv
  omega
theorem vs_le {H : Nat} (hH : 0 < H) {s t : Nat} (h : s ≤ t) : vs H s ≤ vs H t := by
  rcases Nat.lt_or_eq_of_le h with h1 | h1
  · exact Nat.le_of_lt (vs_mono hH h1)
  · rw [h1]; exact Nat.le_refl _
structure RNz (H : Nat) (l : Int) (I : Nat) (A : Int) (Z : Nat) : Prop where
  le : Z ≤ I
  lo : ∀ z, z < I → A < dv (hv H z : Int) (l - 1) → Z ≤ z
  hi : ∀ z, z < I → dv (hv H z : Int) (l - 1) < A → z < Z
  eq : ∀ z, z < I → A = dv (hv H z : Int) (l - 1) → (Z = z ∨ Z = z + 1) ∧ Z % 2 = 0
theorem RNz.mono {H : Nat} {l : Int} {I : Nat} {A B : Int} {Z Y : Nat} (h : RNz H l I A Z) (k : RNz H l I B Y) (hAB : A ≤ B) : Z ≤ Y := by
  refine Nat.le_of_not_lt fun hlt => ?_
  have hY : Y < I := Nat.lt_of_lt_of_le hlt h.le
  have hz : ∀ x : Int, x = dv (hv H Y : Int) (l - 1) → False := fun x hx => by
    rcases Int.lt_trichotomy B x with h1 | h1 | h1
    · have := h.lo Y hY (by omega); omega
    · have h2 := k.eq Y hY (by omega)
      rcases Int.lt_or_eq_of_le hAB with h3 | h3
      · have := h.lo Y hY (by omega); omega
      · have h4 := h.eq Y hY (by omega)
        omega
    · have := k.hi Y hY (by omega); omega
  exact hz _ rfl
theorem RNz.exact {H : Nat} {l : Int} {I Z : Nat} (hH : 0 < H) (hl : -4194303 ≤ l) (hZ : Z ≤ I) : RNz H l I (dv (vs H Z) l) Z := by
  have e1 : dv (vs H Z : Int) l = dv ((2 * vs H Z : Nat) : Int) (l - 1) := by
    have := dv_up (x := (vs H Z : Int)) (e := l - 1) 1 (by omega)
    rw [show l - 1 + ((1 : Nat) : Int) = l from by omega] at this
    rw [this, Nat.mul_comm, Int.natCast_mul]
  have low : ∀ z, z < Z → dv (hv H z : Int) (l - 1) < dv (vs H Z) l := fun z hz => by
    rw [e1]
    have h1 := hv_lt hH z
    have h2 := vs_le hH (show z + 1 ≤ Z from hz)
    exact dv_lt _ (by omega)
  have high : ∀ z, Z ≤ z → dv (vs H Z) l < dv (hv H z : Int) (l - 1) := fun z hz => by
    rw [e1]
    have h1 := hv_gt H z
    have h2 := vs_le hH hz
    exact dv_lt _ (by omega)
  refine ⟨hZ, fun z _ h => ?_, fun z _ h => ?_, fun z _ h => ?_⟩
  · refine Nat.le_of_not_lt fun h2 => ?_
    have := low z h2; omega
  · refine Nat.lt_of_not_le fun h2 => ?_
    have := high z h2; omega
  · rcases Nat.lt_or_ge z Z with h2 | h2
    · have := low z h2; omega
    · have := high z h2; omega
structure Jn (f p m l : Int) (S I H sd : Nat) (Be : Int) : Prop where
  jm : Jm f p m l S I H sd Be
  hI : (I : Int) = (Be - l - sd + 1) * ((2 ^ sd : Nat) : Int)
  hB : 0 < Be - l - sd
  hS : S % 2 = 0
  hB9 : Be - l - sd ≤ 2046
  cl : ∀ (b : Nat) w, b < 2 * S → Calls Tryz.prog 105 #[.int .i64 f, U b] w fun en w' => en = .returned (.tuple #[.int .i64 (clsN H I (b % S)), .int .i64 0]) ∧ Below w.heap.size w w'
theorem jn_32 : Jn 32 32 24 (-149) 2147483648 2139095040 8388608 23 128 := ⟨jm_32, by decide, by decide, by decide, by decide, fun b w hb => clsof_32 b hb w⟩
theorem jn_64 : Jn 64 64 53 (-1074) 9223372036854775808 9218868437227405312 4503599627370496 52 1024 := ⟨jm_64, by decide, by decide, by decide, by decide, fun b w hb => clsof_64 b hb w⟩
theorem RNz.nought {H : Nat} {l : Int} {I : Nat} (hH : 0 < H) (hl : -4194303 ≤ l) : RNz H l I 0 0 := by
  have := RNz.exact (H := H) (l := l) (I := I) (Z := 0) hH hl (Nat.zero_le _)
  rwa [vs_zero, show ((0 : Nat) : Int) = 0 from rfl, dv_zero] at this
theorem RNz.cell {H : Nat} {l : Int} {I : Nat} {A : Int} {Z : Nat} (h : RNz H l I A Z) (h0 : Z ≠ 0) (h1 : Z < I) :
    dv (hv H (Z - 1) : Int) (l - 1) ≤ A ∧ A ≤ dv (hv H Z : Int) (l - 1) ∧ (Z % 2 = 1 → dv (hv H (Z - 1) : Int) (l - 1) < A ∧ A < dv (hv H Z : Int) (l - 1)) := by
  have a1 : ¬ A < dv (hv H (Z - 1) : Int) (l - 1) := fun h2 => by have := h.lo _ (by omega) h2; omega
  have a2 : ¬ dv (hv H Z : Int) (l - 1) < A := fun h2 => by have := h.hi _ h1 h2; omega
  refine ⟨by omega, by omega, fun ho => ⟨?_, ?_⟩⟩
  · rcases Int.lt_or_eq_of_le (Int.not_lt.1 a1) with h2 | h2
    · exact h2
    · have := h.eq (Z - 1) (by omega) h2.symm; omega
  · rcases Int.lt_or_eq_of_le (Int.not_lt.1 a2) with h2 | h2
    · exact h2
    · have := h.eq Z h1 h2; omega
theorem RNz.none {H : Nat} {l : Int} {I : Nat} {A : Int} (h : RNz H l I A 0) (hI : 0 < I) : A ≤ dv (hv H 0 : Int) (l - 1) :=
  Int.not_lt.1 fun h2 => by have := h.hi 0 hI h2; omega
theorem RNz.all {H : Nat} {l : Int} {I : Nat} {A : Int} (h : RNz H l I A I) (hI : 0 < I) : dv (hv H (I - 1) : Int) (l - 1) ≤ A :=
  Int.not_lt.1 fun h2 => by have := h.lo (I - 1) (by omega) h2; omega
theorem Own.word {B : Nat} {w : World} {p : Option Addr} {m y : Nat} {zs : List Nat} (ho : Own B w p m zs) (hn : Nf B64 zs y) (hy : y < B64) :
    (y = 0 ∧ m = 0) ∨ (y ≠ 0 ∧ m = 1 ∧ ∃ g, p = some ⟨g, 0, none⟩ ∧ B ≤ g ∧ w.cell? ⟨g, 0, none⟩ = some (U y)) := by
  have hl := ho.len
  have h1 : zs.length ≤ 1 := (hn.len_le B64_one (k := 1)).2 (by rw [Nat.pow_one]; exact hy)
  rcases Nat.eq_zero_or_pos m with h0 | h0
  · left
    rw [h0] at hl
    have := hn.val
    rw [List.eq_nil_of_length_eq_zero hl] at this
    exact ⟨this.symm, h0⟩
  · right
    have hm1 : m = 1 := by omega
    subst hm1
    obtain ⟨a, rfl⟩ : ∃ a, zs = [a] := List.length_eq_one_iff.1 hl
    have hv : a = y := by have := hn.val; simpa [valB] using this
    obtain ⟨g, hp, hB, hc⟩ := ho.mem.resolve_left (by omega)
    refine ⟨?_, rfl, g, hp, hB, ?_⟩
    · intro h9
      have h8 : ([a] : List Nat) = [] := hn.inj B64_one (by rw [h9]; exact Nf.nil _)
      cases h8
    · have := hc.cell 0 (by omega)
      rw [Nat.add_zero] at this
      rw [this]
      simp [hv]
structure It where
  p : Option Addr
  n : Nat
  c : Nat
  xs : List Nat
  a : Nat
structure Lists (w : World) (P : Option Addr) (N C : Nat) (its : List It) : Prop where
  len : its.length = N
  cap : N ≤ C
  big : C ≤ maxLen
  cells : N = 0 ∨ ∃ g off, P = some ⟨g, off, none⟩ ∧ ∀ j (h : j < its.length), w.cell? ⟨g, off + j, none⟩ = some (.slice its[j].p its[j].n its[j].c)
  nums : ∀ t ∈ its, Num w t.p t.n t.c t.xs t.a
theorem Lists.below {w w' : World} {P : Option Addr} {N C : Nat} {its : List It} (h : Lists w P N C its) (hb : Below w.heap.size w w') : Lists w' P N C its := by
  refine ⟨h.len, h.cap, h.big, ?_, fun t ht => (h.nums t ht).below hb⟩
  rcases h.cells with h0 | ⟨g, off, rfl, hc⟩
  · exact .inl h0
  · exact .inr ⟨g, off, rfl, fun j hj => (hb.cell (p := ⟨g, off + j, none⟩) (World.block_lt_of_cell? w _ (hc j hj))).trans (hc j hj)⟩
def prodI : List It → Nat
  | [] => 1
  | t :: ts => t.a * prodI ts
theorem Lists.take {w : World} {g off N C : Nat} {its : List It} (h : Lists w (some ⟨g, off, none⟩) N C its) (k : Nat) (hk : k ≤ N) : Lists w (some ⟨g, off, none⟩) k k (its.take k) := by
  have hl := h.len; have hc := h.cap; have hb := h.big
  refine ⟨by rw [List.length_take]; omega, Nat.le_refl _, by omega, ?_, fun t ht => h.nums t (List.mem_of_mem_take ht)⟩
  rcases h.cells with h0 | ⟨g', off', he, hcl⟩
  · exact .inl (by omega)
  · refine .inr ⟨g', off', he, fun j hj => ?_⟩
    have hj2 : j < its.length := by rw [List.length_take] at hj; omega
    rw [hcl j hj2]; simp
theorem Lists.drop {w : World} {g off N C : Nat} {its : List It} (h : Lists w (some ⟨g, off, none⟩) N C its) (k : Nat) (hk : k < N) : Lists w (some ⟨g, off + k, none⟩) (N - k) (C - k) (its.drop k) := by
  have hl := h.len; have hc := h.cap; have hb := h.big
  refine ⟨by rw [List.length_drop]; omega, by omega, by omega, ?_, fun t ht => h.nums t (List.mem_of_mem_drop ht)⟩
  rcases h.cells with h0 | ⟨g', off', he, hcl⟩
  · omega
  · simp only [Option.some.injEq, Addr.mk.injEq, and_true] at he
    obtain ⟨rfl, rfl⟩ := he
    refine .inr ⟨g, off + k, rfl, fun j hj => ?_⟩
    have hj2 : k + j < its.length := by rw [List.length_drop] at hj; omega
    have := hcl (k + j) hj2
    rw [← Nat.add_assoc] at this
    rw [this]; simp
theorem Lists.pos {w : World} {P : Option Addr} {N C : Nat} {its : List It} (_h : Lists w P N C its) (hp : ∀ t ∈ its, 0 < t.a) : 0 < prodI its := by
  clear _h
  induction its with
  | nil => simp [prodI]
  | cons t ts ih => exact Nat.mul_pos (hp t (by simp)) (ih (fun u hu => hp u (by simp [hu])))
end Go.Proofs.YtoalblaklcekeaaGreatDoor
namespace Go.Proofs.YtoalblaklcekeaaGreatDoor
open Go.RowKit
theorem Nf.drop {xs : List Nat} {a k : Nat} (hx : Nf B64 xs a) (hk : k ≤ xs.length) : Nf B64 (xs.drop k) (a / B64 ^ k) := by
  refine ⟨hx.dig.drop k, ?_, drop_div hx hk⟩
  intro x h
  refine hx.top x ?_
  by_cases hkl : k < xs.length
  · rw [List.getLast?_drop, if_neg (by omega)] at h; exact h
  · rw [List.drop_of_length_le (by omega)] at h; simp at h
theorem Nf.low {xs : List Nat} {a k : Nat} (hx : Nf B64 xs a) (hk : k ≤ xs.length) : Nf B64 (trimL (xs.take k)) (a % B64 ^ k) := by
  have h := Nf.trim (hx.dig.take k)
  rw [take_mod hx hk] at h; exact h
end Go.Proofs.YtoalblaklcekeaaGreatDoor
namespace Go.Proofs.YtoalblaklcekeaaGreatDoor
open Go.RowKit Go.Shelf
theorem DO.mono {B B' : Nat} {w : World} {s : Bool} {p : Option Addr} {m : Nat} {e z : Int} (h : DO B w s p m e z) (hB : B' ≤ B) : DO B' w s p m e z := by
  obtain ⟨zs, h1, h2, h3⟩ := h.own
  exact ⟨⟨zs, h1.mono hB, h2, h3⟩, h.sg, h.fm⟩
abbrev EV (s : Bool) (p : Option Addr) (m c : Nat) (e : Int) : Value := .agg #[.bool s, .slice p m c, .int .i64 e, .int .i64 0]
set_option maxRecDepth 20000 in
set_option maxHeartbeats 8000000 in
theorem stold {p : Option Addr} {m c : Nat} {w : World} {e : Int} {s : Bool} :
    Calls Tryz.prog 170 #[DV s p m c e, .int .i64 0] w fun en w' => en = .returned (EV s p m c e) ∧ Below w.heap.size w w' := by
  go_enter Tryz.func170, Tryz.ntmps170
  go_wp2_with fail
  refine bodyPost_ret (v := EV s p m c e) (by rw [results_cell1 rfl]; go_simp) rfl ⟨rfl, ?_⟩
  first | exact Below.on (below1 w _) (below1 _ _) | exact below2 w _ _ | exact below1 w _ | exact Below.on (below2 w _ _) (below1 _ _)
set_option maxRecDepth 20000 in
set_option maxHeartbeats 8000000 in
theorem sbetw {p q : Option Addr} {m c n d : Nat} {w : World} {e f : Int} {s t : Bool} :
    Calls Tryz.prog 169 #[EV s p m c e, EV t q n d f] w fun en w' => en = .returned (.tuple #[SV s p m c e t q n d f, .int .i64 0]) ∧ Below w.heap.size w w' := by
  go_enter Tryz.func169, Tryz.ntmps169
  go_wp2_with fail
  refine bodyPost_ret (v := .tuple #[SV s p m c e t q n d f, .int .i64 0]) (by rw [results_cell_tmp rfl]; go_simp) rfl ⟨rfl, ?_⟩
  first | exact below3 w _ _ _ | exact Below.on (below2 w _ _) (below1 _ _)
set_option maxRecDepth 20000 in
set_option maxHeartbeats 8000000 in
theorem dscale_z {p : Option Addr} {m c : Nat} {w : World} {z e N : Int} {s : Bool} (h : DN w s p m c e z) (hz : z = 0) :
    Calls Tryz.prog 14 #[DV s p m c e, .int .i64 N] w fun en w' => en = .returned (.tuple #[DV false none 0 0 0, .int .i64 0]) ∧ Below w.heap.size w w' := by
  have A : Hid (DN w s p m c e z) := h
  have HS : Hid (sgnI z = 0) := by rw [hz]; rfl
  clear h hz
  go_enter Tryz.func14, Tryz.ntmps14
  go_wp2_with fail
  obtain ⟨W0, hW0⟩ : ∃ W0, W0 = ((w.alloc (.cells #[.bool s, .slice p m c, .int .i64 e] 28)).alloc (.cells #[.bool false, .slice none 0 0, .int .i64 0] 28)) := ⟨_, rfl⟩
  have Xd : Hid (B3q W0 (w.heap.size) (.bool s) (.slice p m c) (.int .i64 e)) := by rw [hW0]; exact ⟨by go_simp, by go_simp, by go_simp, by go_simp, by go_simp, by go_simp⟩
  have Xr : Hid (B3q W0 (w.heap.size + 1) (.bool false) (.slice none 0 0) (.int .i64 0)) := by rw [hW0]; exact ⟨by go_simp, by go_simp, by go_simp, by go_simp, by go_simp, by go_simp⟩
  have hb0 : Below w.heap.size w W0 := by rw [hW0]; exact below2 w _ _
  rw [← hW0]
  clear hW0
  have hbw : Below w.heap.size w w := Below.refl _ _
  obtain ⟨gr, hgr⟩ : ∃ g, g = w.heap.size + 1 := ⟨_, rfl⟩
  have HGr : Hid (w.heap.size ≤ gr) := by rw [hgr]; show _ ≤ _; omega
  rw [← hgr] at Xr
  try rw [← hgr]
  obtain ⟨gd, hgd⟩ : ∃ g, g = w.heap.size := ⟨_, rfl⟩
  have HGd : Hid (w.heap.size ≤ gd) := by rw [hgd]; show _ ≤ _; omega
  rw [← hgd] at Xd
  try rw [← hgd]
  have HGD : Hid (gd ≠ gr ∧ gr ≠ gd) := by rw [hgd, hgr]; exact ⟨by omega, by omega⟩
  clear hgd hgr
  replace hbw := Below.on hbw hb0
  clear hb0
  refine (dform_t (A.out.below hbw)).mono ?_
  rintro e v1 ⟨rfl, hb1⟩
  replace Xd : Hid _ := Xd.out.below hb1
  replace Xr : Hid _ := Xr.out.below hb1
  replace hbw := Below.on hbw hb1
  clear hb1
  obtain ⟨cd0, cd1, cd2, fd0, fd1, fd2⟩ := Xd.out
  have hned : gd < v1.heap.size := World.block_lt_of_cell? v1 _ cd0
  go_wp2_with fail
  clear cd0 cd1 cd2 fd0 fd1 fd2 hned
  refine (zsign (A.out.zn.below hbw)).mono ?_
  rintro e v2 ⟨rfl, hb2⟩
  rw [HS.out]
  replace Xd : Hid _ := Xd.out.below hb2
  replace Xr : Hid _ := Xr.out.below hb2
  replace hbw := Below.on hbw hb2
  clear hb2
  obtain ⟨cr0, cr1, cr2, fr0, fr1, fr2⟩ := Xr.out
  have hner : gr < v2.heap.size := World.block_lt_of_cell? v2 _ cr0
  go_wp2_with fail
  refine bodyPost_ret (v := .tuple #[DV false none 0 0 0, .int .i64 0]) (by rw [results_cell_tmp rfl]; go_simp) rfl ⟨rfl, ?_⟩
  first | exact hbw | exact (bSet (bSet (bSet hbw _ _ _ HGr.out) _ _ _ HGr.out) _ _ _ HGr.out)
theorem DO.zero (B : Nat) (w : World) : DO B w false none 0 0 0 := ⟨⟨[], Own.empty _ _ _, Nf.nil _, by decide⟩, rfl, .inl ⟨rfl, rfl⟩⟩
theorem dscale0 {p : Option Addr} {m c : Nat} {w : World} {z e : Int} {s : Bool} (h : DN w s p m c e z) :
    Calls Tryz.prog 14 #[DV s p m c e, .int .i64 0] w fun en w' => ∃ s1 p1 m1, en = .returned (.tuple #[DV s1 p1 m1 m1 e, .int .i64 0]) ∧ DO w.heap.size w' s1 p1 m1 e z ∧ Below w.heap.size w w' := by
  by_cases hz : z = 0
  · have he : e = 0 := by rcases h.fm with ⟨_, h2⟩ | ⟨h2, _⟩; (· exact h2); omega
    refine (dscale_z h hz).mono fun en w' ⟨h1, h2⟩ => ⟨false, none, 0, ?_, ?_, h2⟩
    · rw [h1, he]
    · rw [hz, he]; exact DO.zero _ _
  · refine (dscale (N := 0) h hz (by rcases h.fm with ⟨_, h2⟩ | ⟨_, h2, h3⟩ <;> omega)).mono fun en w' ⟨v, h1, h2, h3⟩ => ?_
    rw [Int.add_zero] at h2
    obtain ⟨s1, p1, m1, rfl, h4⟩ := DO.of h2 h.fm
    exact ⟨s1, p1, m1, h1, h4, h3⟩
structure ZO (B : Nat) (w : World) (s : Bool) (p : Option Addr) (m : Nat) (z : Int) : Prop where
  own : ∃ zs, Own B w p m zs ∧ Nf B64 zs z.natAbs ∧ m ≤ 8192
  sg : s = decide (z < 0)
theorem ZO.zn {B : Nat} {w : World} {s : Bool} {p : Option Addr} {m : Nat} {z : Int} (h : ZO B w s p m z) : ZN w s p m m z := by
  obtain ⟨zs, h1, h2, h3⟩ := h.own
  exact ⟨⟨zs, Num.of h1 h2 h3⟩, h.sg⟩
theorem ZO.below {B : Nat} {w w' : World} {s : Bool} {p : Option Addr} {m : Nat} {z : Int} (h : ZO B w s p m z) (hb : Below w.heap.size w w') : ZO B w' s p m z := by
  obtain ⟨zs, h1, h2, h3⟩ := h.own
  exact ⟨⟨zs, h1.below hb, h2, h3⟩, h.sg⟩
theorem ZO.set {B : Nat} {w : World} {s : Bool} {p : Option Addr} {m : Nat} {z : Int} (h : ZO B w s p m z) (g o : Nat) (v : Value) (hg : g < B) : ZO B (w.setCell ⟨g, o, none⟩ v) s p m z := by
  obtain ⟨zs, h1, h2, h3⟩ := h.own
  exact ⟨⟨zs, h1.setOld _ _ _ hg, h2, h3⟩, h.sg⟩
theorem mo4 (x : Int) : mo (decide (x < 0)) (decide ((4 : Int) < 0)) x.natAbs (4 : Int).natAbs = x % 4 := by
  unfold mo iv
  rw [show (4 : Int).natAbs = 4 from rfl, show decide ((4 : Int) < 0) = false from rfl]
  rcases Int.lt_or_le x 0 with h | h
  · rw [show decide (x < 0) = true from decide_eq_true h]
    by_cases h4 : x.natAbs % 4 = 0
    · simp [h4]; omega
    · simp [h4]; omega
  · rw [show decide (x < 0) = false from decide_eq_false (by omega)]
    simp; omega
theorem zmod4 {p q : Option Addr} {m c n d : Nat} {w : World} {s t : Bool} {x : Int} (h : ZN w s p m c x) (k : ZN w t q n d 4) : Calls Tryz.prog 20 #[ZV s p m c, ZV t q n d] w fun e w' => ∃ s1 p1 m1, e = .returned (.tuple #[ZV s1 p1 m1 m1, .int .i64 0]) ∧ ZO w.heap.size w' s1 p1 m1 (x % 4) ∧ Below w.heap.size w w' := by
  obtain ⟨xs, hx⟩ := h.ex
  obtain ⟨ys, hy⟩ := k.ex
  obtain rfl : t = false := k.sg
  have hm : Calls Tryz.prog 20 #[ZV s p m c, ZV false q n d] w fun e w' => ∃ v, e = .returned (.tuple #[v, .int .i64 0]) ∧ AnsZ w.heap.size w' v (mo s false x.natAbs (4 : Int).natAbs) ∧ Below w.heap.size w w' := by
    have hp := h.pos
    have kp := k.pos
    clear h k
    by_cases hz : x.natAbs % (4 : Int).natAbs = 0 <;> cases s
    · exact mod_000 hx hp hy kp (by decide) hz
    · exact mod_100 hx hp hy kp (by decide) hz
    · exact mod_001 hx hp hy kp (by decide) hz
    · exact mod_101 hx hp hy kp (by decide) hz
  refine hm.mono ?_
  rintro e w' ⟨v, rfl, hv, hb⟩
  rw [h.sg, show false = decide ((4 : Int) < 0) from rfl, mo4] at hv
  obtain ⟨p1, m1, zs, rfl, h1, h2, h3⟩ := hv
  exact ⟨_, p1, m1, rfl, ⟨⟨zs, h1, h2, h3⟩, rfl⟩, hb⟩
theorem dscale_v {p : Option Addr} {m c : Nat} {w : World} {z e N : Int} {s : Bool} (h : DN w s p m c e z) (hN : z ≠ 0 → -1048576 ≤ e + N ∧ e + N ≤ 1048576) :
    Calls Tryz.prog 14 #[DV s p m c e, .int .i64 N] w fun en w' => ∃ s1 p1 m1 zo eo, en = .returned (.tuple #[DV s1 p1 m1 m1 eo, .int .i64 0]) ∧ DO w.heap.size w' s1 p1 m1 eo zo ∧ ((z = 0 ∧ zo = 0 ∧ eo = 0) ∨ (z ≠ 0 ∧ zo = z ∧ eo = e + N)) ∧ Below w.heap.size w w' := by
  by_cases hz : z = 0
  · refine (dscale_z h hz).mono ?_
    rintro en w' ⟨rfl, hb⟩
    exact ⟨_, _, _, 0, 0, rfl, DO.zero _ _, .inl ⟨hz, rfl, rfl⟩, hb⟩
  · refine (dscale h hz (hN hz)).mono ?_
    rintro en w' ⟨v, rfl, hv, hb⟩
    have hf : DFm z (e + N) := by
      rcases h.fm with ⟨h1, _⟩ | ⟨h1, _⟩
      · exact absurd h1 hz
      · exact .inr ⟨h1, hN hz⟩
    obtain ⟨s1, p1, m1, rfl, hd⟩ := DO.of hv hf
    exact ⟨s1, p1, m1, z, e + N, rfl, hd, .inr ⟨hz, rfl, rfl⟩, hb⟩
theorem dv0_inj {x y : Int} (h : dv x 0 = dv y 0) : x = y := by
  unfold dv at h
  exact Int.eq_of_mul_eq_mul_right (pow_pos_int _) h
theorem rd_abs (z : Int) {d : Nat} (hd : 0 < d) : (rd false z d).natAbs ≤ z.natAbs := by
  rw [rd_f]
  have h1 := Int.ediv_mul_le z (show (d : Int) ≠ 0 by omega)
  rcases Int.lt_or_le z 0 with h | h
  · have h2 : z / (d : Int) < 0 := Int.ediv_neg_of_neg_of_pos h (by omega)
    have h3 : z ≤ z / (d : Int) := by
      rw [Int.le_ediv_iff_mul_le (by omega)]
      have : z * (d : Int) ≤ z * 1 := Int.mul_le_mul_of_nonpos_left (by omega) (by omega)
      omega
    omega
  · have h2 : 0 ≤ z / (d : Int) := Int.ediv_nonneg h (by omega)
    have h3 : z / (d : Int) ≤ z := Int.ediv_le_self _ h
    omega
theorem downat0 {q : Option Addr} {m c : Nat} {w : World} {z e : Int} {s : Bool} {KK EE : Nat} (h : DN w s q m c e z) (hb : DB z e KK EE) (hE : KK ≤ 100000 ∧ EE ≤ 100000) (hT : Tab w) :
    Calls Tryz.prog 74 #[DV s q m c e, .int .i64 0] w fun en w' => ∃ s1 p1 m1 zk ek K, en = .returned (.tuple #[DV s1 p1 m1 m1 ek, .int .i64 0]) ∧ DO w.heap.size w' s1 p1 m1 ek zk ∧ 0 ≤ ek ∧ K = zk * ((2 ^ ek.toNat : Nat) : Int) ∧ 4 * K * UQ ≤ dv z e ∧ dv z e < 4 * K * UQ + 4 * UQ ∧ DB zk ek KK (max KK EE) ∧ Below w.heap.size w w' := by
  have hp := uq_pos
  have hlo := hb.lo
  have hhi := hb.hi
  by_cases hz : z = 0
  · have he : e = 0 := by
      rcases h.fm with ⟨_, h1⟩ | ⟨h1, _⟩
      · exact h1
      · rw [hz] at h1; exact absurd h1 (by decide)
    refine (at_zd h hz).mono ?_
    rintro en w' ⟨v, rfl, hv, hbw⟩
    obtain ⟨s1, p1, m1, rfl, hd⟩ := DO.of hv h.fm
    refine ⟨s1, p1, m1, z, e, 0, rfl, hd, by omega, by rw [hz, Int.zero_mul], ?_, ?_, ⟨h.fm, hb.sz, by omega, by omega⟩, hbw⟩
    · rw [hz, dv_zero]; simp
    · rw [hz, dv_zero]; simp; omega
  · by_cases he : 0 ≤ e
    · refine (at_cd h hz he).mono ?_
      rintro en w' ⟨v, rfl, hv, hbw⟩
      obtain ⟨s1, p1, m1, rfl, hd⟩ := DO.of hv h.fm
      have hq : dv z e = 4 * (z * ((2 ^ e.toNat : Nat) : Int)) * UQ := by
        rw [dv_shift (f := 0) he (by decide), dv_w, Int.sub_zero]
      exact ⟨s1, p1, m1, z, e, _, rfl, hd, he, rfl, by rw [hq]; exact Int.le_refl _, by rw [hq]; omega, ⟨h.fm, hb.sz, by omega, by omega⟩, hbw⟩
    · obtain ⟨n, hn⟩ : ∃ n, n = ((0 : Int) - e).toNat := ⟨_, rfl⟩
      refine (at_sd h hz ⟨by omega, by decide⟩ hn hT).mono ?_
      rintro en w' ⟨hv, hbw⟩
      have hd0 : 0 < 2 ^ n := Nat.two_pow_pos n
      have hr1 := rd_down z hd0
      have hr2 := rd_abs z hd0
      obtain ⟨K, hK⟩ : ∃ K, K = rd false z (2 ^ n) := ⟨_, rfl⟩
      rw [← hK] at hv hr1 hr2
      have hsh : ∀ y : Int, 4 * y * UQ = dv (y * ((2 ^ n : Nat) : Int)) e := by
        intro y
        rw [← dv_w, dv_shift (e := 0) (f := e) (by omega) (by omega), ← hn]
      have l1 : 4 * K * UQ ≤ dv z e := by rw [hsh]; exact dv_le e hr1.1
      have l2 : dv z e < 4 * K * UQ + 4 * UQ := by
        have h5 : dv (z + 1) e ≤ 4 * (K + 1) * UQ := by rw [hsh]; exact dv_le e (by omega)
        rw [dv_add] at h5
        have h6 : 0 < dv 1 e := by
          rcases dv3 1 e with ⟨h, _⟩ | ⟨h, _⟩ | ⟨_, h⟩
          · exact absurd h (by decide)
          · exact absurd h (by decide)
          · exact h
        have h7 : 4 * (K + 1) * UQ = 4 * K * UQ + 4 * UQ := by rw [Int.mul_add, Int.add_mul]; rfl
        omega
      by_cases hK0 : K = 0
      · obtain ⟨v, rfl, hv2⟩ := hv.form (zo := 0) (eo := 0) (.inl ⟨rfl, rfl⟩) (by rw [hK0])
        obtain ⟨s1, p1, m1, rfl, hd⟩ := DO.of hv2 (.inl ⟨rfl, rfl⟩)
        exact ⟨s1, p1, m1, 0, 0, K, rfl, hd, by decide, by rw [hK0]; rfl, l1, l2, ⟨.inl ⟨rfl, rfl⟩, Nat.two_pow_pos _, by omega, by omega⟩, hbw⟩
      · have hKs : K.natAbs < 2 ^ KK := Nat.lt_of_le_of_lt hr2 hb.sz
        obtain ⟨zo, eo, f1, f2, f3, f4, f5, f6⟩ := form_ex (z := K) (e := 0) (L := KK) hK0 (by decide) (Nat.le_of_lt hKs) (by omega)
        obtain ⟨v, rfl, hv2⟩ := hv.form f1 f2
        obtain ⟨s1, p1, m1, rfl, hd⟩ := DO.of hv2 f1
        refine ⟨s1, p1, m1, zo, eo, K, rfl, hd, f5, ?_, l1, l2, ⟨f1, Nat.lt_of_le_of_lt f4 hKs, by omega, by omega⟩, hbw⟩
        rw [dv_shift (z := zo) (e := eo) (f := 0) f5 (by decide), Int.sub_zero] at f2
        exact (dv0_inj f2).symm
set_option maxRecDepth 20000 in
set_option maxHeartbeats 8000000 in
theorem dof_v {w : World} {z zo eo : Int} (h0 : -9223372036854775808 ≤ z ∧ z ≤ 9223372036854775807) (hf : DFm zo eo) (hv : dv zo eo = dv z 0) (hT : Tab w) :
    Calls Tryz.prog 16 #[.int .i64 z] w fun en w' => ∃ s p m, en = .returned (DV s p m m eo) ∧ DO w.heap.size w' s p m eo zo ∧ Below w.heap.size w w' := by
  have TB : Hid (Tab w) := hT
  have HF : Hid ((-9223372036854775808 ≤ z ∧ z ≤ 9223372036854775807) ∧ DFm zo eo ∧ dv zo eo = dv z 0) := ⟨h0, hf, hv⟩
  clear hT h0 hf hv
  go_enter Tryz.func16, Tryz.ntmps16
  go_wp2_with fail
  obtain ⟨W0, hW0⟩ : ∃ W0, W0 = (w.alloc (.cells #[.bool false, .slice none 0 0, .int .i64 0] 28)) := ⟨_, rfl⟩
  have Xr : Hid (B3q W0 (w.heap.size) (.bool false) (.slice none 0 0) (.int .i64 0)) := by rw [hW0]; exact ⟨by go_simp, by go_simp, by go_simp, by go_simp, by go_simp, by go_simp⟩
  have hb0 : Below w.heap.size w W0 := by rw [hW0]; exact below1 w _
  rw [← hW0]
  clear hW0
  have hbw : Below w.heap.size w w := Below.refl _ _
  obtain ⟨gr, hgr⟩ : ∃ g, g = w.heap.size := ⟨_, rfl⟩
  have HGr : Hid (w.heap.size ≤ gr) := by rw [hgr]; show _ ≤ _; omega
  rw [← hgr] at Xr
  try rw [← hgr]
  clear hgr
  replace hbw := Below.on hbw hb0
  clear hb0
  have HRL : Hid (gr < W0.heap.size ∧ w.heap.size ≤ W0.heap.size) := ⟨Xr.out.lt, hbw.size⟩
  refine (zof z _ HF.out.1.1 HF.out.1.2).mono ?_
  rintro e2 v1 ⟨s1, p1, m1, rfl, hz1, hb1⟩
  have HB1 : Hid (W0.heap.size ≤ v1.heap.size) := hb1.size
  replace Xr : Hid _ := Xr.out.below hb1
  replace hbw := Below.on hbw hb1
  clear hb1
  have Z1 : Hid (ZN v1 s1 p1 m1 m1 z) := hz1
  clear hz1
  go_wp2_with fail
  refine (makep Z1.out (by decide) (TB.out.below hbw)).mono ?_
  rintro e2 v6 ⟨hv, hb6⟩
  obtain ⟨v, rfl, hv2⟩ := hv.form HF.out.2.1 HF.out.2.2
  clear hv
  obtain ⟨s6, p6, m6, rfl, ho6⟩ := DO.of hv2 HF.out.2.1
  replace Xr : Hid _ := Xr.out.below hb6
  replace Z1 : Hid _ := Z1.out.below hb6
  replace hbw := Below.on hbw hb6
  clear hb6
  have O6 : Hid (DO v1.heap.size v6 s6 p6 m6 eo zo) := ho6
  clear ho6 hv2
  obtain ⟨cr0, cr1, cr2, fr0, fr1, fr2⟩ := Xr.out
  have hner : gr < v6.heap.size := World.block_lt_of_cell? v6 _ cr0
  go_wp2_with fail
  refine bodyPost_ret (v := DV s6 p6 m6 m6 eo) (by rw [results_cell1 rfl]; go_simp) rfl ⟨s6, p6, m6, rfl, ?_, ?_⟩
  · have := HRL.out; have := HB1.out
    refine DO.mono ((((O6.out.set gr 0 _ (by omega)).set gr 1 _ (by omega)).set gr 2 _ (by omega)).below (below1 _ _)) (by omega)
  exact Below.on (bSet (bSet (bSet hbw _ _ _ HGr.out) _ _ _ HGr.out) _ _ _ HGr.out) (below1 _ _)
set_option maxRecDepth 20000 in
set_option maxHeartbeats 8000000 in
theorem modfour {q : Option Addr} {m c : Nat} {w : World} {z e : Int} {s : Bool} {KK EE : Nat} (h : DN w s q m c e z) (hb : DB z e KK EE) (hE : KK + EE ≤ 500000) (he : 0 ≤ e) (hT : Tab w) :
    Calls Tryz.prog 75 #[DV s q m c e] w fun en w' => en = .returned (.int .i64 (z * ((2 ^ e.toNat : Nat) : Int) % 4)) ∧ Below w.heap.size w w' := by
  have TB : Hid (Tab w) := hT
  have H : Hid (DN w s q m c e z) := h
  obtain ⟨N, hN⟩ : ∃ N : Nat, N = e.toNat := ⟨_, rfl⟩
  obtain rfl : e = (N : Int) := by omega
  obtain ⟨K, hK⟩ : ∃ K, K = z * ((2 ^ N : Nat) : Int) := ⟨_, rfl⟩
  have hhi := hb.hi
  have HL : Hid ((z * 2 ^ N).natAbs < LIM ∧ N ≤ 9223372036854775807 ∧ z * 2 ^ N = K ∧ 0 ≤ K % 4 ∧ K % 4 < 4) := ⟨lt_LIM (shl_bound hb.sz (show N ≤ EE by omega)) (by omega), by omega, by rw [hK, pow_cast], by omega, by omega⟩
  rw [Int.toNat_natCast, ← hK]
  clear h hT hb hE he hN hK hhi
  go_enter Tryz.func75, Tryz.ntmps75
  go_wp2_with fail
  obtain ⟨W0, hW0⟩ : ∃ W0, W0 = (w.alloc (.cells #[.bool s, .slice q m c, .int .i64 (N : Int)] 28)) := ⟨_, rfl⟩
  have Xk : Hid (B3q W0 (w.heap.size) (.bool s) (.slice q m c) (.int .i64 (N : Int))) := by rw [hW0]; exact ⟨by go_simp, by go_simp, by go_simp, by go_simp, by go_simp, by go_simp⟩
  have hb0 : Below w.heap.size w W0 := by rw [hW0]; exact below1 w _
  rw [← hW0]
  clear hW0
  have hbw : Below w.heap.size w w := Below.refl _ _
  obtain ⟨gk, hgk⟩ : ∃ g, g = w.heap.size := ⟨_, rfl⟩
  have HGk : Hid (w.heap.size ≤ gk) := by rw [hgk]; show _ ≤ _; omega
  rw [← hgk] at Xk
  try rw [← hgk]
  clear hgk
  replace hbw := Below.on hbw hb0
  clear hb0
  obtain ⟨ck0, ck1, ck2, fk0, fk1, fk2⟩ := Xk.out
  have hnek : gk < W0.heap.size := World.block_lt_of_cell? W0 _ ck0
  go_wp2_with fail
  clear ck0 ck1 ck2 fk0 fk1 fk2 hnek
  refine (zshl (H.out.zn.below hbw) N HL.out.2.1).mono ?_
  rintro e v1 ⟨ha, hb1⟩
  obtain ⟨s1, p1, m1, rfl, hz⟩ := ha.got (HL.out.1)
  clear ha
  replace Xk : Hid _ := Xk.out.below hb1
  replace hbw := Below.on hbw hb1
  clear hb1
  have Za : Hid (ZN v1 s1 p1 m1 m1 (z * 2 ^ N)) := hz
  clear hz
  go_wp2_with fail
  have Xa0 : Hid (Box (v1.alloc (.cells #[.bool s1, .slice p1 m1 m1] 26)) v1.heap.size (.bool s1) (.slice p1 m1 m1)) := Box.new v1 _ _ _
  have hbn : Below v1.heap.size v1 (v1.alloc (.cells #[.bool s1, .slice p1 m1 m1] 26)) := below1 v1 _
  generalize v1.alloc (.cells #[.bool s1, .slice p1 m1 m1] 26) = Wa at *
  have HGa : Hid (w.heap.size ≤ v1.heap.size) := hbw.size
  replace Xk : Hid _ := Xk.out.below hbn
  replace Za : Hid _ := Za.out.below hbn
  replace hbw := Below.on hbw hbn
  clear hbn
  generalize v1.heap.size = ga at *
  have Xa := Xa0
  clear Xa0
  obtain ⟨Wr0, hWr0⟩ : ∃ W1, W1 = Wa.drew := ⟨_, rfl⟩
  have hbd : Below Wa.heap.size Wa Wr0 := by rw [hWr0]; exact bDrew1 (Below.refl _ _)
  replace Xk : Hid _ := Xk.out.below hbd
  replace Xa : Hid _ := Xa.out.below hbd
  replace Za : Hid _ := Za.out.below hbd
  replace hbw := Below.on hbw hbd
  clear hbd
  have HJ : Hid ((fun W' : World => W'.cell? ⟨ga, 0, none⟩ = some (.bool s1) ∧ W'.cell? ⟨ga, 1, none⟩ = some (.slice p1 m1 m1)) Wr0) := ⟨Xa.out.c0, Xa.out.c1⟩
  refine wp_region_J (fun W' => W'.cell? ⟨ga, 0, none⟩ = some (.bool s1) ∧ W'.cell? ⟨ga, 1, none⟩ = some (.slice p1 m1 m1)) (by kernel_rfl) ?_
  rw [← hWr0]
  clear hWr0
  refine wpJ_tk 0 (v := ?v1x0) rfl ?hy1x0 HJ.out ?_
  case hy1x0 => (intro W' hJ; obtain ⟨j0, j1⟩ := hJ; go_simp; first | done | with_reducible rfl)
  obtain ⟨RQ, HRQ, HRP⟩ : ∃ RQ : Act → Act → World → Prop, Hid (∀ a1 a2 a3, (fun a0 a' W' => ∃ gd sF pF mF sR pR mR, a' = (((((((a0.put (some 19) (ZV sF pF mF mF)).put (some 20) (.tuple #[ZV sR pR mR mR, .int .i64 0])).put (some 17) (.tuple #[ZV sR pR mR mR, .int .i64 0])).put (some 21) (ZV sR pR mR mR)).put (some 22) (.int .i64 0)).put (some 6) (.int .i64 0)).put (some 5) (.pointer (some ⟨gd, 0, none⟩))) ∧ Box W' gd (.bool sR) (.slice pR mR mR) ∧ B3q W' gk (.bool s) (.slice q m c) (.int .i64 (N : Int)) ∧ Box W' ga (.bool s1) (.slice p1 m1 m1) ∧ ZN W' sR pR mR mR (z * 2 ^ N % 4) ∧ w.heap.size ≤ gd ∧ gk ≠ gd ∧ ga ≠ gd ∧ Below w.heap.size w W') a1 a2 a3 → RQ a1 a2 a3) ∧ Hid (∀ a1 a2 a3, RQ a1 a2 a3 → (fun a0 a' W' => ∃ gd sF pF mF sR pR mR, a' = (((((((a0.put (some 19) (ZV sF pF mF mF)).put (some 20) (.tuple #[ZV sR pR mR mR, .int .i64 0])).put (some 17) (.tuple #[ZV sR pR mR mR, .int .i64 0])).put (some 21) (ZV sR pR mR mR)).put (some 22) (.int .i64 0)).put (some 6) (.int .i64 0)).put (some 5) (.pointer (some ⟨gd, 0, none⟩))) ∧ Box W' gd (.bool sR) (.slice pR mR mR) ∧ B3q W' gk (.bool s) (.slice q m c) (.int .i64 (N : Int)) ∧ Box W' ga (.bool s1) (.slice p1 m1 m1) ∧ ZN W' sR pR mR mR (z * 2 ^ N % 4) ∧ w.heap.size ≤ gd ∧ gk ≠ gd ∧ ga ≠ gd ∧ Below w.heap.size w W') a1 a2 a3) := ⟨_, fun _ _ _ h => h, fun _ _ _ h => h⟩
  refine wpJ_cutA RQ ?_ ?_
  · intro a' Wc hrq
    obtain ⟨gd, sF, pF, mF, sR, pR, mR, rfl, xb, xk, xa, rr, hg, hdk, hda, hbc⟩ := HRP.out _ _ _ hrq
    clear hrq HRP HRQ
    clear hbw HJ Xk Xa Za
    have hbw := hbc
    have Xd : Hid (Box Wc gd (.bool sR) (.slice pR mR mR)) := xb
    have Xk : Hid (B3q Wc gk (.bool s) (.slice q m c) (.int .i64 (N : Int))) := xk
    have Xa : Hid (Box Wc ga (.bool s1) (.slice p1 m1 m1)) := xa
    have RR : Hid (ZN Wc sR pR mR mR (z * 2 ^ N % 4)) := rr
    have HGd : Hid (w.heap.size ≤ gd) := hg
    have HDkd : Hid (gk ≠ gd) := hdk
    have HDad : Hid (ga ≠ gd) := hda
    clear xb xk xa rr hg hdk hda hbc
    obtain ⟨cd0, cd1, fd0, fd1⟩ := Xd.out
    have hned := Xd.out.lt
    go_wp2_with fail
    clear cd0 cd1 fd0 fd1 hned
    refine (zsmall RR.out).mono ?_
    rintro e v4 ⟨rfl, hb4⟩
    rw [HL.out.2.2.1, if_pos ⟨by have := HL.out; omega, by have := HL.out; omega⟩]
    replace Xd : Hid _ := Xd.out.below hb4
    replace Xk : Hid _ := Xk.out.below hb4
    replace Xa : Hid _ := Xa.out.below hb4
    replace RR : Hid _ := RR.out.below hb4
    replace hbw := Below.on hbw hb4
    clear hb4
    go_wp2_with fail
    go_ret
    exact ⟨rfl, hbw⟩
  · skip
    refine wpJ_two (i := 1) (k := 6) (by kernel_rfl) rfl rfl (by kernel_rfl) (by kernel_rfl) (fun KJ hK => ?_) (fun KJ hK => ?_)
    · go_simp
      refine (zof 4 _ (by decide) (by decide)).mono ?_
      rintro e9 u1 ⟨sF, pF, mF, rfl, hzF, hbF⟩
      replace Xk : Hid _ := Xk.out.below hbF
      replace Xa : Hid _ := Xa.out.below hbF
      replace Za : Hid _ := Za.out.below hbF
      replace hbw := Below.on hbw hbF
      clear hbF
      have ZF : Hid (ZN u1 sF pF mF mF 4) := hzF
      clear hzF
      clear HJ
      have HJ : Hid ((fun W' : World => W'.cell? ⟨ga, 0, none⟩ = some (.bool s1) ∧ W'.cell? ⟨ga, 1, none⟩ = some (.slice p1 m1 m1)) u1) := ⟨Xa.out.c0, Xa.out.c1⟩
      refine hK _ _ HJ.out ?_
      clear hK
      refine wpJ_two (i := 2) (k := 6) (by kernel_rfl) rfl rfl (by kernel_rfl) (by kernel_rfl) (fun KJ hK => ?_) (fun KJ hK => ?_)
      · go_simp
        refine (zmod4 Za.out ZF.out).mono ?_
        rintro e9 u2 ⟨sR, pR, mR, rfl, hoR, hbR⟩
        replace Xk : Hid _ := Xk.out.below hbR
        replace Xa : Hid _ := Xa.out.below hbR
        replace Za : Hid _ := Za.out.below hbR
        replace ZF : Hid _ := ZF.out.below hbR
        replace hbw := Below.on hbw hbR
        clear hbR
        have RR : Hid (ZO u1.heap.size u2 sR pR mR (z * 2 ^ N % 4)) := hoR
        clear hoR
        clear ZF
        clear HJ
        have HJ : Hid ((fun W' : World => W'.cell? ⟨ga, 0, none⟩ = some (.bool s1) ∧ W'.cell? ⟨ga, 1, none⟩ = some (.slice p1 m1 m1)) u2) := ⟨Xa.out.c0, Xa.out.c1⟩
        refine hK _ _ HJ.out ?_
        clear hK
        refine wpJ_take (i := 3) (v := ?v2x3) rfl (by kernel_rfl) (by kernel_rfl) (by kernel_rfl) (fun _ _ _ h => by cases h.1) (by kernel_rfl) ?hy2x3 HJ.out ?rest2x3
        case hy2x3 => (intro W' hJ; obtain ⟨j0, j1⟩ := hJ; go_simp; first | done | with_reducible rfl)
        refine wpJ_take (i := 4) (v := ?v3x4) rfl (by kernel_rfl) (by kernel_rfl) (by kernel_rfl) (fun _ _ _ h => by cases h.1) (by kernel_rfl) ?hy3x4 HJ.out ?rest3x4
        case hy3x4 => (intro W' hJ; obtain ⟨j0, j1⟩ := hJ; go_simp; first | done | with_reducible rfl)
        refine wpJ_take (i := 5) (v := ?v4x5) rfl (by kernel_rfl) (by kernel_rfl) (by kernel_rfl) (fun _ _ _ h => by cases h.1) (by kernel_rfl) ?hy4x5 HJ.out ?rest4x5
        case hy4x5 => (intro W' hJ; obtain ⟨j0, j1⟩ := hJ; go_simp; first | done | with_reducible rfl)
        refine wpJ_one (i := 6) (by kernel_rfl) rfl (by kernel_rfl) (fun KJ hK => ?_)
        go_simp
        have HDkd : Hid (gk ≠ u2.heap.size) := Nat.ne_of_lt Xk.out.lt
        have HDad : Hid (ga ≠ u2.heap.size) := Nat.ne_of_lt Xa.out.lt
        have HLS : Hid (∀ v0 v1, ZN (((u2.alloc (.cells #[.bool false, .slice none 0 0] 26)).setCell ⟨u2.heap.size, 0, none⟩ v0).setCell ⟨u2.heap.size, 1, none⟩ v1) sR pR mR mR (z * 2 ^ N % 4)) := fun v0 v1 => RR.out.zn.below (bSet (bSet (below1 _ _) _ _ _ (Nat.le_refl _)) _ _ _ (Nat.le_refl _))
        have Xd0 : Hid (Box (u2.alloc (.cells #[.bool false, .slice none 0 0] 26)) u2.heap.size (.bool false) (.slice none 0 0)) := Box.new u2 _ _ _
        have hbn : Below u2.heap.size u2 (u2.alloc (.cells #[.bool false, .slice none 0 0] 26)) := below1 u2 _
        generalize u2.alloc (.cells #[.bool false, .slice none 0 0] 26) = Wn at *
        have HGd : Hid (w.heap.size ≤ u2.heap.size) := hbw.size
        replace Xk : Hid _ := Xk.out.below hbn
        replace Xa : Hid _ := Xa.out.below hbn
        replace Za : Hid _ := Za.out.below hbn
        replace RR : Hid (ZO u1.heap.size Wn sR pR mR (z * 2 ^ N % 4)) := RR.out.below hbn
        replace hbw := Below.on hbw hbn
        clear hbn
        generalize u2.heap.size = gd at *
        have Xd := Xd0
        clear Xd0
        refine hK _ _ ⟨Xa.out.c0, Xa.out.c1⟩ ?_
        clear hK
        obtain ⟨cd0, cd1, fd0, fd1⟩ := Xd.out
        have hned := Xd.out.lt
        obtain ⟨ck0, ck1, ck2, fk0, fk1, fk2⟩ := Xk.out
        have hnek : gk < Wn.heap.size := World.block_lt_of_cell? Wn _ ck0
        obtain ⟨ca0, ca1, fa0, fa1⟩ := Xa.out
        have hnea := Xa.out.lt
        have qak : gk ≠ gd := HDkd.out
        have qbk : gd ≠ gk := fun h => qak h.symm
        have qaa : ga ≠ gd := HDad.out
        have qba : gd ≠ ga := fun h => qaa h.symm
        refine wpJ_one (i := 7) (by kernel_rfl) rfl (by kernel_rfl) (fun KJ hK => ?_)
        go_simp
        have HJ2 : Hid ((fun W' : World => W'.cell? ⟨ga, 0, none⟩ = some (.bool s1) ∧ W'.cell? ⟨ga, 1, none⟩ = some (.slice p1 m1 m1)) ((Wn.setCell ⟨gd, 0, none⟩ (.bool sR)).setCell ⟨gd, 1, none⟩ (.slice pR mR mR))) := ⟨by go_simp, by go_simp⟩
        have Xd2 : Hid (Box ((Wn.setCell ⟨gd, 0, none⟩ (.bool sR)).setCell ⟨gd, 1, none⟩ (.slice pR mR mR)) gd (.bool sR) (.slice pR mR mR)) := ⟨by go_simp, by go_simp, by go_simp, by go_simp⟩
        have Xk2 : Hid (B3q ((Wn.setCell ⟨gd, 0, none⟩ (.bool sR)).setCell ⟨gd, 1, none⟩ (.slice pR mR mR)) gk (.bool s) (.slice q m c) (.int .i64 (N : Int))) := ⟨by go_simp, by go_simp, by go_simp, by go_simp, by go_simp, by go_simp⟩
        have Xa2 : Hid (Box ((Wn.setCell ⟨gd, 0, none⟩ (.bool sR)).setCell ⟨gd, 1, none⟩ (.slice pR mR mR)) ga (.bool s1) (.slice p1 m1 m1)) := ⟨by go_simp, by go_simp, by go_simp, by go_simp⟩
        have RR2 : Hid (ZN ((Wn.setCell ⟨gd, 0, none⟩ (.bool sR)).setCell ⟨gd, 1, none⟩ (.slice pR mR mR)) sR pR mR mR (z * 2 ^ N % 4)) := HLS.out _ _
        have hbw2 : Below w.heap.size w ((Wn.setCell ⟨gd, 0, none⟩ (.bool sR)).setCell ⟨gd, 1, none⟩ (.slice pR mR mR)) := bSet (bSet hbw _ _ _ HGd.out) _ _ _ HGd.out
        refine hK _ _ HJ2.out ?_
        clear hK HJ
        have HJ := HJ2
        clear HJ2
        refine wpJ_take (i := 8) (v := ?v5x8) rfl (by kernel_rfl) (by kernel_rfl) (by kernel_rfl) (fun _ _ _ h => by cases h.1) (by kernel_rfl) ?hy5x8 HJ.out ?rest5x8
        case hy5x8 => (intro W' hJ; obtain ⟨j0, j1⟩ := hJ; go_simp; first | done | with_reducible rfl)
        refine wpJ_done (by kernel_rfl) ?_ _
        exact ⟨rfl, HRQ.out _ _ _ ⟨gd, sF, pF, mF, sR, pR, mR, by kernel_rfl, Xd2.out, Xk2.out, Xa2.out, RR2.out, HGd.out, HDkd.out, HDad.out, hbw2⟩⟩
      · go_simp
        have HDkd : Hid (gk ≠ u1.heap.size) := Nat.ne_of_lt Xk.out.lt
        have HDad : Hid (ga ≠ u1.heap.size) := Nat.ne_of_lt Xa.out.lt
        have Xd0 : Hid (Box (u1.alloc (.cells #[.bool false, .slice none 0 0] 26)) u1.heap.size (.bool false) (.slice none 0 0)) := Box.new u1 _ _ _
        have hbn : Below u1.heap.size u1 (u1.alloc (.cells #[.bool false, .slice none 0 0] 26)) := below1 u1 _
        generalize u1.alloc (.cells #[.bool false, .slice none 0 0] 26) = Wn at *
        have HGd : Hid (w.heap.size ≤ u1.heap.size) := hbw.size
        replace Xk : Hid _ := Xk.out.below hbn
        replace Xa : Hid _ := Xa.out.below hbn
        replace Za : Hid _ := Za.out.below hbn
        replace ZF : Hid _ := ZF.out.below hbn
        replace hbw := Below.on hbw hbn
        clear hbn
        generalize u1.heap.size = gd at *
        have Xd := Xd0
        clear Xd0
        refine hK _ _ ⟨Xa.out.c0, Xa.out.c1⟩ ?_
        clear hK
        refine wpJ_one (i := 2) (by kernel_rfl) rfl (by kernel_rfl) (fun KJ hK => ?_)
        go_simp
        have HLT : Hid (gd < Wn.heap.size) := Xd.out.lt
        refine (zmod4 Za.out ZF.out).mono ?_
        rintro e9 u2 ⟨sR, pR, mR, rfl, hoR, hbR⟩
        replace Xk : Hid _ := Xk.out.below hbR
        replace Xa : Hid _ := Xa.out.below hbR
        replace Xd : Hid _ := Xd.out.below hbR
        replace Za : Hid _ := Za.out.below hbR
        replace ZF : Hid _ := ZF.out.below hbR
        replace hbw := Below.on hbw hbR
        clear hbR
        have RR : Hid (ZO Wn.heap.size u2 sR pR mR (z * 2 ^ N % 4)) := hoR
        clear hoR
        clear ZF
        clear HJ
        have HJ : Hid ((fun W' : World => W'.cell? ⟨ga, 0, none⟩ = some (.bool s1) ∧ W'.cell? ⟨ga, 1, none⟩ = some (.slice p1 m1 m1)) u2) := ⟨Xa.out.c0, Xa.out.c1⟩
        refine hK _ _ HJ.out ?_
        clear hK
        refine wpJ_take (i := 3) (v := ?v6x3) rfl (by kernel_rfl) (by kernel_rfl) (by kernel_rfl) (fun _ _ _ h => by cases h.1) (by kernel_rfl) ?hy6x3 HJ.out ?rest6x3
        case hy6x3 => (intro W' hJ; obtain ⟨j0, j1⟩ := hJ; go_simp; first | done | with_reducible rfl)
        refine wpJ_take (i := 4) (v := ?v7x4) rfl (by kernel_rfl) (by kernel_rfl) (by kernel_rfl) (fun _ _ _ h => by cases h.1) (by kernel_rfl) ?hy7x4 HJ.out ?rest7x4
        case hy7x4 => (intro W' hJ; obtain ⟨j0, j1⟩ := hJ; go_simp; first | done | with_reducible rfl)
        refine wpJ_take (i := 5) (v := ?v8x5) rfl (by kernel_rfl) (by kernel_rfl) (by kernel_rfl) (fun _ _ _ h => by cases h.1) (by kernel_rfl) ?hy8x5 HJ.out ?rest8x5
        case hy8x5 => (intro W' hJ; obtain ⟨j0, j1⟩ := hJ; go_simp; first | done | with_reducible rfl)
        obtain ⟨cd0, cd1, fd0, fd1⟩ := Xd.out
        have hned := Xd.out.lt
        obtain ⟨ck0, ck1, ck2, fk0, fk1, fk2⟩ := Xk.out
        have hnek : gk < u2.heap.size := World.block_lt_of_cell? u2 _ ck0
        obtain ⟨ca0, ca1, fa0, fa1⟩ := Xa.out
        have hnea := Xa.out.lt
        have qak : gk ≠ gd := HDkd.out
        have qbk : gd ≠ gk := fun h => qak h.symm
        have qaa : ga ≠ gd := HDad.out
        have qba : gd ≠ ga := fun h => qaa h.symm
        refine wpJ_one (i := 7) (by kernel_rfl) rfl (by kernel_rfl) (fun KJ hK => ?_)
        go_simp
        have HJ2 : Hid ((fun W' : World => W'.cell? ⟨ga, 0, none⟩ = some (.bool s1) ∧ W'.cell? ⟨ga, 1, none⟩ = some (.slice p1 m1 m1)) ((u2.setCell ⟨gd, 0, none⟩ (.bool sR)).setCell ⟨gd, 1, none⟩ (.slice pR mR mR))) := ⟨by go_simp, by go_simp⟩
        have Xd2 : Hid (Box ((u2.setCell ⟨gd, 0, none⟩ (.bool sR)).setCell ⟨gd, 1, none⟩ (.slice pR mR mR)) gd (.bool sR) (.slice pR mR mR)) := ⟨by go_simp, by go_simp, by go_simp, by go_simp⟩
        have Xk2 : Hid (B3q ((u2.setCell ⟨gd, 0, none⟩ (.bool sR)).setCell ⟨gd, 1, none⟩ (.slice pR mR mR)) gk (.bool s) (.slice q m c) (.int .i64 (N : Int))) := ⟨by go_simp, by go_simp, by go_simp, by go_simp, by go_simp, by go_simp⟩
        have Xa2 : Hid (Box ((u2.setCell ⟨gd, 0, none⟩ (.bool sR)).setCell ⟨gd, 1, none⟩ (.slice pR mR mR)) ga (.bool s1) (.slice p1 m1 m1)) := ⟨by go_simp, by go_simp, by go_simp, by go_simp⟩
        have RR2 : Hid (ZN ((u2.setCell ⟨gd, 0, none⟩ (.bool sR)).setCell ⟨gd, 1, none⟩ (.slice pR mR mR)) sR pR mR mR (z * 2 ^ N % 4)) := ((RR.out.set _ _ _ HLT.out).set _ _ _ HLT.out).zn
        have hbw2 : Below w.heap.size w ((u2.setCell ⟨gd, 0, none⟩ (.bool sR)).setCell ⟨gd, 1, none⟩ (.slice pR mR mR)) := bSet (bSet hbw _ _ _ HGd.out) _ _ _ HGd.out
        refine hK _ _ HJ2.out ?_
        clear hK HJ
        have HJ := HJ2
        clear HJ2
        refine wpJ_take (i := 8) (v := ?v9x8) rfl (by kernel_rfl) (by kernel_rfl) (by kernel_rfl) (fun _ _ _ h => by cases h.1) (by kernel_rfl) ?hy9x8 HJ.out ?rest9x8
        case hy9x8 => (intro W' hJ; obtain ⟨j0, j1⟩ := hJ; go_simp; first | done | with_reducible rfl)
        refine wpJ_done (by kernel_rfl) ?_ _
        exact ⟨rfl, HRQ.out _ _ _ ⟨gd, sF, pF, mF, sR, pR, mR, by kernel_rfl, Xd2.out, Xk2.out, Xa2.out, RR2.out, HGd.out, HDkd.out, HDad.out, hbw2⟩⟩
    · go_simp
      have HDkd : Hid (gk ≠ Wr0.heap.size) := Nat.ne_of_lt Xk.out.lt
      have HDad : Hid (ga ≠ Wr0.heap.size) := Nat.ne_of_lt Xa.out.lt
      have Xd0 : Hid (Box (Wr0.alloc (.cells #[.bool false, .slice none 0 0] 26)) Wr0.heap.size (.bool false) (.slice none 0 0)) := Box.new Wr0 _ _ _
      have hbn : Below Wr0.heap.size Wr0 (Wr0.alloc (.cells #[.bool false, .slice none 0 0] 26)) := below1 Wr0 _
      generalize Wr0.alloc (.cells #[.bool false, .slice none 0 0] 26) = Wn at *
      have HGd : Hid (w.heap.size ≤ Wr0.heap.size) := hbw.size
      replace Xk : Hid _ := Xk.out.below hbn
      replace Xa : Hid _ := Xa.out.below hbn
      replace Za : Hid _ := Za.out.below hbn
      replace hbw := Below.on hbw hbn
      clear hbn
      generalize Wr0.heap.size = gd at *
      have Xd := Xd0
      clear Xd0
      refine hK _ _ ⟨Xa.out.c0, Xa.out.c1⟩ ?_
      clear hK
      refine wpJ_one (i := 1) (by kernel_rfl) rfl (by kernel_rfl) (fun KJ hK => ?_)
      go_simp
      refine (zof 4 _ (by decide) (by decide)).mono ?_
      rintro e9 u1 ⟨sF, pF, mF, rfl, hzF, hbF⟩
      replace Xk : Hid _ := Xk.out.below hbF
      replace Xa : Hid _ := Xa.out.below hbF
      replace Xd : Hid _ := Xd.out.below hbF
      replace Za : Hid _ := Za.out.below hbF
      replace hbw := Below.on hbw hbF
      clear hbF
      have ZF : Hid (ZN u1 sF pF mF mF 4) := hzF
      clear hzF
      refine hK _ _ ⟨Xa.out.c0, Xa.out.c1⟩ ?_
      clear hK
      refine wpJ_one (i := 2) (by kernel_rfl) rfl (by kernel_rfl) (fun KJ hK => ?_)
      go_simp
      have HLT : Hid (gd < u1.heap.size) := Xd.out.lt
      refine (zmod4 Za.out ZF.out).mono ?_
      rintro e9 u2 ⟨sR, pR, mR, rfl, hoR, hbR⟩
      replace Xk : Hid _ := Xk.out.below hbR
      replace Xa : Hid _ := Xa.out.below hbR
      replace Xd : Hid _ := Xd.out.below hbR
      replace Za : Hid _ := Za.out.below hbR
      replace ZF : Hid _ := ZF.out.below hbR
      replace hbw := Below.on hbw hbR
      clear hbR
      have RR : Hid (ZO u1.heap.size u2 sR pR mR (z * 2 ^ N % 4)) := hoR
      clear hoR
      clear ZF
      clear HJ
      have HJ : Hid ((fun W' : World => W'.cell? ⟨ga, 0, none⟩ = some (.bool s1) ∧ W'.cell? ⟨ga, 1, none⟩ = some (.slice p1 m1 m1)) u2) := ⟨Xa.out.c0, Xa.out.c1⟩
      refine hK _ _ HJ.out ?_
      clear hK
      refine wpJ_take (i := 3) (v := ?v10x3) rfl (by kernel_rfl) (by kernel_rfl) (by kernel_rfl) (fun _ _ _ h => by cases h.1) (by kernel_rfl) ?hy10x3 HJ.out ?rest10x3
      case hy10x3 => (intro W' hJ; obtain ⟨j0, j1⟩ := hJ; go_simp; first | done | with_reducible rfl)
      refine wpJ_take (i := 4) (v := ?v11x4) rfl (by kernel_rfl) (by kernel_rfl) (by kernel_rfl) (fun _ _ _ h => by cases h.1) (by kernel_rfl) ?hy11x4 HJ.out ?rest11x4
      case hy11x4 => (intro W' hJ; obtain ⟨j0, j1⟩ := hJ; go_simp; first | done | with_reducible rfl)
      refine wpJ_take (i := 5) (v := ?v12x5) rfl (by kernel_rfl) (by kernel_rfl) (by kernel_rfl) (fun _ _ _ h => by cases h.1) (by kernel_rfl) ?hy12x5 HJ.out ?rest12x5
      case hy12x5 => (intro W' hJ; obtain ⟨j0, j1⟩ := hJ; go_simp; first | done | with_reducible rfl)
      obtain ⟨cd0, cd1, fd0, fd1⟩ := Xd.out
      have hned := Xd.out.lt
      obtain ⟨ck0, ck1, ck2, fk0, fk1, fk2⟩ := Xk.out
      have hnek : gk < u2.heap.size := World.block_lt_of_cell? u2 _ ck0
      obtain ⟨ca0, ca1, fa0, fa1⟩ := Xa.out
      have hnea := Xa.out.lt
      have qak : gk ≠ gd := HDkd.out
      have qbk : gd ≠ gk := fun h => qak h.symm
      have qaa : ga ≠ gd := HDad.out
      have qba : gd ≠ ga := fun h => qaa h.symm
      refine wpJ_one (i := 7) (by kernel_rfl) rfl (by kernel_rfl) (fun KJ hK => ?_)
      go_simp
      have HJ2 : Hid ((fun W' : World => W'.cell? ⟨ga, 0, none⟩ = some (.bool s1) ∧ W'.cell? ⟨ga, 1, none⟩ = some (.slice p1 m1 m1)) ((u2.setCell ⟨gd, 0, none⟩ (.bool sR)).setCell ⟨gd, 1, none⟩ (.slice pR mR mR))) := ⟨by go_simp, by go_simp⟩
      have Xd2 : Hid (Box ((u2.setCell ⟨gd, 0, none⟩ (.bool sR)).setCell ⟨gd, 1, none⟩ (.slice pR mR mR)) gd (.bool sR) (.slice pR mR mR)) := ⟨by go_simp, by go_simp, by go_simp, by go_simp⟩
      have Xk2 : Hid (B3q ((u2.setCell ⟨gd, 0, none⟩ (.bool sR)).setCell ⟨gd, 1, none⟩ (.slice pR mR mR)) gk (.bool s) (.slice q m c) (.int .i64 (N : Int))) := ⟨by go_simp, by go_simp, by go_simp, by go_simp, by go_simp, by go_simp⟩
      have Xa2 : Hid (Box ((u2.setCell ⟨gd, 0, none⟩ (.bool sR)).setCell ⟨gd, 1, none⟩ (.slice pR mR mR)) ga (.bool s1) (.slice p1 m1 m1)) := ⟨by go_simp, by go_simp, by go_simp, by go_simp⟩
      have RR2 : Hid (ZN ((u2.setCell ⟨gd, 0, none⟩ (.bool sR)).setCell ⟨gd, 1, none⟩ (.slice pR mR mR)) sR pR mR mR (z * 2 ^ N % 4)) := ((RR.out.set _ _ _ HLT.out).set _ _ _ HLT.out).zn
      have hbw2 : Below w.heap.size w ((u2.setCell ⟨gd, 0, none⟩ (.bool sR)).setCell ⟨gd, 1, none⟩ (.slice pR mR mR)) := bSet (bSet hbw _ _ _ HGd.out) _ _ _ HGd.out
      refine hK _ _ HJ2.out ?_
      clear hK HJ
      have HJ := HJ2
      clear HJ2
      refine wpJ_take (i := 8) (v := ?v13x8) rfl (by kernel_rfl) (by kernel_rfl) (by kernel_rfl) (fun _ _ _ h => by cases h.1) (by kernel_rfl) ?hy13x8 HJ.out ?rest13x8
      case hy13x8 => (intro W' hJ; obtain ⟨j0, j1⟩ := hJ; go_simp; first | done | with_reducible rfl)
      refine wpJ_done (by kernel_rfl) ?_ _
      exact ⟨rfl, HRQ.out _ _ _ ⟨gd, sF, pF, mF, sR, pR, mR, by kernel_rfl, Xd2.out, Xk2.out, Xa2.out, RR2.out, HGd.out, HDkd.out, HDad.out, hbw2⟩⟩
theorem twice_dv {z e z1 e1 : Int} (hl : -4194304 ≤ e) (h : (z = 0 ∧ z1 = 0 ∧ e1 = 0) ∨ (z ≠ 0 ∧ z1 = z ∧ e1 = e + 1)) : dv z1 e1 = 2 * dv z e := by
  rcases h with ⟨h1, h2, h3⟩ | ⟨h1, h2, h3⟩
  · rw [h1, h2, dv_zero, dv_zero]; rfl
  · rw [h2, h3, show e + 1 = e + ((1 : Nat) : Int) from rfl, dv_up 1 hl, show ((2 ^ 1 : Nat) : Int) = 2 from rfl]
    unfold dv
    rw [Int.mul_comm z 2, Int.mul_assoc]
theorem mult_dv {zk ek z5 e5 K : Int} (hk : 0 ≤ ek) (hK : K = zk * ((2 ^ ek.toNat : Nat) : Int)) (h : (zk = 0 ∧ z5 = 0 ∧ e5 = 0) ∨ (zk ≠ 0 ∧ z5 = zk ∧ e5 = ek + (-1))) : dv z5 e5 = 2 * K * UQ := by
  rcases h with ⟨h1, h2, h3⟩ | ⟨h1, h2, h3⟩
  · rw [h2, dv_zero, hK, h1]; simp
  · rw [h2, h3, dv_ge (by omega), hK, show (ek + (-1) + 2).toNat = ek.toNat + 1 from by omega, Nat.pow_succ, Int.natCast_mul, show ((2 : Nat) : Int) = 2 from rfl]
    congr 1
    rw [← Int.mul_assoc, Int.mul_comm]
theorem DB.sc {z e z1 e1 N : Int} {K E : Nat} (h : DB z e K E) (hN : -1 ≤ N ∧ N ≤ 1) (hE : E + 1 ≤ 1048576) (hc : (z = 0 ∧ z1 = 0 ∧ e1 = 0) ∨ (z ≠ 0 ∧ z1 = z ∧ e1 = e + N)) : DB z1 e1 K (E + 1) := by
  have h1 := h.lo
  have h2 := h.hi
  rcases hc with ⟨_, rfl, rfl⟩ | ⟨h0, rfl, rfl⟩
  · exact ⟨.inl ⟨rfl, rfl⟩, Nat.two_pow_pos _, by omega, by omega⟩
  · refine ⟨?_, h.sz, by omega, by omega⟩
    rcases h.fm with ⟨h5, _⟩ | ⟨h5, _⟩
    · exact absurd h5 h0
    · exact .inr ⟨h5, by omega, by omega⟩
theorem results_tc {fn : Func} {a p : Tmp} {ty : TypeId} (h : fn.results = #[.tmp a, .cell p ty]) (tmps : Array Value) (P : Program) (w : World) :
    (results fn tmps).run P w = ((asAddr (tmps.getD p undef)).run P w).andThen fun x w₁ => ((loadVar ty x).run P w₁).andThen fun v w₂ => .ok (.tuple #[tmps.getD a undef, v]) w₂ := by
  simp only [results, h]
  simp [Sem.run_bind, Result.andThen]
theorem rdc_of {z e K zr er V A : Int} (hf : DFm zr er) (hv : dv zr er = dv z e - V) (hV : V = 2 * K * UQ) (hA : A = 2 * dv z e + 2 * UQ) (h1 : 4 * K * UQ ≤ A) (h2 : A < 4 * K * UQ + 4 * UQ) : Rdc z e K zr er := by
  have h4 : 4 * K * UQ = 2 * (2 * K * UQ) := by rw [← Int.mul_assoc, ← Int.mul_assoc]; rfl
  rw [h4] at h1 h2
  refine ⟨hf, by rw [hv, hV], ?_, ?_⟩
  · rw [hv, hV]; generalize 2 * K * UQ = Q at *; omega
  · rw [hv, hV]; generalize 2 * K * UQ = Q at *; omega
set_option maxRecDepth 20000 in
set_option maxHeartbeats 8000000 in
theorem reduced_ok {q : Option Addr} {m c : Nat} {w : World} {z e : Int} {s : Bool} (h : DN w s q m c e z) (hb : DB z e 128 1430) (hT : Tab w) :
    Calls Tryz.prog 31 #[DV s q m c e] w fun en w' => ∃ K s1 p1 m1 zr er, en = .returned (.tuple #[.int .i64 (K % 4), DV s1 p1 m1 m1 er]) ∧ DO w.heap.size w' s1 p1 m1 er zr ∧ Rdc z e K zr er ∧ DB zr er 11838 16261 ∧ Below w.heap.size w w' := by
  have TB : Hid (Tab w) := hT
  have H : Hid (DN w s q m c e z) := h
  have HB : Hid (DB z e 128 1430 ∧ -4194304 ≤ e ∧ (-1430 ≤ e ∧ e ≤ 1430)) := ⟨hb, by have := hb.lo; omega, by have := hb.lo; omega, by have := hb.hi; omega⟩
  clear h hb hT
  go_enter Tryz.func31, Tryz.ntmps31
  go_wp2_with fail
  obtain ⟨W0, hW0⟩ : ∃ W0, W0 = ((w.alloc (.cells #[.bool s, .slice q m c, .int .i64 e] 28)).alloc (.cells #[.bool false, .slice none 0 0, .int .i64 0] 28)) := ⟨_, rfl⟩
  have Xx : Hid (B3q W0 (w.heap.size) (.bool s) (.slice q m c) (.int .i64 e)) := by rw [hW0]; exact ⟨by go_simp, by go_simp, by go_simp, by go_simp, by go_simp, by go_simp⟩
  have Xr : Hid (B3q W0 (w.heap.size + 1) (.bool false) (.slice none 0 0) (.int .i64 0)) := by rw [hW0]; exact ⟨by go_simp, by go_simp, by go_simp, by go_simp, by go_simp, by go_simp⟩
  have hb0 : Below w.heap.size w W0 := by rw [hW0]; exact below2 w _ _
  rw [← hW0]
  clear hW0
  have hbw : Below w.heap.size w w := Below.refl _ _
  obtain ⟨gr, hgr⟩ : ∃ g, g = w.heap.size + 1 := ⟨_, rfl⟩
  have HGr : Hid (w.heap.size ≤ gr) := by rw [hgr]; show _ ≤ _; omega
  rw [← hgr] at Xr
  try rw [← hgr]
  obtain ⟨gx, hgx⟩ : ∃ g, g = w.heap.size := ⟨_, rfl⟩
  have HGx : Hid (w.heap.size ≤ gx) := by rw [hgx]; show _ ≤ _; omega
  rw [← hgx] at Xx
  try rw [← hgx]
  have HGD : Hid (gx ≠ gr ∧ gr ≠ gx) := by rw [hgx, hgr]; exact ⟨by omega, by omega⟩
  clear hgx hgr
  replace hbw := Below.on hbw hb0
  clear hb0
  obtain ⟨cx0, cx1, cx2, fx0, fx1, fx2⟩ := Xx.out
  have hnex : gx < W0.heap.size := World.block_lt_of_cell? W0 _ cx0
  go_wp2_with fail
  clear cx0 cx1 cx2 fx0 fx1 fx2 hnex
  refine (dscale_v (N := 1) (H.out.below hbw) (fun _ => by have := HB.out.2.2; omega)).mono ?_
  rintro e2 v1 ⟨s1, p1, m1, z1, e1, rfl, ho1, hc1, hb1⟩
  replace Xx : Hid _ := Xx.out.below hb1
  replace Xr : Hid _ := Xr.out.below hb1
  replace hbw := Below.on hbw hb1
  clear hb1
  have D1 : Hid (DN v1 s1 p1 m1 m1 e1 z1) := ho1.dn
  have C1 : Hid (dv z1 e1 = 2 * dv z e ∧ DB z1 e1 128 1431) := ⟨twice_dv HB.out.2.1 hc1, HB.out.1.sc (by decide) (by decide) hc1⟩
  clear ho1 hc1
  go_wp2_with fail
  have Xt0 : Hid (B3q (v1.alloc (.cells #[.bool s1, .slice p1 m1 m1, .int .i64 e1] 28)) v1.heap.size (.bool s1) (.slice p1 m1 m1) (.int .i64 e1)) := B3q.new v1 _ _ _ _
  have hbn : Below v1.heap.size v1 (v1.alloc (.cells #[.bool s1, .slice p1 m1 m1, .int .i64 e1] 28)) := below1 v1 _
  generalize v1.alloc (.cells #[.bool s1, .slice p1 m1 m1, .int .i64 e1] 28) = Wt at *
  have HGt : Hid (w.heap.size ≤ v1.heap.size) := hbw.size
  replace Xx : Hid _ := Xx.out.below hbn
  replace Xr : Hid _ := Xr.out.below hbn
  replace D1 : Hid _ := D1.out.below hbn
  replace hbw := Below.on hbw hbn
  clear hbn
  generalize v1.heap.size = gt at *
  have Xt := Xt0
  clear Xt0
  refine (dof_v (z := 1) (zo := 1) (eo := 0) (by decide) (.inr (by decide)) rfl (TB.out.below hbw)).mono ?_
  rintro e2 v2 ⟨s2, p2, m2, rfl, ho2, hb2⟩
  replace Xx : Hid _ := Xx.out.below hb2
  replace Xr : Hid _ := Xr.out.below hb2
  replace Xt : Hid _ := Xt.out.below hb2
  replace D1 : Hid _ := D1.out.below hb2
  replace hbw := Below.on hbw hb2
  clear hb2
  have D2 : Hid (DN v2 s2 p2 m2 m2 0 1) := ho2.dn
  clear ho2
  go_wp2_with fail
  refine (dscale_v (N := -1) D2.out (fun _ => by decide)).mono ?_
  rintro e2 v3 ⟨s3, p3, m3, z3, e3, rfl, ho3, hc3, hb3⟩
  obtain ⟨rfl, rfl⟩ : z3 = 1 ∧ e3 = -1 := by rcases hc3 with ⟨h, _⟩ | ⟨_, h1, h2⟩; (exact absurd h (by decide)); exact ⟨h1, h2⟩
  replace Xx : Hid _ := Xx.out.below hb3
  replace Xr : Hid _ := Xr.out.below hb3
  replace Xt : Hid _ := Xt.out.below hb3
  replace D1 : Hid _ := D1.out.below hb3
  replace D2 : Hid _ := D2.out.below hb3
  replace hbw := Below.on hbw hb3
  clear hb3
  have D3 : Hid (DN v3 s3 p3 m3 m3 (-1) 1) := ho3.dn
  clear ho3 hc3
  clear D2
  obtain ⟨ct0, ct1, ct2, ft0, ft1, ft2⟩ := Xt.out
  have hnet : gt < v3.heap.size := World.block_lt_of_cell? v3 _ ct0
  go_wp2_with fail
  clear ct0 ct1 ct2 ft0 ft1 ft2 hnet
  have Xh0 : Hid (B3q (v3.alloc (.cells #[.bool s3, .slice p3 m3 m3, .int .i64 (-1)] 28)) v3.heap.size (.bool s3) (.slice p3 m3 m3) (.int .i64 (-1))) := B3q.new v3 _ _ _ _
  have hbn : Below v3.heap.size v3 (v3.alloc (.cells #[.bool s3, .slice p3 m3 m3, .int .i64 (-1)] 28)) := below1 v3 _
  generalize v3.alloc (.cells #[.bool s3, .slice p3 m3 m3, .int .i64 (-1)] 28) = Wh at *
  have HGh : Hid (w.heap.size ≤ v3.heap.size) := hbw.size
  replace Xx : Hid _ := Xx.out.below hbn
  replace Xr : Hid _ := Xr.out.below hbn
  replace Xt : Hid _ := Xt.out.below hbn
  replace D1 : Hid _ := D1.out.below hbn
  replace D3 : Hid _ := D3.out.below hbn
  replace hbw := Below.on hbw hbn
  clear hbn
  generalize v3.heap.size = gh at *
  have Xh := Xh0
  clear Xh0
  refine (dadd_b D1.out D3.out C1.out.2 (⟨.inr (by decide), by decide, by decide, by decide⟩ : DB 1 (-1) 128 1431) (by decide) (TB.out.below hbw)).mono ?_
  rintro e2 v4 ⟨v, z4, e4, rfl, hv, hd4, hq4, hb4⟩
  obtain ⟨s4, p4, m4, rfl, hn4⟩ := hv.dn hd4.fm
  replace Xx : Hid _ := Xx.out.below hb4
  replace Xr : Hid _ := Xr.out.below hb4
  replace Xt : Hid _ := Xt.out.below hb4
  replace Xh : Hid _ := Xh.out.below hb4
  replace D1 : Hid _ := D1.out.below hb4
  replace D3 : Hid _ := D3.out.below hb4
  replace hbw := Below.on hbw hb4
  clear hb4
  have D4 : Hid (DN v4 s4 p4 m4 m4 e4 z4) := hn4
  have C4 : Hid (DB z4 e4 2991 4422 ∧ dv z4 e4 = 2 * dv z e + 2 * UQ) := ⟨hd4, by rw [hq4, C1.out.1, dv_h]; rfl⟩
  clear hv hd4 hq4 hn4
  clear D1
  clear D3
  go_wp2_with fail
  have Xa0 : Hid (B3q (v4.alloc (.cells #[.bool s4, .slice p4 m4 m4, .int .i64 e4] 28)) v4.heap.size (.bool s4) (.slice p4 m4 m4) (.int .i64 e4)) := B3q.new v4 _ _ _ _
  have hbn : Below v4.heap.size v4 (v4.alloc (.cells #[.bool s4, .slice p4 m4 m4, .int .i64 e4] 28)) := below1 v4 _
  generalize v4.alloc (.cells #[.bool s4, .slice p4 m4 m4, .int .i64 e4] 28) = Wa at *
  have HGa : Hid (w.heap.size ≤ v4.heap.size) := hbw.size
  replace Xx : Hid _ := Xx.out.below hbn
  replace Xr : Hid _ := Xr.out.below hbn
  replace Xt : Hid _ := Xt.out.below hbn
  replace Xh : Hid _ := Xh.out.below hbn
  replace D4 : Hid _ := D4.out.below hbn
  replace hbw := Below.on hbw hbn
  clear hbn
  generalize v4.heap.size = ga at *
  have Xa := Xa0
  clear Xa0
  refine (downat0 D4.out C4.out.1 (by decide) (TB.out.below hbw)).mono ?_
  rintro e2 v5 ⟨s5, p5, m5, z5, e5, K, rfl, ho5, h50, hK5, hl5, hh5, hd5, hb5⟩
  replace Xx : Hid _ := Xx.out.below hb5
  replace Xr : Hid _ := Xr.out.below hb5
  replace Xt : Hid _ := Xt.out.below hb5
  replace Xh : Hid _ := Xh.out.below hb5
  replace Xa : Hid _ := Xa.out.below hb5
  replace D4 : Hid _ := D4.out.below hb5
  replace hbw := Below.on hbw hb5
  clear hb5
  have D5 : Hid (DN v5 s5 p5 m5 m5 e5 z5) := ho5.dn
  have C5 : Hid (0 ≤ e5 ∧ K = z5 * ((2 ^ e5.toNat : Nat) : Int) ∧ 4 * K * UQ ≤ dv z4 e4 ∧ dv z4 e4 < 4 * K * UQ + 4 * UQ ∧ DB z5 e5 2991 4422 ∧ -1048576 ≤ e5 + -1 ∧ e5 + -1 ≤ 1048576) := ⟨h50, hK5, hl5, hh5, hd5, by omega, by have := hd5.hi; omega⟩
  clear ho5 h50 hK5 hl5 hh5 hd5
  go_wp2_with fail
  have HDrk : Hid (gr ≠ v5.heap.size) := Nat.ne_of_lt Xr.out.lt
  have Xk0 : Hid (B3q (v5.alloc (.cells #[.bool s5, .slice p5 m5 m5, .int .i64 e5] 28)) v5.heap.size (.bool s5) (.slice p5 m5 m5) (.int .i64 e5)) := B3q.new v5 _ _ _ _
  have hbn : Below v5.heap.size v5 (v5.alloc (.cells #[.bool s5, .slice p5 m5 m5, .int .i64 e5] 28)) := below1 v5 _
  generalize v5.alloc (.cells #[.bool s5, .slice p5 m5 m5, .int .i64 e5] 28) = Wk at *
  have HGk : Hid (w.heap.size ≤ v5.heap.size) := hbw.size
  replace Xx : Hid _ := Xx.out.below hbn
  replace Xr : Hid _ := Xr.out.below hbn
  replace Xt : Hid _ := Xt.out.below hbn
  replace Xh : Hid _ := Xh.out.below hbn
  replace Xa : Hid _ := Xa.out.below hbn
  replace D4 : Hid _ := D4.out.below hbn
  replace D5 : Hid _ := D5.out.below hbn
  replace hbw := Below.on hbw hbn
  clear hbn
  generalize v5.heap.size = gk at *
  have Xk := Xk0
  clear Xk0
  refine (dscale_v (N := -1) D5.out (fun _ => C5.out.2.2.2.2.2)).mono ?_
  rintro e2 v6 ⟨s6, p6, m6, z6, e6, rfl, ho6, hc6, hb6⟩
  replace Xx : Hid _ := Xx.out.below hb6
  replace Xr : Hid _ := Xr.out.below hb6
  replace Xt : Hid _ := Xt.out.below hb6
  replace Xh : Hid _ := Xh.out.below hb6
  replace Xa : Hid _ := Xa.out.below hb6
  replace Xk : Hid _ := Xk.out.below hb6
  replace D4 : Hid _ := D4.out.below hb6
  replace D5 : Hid _ := D5.out.below hb6
  replace hbw := Below.on hbw hb6
  clear hb6
  have D6 : Hid (DN v6 s6 p6 m6 m6 e6 z6) := ho6.dn
  have C6 : Hid (dv z6 e6 = 2 * K * UQ ∧ DB z6 e6 2991 4423) := ⟨mult_dv C5.out.1 C5.out.2.1 hc6, C5.out.2.2.2.2.1.sc (by decide) (by decide) hc6⟩
  clear ho6 hc6
  obtain ⟨cx0, cx1, cx2, fx0, fx1, fx2⟩ := Xx.out
  have hnex : gx < v6.heap.size := World.block_lt_of_cell? v6 _ cx0
  go_wp2_with fail
  clear cx0 cx1 cx2 fx0 fx1 fx2 hnex
  have Xm0 : Hid (B3q (v6.alloc (.cells #[.bool s6, .slice p6 m6 m6, .int .i64 e6] 28)) v6.heap.size (.bool s6) (.slice p6 m6 m6) (.int .i64 e6)) := B3q.new v6 _ _ _ _
  have hbn : Below v6.heap.size v6 (v6.alloc (.cells #[.bool s6, .slice p6 m6 m6, .int .i64 e6] 28)) := below1 v6 _
  generalize v6.alloc (.cells #[.bool s6, .slice p6 m6 m6, .int .i64 e6] 28) = Wm at *
  have HGm : Hid (w.heap.size ≤ v6.heap.size) := hbw.size
  replace Xx : Hid _ := Xx.out.below hbn
  replace Xr : Hid _ := Xr.out.below hbn
  replace Xt : Hid _ := Xt.out.below hbn
  replace Xh : Hid _ := Xh.out.below hbn
  replace Xa : Hid _ := Xa.out.below hbn
  replace Xk : Hid _ := Xk.out.below hbn
  replace D4 : Hid _ := D4.out.below hbn
  replace D5 : Hid _ := D5.out.below hbn
  replace D6 : Hid _ := D6.out.below hbn
  replace hbw := Below.on hbw hbn
  clear hbn
  generalize v6.heap.size = gm at *
  have Xm := Xm0
  clear Xm0
  have HRL : Hid (gr < Wm.heap.size ∧ w.heap.size ≤ Wm.heap.size) := ⟨Xr.out.lt, hbw.size⟩
  refine (dsub_b (H.out.below hbw) D6.out (HB.out.1.mono (by decide) (by decide)) C6.out.2 (by decide) (TB.out.below hbw)).mono ?_
  rintro e2 v7 ⟨v, zr, er, rfl, hv, hd7, hq7, hb7⟩
  obtain ⟨s7, p7, m7, rfl, ho7⟩ := DO.of hv hd7.fm
  replace Xx : Hid _ := Xx.out.below hb7
  replace Xr : Hid _ := Xr.out.below hb7
  replace Xt : Hid _ := Xt.out.below hb7
  replace Xh : Hid _ := Xh.out.below hb7
  replace Xa : Hid _ := Xa.out.below hb7
  replace Xk : Hid _ := Xk.out.below hb7
  replace Xm : Hid _ := Xm.out.below hb7
  replace D4 : Hid _ := D4.out.below hb7
  replace D5 : Hid _ := D5.out.below hb7
  replace D6 : Hid _ := D6.out.below hb7
  replace hbw := Below.on hbw hb7
  clear hb7
  have O7 : Hid (DO Wm.heap.size v7 s7 p7 m7 er zr) := ho7
  have C7 : Hid (Rdc z e K zr er ∧ DB zr er 11838 16261) := ⟨rdc_of hd7.fm hq7 C6.out.1 C4.out.2 C5.out.2.2.1 C5.out.2.2.2.1, hd7⟩
  clear hv hd7 hq7 ho7
  clear D4
  clear D6
  obtain ⟨ck0, ck1, ck2, fk0, fk1, fk2⟩ := Xk.out
  have hnek : gk < v7.heap.size := World.block_lt_of_cell? v7 _ ck0
  go_wp2_with fail
  clear ck0 ck1 ck2 fk0 fk1 fk2 hnek
  have HDru : Hid (gr ≠ v7.heap.size) := Nat.ne_of_lt Xr.out.lt
  have Xu0 : Hid (B3q (v7.alloc (.cells #[.bool s7, .slice p7 m7 m7, .int .i64 er] 28)) v7.heap.size (.bool s7) (.slice p7 m7 m7) (.int .i64 er)) := B3q.new v7 _ _ _ _
  have hbn : Below v7.heap.size v7 (v7.alloc (.cells #[.bool s7, .slice p7 m7 m7, .int .i64 er] 28)) := below1 v7 _
  generalize v7.alloc (.cells #[.bool s7, .slice p7 m7 m7, .int .i64 er] 28) = Wu at *
  have HGu : Hid (w.heap.size ≤ v7.heap.size) := hbw.size
  replace Xx : Hid _ := Xx.out.below hbn
  replace Xr : Hid _ := Xr.out.below hbn
  replace Xt : Hid _ := Xt.out.below hbn
  replace Xh : Hid _ := Xh.out.below hbn
  replace Xa : Hid _ := Xa.out.below hbn
  replace Xk : Hid _ := Xk.out.below hbn
  replace Xm : Hid _ := Xm.out.below hbn
  replace D5 : Hid _ := D5.out.below hbn
  replace O7 : Hid (DO Wm.heap.size Wu s7 p7 m7 er zr) := O7.out.below hbn
  replace hbw := Below.on hbw hbn
  clear hbn
  generalize v7.heap.size = gu at *
  have Xu := Xu0
  clear Xu0
  obtain ⟨Q4, hQ4⟩ : ∃ Q4, Q4 = K % 4 := ⟨_, rfl⟩
  have HQ4 : Hid (Q4 = K % 4) := hQ4
  obtain ⟨W1, hW1⟩ : ∃ W1, W1 = Wu.drew := ⟨_, rfl⟩
  have hbd : Below Wu.heap.size Wu W1 := by rw [hW1]; exact bDrew1 (Below.refl _ _)
  replace Xx : Hid _ := Xx.out.below hbd
  replace Xr : Hid _ := Xr.out.below hbd
  replace Xt : Hid _ := Xt.out.below hbd
  replace Xh : Hid _ := Xh.out.below hbd
  replace Xa : Hid _ := Xa.out.below hbd
  replace Xk : Hid _ := Xk.out.below hbd
  replace Xm : Hid _ := Xm.out.below hbd
  replace Xu : Hid _ := Xu.out.below hbd
  replace D5 : Hid _ := D5.out.below hbd
  replace O7 : Hid (DO Wm.heap.size W1 s7 p7 m7 er zr) := O7.out.below hbd
  replace hbw := Below.on hbw hbd
  clear hbd
  have HJ : Hid ((fun W' : World => W'.cell? ⟨gk, 0, none⟩ = some (.bool s5) ∧ W'.cell? ⟨gk, 1, none⟩ = some (.slice p5 m5 m5) ∧ W'.cell? ⟨gk, 2, none⟩ = some (.int .i64 e5) ∧ W'.cell? ⟨gu, 0, none⟩ = some (.bool s7) ∧ W'.cell? ⟨gu, 1, none⟩ = some (.slice p7 m7 m7) ∧ W'.cell? ⟨gu, 2, none⟩ = some (.int .i64 er)) W1) := ⟨Xk.out.c0, Xk.out.c1, Xk.out.c2, Xu.out.c0, Xu.out.c1, Xu.out.c2⟩
  refine wp_region_J (fun W' => W'.cell? ⟨gk, 0, none⟩ = some (.bool s5) ∧ W'.cell? ⟨gk, 1, none⟩ = some (.slice p5 m5 m5) ∧ W'.cell? ⟨gk, 2, none⟩ = some (.int .i64 e5) ∧ W'.cell? ⟨gu, 0, none⟩ = some (.bool s7) ∧ W'.cell? ⟨gu, 1, none⟩ = some (.slice p7 m7 m7) ∧ W'.cell? ⟨gu, 2, none⟩ = some (.int .i64 er)) (by kernel_rfl) ?_
  rw [← hW1]
  clear hW1
  refine wpJ_tk 0 (v := ?v1x0) rfl ?hy1x0 HJ.out ?_
  case hy1x0 => (intro W' hJ; obtain ⟨j0, j1, j2, j3, j4, j5⟩ := hJ; go_simp; first | done | with_reducible rfl)
  refine wpJ_tk 2 (v := ?v2x2) rfl ?hy2x2 HJ.out ?_
  case hy2x2 => (intro W' hJ; obtain ⟨j0, j1, j2, j3, j4, j5⟩ := hJ; go_simp; first | done | with_reducible rfl)
  refine wpJ_one (i := 1) (by kernel_rfl) rfl (by kernel_rfl) (fun KJ hK => ?_)
  go_simp
  refine (modfour D5.out C5.out.2.2.2.2.1 (by decide) C5.out.1 (TB.out.below hbw)).mono ?_
  rintro e v8 ⟨rfl, hb8⟩
  rw [← C5.out.2.1, ← hQ4]
  clear hQ4
  replace Xx : Hid _ := Xx.out.below hb8
  replace Xr : Hid _ := Xr.out.below hb8
  replace Xt : Hid _ := Xt.out.below hb8
  replace Xh : Hid _ := Xh.out.below hb8
  replace Xa : Hid _ := Xa.out.below hb8
  replace Xk : Hid _ := Xk.out.below hb8
  replace Xm : Hid _ := Xm.out.below hb8
  replace Xu : Hid _ := Xu.out.below hb8
  replace D5 : Hid _ := D5.out.below hb8
  replace O7 : Hid (DO Wm.heap.size v8 s7 p7 m7 er zr) := O7.out.below hb8
  replace hbw := Below.on hbw hb8
  clear hb8
  clear HJ
  have HJ : Hid ((fun W' : World => W'.cell? ⟨gk, 0, none⟩ = some (.bool s5) ∧ W'.cell? ⟨gk, 1, none⟩ = some (.slice p5 m5 m5) ∧ W'.cell? ⟨gk, 2, none⟩ = some (.int .i64 e5) ∧ W'.cell? ⟨gu, 0, none⟩ = some (.bool s7) ∧ W'.cell? ⟨gu, 1, none⟩ = some (.slice p7 m7 m7) ∧ W'.cell? ⟨gu, 2, none⟩ = some (.int .i64 er)) v8) := ⟨Xk.out.c0, Xk.out.c1, Xk.out.c2, Xu.out.c0, Xu.out.c1, Xu.out.c2⟩
  refine hK _ _ HJ.out ?_
  clear hK
  refine wpJ_tk 3 (v := ?v3x3) rfl ?hy3x3 HJ.out ?_
  case hy3x3 => (intro W' hJ; obtain ⟨j0, j1, j2, j3, j4, j5⟩ := hJ; go_simp; first | done | with_reducible rfl)
  have qrk := HDrk.out
  have qkr : gk ≠ gr := fun h => qrk h.symm
  have qru := HDru.out
  have qur : gu ≠ gr := fun h => qru h.symm
  obtain ⟨cr0, cr1, cr2, fr0, fr1, fr2⟩ := Xr.out
  have hner : gr < v8.heap.size := World.block_lt_of_cell? v8 _ cr0
  obtain ⟨ck0, ck1, ck2, fk0, fk1, fk2⟩ := Xk.out
  have hnek : gk < v8.heap.size := World.block_lt_of_cell? v8 _ ck0
  obtain ⟨cu0, cu1, cu2, fu0, fu1, fu2⟩ := Xu.out
  have hneu : gu < v8.heap.size := World.block_lt_of_cell? v8 _ cu0
  obtain ⟨hgd0, hgd1⟩ := HGD.out
  refine wpJ_one (i := 4) (by kernel_rfl) rfl (by kernel_rfl) (fun KJ hK => ?_)
  go_simp
  have HJ2 : Hid ((fun W' : World => W'.cell? ⟨gk, 0, none⟩ = some (.bool s5) ∧ W'.cell? ⟨gk, 1, none⟩ = some (.slice p5 m5 m5) ∧ W'.cell? ⟨gk, 2, none⟩ = some (.int .i64 e5) ∧ W'.cell? ⟨gu, 0, none⟩ = some (.bool s7) ∧ W'.cell? ⟨gu, 1, none⟩ = some (.slice p7 m7 m7) ∧ W'.cell? ⟨gu, 2, none⟩ = some (.int .i64 er)) (((v8.setCell ⟨gr, 0, none⟩ (.bool s7)).setCell ⟨gr, 1, none⟩ (.slice p7 m7 m7)).setCell ⟨gr, 2, none⟩ (.int .i64 er))) := ⟨by go_simp, by go_simp, by go_simp, by go_simp, by go_simp, by go_simp⟩
  refine hK _ _ HJ2.out ?_
  clear hK HJ
  have HJ := HJ2
  clear HJ2
  refine wpJ_done (by kernel_rfl) ?_ _
  clear HJ
  go_wp2_with fail
  refine bodyPost_ret (v := .tuple #[.int .i64 Q4, DV s7 p7 m7 m7 er]) (by rw [results_tc rfl]; go_simp) rfl ⟨K, s7, p7, m7, zr, er, by rw [HQ4.out], ?_, C7.out.1, C7.out.2, ?_⟩
  · have h9 := HRL.out
    exact DO.mono (((O7.out.set gr 0 _ h9.1).set gr 1 _ h9.1).set gr 2 _ h9.1) h9.2
  · exact bSet (bSet (bSet hbw _ _ _ HGr.out) _ _ _ HGr.out) _ _ _ HGr.out
def exSz (fn q : Int) (wh : Bool) : Int := if wh then (if fn = 4 then (if q % 2 = 0 then 0 else 1) else if fn = 5 then (if q % 2 = 0 then 1 else 0) else (if q % 2 = 0 then 0 else 2)) else 1
def exNg (fn q : Int) (wh neg : Bool) : Bool := if wh then (if fn = 4 then (if q % 2 = 0 then neg else decide (q = 3)) else if fn = 5 then (if q % 2 = 0 then decide (q = 2) else false) else (if q % 2 = 0 then neg != decide (q = 2) else decide (q = 3))) else decide (q % 2 = 0)
abbrev VV (a : Int) (b : Bool) : Value := .agg #[.int .i64 a, .bool b]
theorem DN.len0 {w : World} {s : Bool} {p : Option Addr} {m c : Nat} {e z : Int} (h : DN w s p m c e z) : m = 0 ↔ z = 0 := by
  obtain ⟨xs, hx⟩ := h.zn.ex
  have := hx.zero
  omega
set_option maxRecDepth 20000 in
set_option maxHeartbeats 8000000 in
theorem sine_0f (w : World) :
    Calls Tryz.prog 93 #[.int .i64 0, .bool false] w fun en w' => en = .returned (VV (exSz 4 0 true) (exNg 4 0 true false)) ∧ Below w.heap.size w w' := by
  have hbw : Below w.heap.size w w := Below.refl _ _
  go_enter Tryz.func93, Tryz.ntmps93
  go_wp2_with fail
  refine bodyPost_ret (v := VV 0 false) (by rw [results_cell1 rfl]; go_simp) rfl ⟨rfl, ?_⟩
  first | exact below1 w _ | exact bSet (bSet (below1 w _) _ _ _ (Nat.le_refl _)) _ _ _ (Nat.le_refl _)
set_option maxRecDepth 20000 in
set_option maxHeartbeats 8000000 in
theorem tangent_0f (w : World) :
    Calls Tryz.prog 95 #[.int .i64 0, .bool false] w fun en w' => en = .returned (VV (exSz 6 0 true) (exNg 6 0 true false)) ∧ Below w.heap.size w w' := by
  have hbw : Below w.heap.size w w := Below.refl _ _
  go_enter Tryz.func95, Tryz.ntmps95
  go_wp2_with fail
  refine bodyPost_ret (v := VV 0 false) (by rw [results_cell1 rfl]; go_simp) rfl ⟨rfl, ?_⟩
  first | exact below1 w _ | exact bSet (bSet (below1 w _) _ _ _ (Nat.le_refl _)) _ _ _ (Nat.le_refl _)
set_option maxRecDepth 20000 in
set_option maxHeartbeats 8000000 in
theorem sine_0t (w : World) :
    Calls Tryz.prog 93 #[.int .i64 0, .bool true] w fun en w' => en = .returned (VV (exSz 4 0 true) (exNg 4 0 true true)) ∧ Below w.heap.size w w' := by
  have hbw : Below w.heap.size w w := Below.refl _ _
  go_enter Tryz.func93, Tryz.ntmps93
  go_wp2_with fail
  refine bodyPost_ret (v := VV 0 true) (by rw [results_cell1 rfl]; go_simp) rfl ⟨rfl, ?_⟩
  first | exact below1 w _ | exact bSet (bSet (below1 w _) _ _ _ (Nat.le_refl _)) _ _ _ (Nat.le_refl _)
set_option maxRecDepth 20000 in
set_option maxHeartbeats 8000000 in
theorem tangent_0t (w : World) :
    Calls Tryz.prog 95 #[.int .i64 0, .bool true] w fun en w' => en = .returned (VV (exSz 6 0 true) (exNg 6 0 true true)) ∧ Below w.heap.size w w' := by
  have hbw : Below w.heap.size w w := Below.refl _ _
  go_enter Tryz.func95, Tryz.ntmps95
  go_wp2_with fail
  refine bodyPost_ret (v := VV 0 true) (by rw [results_cell1 rfl]; go_simp) rfl ⟨rfl, ?_⟩
  first | exact below1 w _ | exact bSet (bSet (below1 w _) _ _ _ (Nat.le_refl _)) _ _ _ (Nat.le_refl _)
set_option maxRecDepth 20000 in
set_option maxHeartbeats 8000000 in
theorem cosine_0 (w : World) :
    Calls Tryz.prog 94 #[.int .i64 0] w fun en w' => en = .returned (VV (exSz 5 0 true) (exNg 5 0 true false)) ∧ Below w.heap.size w w' := by
  have hbw : Below w.heap.size w w := Below.refl _ _
  go_enter Tryz.func94, Tryz.ntmps94
  go_wp2_with fail
  refine bodyPost_ret (v := VV 1 false) (by rw [results_cell1 rfl]; go_simp) rfl ⟨rfl, ?_⟩
  first | exact below1 w _ | exact bSet (bSet (below1 w _) _ _ _ (Nat.le_refl _)) _ _ _ (Nat.le_refl _)
set_option maxRecDepth 20000 in
set_option maxHeartbeats 8000000 in
theorem sine_1f (w : World) :
    Calls Tryz.prog 93 #[.int .i64 1, .bool false] w fun en w' => en = .returned (VV (exSz 4 1 true) (exNg 4 1 true false)) ∧ Below w.heap.size w w' := by
  have hbw : Below w.heap.size w w := Below.refl _ _
  go_enter Tryz.func93, Tryz.ntmps93
  go_wp2_with fail
  refine bodyPost_ret (v := VV 1 false) (by rw [results_cell1 rfl]; go_simp) rfl ⟨rfl, ?_⟩
  first | exact below1 w _ | exact bSet (bSet (below1 w _) _ _ _ (Nat.le_refl _)) _ _ _ (Nat.le_refl _)
set_option maxRecDepth 20000 in
set_option maxHeartbeats 8000000 in
theorem tangent_1f (w : World) :
    Calls Tryz.prog 95 #[.int .i64 1, .bool false] w fun en w' => en = .returned (VV (exSz 6 1 true) (exNg 6 1 true false)) ∧ Below w.heap.size w w' := by
  have hbw : Below w.heap.size w w := Below.refl _ _
  go_enter Tryz.func95, Tryz.ntmps95
  go_wp2_with fail
  refine bodyPost_ret (v := VV 2 false) (by rw [results_cell1 rfl]; go_simp) rfl ⟨rfl, ?_⟩
  first | exact below1 w _ | exact bSet (bSet (below1 w _) _ _ _ (Nat.le_refl _)) _ _ _ (Nat.le_refl _)
set_option maxRecDepth 20000 in
set_option maxHeartbeats 8000000 in
theorem sine_1t (w : World) :
    Calls Tryz.prog 93 #[.int .i64 1, .bool true] w fun en w' => en = .returned (VV (exSz 4 1 true) (exNg 4 1 true true)) ∧ Below w.heap.size w w' := by
  have hbw : Below w.heap.size w w := Below.refl _ _
  go_enter Tryz.func93, Tryz.ntmps93
  go_wp2_with fail
  refine bodyPost_ret (v := VV 1 false) (by rw [results_cell1 rfl]; go_simp) rfl ⟨rfl, ?_⟩
  first | exact below1 w _ | exact bSet (bSet (below1 w _) _ _ _ (Nat.le_refl _)) _ _ _ (Nat.le_refl _)
set_option maxRecDepth 20000 in
set_option maxHeartbeats 8000000 in
theorem tangent_1t (w : World) :
    Calls Tryz.prog 95 #[.int .i64 1, .bool true] w fun en w' => en = .returned (VV (exSz 6 1 true) (exNg 6 1 true true)) ∧ Below w.heap.size w w' := by
  have hbw : Below w.heap.size w w := Below.refl _ _
  go_enter Tryz.func95, Tryz.ntmps95
  go_wp2_with fail
  refine bodyPost_ret (v := VV 2 false) (by rw [results_cell1 rfl]; go_simp) rfl ⟨rfl, ?_⟩
  first | exact below1 w _ | exact bSet (bSet (below1 w _) _ _ _ (Nat.le_refl _)) _ _ _ (Nat.le_refl _)
set_option maxRecDepth 20000 in
set_option maxHeartbeats 8000000 in
theorem cosine_1 (w : World) :
    Calls Tryz.prog 94 #[.int .i64 1] w fun en w' => en = .returned (VV (exSz 5 1 true) (exNg 5 1 true false)) ∧ Below w.heap.size w w' := by
  have hbw : Below w.heap.size w w := Below.refl _ _
  go_enter Tryz.func94, Tryz.ntmps94
  go_wp2_with fail
  refine bodyPost_ret (v := VV 0 false) (by rw [results_cell1 rfl]; go_simp) rfl ⟨rfl, ?_⟩
  first | exact below1 w _ | exact bSet (bSet (below1 w _) _ _ _ (Nat.le_refl _)) _ _ _ (Nat.le_refl _)
set_option maxRecDepth 20000 in
set_option maxHeartbeats 8000000 in
theorem sine_2f (w : World) :
    Calls Tryz.prog 93 #[.int .i64 2, .bool false] w fun en w' => en = .returned (VV (exSz 4 2 true) (exNg 4 2 true false)) ∧ Below w.heap.size w w' := by
  have hbw : Below w.heap.size w w := Below.refl _ _
  go_enter Tryz.func93, Tryz.ntmps93
  go_wp2_with fail
  refine bodyPost_ret (v := VV 0 false) (by rw [results_cell1 rfl]; go_simp) rfl ⟨rfl, ?_⟩
  first | exact below1 w _ | exact bSet (bSet (below1 w _) _ _ _ (Nat.le_refl _)) _ _ _ (Nat.le_refl _)
set_option maxRecDepth 20000 in
set_option maxHeartbeats 8000000 in
theorem tangent_2f (w : World) :
    Calls Tryz.prog 95 #[.int .i64 2, .bool false] w fun en w' => en = .returned (VV (exSz 6 2 true) (exNg 6 2 true false)) ∧ Below w.heap.size w w' := by
  have hbw : Below w.heap.size w w := Below.refl _ _
  go_enter Tryz.func95, Tryz.ntmps95
  go_wp2_with fail
  refine bodyPost_ret (v := VV 0 true) (by rw [results_cell1 rfl]; go_simp) rfl ⟨rfl, ?_⟩
  first | exact below1 w _ | exact bSet (bSet (below1 w _) _ _ _ (Nat.le_refl _)) _ _ _ (Nat.le_refl _)
set_option maxRecDepth 20000 in
set_option maxHeartbeats 8000000 in
theorem sine_2t (w : World) :
    Calls Tryz.prog 93 #[.int .i64 2, .bool true] w fun en w' => en = .returned (VV (exSz 4 2 true) (exNg 4 2 true true)) ∧ Below w.heap.size w w' := by
  have hbw : Below w.heap.size w w := Below.refl _ _
  go_enter Tryz.func93, Tryz.ntmps93
  go_wp2_with fail
  refine bodyPost_ret (v := VV 0 true) (by rw [results_cell1 rfl]; go_simp) rfl ⟨rfl, ?_⟩
  first | exact below1 w _ | exact bSet (bSet (below1 w _) _ _ _ (Nat.le_refl _)) _ _ _ (Nat.le_refl _)
set_option maxRecDepth 20000 in
set_option maxHeartbeats 8000000 in
theorem tangent_2t (w : World) :
    Calls Tryz.prog 95 #[.int .i64 2, .bool true] w fun en w' => en = .returned (VV (exSz 6 2 true) (exNg 6 2 true true)) ∧ Below w.heap.size w w' := by
  have hbw : Below w.heap.size w w := Below.refl _ _
  go_enter Tryz.func95, Tryz.ntmps95
  go_wp2_with fail
  refine bodyPost_ret (v := VV 0 false) (by rw [results_cell1 rfl]; go_simp) rfl ⟨rfl, ?_⟩
  first | exact below1 w _ | exact bSet (bSet (below1 w _) _ _ _ (Nat.le_refl _)) _ _ _ (Nat.le_refl _)
set_option maxRecDepth 20000 in
set_option maxHeartbeats 8000000 in
theorem cosine_2 (w : World) :
    Calls Tryz.prog 94 #[.int .i64 2] w fun en w' => en = .returned (VV (exSz 5 2 true) (exNg 5 2 true false)) ∧ Below w.heap.size w w' := by
  have hbw : Below w.heap.size w w := Below.refl _ _
  go_enter Tryz.func94, Tryz.ntmps94
  go_wp2_with fail
  refine bodyPost_ret (v := VV 1 true) (by rw [results_cell1 rfl]; go_simp) rfl ⟨rfl, ?_⟩
  first | exact below1 w _ | exact bSet (bSet (below1 w _) _ _ _ (Nat.le_refl _)) _ _ _ (Nat.le_refl _)
set_option maxRecDepth 20000 in
set_option maxHeartbeats 8000000 in
theorem sine_3f (w : World) :
    Calls Tryz.prog 93 #[.int .i64 3, .bool false] w fun en w' => en = .returned (VV (exSz 4 3 true) (exNg 4 3 true false)) ∧ Below w.heap.size w w' := by
  have hbw : Below w.heap.size w w := Below.refl _ _
  go_enter Tryz.func93, Tryz.ntmps93
  go_wp2_with fail
  refine bodyPost_ret (v := VV 1 true) (by rw [results_cell1 rfl]; go_simp) rfl ⟨rfl, ?_⟩
  first | exact below1 w _ | exact bSet (bSet (below1 w _) _ _ _ (Nat.le_refl _)) _ _ _ (Nat.le_refl _)
set_option maxRecDepth 20000 in
set_option maxHeartbeats 8000000 in
theorem tangent_3f (w : World) :
    Calls Tryz.prog 95 #[.int .i64 3, .bool false] w fun en w' => en = .returned (VV (exSz 6 3 true) (exNg 6 3 true false)) ∧ Below w.heap.size w w' := by
  have hbw : Below w.heap.size w w := Below.refl _ _
  go_enter Tryz.func95, Tryz.ntmps95
  go_wp2_with fail
  refine bodyPost_ret (v := VV 2 true) (by rw [results_cell1 rfl]; go_simp) rfl ⟨rfl, ?_⟩
  first | exact below1 w _ | exact bSet (bSet (below1 w _) _ _ _ (Nat.le_refl _)) _ _ _ (Nat.le_refl _)
set_option maxRecDepth 20000 in
set_option maxHeartbeats 8000000 in
theorem sine_3t (w : World) :
    Calls Tryz.prog 93 #[.int .i64 3, .bool true] w fun en w' => en = .returned (VV (exSz 4 3 true) (exNg 4 3 true true)) ∧ Below w.heap.size w w' := by
  have hbw : Below w.heap.size w w := Below.refl _ _
  go_enter Tryz.func93, Tryz.ntmps93
  go_wp2_with fail
  refine bodyPost_ret (v := VV 1 true) (by rw [results_cell1 rfl]; go_simp) rfl ⟨rfl, ?_⟩
  first | exact below1 w _ | exact bSet (bSet (below1 w _) _ _ _ (Nat.le_refl _)) _ _ _ (Nat.le_refl _)
set_option maxRecDepth 20000 in
set_option maxHeartbeats 8000000 in
theorem tangent_3t (w : World) :
    Calls Tryz.prog 95 #[.int .i64 3, .bool true] w fun en w' => en = .returned (VV (exSz 6 3 true) (exNg 6 3 true true)) ∧ Below w.heap.size w w' := by
  have hbw : Below w.heap.size w w := Below.refl _ _
  go_enter Tryz.func95, Tryz.ntmps95
  go_wp2_with fail
  refine bodyPost_ret (v := VV 2 true) (by rw [results_cell1 rfl]; go_simp) rfl ⟨rfl, ?_⟩
  first | exact below1 w _ | exact bSet (bSet (below1 w _) _ _ _ (Nat.le_refl _)) _ _ _ (Nat.le_refl _)
set_option maxRecDepth 20000 in
set_option maxHeartbeats 8000000 in
theorem cosine_3 (w : World) :
    Calls Tryz.prog 94 #[.int .i64 3] w fun en w' => en = .returned (VV (exSz 5 3 true) (exNg 5 3 true false)) ∧ Below w.heap.size w w' := by
  have hbw : Below w.heap.size w w := Below.refl _ _
  go_enter Tryz.func94, Tryz.ntmps94
  go_wp2_with fail
  refine bodyPost_ret (v := VV 0 false) (by rw [results_cell1 rfl]; go_simp) rfl ⟨rfl, ?_⟩
  first | exact below1 w _ | exact bSet (bSet (below1 w _) _ _ _ (Nat.le_refl _)) _ _ _ (Nat.le_refl _)
theorem sine_ok (q : Int) (hq : 0 ≤ q ∧ q < 4) (neg : Bool) (w : World) : Calls Tryz.prog 93 #[.int .i64 q, .bool neg] w fun en w' => en = .returned (VV (exSz 4 q true) (exNg 4 q true neg)) ∧ Below w.heap.size w w' := by
  obtain rfl | rfl | rfl | rfl : q = 0 ∨ q = 1 ∨ q = 2 ∨ q = 3 := by omega
  · cases neg
    · exact sine_0f w
    · exact sine_0t w
  · cases neg
    · exact sine_1f w
    · exact sine_1t w
  · cases neg
    · exact sine_2f w
    · exact sine_2t w
  · cases neg
    · exact sine_3f w
    · exact sine_3t w
theorem tangent_ok (q : Int) (hq : 0 ≤ q ∧ q < 4) (neg : Bool) (w : World) : Calls Tryz.prog 95 #[.int .i64 q, .bool neg] w fun en w' => en = .returned (VV (exSz 6 q true) (exNg 6 q true neg)) ∧ Below w.heap.size w w' := by
  obtain rfl | rfl | rfl | rfl : q = 0 ∨ q = 1 ∨ q = 2 ∨ q = 3 := by omega
  · cases neg
    · exact tangent_0f w
    · exact tangent_0t w
  · cases neg
    · exact tangent_1f w
    · exact tangent_1t w
  · cases neg
    · exact tangent_2f w
    · exact tangent_2t w
  · cases neg
    · exact tangent_3f w
    · exact tangent_3t w
theorem cosine_ok (q : Int) (hq : 0 ≤ q ∧ q < 4) (neg : Bool) (w : World) : Calls Tryz.prog 94 #[.int .i64 q] w fun en w' => en = .returned (VV (exSz 5 q true) (exNg 5 q true neg)) ∧ Below w.heap.size w w' := by
  obtain rfl | rfl | rfl | rfl : q = 0 ∨ q = 1 ∨ q = 2 ∨ q = 3 := by omega
  · exact cosine_0 w
  · exact cosine_1 w
  · exact cosine_2 w
  · exact cosine_3 w
set_option maxRecDepth 20000 in
set_option maxHeartbeats 8000000 in
theorem isquarter {p : Option Addr} {m c : Nat} {w : World} {z e : Int} {s : Bool} (h : DN w s p m c e z) (hz : z ≠ 0) (B : Bool) (hB : (topI z e == -2) = B) :
    Calls Tryz.prog 96 #[DV s p m c e] w fun en w' => en = .returned (.bool B) ∧ Below w.heap.size w w' := by
  have H : Hid (DN w s p m c e z ∧ z ≠ 0) := ⟨h, hz⟩
  clear h hz
  go_enter Tryz.func96, Tryz.ntmps96
  go_wp2_with fail
  obtain ⟨W0, hW0⟩ : ∃ W0, W0 = (w.alloc (.cells #[.bool s, .slice p m c, .int .i64 e] 28)) := ⟨_, rfl⟩
  have Xr : Hid (B3q W0 (w.heap.size) (.bool s) (.slice p m c) (.int .i64 e)) := by rw [hW0]; exact ⟨by go_simp, by go_simp, by go_simp, by go_simp, by go_simp, by go_simp⟩
  have hb0 : Below w.heap.size w W0 := by rw [hW0]; exact below1 w _
  rw [← hW0]
  clear hW0
  have hbw : Below w.heap.size w w := Below.refl _ _
  obtain ⟨gr, hgr⟩ : ∃ g, g = w.heap.size := ⟨_, rfl⟩
  have HGr : Hid (w.heap.size ≤ gr) := by rw [hgr]; show _ ≤ _; omega
  rw [← hgr] at Xr
  try rw [← hgr]
  clear hgr
  replace hbw := Below.on hbw hb0
  clear hb0
  obtain ⟨cr0, cr1, cr2, fr0, fr1, fr2⟩ := Xr.out
  have hner : gr < W0.heap.size := World.block_lt_of_cell? W0 _ cr0
  go_wp2_with fail
  clear cr0 cr1 cr2 fr0 fr1 fr2 hner
  refine (dTop (H.out.1.below hbw) H.out.2).mono ?_
  rintro e v1 ⟨rfl, hb1⟩
  generalize topI z e = t at *
  replace Xr : Hid _ := Xr.out.below hb1
  replace hbw := Below.on hbw hb1
  clear hb1
  go_wp2_with fail
  go_ret
  exact ⟨rfl, hbw⟩
set_option maxRecDepth 20000 in
set_option maxHeartbeats 8000000 in
theorem exactly_w4 {p : Option Addr} {m : Nat} {w : World} {z e : Int} {s : Bool} (h : DN w s p m m e z) (q : Int) (hq : 0 ≤ q ∧ q < 4) (neg : Bool) (hz : z = 0) :
    Calls Tryz.prog 53 #[.int .i64 4, .int .i64 q, DV s p m m e, .bool neg] w fun en w' => en = .returned (.tuple #[VV (exSz 4 q true) (exNg 4 q true neg), .bool true]) ∧ Below w.heap.size w w' := by
  obtain rfl : m = 0 := h.len0.2 hz
  obtain ⟨A, hA⟩ : ∃ A, A = exSz 4 q true := ⟨_, rfl⟩
  obtain ⟨N, hN⟩ : ∃ N, N = exNg 4 q true neg := ⟨_, rfl⟩
  rw [← hA, ← hN]
  have HQ : Hid ((0 ≤ q ∧ q < 4) ∧ A = exSz 4 q true ∧ N = exNg 4 q true neg) := ⟨hq, hA, hN⟩
  clear h hq hz hA hN
  go_enter Tryz.func53, Tryz.ntmps53
  go_wp2_with fail
  obtain ⟨W0, hW0⟩ : ∃ W0, W0 = ((w.alloc (.cells #[.bool s, .slice p 0 0, .int .i64 e] 28)).alloc (.cells #[.int .i64 0, .bool false] 98)) := ⟨_, rfl⟩
  have Xd : Hid (B3q W0 (w.heap.size) (.bool s) (.slice p 0 0) (.int .i64 e)) := by rw [hW0]; exact ⟨by go_simp, by go_simp, by go_simp, by go_simp, by go_simp, by go_simp⟩
  have Xr : Hid (Box W0 (w.heap.size + 1) (.int .i64 0) (.bool false)) := by rw [hW0]; exact ⟨by go_simp, by go_simp, by go_simp, by go_simp⟩
  have hb0 : Below w.heap.size w W0 := by rw [hW0]; exact below2 w _ _
  rw [← hW0]
  clear hW0
  have hbw : Below w.heap.size w w := Below.refl _ _
  obtain ⟨gr, hgr⟩ : ∃ g, g = w.heap.size + 1 := ⟨_, rfl⟩
  have HGr : Hid (w.heap.size ≤ gr) := by rw [hgr]; show _ ≤ _; omega
  rw [← hgr] at Xr
  try rw [← hgr]
  obtain ⟨gd, hgd⟩ : ∃ g, g = w.heap.size := ⟨_, rfl⟩
  have HGd : Hid (w.heap.size ≤ gd) := by rw [hgd]; show _ ≤ _; omega
  rw [← hgd] at Xd
  try rw [← hgd]
  have HGD : Hid (gd ≠ gr ∧ gr ≠ gd) := by rw [hgd, hgr]; exact ⟨by omega, by omega⟩
  clear hgd hgr
  replace hbw := Below.on hbw hb0
  clear hb0
  obtain ⟨cd0, cd1, cd2, fd0, fd1, fd2⟩ := Xd.out
  have hned : gd < W0.heap.size := World.block_lt_of_cell? W0 _ cd0
  go_wp2_with fail
  clear cd0 cd1 cd2 fd0 fd1 fd2 hned
  have HC := sine_ok q HQ.out.1 neg W0
  rw [← HQ.out.2.1, ← HQ.out.2.2] at HC
  refine HC.mono ?_
  clear HC
  rintro e2 v1 ⟨rfl, hb1⟩
  replace Xd : Hid _ := Xd.out.below hb1
  replace Xr : Hid _ := Xr.out.below hb1
  replace hbw := Below.on hbw hb1
  clear hb1
  obtain ⟨cr0, cr1, fr0, fr1⟩ := Xr.out
  have hner := Xr.out.lt
  go_wp2_with fail
  refine bodyPost_ret (v := .tuple #[VV A N, .bool true]) (by rw [results_cell_tmp rfl]; go_simp) rfl ⟨rfl, ?_⟩
  exact bSet (bSet hbw _ _ _ HGr.out) _ _ _ HGr.out
set_option maxRecDepth 20000 in
set_option maxHeartbeats 8000000 in
theorem exactly_w5 {p : Option Addr} {m : Nat} {w : World} {z e : Int} {s : Bool} (h : DN w s p m m e z) (q : Int) (hq : 0 ≤ q ∧ q < 4) (neg : Bool) (hz : z = 0) :
    Calls Tryz.prog 53 #[.int .i64 5, .int .i64 q, DV s p m m e, .bool neg] w fun en w' => en = .returned (.tuple #[VV (exSz 5 q true) (exNg 5 q true neg), .bool true]) ∧ Below w.heap.size w w' := by
  obtain rfl : m = 0 := h.len0.2 hz
  obtain ⟨A, hA⟩ : ∃ A, A = exSz 5 q true := ⟨_, rfl⟩
  obtain ⟨N, hN⟩ : ∃ N, N = exNg 5 q true neg := ⟨_, rfl⟩
  rw [← hA, ← hN]
  have HQ : Hid ((0 ≤ q ∧ q < 4) ∧ A = exSz 5 q true ∧ N = exNg 5 q true neg) := ⟨hq, hA, hN⟩
  clear h hq hz hA hN
  go_enter Tryz.func53, Tryz.ntmps53
  go_wp2_with fail
  obtain ⟨W0, hW0⟩ : ∃ W0, W0 = ((w.alloc (.cells #[.bool s, .slice p 0 0, .int .i64 e] 28)).alloc (.cells #[.int .i64 0, .bool false] 98)) := ⟨_, rfl⟩
  have Xd : Hid (B3q W0 (w.heap.size) (.bool s) (.slice p 0 0) (.int .i64 e)) := by rw [hW0]; exact ⟨by go_simp, by go_simp, by go_simp, by go_simp, by go_simp, by go_simp⟩
  have Xr : Hid (Box W0 (w.heap.size + 1) (.int .i64 0) (.bool false)) := by rw [hW0]; exact ⟨by go_simp, by go_simp, by go_simp, by go_simp⟩
  have hb0 : Below w.heap.size w W0 := by rw [hW0]; exact below2 w _ _
  rw [← hW0]
  clear hW0
  have hbw : Below w.heap.size w w := Below.refl _ _
  obtain ⟨gr, hgr⟩ : ∃ g, g = w.heap.size + 1 := ⟨_, rfl⟩
  have HGr : Hid (w.heap.size ≤ gr) := by rw [hgr]; show _ ≤ _; omega
  rw [← hgr] at Xr
  try rw [← hgr]
  obtain ⟨gd, hgd⟩ : ∃ g, g = w.heap.size := ⟨_, rfl⟩
  have HGd : Hid (w.heap.size ≤ gd) := by rw [hgd]; show _ ≤ _; omega
  rw [← hgd] at Xd
  try rw [← hgd]
  have HGD : Hid (gd ≠ gr ∧ gr ≠ gd) := by rw [hgd, hgr]; exact ⟨by omega, by omega⟩
  clear hgd hgr
  replace hbw := Below.on hbw hb0
  clear hb0
  obtain ⟨cd0, cd1, cd2, fd0, fd1, fd2⟩ := Xd.out
  have hned : gd < W0.heap.size := World.block_lt_of_cell? W0 _ cd0
  go_wp2_with fail
  clear cd0 cd1 cd2 fd0 fd1 fd2 hned
  have HC := cosine_ok q HQ.out.1 neg W0
  rw [← HQ.out.2.1, ← HQ.out.2.2] at HC
  refine HC.mono ?_
  clear HC
  rintro e2 v1 ⟨rfl, hb1⟩
  replace Xd : Hid _ := Xd.out.below hb1
  replace Xr : Hid _ := Xr.out.below hb1
  replace hbw := Below.on hbw hb1
  clear hb1
  obtain ⟨cr0, cr1, fr0, fr1⟩ := Xr.out
  have hner := Xr.out.lt
  go_wp2_with fail
  refine bodyPost_ret (v := .tuple #[VV A N, .bool true]) (by rw [results_cell_tmp rfl]; go_simp) rfl ⟨rfl, ?_⟩
  exact bSet (bSet hbw _ _ _ HGr.out) _ _ _ HGr.out
set_option maxRecDepth 20000 in
set_option maxHeartbeats 8000000 in
theorem exactly_w6 {p : Option Addr} {m : Nat} {w : World} {z e : Int} {s : Bool} (h : DN w s p m m e z) (q : Int) (hq : 0 ≤ q ∧ q < 4) (neg : Bool) (hz : z = 0) :
    Calls Tryz.prog 53 #[.int .i64 6, .int .i64 q, DV s p m m e, .bool neg] w fun en w' => en = .returned (.tuple #[VV (exSz 6 q true) (exNg 6 q true neg), .bool true]) ∧ Below w.heap.size w w' := by
  obtain rfl : m = 0 := h.len0.2 hz
  obtain ⟨A, hA⟩ : ∃ A, A = exSz 6 q true := ⟨_, rfl⟩
  obtain ⟨N, hN⟩ : ∃ N, N = exNg 6 q true neg := ⟨_, rfl⟩
  rw [← hA, ← hN]
  have HQ : Hid ((0 ≤ q ∧ q < 4) ∧ A = exSz 6 q true ∧ N = exNg 6 q true neg) := ⟨hq, hA, hN⟩
  clear h hq hz hA hN
  go_enter Tryz.func53, Tryz.ntmps53
  go_wp2_with fail
  obtain ⟨W0, hW0⟩ : ∃ W0, W0 = ((w.alloc (.cells #[.bool s, .slice p 0 0, .int .i64 e] 28)).alloc (.cells #[.int .i64 0, .bool false] 98)) := ⟨_, rfl⟩
  have Xd : Hid (B3q W0 (w.heap.size) (.bool s) (.slice p 0 0) (.int .i64 e)) := by rw [hW0]; exact ⟨by go_simp, by go_simp, by go_simp, by go_simp, by go_simp, by go_simp⟩
  have Xr : Hid (Box W0 (w.heap.size + 1) (.int .i64 0) (.bool false)) := by rw [hW0]; exact ⟨by go_simp, by go_simp, by go_simp, by go_simp⟩
  have hb0 : Below w.heap.size w W0 := by rw [hW0]; exact below2 w _ _
  rw [← hW0]
  clear hW0
  have hbw : Below w.heap.size w w := Below.refl _ _
  obtain ⟨gr, hgr⟩ : ∃ g, g = w.heap.size + 1 := ⟨_, rfl⟩
  have HGr : Hid (w.heap.size ≤ gr) := by rw [hgr]; show _ ≤ _; omega
  rw [← hgr] at Xr
  try rw [← hgr]
  obtain ⟨gd, hgd⟩ : ∃ g, g = w.heap.size := ⟨_, rfl⟩
  have HGd : Hid (w.heap.size ≤ gd) := by rw [hgd]; show _ ≤ _; omega
  rw [← hgd] at Xd
  try rw [← hgd]
  have HGD : Hid (gd ≠ gr ∧ gr ≠ gd) := by rw [hgd, hgr]; exact ⟨by omega, by omega⟩
  clear hgd hgr
  replace hbw := Below.on hbw hb0
  clear hb0
  obtain ⟨cd0, cd1, cd2, fd0, fd1, fd2⟩ := Xd.out
  have hned : gd < W0.heap.size := World.block_lt_of_cell? W0 _ cd0
  go_wp2_with fail
  clear cd0 cd1 cd2 fd0 fd1 fd2 hned
  have HC := tangent_ok q HQ.out.1 neg W0
  rw [← HQ.out.2.1, ← HQ.out.2.2] at HC
  refine HC.mono ?_
  clear HC
  rintro e2 v1 ⟨rfl, hb1⟩
  replace Xd : Hid _ := Xd.out.below hb1
  replace Xr : Hid _ := Xr.out.below hb1
  replace hbw := Below.on hbw hb1
  clear hb1
  obtain ⟨cr0, cr1, fr0, fr1⟩ := Xr.out
  have hner := Xr.out.lt
  go_wp2_with fail
  refine bodyPost_ret (v := .tuple #[VV A N, .bool true]) (by rw [results_cell_tmp rfl]; go_simp) rfl ⟨rfl, ?_⟩
  exact bSet (bSet hbw _ _ _ HGr.out) _ _ _ HGr.out
set_option maxRecDepth 20000 in
set_option maxHeartbeats 8000000 in
theorem exactly_q {p : Option Addr} {m : Nat} {w : World} {z e : Int} {s : Bool} (h : DN w s p m m e z) (q : Int) (hq : 0 ≤ q ∧ q < 4) (neg : Bool) (hz : z ≠ 0) (ht : topI z e = -2) :
    Calls Tryz.prog 53 #[.int .i64 6, .int .i64 q, DV s p m m e, .bool neg] w fun en w' => en = .returned (.tuple #[VV (exSz 6 q false) (exNg 6 q false neg), .bool true]) ∧ Below w.heap.size w w' := by
  have hm : m ≠ 0 := fun h0 => hz (h.len0.1 h0)
  have hm1 : ((m : Int) == 0) = false := by simp; omega
  have hm2 : decide (m = 0) = false := decide_eq_false hm
  have H : Hid (DN w s p m m e z ∧ z ≠ 0 ∧ topI z e = -2 ∧ m ≠ 0) := ⟨h, hz, ht, hm⟩
  obtain ⟨N, hN⟩ : ∃ N, N = exNg 6 q false neg := ⟨_, rfl⟩
  have hqn : (q % 2 == 0) = N := by rw [hN]; unfold exNg; simp; rfl
  have hqt : (q.tmod 2 == 0) = N := by rw [← hqn, Int.tmod_eq_emod_of_nonneg hq.1]
  rw [← hN, show exSz 6 q false = 1 from rfl]
  clear h hz ht hq hN hm
  go_enter Tryz.func53, Tryz.ntmps53
  go_wp2_with fail
  obtain ⟨W0, hW0⟩ : ∃ W0, W0 = ((w.alloc (.cells #[.bool s, .slice p m m, .int .i64 e] 28)).alloc (.cells #[.int .i64 0, .bool false] 98)) := ⟨_, rfl⟩
  have Xd : Hid (B3q W0 (w.heap.size) (.bool s) (.slice p m m) (.int .i64 e)) := by rw [hW0]; exact ⟨by go_simp, by go_simp, by go_simp, by go_simp, by go_simp, by go_simp⟩
  have Xr : Hid (Box W0 (w.heap.size + 1) (.int .i64 0) (.bool false)) := by rw [hW0]; exact ⟨by go_simp, by go_simp, by go_simp, by go_simp⟩
  have hb0 : Below w.heap.size w W0 := by rw [hW0]; exact below2 w _ _
  rw [← hW0]
  clear hW0
  have hbw : Below w.heap.size w w := Below.refl _ _
  obtain ⟨gr, hgr⟩ : ∃ g, g = w.heap.size + 1 := ⟨_, rfl⟩
  have HGr : Hid (w.heap.size ≤ gr) := by rw [hgr]; show _ ≤ _; omega
  rw [← hgr] at Xr
  try rw [← hgr]
  obtain ⟨gd, hgd⟩ : ∃ g, g = w.heap.size := ⟨_, rfl⟩
  have HGd : Hid (w.heap.size ≤ gd) := by rw [hgd]; show _ ≤ _; omega
  rw [← hgd] at Xd
  try rw [← hgd]
  have HGD : Hid (gd ≠ gr ∧ gr ≠ gd) := by rw [hgd, hgr]; exact ⟨by omega, by omega⟩
  clear hgd hgr
  replace hbw := Below.on hbw hb0
  clear hb0
  obtain ⟨cd0, cd1, cd2, fd0, fd1, fd2⟩ := Xd.out
  have hned : gd < W0.heap.size := World.block_lt_of_cell? W0 _ cd0
  go_wp2_with fail
  clear cd0 cd1 cd2 fd0 fd1 fd2 hned
  refine (isquarter (H.out.1.below hbw) H.out.2.1 true (by rw [H.out.2.2.1]; rfl)).mono ?_
  rintro e v1 ⟨rfl, hb1⟩
  replace Xd : Hid _ := Xd.out.below hb1
  replace Xr : Hid _ := Xr.out.below hb1
  replace hbw := Below.on hbw hb1
  clear hb1
  obtain ⟨cr0, cr1, fr0, fr1⟩ := Xr.out
  have hner := Xr.out.lt
  go_wp2_with fail
  refine bodyPost_ret (v := .tuple #[VV 1 N, .bool true]) (by rw [results_cell_tmp rfl]; go_simp) rfl ⟨rfl, ?_⟩
  exact bSet (bSet hbw _ _ _ HGr.out) _ _ _ HGr.out
set_option maxRecDepth 20000 in
set_option maxHeartbeats 8000000 in
theorem exactly_n4 {p : Option Addr} {m : Nat} {w : World} {z e : Int} {s : Bool} (h : DN w s p m m e z) (q : Int) (_hq : 0 ≤ q ∧ q < 4) (neg : Bool) (hz : z ≠ 0) :
    Calls Tryz.prog 53 #[.int .i64 4, .int .i64 q, DV s p m m e, .bool neg] w fun en w' => en = .returned (.tuple #[VV 0 false, .bool false]) ∧ Below w.heap.size w w' := by
  have hm : m ≠ 0 := fun h0 => hz (h.len0.1 h0)
  have hm1 : ((m : Int) == 0) = false := by simp; omega
  have hm2 : decide (m = 0) = false := decide_eq_false hm
  have H : Hid (DN w s p m m e z ∧ z ≠ 0 ∧ m ≠ 0) := ⟨h, hz, hm⟩
  obtain ⟨BB, hBB⟩ : ∃ B, B = w.heap.size := ⟨_, rfl⟩
  rw [← hBB]
  have HBB : Hid (BB = w.heap.size) := hBB
  clear h hz hm hBB
  go_enter Tryz.func53, Tryz.ntmps53
  go_wp2_with fail
  obtain ⟨W0, hW0⟩ : ∃ W0, W0 = ((w.alloc (.cells #[.bool s, .slice p m m, .int .i64 e] 28)).alloc (.cells #[.int .i64 0, .bool false] 98)) := ⟨_, rfl⟩
  have Xd : Hid (B3q W0 (w.heap.size) (.bool s) (.slice p m m) (.int .i64 e)) := by rw [hW0]; exact ⟨by go_simp, by go_simp, by go_simp, by go_simp, by go_simp, by go_simp⟩
  have Xr : Hid (Box W0 (w.heap.size + 1) (.int .i64 0) (.bool false)) := by rw [hW0]; exact ⟨by go_simp, by go_simp, by go_simp, by go_simp⟩
  have hb0 : Below w.heap.size w W0 := by rw [hW0]; exact below2 w _ _
  rw [← hW0]
  clear hW0
  have hbw : Below w.heap.size w w := Below.refl _ _
  obtain ⟨gr, hgr⟩ : ∃ g, g = w.heap.size + 1 := ⟨_, rfl⟩
  have HGr : Hid (w.heap.size ≤ gr) := by rw [hgr]; show _ ≤ _; omega
  rw [← hgr] at Xr
  try rw [← hgr]
  obtain ⟨gd, hgd⟩ : ∃ g, g = w.heap.size := ⟨_, rfl⟩
  have HGd : Hid (w.heap.size ≤ gd) := by rw [hgd]; show _ ≤ _; omega
  rw [← hgd] at Xd
  try rw [← hgd]
  have HGD : Hid (gd ≠ gr ∧ gr ≠ gd) := by rw [hgd, hgr]; exact ⟨by omega, by omega⟩
  clear hgd hgr
  replace hbw := Below.on hbw hb0
  clear hb0
  obtain ⟨cd0, cd1, cd2, fd0, fd1, fd2⟩ := Xd.out
  have hned : gd < W0.heap.size := World.block_lt_of_cell? W0 _ cd0
  obtain ⟨cr0, cr1, fr0, fr1⟩ := Xr.out
  have hner := Xr.out.lt
  go_wp2_with fail
  refine bodyPost_ret (v := .tuple #[VV 0 false, .bool false]) (by rw [results_cell_tmp rfl]; go_simp) rfl ⟨rfl, ?_⟩
  rw [HBB.out]
  first | exact hbw | exact bSet (bSet hbw _ _ _ HGr.out) _ _ _ HGr.out
set_option maxRecDepth 20000 in
set_option maxHeartbeats 8000000 in
theorem exactly_n5 {p : Option Addr} {m : Nat} {w : World} {z e : Int} {s : Bool} (h : DN w s p m m e z) (q : Int) (_hq : 0 ≤ q ∧ q < 4) (neg : Bool) (hz : z ≠ 0) :
    Calls Tryz.prog 53 #[.int .i64 5, .int .i64 q, DV s p m m e, .bool neg] w fun en w' => en = .returned (.tuple #[VV 0 false, .bool false]) ∧ Below w.heap.size w w' := by
  have hm : m ≠ 0 := fun h0 => hz (h.len0.1 h0)
  have hm1 : ((m : Int) == 0) = false := by simp; omega
  have hm2 : decide (m = 0) = false := decide_eq_false hm
  have H : Hid (DN w s p m m e z ∧ z ≠ 0 ∧ m ≠ 0) := ⟨h, hz, hm⟩
  obtain ⟨BB, hBB⟩ : ∃ B, B = w.heap.size := ⟨_, rfl⟩
  rw [← hBB]
  have HBB : Hid (BB = w.heap.size) := hBB
  clear h hz hm hBB
  go_enter Tryz.func53, Tryz.ntmps53
  go_wp2_with fail
  obtain ⟨W0, hW0⟩ : ∃ W0, W0 = ((w.alloc (.cells #[.bool s, .slice p m m, .int .i64 e] 28)).alloc (.cells #[.int .i64 0, .bool false] 98)) := ⟨_, rfl⟩
  have Xd : Hid (B3q W0 (w.heap.size) (.bool s) (.slice p m m) (.int .i64 e)) := by rw [hW0]; exact ⟨by go_simp, by go_simp, by go_simp, by go_simp, by go_simp, by go_simp⟩
  have Xr : Hid (Box W0 (w.heap.size + 1) (.int .i64 0) (.bool false)) := by rw [hW0]; exact ⟨by go_simp, by go_simp, by go_simp, by go_simp⟩
  have hb0 : Below w.heap.size w W0 := by rw [hW0]; exact below2 w _ _
  rw [← hW0]
  clear hW0
  have hbw : Below w.heap.size w w := Below.refl _ _
  obtain ⟨gr, hgr⟩ : ∃ g, g = w.heap.size + 1 := ⟨_, rfl⟩
  have HGr : Hid (w.heap.size ≤ gr) := by rw [hgr]; show _ ≤ _; omega
  rw [← hgr] at Xr
  try rw [← hgr]
  obtain ⟨gd, hgd⟩ : ∃ g, g = w.heap.size := ⟨_, rfl⟩
  have HGd : Hid (w.heap.size ≤ gd) := by rw [hgd]; show _ ≤ _; omega
  rw [← hgd] at Xd
  try rw [← hgd]
  have HGD : Hid (gd ≠ gr ∧ gr ≠ gd) := by rw [hgd, hgr]; exact ⟨by omega, by omega⟩
  clear hgd hgr
  replace hbw := Below.on hbw hb0
  clear hb0
  obtain ⟨cd0, cd1, cd2, fd0, fd1, fd2⟩ := Xd.out
  have hned : gd < W0.heap.size := World.block_lt_of_cell? W0 _ cd0
  obtain ⟨cr0, cr1, fr0, fr1⟩ := Xr.out
  have hner := Xr.out.lt
  go_wp2_with fail
  refine bodyPost_ret (v := .tuple #[VV 0 false, .bool false]) (by rw [results_cell_tmp rfl]; go_simp) rfl ⟨rfl, ?_⟩
  rw [HBB.out]
  first | exact hbw | exact bSet (bSet hbw _ _ _ HGr.out) _ _ _ HGr.out
set_option maxRecDepth 20000 in
set_option maxHeartbeats 8000000 in
theorem exactly_n6 {p : Option Addr} {m : Nat} {w : World} {z e : Int} {s : Bool} (h : DN w s p m m e z) (q : Int) (_hq : 0 ≤ q ∧ q < 4) (neg : Bool) (hz : z ≠ 0) (ht : topI z e ≠ -2) :
    Calls Tryz.prog 53 #[.int .i64 6, .int .i64 q, DV s p m m e, .bool neg] w fun en w' => en = .returned (.tuple #[VV 0 false, .bool false]) ∧ Below w.heap.size w w' := by
  have hm : m ≠ 0 := fun h0 => hz (h.len0.1 h0)
  have hm1 : ((m : Int) == 0) = false := by simp; omega
  have hm2 : decide (m = 0) = false := decide_eq_false hm
  have H : Hid (DN w s p m m e z ∧ z ≠ 0 ∧ m ≠ 0) := ⟨h, hz, hm⟩
  have HT : Hid (topI z e ≠ -2) := ht
  clear ht
  obtain ⟨BB, hBB⟩ : ∃ B, B = w.heap.size := ⟨_, rfl⟩
  rw [← hBB]
  have HBB : Hid (BB = w.heap.size) := hBB
  clear h hz hm hBB
  go_enter Tryz.func53, Tryz.ntmps53
  go_wp2_with fail
  obtain ⟨W0, hW0⟩ : ∃ W0, W0 = ((w.alloc (.cells #[.bool s, .slice p m m, .int .i64 e] 28)).alloc (.cells #[.int .i64 0, .bool false] 98)) := ⟨_, rfl⟩
  have Xd : Hid (B3q W0 (w.heap.size) (.bool s) (.slice p m m) (.int .i64 e)) := by rw [hW0]; exact ⟨by go_simp, by go_simp, by go_simp, by go_simp, by go_simp, by go_simp⟩
  have Xr : Hid (Box W0 (w.heap.size + 1) (.int .i64 0) (.bool false)) := by rw [hW0]; exact ⟨by go_simp, by go_simp, by go_simp, by go_simp⟩
  have hb0 : Below w.heap.size w W0 := by rw [hW0]; exact below2 w _ _
  rw [← hW0]
  clear hW0
  have hbw : Below w.heap.size w w := Below.refl _ _
  obtain ⟨gr, hgr⟩ : ∃ g, g = w.heap.size + 1 := ⟨_, rfl⟩
  have HGr : Hid (w.heap.size ≤ gr) := by rw [hgr]; show _ ≤ _; omega
  rw [← hgr] at Xr
  try rw [← hgr]
  obtain ⟨gd, hgd⟩ : ∃ g, g = w.heap.size := ⟨_, rfl⟩
  have HGd : Hid (w.heap.size ≤ gd) := by rw [hgd]; show _ ≤ _; omega
  rw [← hgd] at Xd
  try rw [← hgd]
  have HGD : Hid (gd ≠ gr ∧ gr ≠ gd) := by rw [hgd, hgr]; exact ⟨by omega, by omega⟩
  clear hgd hgr
  replace hbw := Below.on hbw hb0
  clear hb0
  obtain ⟨cd0, cd1, cd2, fd0, fd1, fd2⟩ := Xd.out
  have hned : gd < W0.heap.size := World.block_lt_of_cell? W0 _ cd0
  go_wp2_with fail
  clear cd0 cd1 cd2 fd0 fd1 fd2 hned
  refine (isquarter (H.out.1.below hbw) H.out.2.1 false (by have := HT.out; simp; omega)).mono ?_
  rintro e v1 ⟨rfl, hb1⟩
  replace Xd : Hid _ := Xd.out.below hb1
  replace Xr : Hid _ := Xr.out.below hb1
  replace hbw := Below.on hbw hb1
  clear hb1
  obtain ⟨cr0, cr1, fr0, fr1⟩ := Xr.out
  have hner := Xr.out.lt
  go_wp2_with fail
  refine bodyPost_ret (v := .tuple #[VV 0 false, .bool false]) (by rw [results_cell_tmp rfl]; go_simp) rfl ⟨rfl, ?_⟩
  rw [HBB.out]
  first | exact hbw | exact bSet (bSet hbw _ _ _ HGr.out) _ _ _ HGr.out
end Go.Proofs.YtoalblaklcekeaaGreatDoor
